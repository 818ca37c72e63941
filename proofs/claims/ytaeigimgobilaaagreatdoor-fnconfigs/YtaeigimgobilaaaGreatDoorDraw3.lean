/-
  CONTRACTS of the draws of rules: spec.l2DrawRole, spec.l2DrawRule.
  Conditions: each contract bears its own.
-/
import Derived.Test.YtaeigimgobilaaaGreatDoorDraw1
import Derived.Test.YtaeigimgobilaaaGreatDoorBlk0
import Derived.Deep.RegionHeld3
import Derived.OpenShut
import Derived.Deep.DeepCutAuto
import Derived.Deep.CutBlock
import Derived.Test.YtaeigimgobilaaaGreatDoorPol0
namespace Go.Proofs.YtaeigimgobilaaaGreatDoor
open Go.RowKit
set_option linter.unusedVariables false
set_option linter.unusedSimpArgs false

/-- A source, gone on since w: blocks of w but its own are as they were. -/
structure DS (w wx : World) (B : Nat) (a : Option Addr) (len cap k : Nat) (ys : List Int) : Prop where
  src : SrcAt wx B a len cap k ys
  gr : w.grownBy wx (some B)

theorem DS.start {w : World} {B : Nat} {a : Option Addr} {len cap k : Nat} {ys : List Int} (h : SrcAt w B a len cap k ys) : DS w w B a len cap k ys :=
  ⟨h, rfl, rfl, rfl, Nat.le_refl _, fun _ _ _ => rfl⟩

theorem DS.draw {w wx wy : World} {B : Nat} {a : Option Addr} {len cap k k' : Nat} {ys : List Int} (h : DS w wx B a len cap k ys) (hs : SrcAt wy B a len cap k' ys) (hg : wx.grownBy wy (some B)) : DS w wy B a len cap k' ys :=
  ⟨hs, grown_trans h.gr hg⟩

theorem DS.alloc {w wx : World} {B : Nat} {a : Option Addr} {len cap k : Nat} {ys : List Int} (h : DS w wx B a len cap k ys) (o : Obj) : DS w (wx.alloc o) B a len cap k ys :=
  ⟨h.src.below ((Below.refl _ _).alloc (Nat.le_refl _) _), grown_trans h.gr (grown_none (grown_alloc _ _) _)⟩

theorem DS.set {w wx : World} {B : Nat} {a : Option Addr} {len cap k : Nat} {ys : List Int} (h : DS w wx B a len cap k ys) {q : Nat} (hq : w.heap.size ≤ q) (hB : B < w.heap.size) (ha : ∀ b off, a = some ⟨b, off, none⟩ → len = 0 ∨ b < w.heap.size) (j : Nat) (v : Value) : DS w (wx.setCell ⟨q, j, none⟩ v) B a len cap k ys := by
  have hg : wx.grownBy (wx.setCell ⟨q, j, none⟩ v) (some q) := ⟨rfl, rfl, rfl, by simp [World.setCell], fun k _ hk => Below.heap_setCell _ _ _ _ (fun e => hk (by rw [e]))⟩
  refine ⟨h.src.kept hg (by simp; omega) (fun b off e => (ha b off e).imp id (fun hl => by simp; omega)), ⟨hg.os.trans h.gr.os, hg.tape.trans h.gr.tape, hg.output.trans h.gr.output, Nat.le_trans h.gr.size hg.size, fun i hi hne => ?_⟩⟩
  rw [hg.block i (Nat.lt_of_lt_of_le hi h.gr.size) (by simp; omega)]
  exact h.gr.block i hi hne

/-- The code lies below w (or is empty). -/
theorem SrcAt.code_lt {w : World} {B : Nat} {a : Option Addr} {len cap k : Nat} {ys : List Int} (h : SrcAt w B a len cap k ys) : ∀ b off, a = some ⟨b, off, none⟩ → len = 0 ∨ b < w.heap.size := by
  intro b off e
  by_cases h0 : len = 0
  · exact .inl h0
  · obtain ⟨b', off', e', hc, _⟩ := h.2.1 0 (by omega)
    rw [e] at e'
    simp at e'
    have := World.block_lt_of_cell? w ⟨b', off' + 0, none⟩ hc
    exact .inr (by have h1 := e'.1; simp at this; omega)

theorem BlkAt.grown {w w' : World} {q B : Nat} {x0 x1 x2 x3 x4 x5 x6 x7 : Int} (h : BlkAt w q x0 x1 x2 x3 x4 x5 x6 x7) (hg : w.grownBy w' (some B)) (hne : q ≠ B) : BlkAt w' q x0 x1 x2 x3 x4 x5 x6 x7 := by
  obtain ⟨c0, c1, c2, c3, c4, c5, c6, c7, f0, f1, f2, f3, f4, f5, f6, f7⟩ := h
  have hq := World.block_lt_of_cell? w ⟨q, 0, none⟩ c0
  have hb := hg.block q hq (by simpa using hne)
  have key : ∀ (o : Nat) (v : Value), w.cell? ⟨q, o, none⟩ = some v → w'.cell? ⟨q, o, none⟩ = some v := fun o v e => (World.cell?_of_block (a := ⟨q, o, none⟩) hb).trans e
  have kf : ∀ o, w.frozen? ⟨q, o, none⟩ = false → w'.frozen? ⟨q, o, none⟩ = false := fun o e => (World.frozen?_of_block (a := ⟨q, o, none⟩) hb).trans e
  exact ⟨key _ _ c0, key _ _ c1, key _ _ c2, key _ _ c3, key _ _ c4, key _ _ c5, key _ _ c6, key _ _ c7, kf _ f0, kf _ f1, kf _ f2, kf _ f3, kf _ f4, kf _ f5, kf _ f6, kf _ f7⟩

theorem ResAt.blk {w : World} {R : Nat} (h : ResAt w R) : BlkAt w R 0 0 0 0 0 0 0 0 := h

/-- What stands while a rule is drawn: its block, the result's block, the source. -/
structure DR (w wx : World) (q R B : Nat) (a : Option Addr) (len cap k : Nat) (ys : List Int) (x : RuleI) : Prop where
  blk : BlkAt wx q x.k x.ho x.hn x.w x.oo x.on x.to x.tn
  res : BlkAt wx R 0 0 0 0 0 0 0 0
  ds : DS w wx B a len cap k ys
  hq : q < wx.heap.size
  hR : R < wx.heap.size
  ne : q ≠ B ∧ R ≠ B ∧ R ≠ q ∧ w.heap.size ≤ R ∧ w.heap.size ≤ q ∧ B < w.heap.size
  code : ∀ b off, a = some ⟨b, off, none⟩ → len = 0 ∨ b < w.heap.size

theorem DR.draw {w wx wy : World} {q R B : Nat} {a : Option Addr} {len cap k k' : Nat} {ys : List Int} {x : RuleI} (h : DR w wx q R B a len cap k ys x) (hs : SrcAt wy B a len cap k' ys) (hg : wx.grownBy wy (some B)) : DR w wy q R B a len cap k' ys x :=
  ⟨h.blk.grown hg h.ne.1, h.res.grown hg h.ne.2.1, h.ds.draw hs hg, Nat.lt_of_lt_of_le h.hq hg.size, Nat.lt_of_lt_of_le h.hR hg.size, h.ne, h.code⟩

theorem DR.alloc {w wx : World} {q R B : Nat} {a : Option Addr} {len cap k : Nat} {ys : List Int} {x : RuleI} (h : DR w wx q R B a len cap k ys x) (o : Obj) : DR w (wx.alloc o) q R B a len cap k ys x :=
  ⟨h.blk.below ((Below.refl _ _).alloc (Nat.le_refl _) _), h.res.below ((Below.refl _ _).alloc (Nat.le_refl _) _), h.ds.alloc o, by have := h.hq; simp; omega, by have := h.hR; simp; omega, h.ne, h.code⟩

theorem DR.set {w wx : World} {q R B : Nat} {a : Option Addr} {len cap k : Nat} {ys : List Int} {x x' : RuleI} (h : DR w wx q R B a len cap k ys x) (j : Nat) (v : Int) (hb : BlkAt wx q x.k x.ho x.hn x.w x.oo x.on x.to x.tn → BlkAt (wx.setCell ⟨q, j, none⟩ (.int .i64 v)) q x'.k x'.ho x'.hn x'.w x'.oo x'.on x'.to x'.tn) : DR w (wx.setCell ⟨q, j, none⟩ (.int .i64 v)) q R B a len cap k ys x' := by
  obtain ⟨n1, n2, n3, n4, n5, n6⟩ := h.ne
  have key : ∀ (b o : Nat), b ≠ q → (wx.setCell ⟨q, j, none⟩ (.int .i64 v)).cell? ⟨b, o, none⟩ = wx.cell? ⟨b, o, none⟩ := fun b o hne => World.cell?_setCell_other wx ⟨q, j, none⟩ ⟨b, o, none⟩ (.int .i64 v) (fun e => hne (congrArg Addr.block e).symm)
  refine ⟨hb h.blk, ?_, h.ds.set n5 n6 h.code j _, by simp; exact h.hq, by simp; exact h.hR, h.ne, h.code⟩
  obtain ⟨r0, r1, r2, r3, r4, r5, r6, r7, e0, e1, e2, e3, e4, e5, e6, e7⟩ := h.res
  refine ⟨(key _ _ n3).trans r0, (key _ _ n3).trans r1, (key _ _ n3).trans r2, (key _ _ n3).trans r3, (key _ _ n3).trans r4, (key _ _ n3).trans r5, (key _ _ n3).trans r6, (key _ _ n3).trans r7, ?_, ?_, ?_, ?_, ?_, ?_, ?_, ?_⟩ <;> simp only [World.frozen?_setCell] <;> assumption

theorem DR.set0 {w wx : World} {q R B : Nat} {a : Option Addr} {len cap k : Nat} {ys : List Int} {x : RuleI} (h : DR w wx q R B a len cap k ys x) (v : Int) : DR w (wx.setCell ⟨q, 0, none⟩ (.int .i64 v)) q R B a len cap k ys ⟨v, x.ho, x.hn, x.w, x.oo, x.on, x.to, x.tn⟩ := by
  refine h.set 0 v ?_
  rintro ⟨q0, q1, q2, q3, q4, q5, q6, q7, f0, f1, f2, f3, f4, f5, f6, f7⟩
  exact ⟨by go_cell, by go_cell, by go_cell, by go_cell, by go_cell, by go_cell, by go_cell, by go_cell, by simp [go_sem, f0], by simp [go_sem, f1], by simp [go_sem, f2], by simp [go_sem, f3], by simp [go_sem, f4], by simp [go_sem, f5], by simp [go_sem, f6], by simp [go_sem, f7]⟩

theorem DR.set1 {w wx : World} {q R B : Nat} {a : Option Addr} {len cap k : Nat} {ys : List Int} {x : RuleI} (h : DR w wx q R B a len cap k ys x) (v : Int) : DR w (wx.setCell ⟨q, 1, none⟩ (.int .i64 v)) q R B a len cap k ys ⟨x.k, v, x.hn, x.w, x.oo, x.on, x.to, x.tn⟩ := by
  refine h.set 1 v ?_
  rintro ⟨q0, q1, q2, q3, q4, q5, q6, q7, f0, f1, f2, f3, f4, f5, f6, f7⟩
  exact ⟨by go_cell, by go_cell, by go_cell, by go_cell, by go_cell, by go_cell, by go_cell, by go_cell, by simp [go_sem, f0], by simp [go_sem, f1], by simp [go_sem, f2], by simp [go_sem, f3], by simp [go_sem, f4], by simp [go_sem, f5], by simp [go_sem, f6], by simp [go_sem, f7]⟩

theorem DR.set2 {w wx : World} {q R B : Nat} {a : Option Addr} {len cap k : Nat} {ys : List Int} {x : RuleI} (h : DR w wx q R B a len cap k ys x) (v : Int) : DR w (wx.setCell ⟨q, 2, none⟩ (.int .i64 v)) q R B a len cap k ys ⟨x.k, x.ho, v, x.w, x.oo, x.on, x.to, x.tn⟩ := by
  refine h.set 2 v ?_
  rintro ⟨q0, q1, q2, q3, q4, q5, q6, q7, f0, f1, f2, f3, f4, f5, f6, f7⟩
  exact ⟨by go_cell, by go_cell, by go_cell, by go_cell, by go_cell, by go_cell, by go_cell, by go_cell, by simp [go_sem, f0], by simp [go_sem, f1], by simp [go_sem, f2], by simp [go_sem, f3], by simp [go_sem, f4], by simp [go_sem, f5], by simp [go_sem, f6], by simp [go_sem, f7]⟩

theorem DR.set3 {w wx : World} {q R B : Nat} {a : Option Addr} {len cap k : Nat} {ys : List Int} {x : RuleI} (h : DR w wx q R B a len cap k ys x) (v : Int) : DR w (wx.setCell ⟨q, 3, none⟩ (.int .i64 v)) q R B a len cap k ys ⟨x.k, x.ho, x.hn, v, x.oo, x.on, x.to, x.tn⟩ := by
  refine h.set 3 v ?_
  rintro ⟨q0, q1, q2, q3, q4, q5, q6, q7, f0, f1, f2, f3, f4, f5, f6, f7⟩
  exact ⟨by go_cell, by go_cell, by go_cell, by go_cell, by go_cell, by go_cell, by go_cell, by go_cell, by simp [go_sem, f0], by simp [go_sem, f1], by simp [go_sem, f2], by simp [go_sem, f3], by simp [go_sem, f4], by simp [go_sem, f5], by simp [go_sem, f6], by simp [go_sem, f7]⟩

theorem DR.set4 {w wx : World} {q R B : Nat} {a : Option Addr} {len cap k : Nat} {ys : List Int} {x : RuleI} (h : DR w wx q R B a len cap k ys x) (v : Int) : DR w (wx.setCell ⟨q, 4, none⟩ (.int .i64 v)) q R B a len cap k ys ⟨x.k, x.ho, x.hn, x.w, v, x.on, x.to, x.tn⟩ := by
  refine h.set 4 v ?_
  rintro ⟨q0, q1, q2, q3, q4, q5, q6, q7, f0, f1, f2, f3, f4, f5, f6, f7⟩
  exact ⟨by go_cell, by go_cell, by go_cell, by go_cell, by go_cell, by go_cell, by go_cell, by go_cell, by simp [go_sem, f0], by simp [go_sem, f1], by simp [go_sem, f2], by simp [go_sem, f3], by simp [go_sem, f4], by simp [go_sem, f5], by simp [go_sem, f6], by simp [go_sem, f7]⟩

theorem DR.set5 {w wx : World} {q R B : Nat} {a : Option Addr} {len cap k : Nat} {ys : List Int} {x : RuleI} (h : DR w wx q R B a len cap k ys x) (v : Int) : DR w (wx.setCell ⟨q, 5, none⟩ (.int .i64 v)) q R B a len cap k ys ⟨x.k, x.ho, x.hn, x.w, x.oo, v, x.to, x.tn⟩ := by
  refine h.set 5 v ?_
  rintro ⟨q0, q1, q2, q3, q4, q5, q6, q7, f0, f1, f2, f3, f4, f5, f6, f7⟩
  exact ⟨by go_cell, by go_cell, by go_cell, by go_cell, by go_cell, by go_cell, by go_cell, by go_cell, by simp [go_sem, f0], by simp [go_sem, f1], by simp [go_sem, f2], by simp [go_sem, f3], by simp [go_sem, f4], by simp [go_sem, f5], by simp [go_sem, f6], by simp [go_sem, f7]⟩

theorem DR.set6 {w wx : World} {q R B : Nat} {a : Option Addr} {len cap k : Nat} {ys : List Int} {x : RuleI} (h : DR w wx q R B a len cap k ys x) (v : Int) : DR w (wx.setCell ⟨q, 6, none⟩ (.int .i64 v)) q R B a len cap k ys ⟨x.k, x.ho, x.hn, x.w, x.oo, x.on, v, x.tn⟩ := by
  refine h.set 6 v ?_
  rintro ⟨q0, q1, q2, q3, q4, q5, q6, q7, f0, f1, f2, f3, f4, f5, f6, f7⟩
  exact ⟨by go_cell, by go_cell, by go_cell, by go_cell, by go_cell, by go_cell, by go_cell, by go_cell, by simp [go_sem, f0], by simp [go_sem, f1], by simp [go_sem, f2], by simp [go_sem, f3], by simp [go_sem, f4], by simp [go_sem, f5], by simp [go_sem, f6], by simp [go_sem, f7]⟩

theorem DR.set7 {w wx : World} {q R B : Nat} {a : Option Addr} {len cap k : Nat} {ys : List Int} {x : RuleI} (h : DR w wx q R B a len cap k ys x) (v : Int) : DR w (wx.setCell ⟨q, 7, none⟩ (.int .i64 v)) q R B a len cap k ys ⟨x.k, x.ho, x.hn, x.w, x.oo, x.on, x.to, v⟩ := by
  refine h.set 7 v ?_
  rintro ⟨q0, q1, q2, q3, q4, q5, q6, q7, f0, f1, f2, f3, f4, f5, f6, f7⟩
  exact ⟨by go_cell, by go_cell, by go_cell, by go_cell, by go_cell, by go_cell, by go_cell, by go_cell, by simp [go_sem, f0], by simp [go_sem, f1], by simp [go_sem, f2], by simp [go_sem, f3], by simp [go_sem, f4], by simp [go_sem, f5], by simp [go_sem, f6], by simp [go_sem, f7]⟩

set_option maxHeartbeats 1000000 in
theorem drawRole_c (w : World) (B : Nat) (a : Option Addr) (len cap k : Nat) (ys : List Int) (h : SrcAt w B a len cap k ys) (hl : len ≤ 1048576) (hk : k ≤ 900) :
    Calls Tryz.prog 101 #[.pointer (some ⟨B, 0, none⟩)] w fun e w' => ∃ o n : Int, (1 ≤ o ∧ o ≤ 3 ∧ 1 ≤ n ∧ n ≤ 3) ∧ e = .returned (.agg #[.int .i64 o, .int .i64 n]) ∧ SrcAt w' B a len cap (k + 2) ys ∧ w.grownBy w' (some B) := by
  have hB := h.lt
  have hcode := h.code_lt
  have D0 : Hid (DS w (w.alloc (.cells #[.int .i64 0, .int .i64 0] 66)) B a len cap k ys) := (DS.start h).alloc _
  clear h
  have Z0 : Hid ((w.alloc (.cells #[.int .i64 0, .int .i64 0] 66)).heap[w.heap.size]? = some (.cells #[.int .i64 0, .int .i64 0] 66 (0, 0))) := heap_alloc_new w _
  go_enter Tryz.func101, Tryz.ntmps101
  go_wp2_with fail
  refine (next_c _ B a len cap k ys 3 D0.out.src hl (by omega) (by omega) (by omega)).mono ?_
  rintro e w1 ⟨v1, x0, x1, rfl, hS1, hG1⟩
  have D1 : Hid (DS w w1 B a len cap (k + 1) ys) := D0.out.draw hS1 hG1
  have Z1 : Hid (w1.heap[w.heap.size]? = some (.cells #[.int .i64 0, .int .i64 0] 66 (0, 0))) := (hG1.block _ (by simp) (by simp; omega)).trans Z0.out
  clear hS1 hG1 D0 Z0
  go_wp2_with fail
  refine (next_c _ B a len cap (k + 1) ys 3 D1.out.src hl (by omega) (by omega) (by omega)).mono ?_
  rintro e w2 ⟨v2, y0, y1, rfl, hS2, hG2⟩
  have D2 : Hid (DS w w2 B a len cap (k + 2) ys) := D1.out.draw hS2 hG2
  have Z2 : Hid (w2.heap[w.heap.size]? = some (.cells #[.int .i64 0, .int .i64 0] 66 (0, 0))) := (hG2.block _ (Array.getElem?_eq_some_iff.1 Z1.out).1 (by simp; omega)).trans Z1.out
  clear hS2 hG2 D1 Z1
  have c0 : w2.cell? ⟨w.heap.size, 0, none⟩ = some (.int .i64 0) := by simp [World.cell?, Z2.out]
  have c1 : w2.cell? ⟨w.heap.size, 1, none⟩ = some (.int .i64 0) := by simp [World.cell?, Z2.out]
  have f0 : w2.frozen? ⟨w.heap.size, 0, none⟩ = false := by simp [World.frozen?, Z2.out]
  have f1 : w2.frozen? ⟨w.heap.size, 1, none⟩ = false := by simp [World.frozen?, Z2.out]
  have hlt : w.heap.size < w2.heap.size := (Array.getElem?_eq_some_iff.1 Z2.out).1
  go_wp2
  refine bodyPost_ret (v := .agg #[.int .i64 (1 + v1), .int .i64 (1 + v2)]) (by simp [results, Tryz.results101, go_sem, c0, c1, hlt]) rfl ⟨_, _, ⟨by omega, by omega, by omega, by omega⟩, rfl, ?_⟩
  have D3 := (D2.out.set (Nat.le_refl _) hB hcode 0 (.int .i64 (1 + v1))).set (Nat.le_refl _) hB hcode 1 (.int .i64 (1 + v2))
  exact ⟨D3.src, D3.gr⟩

end Go.Proofs.YtaeigimgobilaaaGreatDoor
