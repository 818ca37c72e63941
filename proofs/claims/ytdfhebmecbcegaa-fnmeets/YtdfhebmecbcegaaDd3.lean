/-
  CONTRACTS: spec.l9Cert: a certificate out of shares and a source.
  Conditions: each contract bears its own.
-/
import Derived.Test.YtdfhebmecbcegaaDd2
import Derived.Test.YtdfhebmecbcegaaCe7
namespace Go.Proofs.Ytdfhebmecbcegaa
open Go.RowKit
set_option linter.unusedVariables false
set_option linter.unusedSimpArgs false

set_option maxHeartbeats 1000000 in
theorem next_w (w : World) (B : Nat) (a : Option Addr) (len cap at' : Nat) (ys : List Int) (n : Int) (h : SrcAt w B a len cap at' ys) (hl : len ≤ 2000000) (hat : at' ≤ 1000) (n1 : 1 ≤ n) (n2 : n ≤ 1048576) :
    Calls Try.prog 73 #[.pointer (some ⟨B, 0, none⟩), .int .i64 n] w fun e w' => ∃ v : Int, 0 ≤ v ∧ v < n ∧ e = .returned (.int .i64 v) ∧ SrcAt w' B a len cap (at' + 1) ys ∧ w.grownBy w' (some B) := by
  have hc0 : w.cell? ⟨B, 0, none⟩ = some (.slice a len cap) := by simp [World.cell?, h.1]
  have hc1 : w.cell? ⟨B, 1, none⟩ = some (.int .i64 (at' : Int)) := by simp [World.cell?, h.1]
  have hf1 : w.frozen? ⟨B, 1, none⟩ = false := by simp [World.frozen?, h.1]
  have hat' : (at' : Int) ≤ 1000 := by omega
  have hl' : (len : Int) ≤ 2000000 := by omega
  have HH : Hid (SrcAt w B a len cap at' ys) := h
  clear h
  have hst := src_step HH.out
  have HST : Hid (SrcAt (w.setCell ⟨B, 1, none⟩ (.int .i64 ((at' : Int) + 1))) B a len cap (at' + 1) ys ∧ w.grownBy (w.setCell ⟨B, 1, none⟩ (.int .i64 ((at' : Int) + 1))) (some B)) := hst
  clear hst
  by_cases h0 : len = 0
  · subst h0
    go_enter Try.func73, Try.ntmps73
    go_wp2
    go_ret
    exact ⟨_, Int.emod_nonneg _ (by omega), Int.emod_lt_of_pos _ (by omega), rfl, HST.out⟩
  · have hk0 : ((len : Int) == 0) = false := by simp; omega
    obtain ⟨j, hj, hjl⟩ : ∃ j : Nat, (at' : Int) % (len : Int) = (j : Int) ∧ j < len := ⟨at' % len, by simp, Nat.mod_lt _ (by omega)⟩
    obtain ⟨j2, hj2, hj2l⟩ : ∃ j : Nat, ((at' : Int) + 1) % (len : Int) = (j : Int) ∧ j < len := ⟨(at' + 1) % len, by simp, Nat.mod_lt _ (by omega)⟩
    obtain ⟨q, hq, hql⟩ : ∃ q : Nat, (at' : Int) / (len : Int) = (q : Int) ∧ q ≤ 1000 := ⟨at' / len, by simp, Nat.le_trans (Nat.div_le_self _ _) hat⟩
    obtain ⟨b, off, ha, hcj, y0, y1⟩ := HST.out.1.2.1 j hjl
    obtain ⟨b2, off2, ha2, hcj2, z0, z1⟩ := HST.out.1.2.1 j2 hj2l
    have hbb : b2 = b ∧ off2 = off := by rw [ha] at ha2; simp at ha2; exact ⟨ha2.1.symm, ha2.2.symm⟩
    obtain ⟨rfl, rfl⟩ := hbb
    obtain ⟨y, hy⟩ : ∃ y : Int, y = ys[j]?.getD 0 := ⟨_, rfl⟩
    obtain ⟨z, hz⟩ : ∃ z : Int, z = ys[j2]?.getD 0 := ⟨_, rfl⟩
    rw [← hy] at hcj y0 y1
    rw [← hz] at hcj2 z0 z1
    subst ha
    clear hy hz ha2
    have hjl' : (j : Int) < (len : Int) := by omega
    have hj2l' : (j2 : Int) < (len : Int) := by omega
    have hql' : (q : Int) ≤ 1000 := by omega
    go_enter Try.func73, Try.ntmps73
    go_wp2
    go_quiet (fail)
    go_wp2
    · go_quiet (fail)
      go_wp2
      go_ret
      exact ⟨_, Int.emod_nonneg _ (by omega), Int.emod_lt_of_pos _ (by omega), rfl, HST.out.1.drewN _, grown_drewN' HST.out.2 _⟩
    · go_ret
      exact ⟨_, Int.emod_nonneg _ (by omega), Int.emod_lt_of_pos _ (by omega), rfl, HST.out.1.drewN _, grown_drewN' HST.out.2 _⟩

set_option maxHeartbeats 400000 in
theorem pick_w (w : World) (B : Nat) (a : Option Addr) (len cap at' : Nat) (ys : List Int) (h : SrcAt w B a len cap at' ys) (hl : len ≤ 2000000) (hat : at' ≤ 1000) (g n c : Nat) (xs : List Int) (hxs : xs.length = n) (hn : 1 ≤ n) (hn2 : n ≤ 100) (hgB : g ≠ B)
    (hc : ∀ k, k < n → w.cell? ⟨g, k, none⟩ = some (.int .i64 (xs[k]?.getD 0))) :
    Calls Try.prog 77 #[.pointer (some ⟨B, 0, none⟩), .slice (some ⟨g, 0, none⟩) n c] w fun e w' => ∃ k : Nat, k < n ∧ e = .returned (.int .i64 (xs[k]?.getD 0)) ∧ SrcAt w' B a len cap (at' + 1) ys ∧ w.grownBy w' (some B) := by
  have HH : Hid (SrcAt w B a len cap at' ys) := h
  have HC : Hid (∀ k, k < n → w.cell? ⟨g, k, none⟩ = some (.int .i64 (xs[k]?.getD 0))) := hc
  clear h hc hxs
  go_enter Try.func77, Try.ntmps77
  go_wp2_with fail
  refine (next_w w B a len cap at' ys (n : Int) HH.out hl hat (by omega) (by omega)).mono ?_
  rintro e w1 ⟨v, v0, v1, rfl, hS, hG⟩
  obtain ⟨k, rfl⟩ := Int.eq_ofNat_of_zero_le v0
  have hk : k < n := by omega
  have hck := hG.cell (a := ⟨g, k, none⟩) (HC.out k hk) (by simpa using hgB)
  have hk' : (k : Int) < (n : Int) := by omega
  go_wp2
  go_ret
  exact ⟨k, hk, rfl, hS, hG⟩

theorem kp_of_below {W w' : World} (hb : Below W.heap.size W w') : (∀ b o, b < W.heap.size → w'.cell? ⟨b, o, none⟩ = W.cell? ⟨b, o, none⟩) ∧ Below W.heap.size W w' := ⟨fun b o h => hb.cell (p := ⟨b, o, none⟩) h, hb⟩

/-- A certificate in its box, its signers of one's own, the source. -/
structure CS (W wr : World) (B : Nat) (a : Option Addr) (len cap kk : Nat) (ys : List Int) (C : Nat) (x : StI) (g gc : Nat) (us : List Int) : Prop where
  ds : DS W wr B a len cap kk ys
  bx : wr.heap[C]? = some (.cells #[.int .i64 x.k, .int .i64 x.e, .int .i64 x.f, .int .i64 x.s, .int .i64 x.n, .slice (some ⟨g, 0, none⟩) us.length gc] 31 (0, 0))
  ow : OwnI wr W.heap.size (.slice (some ⟨g, 0, none⟩) us.length gc) us
  gC : W.heap.size ≤ C
  hB : B < W.heap.size

theorem set6c {W : World} {q : Nat} {x0 x1 x2 x3 x4 x5 : Value} {t : TypeId} (h : W.heap[q]? = some (.cells #[x0, x1, x2, x3, x4, x5] t (0, 0))) (y0 y1 y2 y3 y4 y5 : Value) : ((((((W.setCell ⟨q, 0, none⟩ y0).setCell ⟨q, 1, none⟩ y1).setCell ⟨q, 2, none⟩ y2).setCell ⟨q, 3, none⟩ y3).setCell ⟨q, 4, none⟩ y4).setCell ⟨q, 5, none⟩ y5).heap[q]? = some (.cells #[y0, y1, y2, y3, y4, y5] t (0, 0)) := by
  have h1 := heap_setCell_same _ q 0 _ t y0 h
  have h2 := heap_setCell_same _ q 1 _ t y1 h1
  have h3 := heap_setCell_same _ q 2 _ t y2 h2
  have h4 := heap_setCell_same _ q 3 _ t y3 h3
  have h5 := heap_setCell_same _ q 4 _ t y4 h4
  have h6 := heap_setCell_same _ q 5 _ t y5 h5
  simpa using h6

theorem below6 {B : Nat} {w0 w : World} (h : Below B w0 w) (b : Nat) (hb : B ≤ b) (v0 v1 v2 v3 v4 v5 : Value) : Below B w0 ((((((w.setCell ⟨b, 0, none⟩ v0).setCell ⟨b, 1, none⟩ v1).setCell ⟨b, 2, none⟩ v2).setCell ⟨b, 3, none⟩ v3).setCell ⟨b, 4, none⟩ v4).setCell ⟨b, 5, none⟩ v5) :=
  (((((h.setCell (p := ⟨b, 0, none⟩) hb _).setCell (p := ⟨b, 1, none⟩) hb _).setCell (p := ⟨b, 2, none⟩) hb _).setCell (p := ⟨b, 3, none⟩) hb _).setCell (p := ⟨b, 4, none⟩) hb _).setCell (p := ⟨b, 5, none⟩) hb _

theorem own6 {w : World} {base : Nat} {e : TypeId} {size : Nat} {v : Value} {n : Nat} {xs : List Value} (h : w.ownsRow base e size v n xs) (b : Nat) (hb : b < base) (v0 v1 v2 v3 v4 v5 : Value) : ((((((w.setCell ⟨b, 0, none⟩ v0).setCell ⟨b, 1, none⟩ v1).setCell ⟨b, 2, none⟩ v2).setCell ⟨b, 3, none⟩ v3).setCell ⟨b, 4, none⟩ v4).setCell ⟨b, 5, none⟩ v5).ownsRow base e size v n xs :=
  ownsE_set (ownsE_set (ownsE_set (ownsE_set (ownsE_set (ownsE_set h (a := ⟨b, 0, none⟩) hb _) (a := ⟨b, 1, none⟩) hb _) (a := ⟨b, 2, none⟩) hb _) (a := ⟨b, 3, none⟩) hb _) (a := ⟨b, 4, none⟩) hb _) (a := ⟨b, 5, none⟩) hb _

theorem ds_below {W wr wy : World} {B : Nat} {a : Option Addr} {len cap kk : Nat} {ys : List Int} (h : DS W wr B a len cap kk ys) (hb : Below wr.heap.size wr wy) : DS W wy B a len cap kk ys :=
  ⟨h.src.below hb, grown_trans h.gr (grown_none (grown_below hb) _)⟩

theorem CS.draw {W wr wy : World} {B : Nat} {a : Option Addr} {len cap kk k' : Nat} {ys : List Int} {C : Nat} {x : StI} {g gc : Nat} {us : List Int} (h : CS W wr B a len cap kk ys C x g gc us) (hs : SrcAt wy B a len cap k' ys) (hg : wr.grownBy wy (some B)) : CS W wy B a len cap k' ys C x g gc us := by
  refine ⟨h.ds.draw hs hg, (hg.block C (Array.getElem?_eq_some_iff.1 h.bx).1 (by have := h.gC; have := h.hB; simp; omega)).trans h.bx, ?_, h.gC, h.hB⟩
  have h0 : wr.ownsRow W.heap.size 2 1 (.slice (some ⟨g, 0, none⟩) us.length gc) us.length (us.map (Value.int .i64)) := h.ow
  exact owns_kept h0 (fun q e => hg.block q (h0.lt q e).2 (by have := (h0.lt q e).1; have := h.hB; simp; omega))

theorem CS.cells {W wr : World} {B : Nat} {a : Option Addr} {len cap kk : Nat} {ys : List Int} {C : Nat} {x : StI} {g gc : Nat} {us : List Int} (h : CS W wr B a len cap kk ys C x g gc us) : BoxW C [.int .i64 x.k, .int .i64 x.e, .int .i64 x.f, .int .i64 x.s, .int .i64 x.n, .slice (some ⟨g, 0, none⟩) us.length gc] wr ∧ C < wr.heap.size := by
  refine ⟨⟨fun j v e => ?_, fun j => by simp [World.frozen?, h.bx]⟩, (Array.getElem?_eq_some_iff.1 h.bx).1⟩
  unfold World.cell?
  simp only
  rw [h.bx]
  simpa using e

theorem CS.below {W wr wy : World} {B : Nat} {a : Option Addr} {len cap kk : Nat} {ys : List Int} {C : Nat} {x : StI} {g gc : Nat} {us : List Int} (h : CS W wr B a len cap kk ys C x g gc us) (hb : Below wr.heap.size wr wy) : CS W wy B a len cap kk ys C x g gc us :=
  ⟨ds_below h.ds hb, (hb.block C (Array.getElem?_eq_some_iff.1 h.bx).1).trans h.bx, ownI_below h.ow hb, h.gC, h.hB⟩

theorem CS.ne {W wr : World} {B : Nat} {a : Option Addr} {len cap kk : Nat} {ys : List Int} {C : Nat} {x : StI} {g gc : Nat} {us : List Int} (h : CS W wr B a len cap kk ys C x g gc us) {v : Value} {n : Nat} {xs : List Value} (ho : wr.ownsRow W.heap.size 2 1 v n xs) : ∀ q, v.ownBlock = some q → q ≠ C := by
  intro q e hq
  subst hq
  rcases ho.2 with r | ⟨g', cap, cur, e1, hg, hb, rest⟩
  · rw [r.1] at e
    simp [Value.ownBlock] at e
  · rw [e1] at e
    simp [Value.ownBlock] at e
    subst e
    have := hb.symm.trans h.bx
    simp at this

theorem owns_at {wr : World} {base : Nat} {e : TypeId} {sz : Nat} {v : Value} {n : Nat} {xs : List Value} (ho : wr.ownsRow base e sz v n xs) {C : Nat} (hne : ∀ q, v.ownBlock = some q → q ≠ C) (j : Nat) (u : Value) : (wr.setCell ⟨C, j, none⟩ u).ownsRow base e sz v n xs :=
  owns_kept ho (fun q e => Below.heap_setCell _ _ _ _ (hne q e))

theorem ownI_ints {w : World} {B g gc : Nat} {us : List Int} (h : OwnI w B (.slice (some ⟨g, 0, none⟩) us.length gc) us) : IntIn w (some ⟨g, 0, none⟩) us.length us :=
  ⟨rfl, fun _ => ⟨g, 0, rfl, fun k y hy => by rw [Nat.zero_add]; exact ownI_cells h rfl k y hy⟩⟩

theorem ints_tail9 {W : World} {g : Nat} {ys : List Int} (h : IntIn W (some ⟨g, 0, none⟩) ys.length ys) : IntIn W (some ⟨g, 1, none⟩) (ys.length - 1) (ys.drop 1) := by
  refine ⟨by simp, fun hn => ⟨g, 1, rfl, fun k y hy => ?_⟩⟩
  obtain ⟨b, off, e, hc⟩ := h.2 (by omega)
  simp at e
  obtain ⟨rfl, rfl⟩ := e
  have := hc (1 + k) y (by rw [List.getElem?_drop] at hy; exact hy)
  simpa using this

theorem grown6 {w wr : World} {B R : Nat} (h : w.grownBy wr (some B)) (hR : w.heap.size ≤ R) (v0 v1 v2 v3 v4 v5 : Value) : w.grownBy ((((((wr.setCell ⟨R, 0, none⟩ v0).setCell ⟨R, 1, none⟩ v1).setCell ⟨R, 2, none⟩ v2).setCell ⟨R, 3, none⟩ v3).setCell ⟨R, 4, none⟩ v4).setCell ⟨R, 5, none⟩ v5) (some B) := by
  have hb := below6 (Below.refl w.heap.size wr) R hR v0 v1 v2 v3 v4 v5
  exact ⟨hb.os.trans h.os, hb.tape.trans h.tape, hb.output.trans h.output, Nat.le_trans h.size hb.size, fun i hi hne => (hb.block i hi).trans (h.block i hi hne)⟩

theorem grown_one {w wr : World} {B C : Nat} (h : w.grownBy wr (some B)) (hC : w.heap.size ≤ C) (j : Nat) (v : Value) : w.grownBy (wr.setCell ⟨C, j, none⟩ v) (some B) := by
  have hb := (Below.refl w.heap.size wr).setCell (p := ⟨C, j, none⟩) hC v
  exact ⟨hb.os.trans h.os, hb.tape.trans h.tape, hb.output.trans h.output, Nat.le_trans h.size hb.size, fun i hi hne => (hb.block i hi).trans (h.block i hi hne)⟩

theorem CS.push {W wr w7 : World} {B : Nat} {a : Option Addr} {len cap kk : Nat} {ys : List Int} {C : Nat} {x : StI} {g gc : Nat} {us : List Int} (h : CS W wr B a len cap kk ys C x g gc us) {p : Int} {v7 : Value} (hcode : ∀ b off, a = some ⟨b, off, none⟩ → len = 0 ∨ b < W.heap.size)
    (ho : w7.ownsRow W.heap.size 2 1 v7 (us.length + 1) (us.map (Value.int .i64) ++ [.int .i64 p])) (hg : wr.grownBy w7 (some g)) :
    (∃ g' gc', v7 = .slice (some ⟨g', 0, none⟩) (us.length + 1) gc' ∧ CS W (w7.setCell ⟨C, 5, none⟩ (.slice (some ⟨g', 0, none⟩) (us.length + 1) gc')) B a len cap kk ys C x g' gc' (us ++ [p])) ∧ BoxW C [.int .i64 x.k, .int .i64 x.e, .int .i64 x.f, .int .i64 x.s, .int .i64 x.n, .slice (some ⟨g, 0, none⟩) us.length gc] w7 ∧ C < w7.heap.size := by
  have h0 : wr.ownsRow W.heap.size 2 1 (.slice (some ⟨g, 0, none⟩) us.length gc) us.length (us.map (Value.int .i64)) := h.ow
  have hgC := h.ne h0 g rfl
  have hgW := (h0.lt g rfl).1
  have hbx : w7.heap[C]? = _ := (hg.block C (Array.getElem?_eq_some_iff.1 h.bx).1 (fun e => hgC (Option.some.inj e).symm)).trans h.bx
  have hds : DS W w7 B a len cap kk ys := h.ds.row hg (fun q e => by cases e; exact hgW) h.hB hcode
  have c7 : CS W w7 B a len cap kk ys C x g gc us → True := fun _ => trivial
  refine ⟨?_, ?_, (Array.getElem?_eq_some_iff.1 hbx).1⟩
  · rcases ho.2 with r | ⟨g', gc', cur, e1, hg', hb, rest⟩
    · have := r.2
      omega
    · refine ⟨g', gc', e1, hds.set h.gC h.hB hcode 5 _, ?_, ?_, h.gC, h.hB⟩
      · have := heap_setCell_same _ C 5 _ _ (.slice (some ⟨g', 0, none⟩) (us.length + 1) gc') hbx
        rw [List.length_append]
        simpa using this
      · have hne : ∀ q, v7.ownBlock = some q → q ≠ C := by
          intro q e hq
          rw [e1] at e
          simp [Value.ownBlock] at e
          subst hq
          subst e
          have := hb.symm.trans hbx
          simp at this
        have h1 := owns_at ho hne 5 (.slice (some ⟨g', 0, none⟩) (us.length + 1) gc')
        show World.ownsRow _ _ _ _ _ _ _
        rw [List.length_append, List.map_append]
        rw [e1] at h1
        exact h1
  · refine ⟨fun j v e => ?_, fun j => by simp [World.frozen?, hbx]⟩
    unfold World.cell?
    simp only
    rw [hbx]
    simpa using e

theorem pick_anyD (w : World) (B : Nat) (a : Option Addr) (len cap at' : Nat) (ys : List Int) (h : SrcAt w B a len cap at' ys) (hl : len ≤ 2000000) (hat : at' ≤ 1000) (xs : List Int) (hn : 1 ≤ xs.length) (hn2 : xs.length ≤ 100) :
    Calls Try.prog 77 #[.pointer (some ⟨B, 0, none⟩), .slice (some ⟨w.heap.size, 0, none⟩) xs.length xs.length] (w.alloc (.cells (xs.map (Value.int .i64)).toArray 2)).drew fun e w' => ∃ v : Int, v ∈ xs ∧ e = .returned (.int .i64 v) ∧ SrcAt w' B a len cap (at' + 1) ys ∧ w.grownBy w' (some B) := by
  have hlt := h.lt
  have hb : Below w.heap.size w (w.alloc (.cells (xs.map (Value.int .i64)).toArray 2)).drew := ((Below.refl _ _).alloc (Nat.le_refl _) _).drew
  refine (pick_w _ B a len cap at' ys (h.below hb) hl hat w.heap.size xs.length xs.length xs rfl hn hn2 (by omega) (fun j hj => ?_)).mono ?_
  · have := ((boxV_new w (xs.map (Value.int .i64)).toArray 2).drew).out j (.int .i64 (xs[j]?.getD 0)) (by simp [List.getElem?_eq_getElem hj])
    exact this
  · rintro e w' ⟨j, hj, rfl, hS, hG⟩
    refine ⟨_, ?_, rfl, hS, grown_trans (grown_none (grown_below hb) _) hG⟩
    rw [List.getElem?_eq_getElem hj]
    exact List.getElem_mem hj

/-- The boxes of the result and of the argument stay. -/
theorem ds_old {W wr : World} {B : Nat} {a : Option Addr} {len cap kk : Nat} {ys : List Int} (h : DS W wr B a len cap kk ys) {R : Nat} {vs : List Value} (hR : BoxW R vs W) (hl : R < W.heap.size) (hne : R ≠ B) : BoxW R vs wr := hR.grown hl h.gr hne

/-- What l9Cert gives. -/
def GivesC9 (fn : Nat) (B : Nat) (va : Option Addr) (n vc : Nat) (x : StI) (w : World) : Prop := Calls Try.prog fn #[.pointer (some ⟨B, 0, none⟩), .slice va n vc, .agg #[.int .i64 x.k, .int .i64 x.e, .int .i64 x.f, .int .i64 x.s, .int .i64 x.n]] w fun e w' => ∃ (ga : Option Addr) (gn gc : Nat) (us : List Int), e = .returned (.agg #[.int .i64 x.k, .int .i64 x.e, .int .i64 x.f, .int .i64 x.s, .int .i64 x.n, .slice ga gn gc]) ∧ gn ≤ 1001 ∧ IntIn w' ga gn us ∧ w.grownBy w' (some B) ∧ (∀ b off, ga = some ⟨b, off, none⟩ → w.heap.size ≤ b)

set_option maxRecDepth 20000 in
set_option maxHeartbeats 1000000 in
theorem cert9_c (w : World) (B : Nat) (a : Option Addr) (len cap k : Nat) (ys : List Int) (va : Option Addr) (vc : Nat) (zs : List ShI) (x : StI) (h : SrcAt w B a len cap k ys) (hl : len ≤ 2000000) (hk : k ≤ 100) (hz : zs.length ≤ 1000) (hs : ShIn w va zs.length zs) :
    GivesC9 55 B va zs.length vc x w := by
  unfold GivesC9
  have hB := h.lt
  obtain ⟨W, hW⟩ : ∃ W, W = (w.alloc (.cells #[.int .i64 x.k, .int .i64 x.e, .int .i64 x.f, .int .i64 x.s, .int .i64 x.n] 26)).alloc (.cells #[.int .i64 0, .int .i64 0, .int .i64 0, .int .i64 0, .int .i64 0, .slice none 0 0] 31) := ⟨_, rfl⟩
  have A0 : Below w.heap.size w W := by rw [hW]; exact ((Below.refl _ _).alloc (Nat.le_refl _) _).alloc (by simp) _
  have hsz : W.heap.size = w.heap.size + 2 := by rw [hW]; simp
  have HZ : Hid (W.heap.size = w.heap.size + 2) := hsz
  have HS0 : Hid (SrcAt W B a len cap k ys) := h.below A0
  have HSH : Hid (ShIn W va zs.length zs) := hs.below A0
  have HA0 := hid A0
  have XB : Hid (BoxW w.heap.size [.int .i64 x.k, .int .i64 x.e, .int .i64 x.f, .int .i64 x.s, .int .i64 x.n] W) := by rw [hW]; exact BoxW.below (boxW_new w _ _) (by simp) ((Below.refl _ _).alloc (Nat.le_refl _) _)
  have RB0 : Hid (BoxW (w.heap.size + 1) [.int .i64 0, .int .i64 0, .int .i64 0, .int .i64 0, .int .i64 0, .slice none 0 0] W) := by
    rw [hW]
    have := boxW_new (w.alloc (.cells #[.int .i64 x.k, .int .i64 x.e, .int .i64 x.f, .int .i64 x.s, .int .i64 x.n] 26)) #[.int .i64 0, .int .i64 0, .int .i64 0, .int .i64 0, .int .i64 0, .slice none 0 0] 31
    have e : (w.alloc (.cells #[.int .i64 x.k, .int .i64 x.e, .int .i64 x.f, .int .i64 x.s, .int .i64 x.n] 26)).heap.size = w.heap.size + 1 := by simp
    rw [e] at this
    exact this
  obtain ⟨i0, hi, hz0, hz1, hz2⟩ := info_parts Try.infoI
  have hun : Try.prog.underlying 29 = some (.slice 2) := by kernel_rfl
  clear h hs A0
  go_enter Try.func55, Try.ntmps55
  go_upto_region 1 with fail
  rw [← hW]
  clear hW hsz
  generalize hRe : w.heap.size + 1 = R at RB0 HZ ⊢
  have x0 := XB.out.1 0 _ rfl
  have x1 := XB.out.1 1 _ rfl
  have x2 := XB.out.1 2 _ rfl
  have x3 := XB.out.1 3 _ rfl
  have x4 := XB.out.1 4 _ rfl
  have hXl : w.heap.size < W.heap.size := by have := HZ.out; omega
  have hRl : R < W.heap.size := by have := HZ.out; omega
  have hRB : R ≠ B := by omega
  have hRw : w.heap.size ≤ R := by omega
  clear hRe
  go_cut [7] from 8 to 12 (fun s wx => ∃ (C g gc : Nat), s = .pointer (some ⟨C, 0, none⟩) ∧ CS W wx B a len cap k ys C x g gc (sgL zs x))
  case first =>
    refine wp_region_held_drew (S := fun w' => (∀ b o, b < W.heap.size → w'.cell? ⟨b, o, none⟩ = W.cell? ⟨b, o, none⟩) ∧ Below W.heap.size W w') (by kernel_rfl) (kp_drew _) (fun hHeld => ?_)
    refine wpAnyH_take (i := 0) (v := ?_) rfl (by kernel_rfl) (by kernel_rfl) (by kernel_rfl) (fun _ _ _ h => h) (Or.inl ⟨by kernel_rfl, ?_⟩) (by assumption) ?_
    rotate_left 1
    · intro w hSw; (try dsimp only at hSw); go_simp; try (with_reducible rfl)
    try simp only [Act.put, List.getElem_toArray, List.getElem_cons_succ, List.getElem_cons_zero, List.setIfInBounds_toArray, List.set_cons_zero, List.set_cons_succ]
    refine wpAnyH_take (i := 1) (v := ?_) rfl (by kernel_rfl) (by kernel_rfl) (by kernel_rfl) (fun _ _ _ h => h) (Or.inl ⟨by kernel_rfl, ?_⟩) (by assumption) ?_
    rotate_left 1
    · intro w hSw; (try dsimp only at hSw); go_simp; try (with_reducible rfl)
    try simp only [Act.put, List.getElem_toArray, List.getElem_cons_succ, List.getElem_cons_zero, List.setIfInBounds_toArray, List.set_cons_zero, List.set_cons_succ]
    refine wpAnyH_take (i := 2) (v := ?_) rfl (by kernel_rfl) (by kernel_rfl) (by kernel_rfl) (fun _ _ _ h => h) (Or.inl ⟨by kernel_rfl, ?_⟩) (by assumption) ?_
    rotate_left 1
    · intro w hSw; (try dsimp only at hSw); go_simp; try (with_reducible rfl)
    try simp only [Act.put, List.getElem_toArray, List.getElem_cons_succ, List.getElem_cons_zero, List.setIfInBounds_toArray, List.set_cons_zero, List.set_cons_succ]
    refine wpAnyH_ready (rs := [3, 5]) (by kernel_rfl) (by simp) ?_
    refine AllReadyH.cons rfl (fun K hK => ?_) (AllReadyH.cons rfl (fun K hK => ?_) AllReadyH.nil)
    · go_simp
      refine (l9Signers_c va zs.length vc zs x _ hz (HSH.out.below hHeld.2)).mono ?_
      rintro d wA ⟨g, gc, rfl, hoA, hbA⟩
      have hS := kp_step hHeld hbA
      have hA := hS
      refine hK.out _ _ hS (fun hHeld => ?_)
      clear hK K
      try simp only [Act.put, List.getElem_toArray, List.getElem_cons_succ, List.getElem_cons_zero, List.setIfInBounds_toArray, List.set_cons_zero, List.set_cons_succ]
      refine wpAnyH_take (i := 4) (v := ?_) rfl (by kernel_rfl) (by kernel_rfl) (by kernel_rfl) (fun _ _ _ h => h) (Or.inl ⟨by kernel_rfl, ?_⟩) (by assumption) ?_
      rotate_left 1
      · intro w hSw; (try dsimp only at hSw); go_simp; try (with_reducible rfl)
      try simp only [Act.put, List.getElem_toArray, List.getElem_cons_succ, List.getElem_cons_zero, List.setIfInBounds_toArray, List.set_cons_zero, List.set_cons_succ]
      refine wpAnyH_ready (rs := [5]) (by kernel_rfl) (by simp) ?_
      refine AllReadyH.cons rfl (fun K hK => ?_) AllReadyH.nil
      go_simp
      have hS := kp_of_below (hA.2.alloc hA.2.size (.cells #[.int .i64 0, .int .i64 0, .int .i64 0, .int .i64 0, .int .i64 0, .slice none 0 0] 31))
      refine hK.out _ _ hS (fun hHeld => ?_)
      clear hK K
      try simp only [Act.put, List.getElem_toArray, List.getElem_cons_succ, List.getElem_cons_zero, List.setIfInBounds_toArray, List.set_cons_zero, List.set_cons_succ]
      refine wpAnyH_ready (rs := [6]) (by kernel_rfl) (by simp) ?_
      refine AllReadyH.cons rfl (fun K hK => ?_) AllReadyH.nil
      go_simp
      have hS := kp_of_below (hA.2.alloc hA.2.size (.cells #[.int .i64 x.k, .int .i64 x.e, .int .i64 x.f, .int .i64 x.s, .int .i64 x.n, .slice (some ⟨g, 0, none⟩) (sgL zs x).length gc] 31))
      refine hK.out _ _ hS (fun hHeld => ?_)
      clear hK K
      try simp only [Act.put, List.getElem_toArray, List.getElem_cons_succ, List.getElem_cons_zero, List.setIfInBounds_toArray, List.set_cons_zero, List.set_cons_succ]
      refine wpAnyH_done (by kernel_rfl) ?_ _
      go_wp2_with fail
      go_meet
      case rel => exact ⟨_, g, gc, rfl, ⟨ds_below (DS.start HS0.out) ((hA.2).alloc hA.2.size _), heap_alloc_new wA _, ownI_below (owns_lowI hoA (Nat.le_refl _)) ((Below.refl _ _).alloc (Nat.le_refl _) _), hA.2.size, HS0.out.lt⟩⟩
    · go_simp
      have hS := kp_of_below (((Below.refl W.heap.size W).alloc (Nat.le_refl _) (.cells #[.int .i64 0, .int .i64 0, .int .i64 0, .int .i64 0, .int .i64 0, .slice none 0 0] 31)).drew)
      refine hK.out _ _ hS (fun hHeld => ?_)
      clear hK K
      try simp only [Act.put, List.getElem_toArray, List.getElem_cons_succ, List.getElem_cons_zero, List.setIfInBounds_toArray, List.set_cons_zero, List.set_cons_succ]
      refine wpAnyH_ready (rs := [3]) (by kernel_rfl) (by simp) ?_
      refine AllReadyH.cons rfl (fun K hK => ?_) AllReadyH.nil
      go_simp
      refine (l9Signers_c va zs.length vc zs x _ hz (HSH.out.below hHeld.2)).mono ?_
      rintro d wA ⟨g, gc, rfl, hoA, hbA⟩
      have hS := kp_step hHeld hbA
      have hA := hS
      have HY9 := hid ((boxW_new W #[.int .i64 0, .int .i64 0, .int .i64 0, .int .i64 0, .int .i64 0, .slice none 0 0] 31).below (by simp) ((Below.refl _ _).drew.trans hbA))
      have hYh : wA.heap[W.heap.size]? = some (.cells #[.int .i64 0, .int .i64 0, .int .i64 0, .int .i64 0, .int .i64 0, .slice none 0 0] 31 (0, 0)) := (hbA.block _ (by simp)).trans (heap_alloc_new W _)
      have hYl : W.heap.size < wA.heap.size := (Array.getElem?_eq_some_iff.1 hYh).1
      have n0 := HY9.out.1 0 _ rfl
      have n1 := HY9.out.1 1 _ rfl
      have n2 := HY9.out.1 2 _ rfl
      have n3 := HY9.out.1 3 _ rfl
      have n4 := HY9.out.1 4 _ rfl
      have n5 := HY9.out.1 5 _ rfl
      have m0 := HY9.out.2 0
      have m1 := HY9.out.2 1
      have m2 := HY9.out.2 2
      have m3 := HY9.out.2 3
      have m4 := HY9.out.2 4
      have m5 := HY9.out.2 5
      refine hK.out _ _ hS (fun hHeld => ?_)
      clear hK K
      try simp only [Act.put, List.getElem_toArray, List.getElem_cons_succ, List.getElem_cons_zero, List.setIfInBounds_toArray, List.set_cons_zero, List.set_cons_succ]
      refine wpAnyH_take (i := 4) (v := ?_) rfl (by kernel_rfl) (by kernel_rfl) (by kernel_rfl) (fun _ _ _ h => h) (Or.inl ⟨by kernel_rfl, ?_⟩) (by assumption) ?_
      rotate_left 1
      · intro w hSw; (try dsimp only at hSw); go_simp; try (with_reducible rfl)
      try simp only [Act.put, List.getElem_toArray, List.getElem_cons_succ, List.getElem_cons_zero, List.setIfInBounds_toArray, List.set_cons_zero, List.set_cons_succ]
      refine wpAnyH_ready (rs := [6]) (by kernel_rfl) (by simp) ?_
      refine AllReadyH.cons rfl (fun K hK => ?_) AllReadyH.nil
      go_simp
      have hS := kp_of_below (below6 hA.2 W.heap.size (Nat.le_refl _) (.int .i64 x.k) (.int .i64 x.e) (.int .i64 x.f) (.int .i64 x.s) (.int .i64 x.n) (.slice (some ⟨g, 0, none⟩) (sgL zs x).length gc))
      refine hK.out _ _ hS (fun hHeld => ?_)
      clear hK K
      try simp only [Act.put, List.getElem_toArray, List.getElem_cons_succ, List.getElem_cons_zero, List.setIfInBounds_toArray, List.set_cons_zero, List.set_cons_succ]
      refine wpAnyH_done (by kernel_rfl) ?_ _
      go_wp2_with fail
      go_meet
      case rel => exact ⟨_, g, gc, rfl, ⟨ds_below (DS.start HS0.out) (below6 hA.2 W.heap.size (Nat.le_refl _) (.int .i64 x.k) (.int .i64 x.e) (.int .i64 x.f) (.int .i64 x.s) (.int .i64 x.n) (.slice (some ⟨g, 0, none⟩) (sgL zs x).length gc)), set6c hYh (.int .i64 x.k) (.int .i64 x.e) (.int .i64 x.f) (.int .i64 x.s) (.int .i64 x.n) (.slice (some ⟨g, 0, none⟩) (sgL zs x).length gc), owns_lowI (own6 hoA W.heap.size (by simp) (.int .i64 x.k) (.int .i64 x.e) (.int .i64 x.f) (.int .i64 x.s) (.int .i64 x.n) (.slice (some ⟨g, 0, none⟩) (sgL zs x).length gc)) (by simp), Nat.le_refl _, HS0.out.lt⟩⟩
  case rest =>
    obtain ⟨C, g, gc, rfl, hC⟩ := hcut
    have C1 := hid hC
    have hgl : (sgL zs x).length ≤ 1000 := Nat.le_trans (sgL_len zs x) hz
    clear hC x0 x1 x2 x3 x4 XB
    generalize sgL zs x = us at C1 hgl
    go_wp2_with fail
    refine (next_w _ B a len cap k ys 8 C1.out.ds.src hl (by omega) (by omega) (by omega)).mono ?_
    rintro e w2 ⟨t, t0, t1, rfl, hS, hG⟩
    have C2 := hid (C1.out.draw hS hG)
    clear hS hG C1
    by_cases e0 : t = 0
    · subst e0
      have c5' := C2.out.cells.1.1 5 _ rfl
      have hCl2 := C2.out.cells.2
      go_upto_region 4 with fail

      refine wp_region_held_drew (S := fun _ => True) (by kernel_rfl) (trivial) (fun hHeld => ?_)
      refine wpAnyH_take (i := 0) (v := ?_) rfl (by kernel_rfl) (by kernel_rfl) (by kernel_rfl) (fun _ _ _ h => h) (Or.inl ⟨by kernel_rfl, ?_⟩) (by assumption) ?_
      rotate_left 1
      · intro w hSw; (try dsimp only at hSw); go_simp; try (with_reducible rfl)
      try simp only [Act.put, List.getElem_toArray, List.getElem_cons_succ, List.getElem_cons_zero, List.setIfInBounds_toArray, List.set_cons_zero, List.set_cons_succ]
      refine wpAnyH_take (i := 2) (v := ?_) rfl (by kernel_rfl) (by kernel_rfl) (by kernel_rfl) (fun _ _ _ h => h) (Or.inl ⟨by kernel_rfl, ?_⟩) (by assumption) ?_
      rotate_left 1
      · intro w hSw; (try dsimp only at hSw); go_simp; try (with_reducible rfl)
      try simp only [Act.put, List.getElem_toArray, List.getElem_cons_succ, List.getElem_cons_zero, List.setIfInBounds_toArray, List.set_cons_zero, List.set_cons_succ]
      refine wpAnyH_ready (rs := [1, 3]) (by kernel_rfl) (by simp) ?_
      refine AllReadyH.cons rfl (fun K hK => ?_) (AllReadyH.cons rfl (fun K hK => ?_) AllReadyH.nil)
      · go_simp
        have hS : True := trivial
        refine hK.out _ _ hS (fun hHeld => ?_)
        clear hK K
        try simp only [Act.put, List.getElem_toArray, List.getElem_cons_succ, List.getElem_cons_zero, List.setIfInBounds_toArray, List.set_cons_zero, List.set_cons_succ]
        refine wpAnyH_ready (rs := [3]) (by kernel_rfl) (by simp) ?_
        refine AllReadyH.cons rfl (fun K hK => ?_) AllReadyH.nil
        go_simp
        have hS : True := trivial
        refine hK.out _ _ hS (fun hHeld => ?_)
        clear hK K
        try simp only [Act.put, List.getElem_toArray, List.getElem_cons_succ, List.getElem_cons_zero, List.setIfInBounds_toArray, List.set_cons_zero, List.set_cons_succ]
        refine wpAnyH_ready (rs := [4]) (by kernel_rfl) (by simp) ?_
        refine AllReadyH.cons rfl (fun K hK => ?_) AllReadyH.nil
        go_simp
        refine (pick_anyD w2 B a len cap (k + 1) ys C2.out.ds.src hl (by omega) [1, 7, 8] (by simp) (by simp)).mono ?_
        rintro d w4 ⟨p, hp, rfl, hS4, hG4⟩
        have C4 := hid (C2.out.draw hS4 hG4)
        have c54 := C4.out.cells.1.1 5 _ rfl
        have hCl4 := C4.out.cells.2
        have hS : True := trivial
        refine hK.out _ _ hS (fun hHeld => ?_)
        clear hK K
        try simp only [Act.put, List.getElem_toArray, List.getElem_cons_succ, List.getElem_cons_zero, List.setIfInBounds_toArray, List.set_cons_zero, List.set_cons_succ]
        refine wpAnyH_ready (rs := [5]) (by kernel_rfl) (by simp) ?_
        refine AllReadyH.cons rfl (fun K hK => ?_) AllReadyH.nil
        go_simp
        have hS : True := trivial
        refine hK.out _ _ hS (fun hHeld => ?_)
        clear hK K
        try simp only [Act.put, List.getElem_toArray, List.getElem_cons_succ, List.getElem_cons_zero, List.setIfInBounds_toArray, List.set_cons_zero, List.set_cons_succ]
        refine wpAnyH_ready (rs := [6]) (by kernel_rfl) (by simp) ?_
        refine AllReadyH.cons rfl (fun K hK => ?_) AllReadyH.nil
        refine step_appendI rfl (.tmp 18) (.tmp 22) 29 rfl W.heap.size 2 i0 (.int .i64 0) 1 8 hun hi hz0 hz1 hz2 rfl (by decide) _ us.length (us.map (Value.int .i64)) (by rfl) (C4.out.ow.alloc _) ⟨w4.heap.size, 0, none⟩ 1 1 [.int .i64 p] (by rfl) (by rfl) (cell_one w4 p _) (by simp [Value.oneCell']) (by unfold maxLen; omega) (by omega) (by have := C4.out.ds.gr.size; simp; omega) ?_
        intro v7 w7 hown7 hgrow7 hnil7
        have HP := hid (CS.push (C4.out.below ((Below.refl _ _).alloc (Nat.le_refl _) _)) HS0.out.code_lt hown7 hgrow7)
        clear hown7 hgrow7 hnil7
        obtain ⟨⟨g7, gc7, rfl, C7⟩, hbw7, hCl7⟩ := HP.out
        have d5 := hbw7.1 5 _ rfl
        have e5 := hbw7.2 5
        have C7 := hid C7
        clear HP hbw7
        have hS : True := trivial
        refine hK.out _ _ hS (fun hHeld => ?_)
        clear hK K
        try simp only [Act.put, List.getElem_toArray, List.getElem_cons_succ, List.getElem_cons_zero, List.setIfInBounds_toArray, List.set_cons_zero, List.set_cons_succ]
        refine wpAnyH_take (i := 7) (v := ?_) rfl (by kernel_rfl) (by kernel_rfl) (by kernel_rfl) (fun _ _ _ h => h) (Or.inl ⟨by kernel_rfl, ?_⟩) (by assumption) ?_
        rotate_left 1
        · intro w hSw; (try dsimp only at hSw); go_simp; try (with_reducible rfl)
        try simp only [Act.put, List.getElem_toArray, List.getElem_cons_succ, List.getElem_cons_zero, List.setIfInBounds_toArray, List.set_cons_zero, List.set_cons_succ]
        refine wpAnyH_ready (rs := [8]) (by kernel_rfl) (by simp) ?_
        refine AllReadyH.cons rfl (fun K hK => ?_) AllReadyH.nil
        go_simp
        have hS : True := trivial
        refine hK.out _ _ hS (fun hHeld => ?_)
        clear hK K
        try simp only [Act.put, List.getElem_toArray, List.getElem_cons_succ, List.getElem_cons_zero, List.setIfInBounds_toArray, List.set_cons_zero, List.set_cons_succ]
        refine wpAnyH_done (by kernel_rfl) ?_ _
        generalize w7.setCell ⟨C, 5, none⟩ (.slice (some ⟨g7, 0, none⟩) (us.length + 1) gc7) = w8 at C7 ⊢
        clear d5 e5 c54 hCl4 c5' hCl2 C4 C2 hCl7
        have hu9 : (us ++ [p]).length = us.length + 1 := by simp
        rw [← hu9]
        generalize us ++ [p] = us9 at C7 hu9 ⊢
        have hu8 : us9.length ≤ 1001 := by omega
        clear hu9
        have cB := C7.out.cells
        have c0 := cB.1.1 0 _ rfl
        have c1 := cB.1.1 1 _ rfl
        have c2 := cB.1.1 2 _ rfl
        have c3 := cB.1.1 3 _ rfl
        have c4 := cB.1.1 4 _ rfl
        have c5 := cB.1.1 5 _ rfl
        have f5 := cB.1.2 5
        have hCl := cB.2
        have HRb := hid (ds_old C7.out.ds RB0.out hRl hRB)
        have r0 := HRb.out.1 0 _ rfl
        have m0 := HRb.out.2 0
        have r1 := HRb.out.1 1 _ rfl
        have m1 := HRb.out.2 1
        have r2 := HRb.out.1 2 _ rfl
        have m2 := HRb.out.2 2
        have r3 := HRb.out.1 3 _ rfl
        have m3 := HRb.out.2 3
        have r4 := HRb.out.1 4 _ rfl
        have m4 := HRb.out.2 4
        have r5 := HRb.out.1 5 _ rfl
        have m5 := HRb.out.2 5
        have hRl2 := Nat.lt_of_lt_of_le hRl C7.out.ds.gr.size
        have hCR : R ≠ C := by have := C7.out.gC; omega
        have hCR' := Ne.symm hCR
        clear cB
        go_wp2
        refine bodyPost_ret (v := .agg #[.int .i64 x.k, .int .i64 x.e, .int .i64 x.f, .int .i64 x.s, .int .i64 x.n, .slice (some ⟨g7, 0, none⟩) (us9.length) (gc7)]) (by simp [results, Try.results55, go_sem, r0, r1, r2, r3, r4, r5, hRl2, hCR, hCR']) rfl ⟨_, _, _, us9, rfl, by first | omega | (simp; omega), ?_, ?_, fun b off e => by cases e; exact Nat.le_trans HA0.out.size (ownI_parts C7.out.ow).1⟩
        · have h0 : World.ownsRow _ _ _ _ _ _ _ := C7.out.ow
          exact ownI_ints (own6 h0 R hRl (.int .i64 x.k) (.int .i64 x.e) (.int .i64 x.f) (.int .i64 x.s) (.int .i64 x.n) (.slice (some ⟨g7, 0, none⟩) (us9.length) (gc7)))
        · have hg := grown_trans (grown_none (grown_below HA0.out) (some B)) C7.out.ds.gr
          exact grown6 hg hRw (.int .i64 x.k) (.int .i64 x.e) (.int .i64 x.f) (.int .i64 x.s) (.int .i64 x.n) (.slice (some ⟨g7, 0, none⟩) (us9.length) (gc7))
      · go_simp
        have hS : True := trivial
        refine hK.out _ _ hS (fun hHeld => ?_)
        clear hK K
        try simp only [Act.put, List.getElem_toArray, List.getElem_cons_succ, List.getElem_cons_zero, List.setIfInBounds_toArray, List.set_cons_zero, List.set_cons_succ]
        refine wpAnyH_ready (rs := [1, 4]) (by kernel_rfl) (by simp) ?_
        refine AllReadyH.cons rfl (fun K hK => ?_) (AllReadyH.cons rfl (fun K hK => ?_) AllReadyH.nil)
        · go_simp
          have hS : True := trivial
          refine hK.out _ _ hS (fun hHeld => ?_)
          clear hK K
          try simp only [Act.put, List.getElem_toArray, List.getElem_cons_succ, List.getElem_cons_zero, List.setIfInBounds_toArray, List.set_cons_zero, List.set_cons_succ]
          refine wpAnyH_ready (rs := [4]) (by kernel_rfl) (by simp) ?_
          refine AllReadyH.cons rfl (fun K hK => ?_) AllReadyH.nil
          go_simp
          refine (pick_anyD w2 B a len cap (k + 1) ys C2.out.ds.src hl (by omega) [1, 7, 8] (by simp) (by simp)).mono ?_
          rintro d w4 ⟨p, hp, rfl, hS4, hG4⟩
          have C4 := hid (C2.out.draw hS4 hG4)
          have c54 := C4.out.cells.1.1 5 _ rfl
          have hCl4 := C4.out.cells.2
          have hS : True := trivial
          refine hK.out _ _ hS (fun hHeld => ?_)
          clear hK K
          try simp only [Act.put, List.getElem_toArray, List.getElem_cons_succ, List.getElem_cons_zero, List.setIfInBounds_toArray, List.set_cons_zero, List.set_cons_succ]
          refine wpAnyH_ready (rs := [5]) (by kernel_rfl) (by simp) ?_
          refine AllReadyH.cons rfl (fun K hK => ?_) AllReadyH.nil
          go_simp
          have hS : True := trivial
          refine hK.out _ _ hS (fun hHeld => ?_)
          clear hK K
          try simp only [Act.put, List.getElem_toArray, List.getElem_cons_succ, List.getElem_cons_zero, List.setIfInBounds_toArray, List.set_cons_zero, List.set_cons_succ]
          refine wpAnyH_ready (rs := [6]) (by kernel_rfl) (by simp) ?_
          refine AllReadyH.cons rfl (fun K hK => ?_) AllReadyH.nil
          refine step_appendI rfl (.tmp 18) (.tmp 22) 29 rfl W.heap.size 2 i0 (.int .i64 0) 1 8 hun hi hz0 hz1 hz2 rfl (by decide) _ us.length (us.map (Value.int .i64)) (by rfl) (C4.out.ow.alloc _) ⟨w4.heap.size, 0, none⟩ 1 1 [.int .i64 p] (by rfl) (by rfl) (cell_one w4 p _) (by simp [Value.oneCell']) (by unfold maxLen; omega) (by omega) (by have := C4.out.ds.gr.size; simp; omega) ?_
          intro v7 w7 hown7 hgrow7 hnil7
          have HP := hid (CS.push (C4.out.below ((Below.refl _ _).alloc (Nat.le_refl _) _)) HS0.out.code_lt hown7 hgrow7)
          clear hown7 hgrow7 hnil7
          obtain ⟨⟨g7, gc7, rfl, C7⟩, hbw7, hCl7⟩ := HP.out
          have d5 := hbw7.1 5 _ rfl
          have e5 := hbw7.2 5
          have C7 := hid C7
          clear HP hbw7
          have hS : True := trivial
          refine hK.out _ _ hS (fun hHeld => ?_)
          clear hK K
          try simp only [Act.put, List.getElem_toArray, List.getElem_cons_succ, List.getElem_cons_zero, List.setIfInBounds_toArray, List.set_cons_zero, List.set_cons_succ]
          refine wpAnyH_take (i := 7) (v := ?_) rfl (by kernel_rfl) (by kernel_rfl) (by kernel_rfl) (fun _ _ _ h => h) (Or.inl ⟨by kernel_rfl, ?_⟩) (by assumption) ?_
          rotate_left 1
          · intro w hSw; (try dsimp only at hSw); go_simp; try (with_reducible rfl)
          try simp only [Act.put, List.getElem_toArray, List.getElem_cons_succ, List.getElem_cons_zero, List.setIfInBounds_toArray, List.set_cons_zero, List.set_cons_succ]
          refine wpAnyH_ready (rs := [8]) (by kernel_rfl) (by simp) ?_
          refine AllReadyH.cons rfl (fun K hK => ?_) AllReadyH.nil
          go_simp
          have hS : True := trivial
          refine hK.out _ _ hS (fun hHeld => ?_)
          clear hK K
          try simp only [Act.put, List.getElem_toArray, List.getElem_cons_succ, List.getElem_cons_zero, List.setIfInBounds_toArray, List.set_cons_zero, List.set_cons_succ]
          refine wpAnyH_done (by kernel_rfl) ?_ _
          generalize w7.setCell ⟨C, 5, none⟩ (.slice (some ⟨g7, 0, none⟩) (us.length + 1) gc7) = w8 at C7 ⊢
          clear d5 e5 c54 hCl4 c5' hCl2 C4 C2 hCl7
          have hu9 : (us ++ [p]).length = us.length + 1 := by simp
          rw [← hu9]
          generalize us ++ [p] = us9 at C7 hu9 ⊢
          have hu8 : us9.length ≤ 1001 := by omega
          clear hu9
          have cB := C7.out.cells
          have c0 := cB.1.1 0 _ rfl
          have c1 := cB.1.1 1 _ rfl
          have c2 := cB.1.1 2 _ rfl
          have c3 := cB.1.1 3 _ rfl
          have c4 := cB.1.1 4 _ rfl
          have c5 := cB.1.1 5 _ rfl
          have f5 := cB.1.2 5
          have hCl := cB.2
          have HRb := hid (ds_old C7.out.ds RB0.out hRl hRB)
          have r0 := HRb.out.1 0 _ rfl
          have m0 := HRb.out.2 0
          have r1 := HRb.out.1 1 _ rfl
          have m1 := HRb.out.2 1
          have r2 := HRb.out.1 2 _ rfl
          have m2 := HRb.out.2 2
          have r3 := HRb.out.1 3 _ rfl
          have m3 := HRb.out.2 3
          have r4 := HRb.out.1 4 _ rfl
          have m4 := HRb.out.2 4
          have r5 := HRb.out.1 5 _ rfl
          have m5 := HRb.out.2 5
          have hRl2 := Nat.lt_of_lt_of_le hRl C7.out.ds.gr.size
          have hCR : R ≠ C := by have := C7.out.gC; omega
          have hCR' := Ne.symm hCR
          clear cB
          go_wp2
          refine bodyPost_ret (v := .agg #[.int .i64 x.k, .int .i64 x.e, .int .i64 x.f, .int .i64 x.s, .int .i64 x.n, .slice (some ⟨g7, 0, none⟩) (us9.length) (gc7)]) (by simp [results, Try.results55, go_sem, r0, r1, r2, r3, r4, r5, hRl2, hCR, hCR']) rfl ⟨_, _, _, us9, rfl, by first | omega | (simp; omega), ?_, ?_, fun b off e => by cases e; exact Nat.le_trans HA0.out.size (ownI_parts C7.out.ow).1⟩
          · have h0 : World.ownsRow _ _ _ _ _ _ _ := C7.out.ow
            exact ownI_ints (own6 h0 R hRl (.int .i64 x.k) (.int .i64 x.e) (.int .i64 x.f) (.int .i64 x.s) (.int .i64 x.n) (.slice (some ⟨g7, 0, none⟩) (us9.length) (gc7)))
          · have hg := grown_trans (grown_none (grown_below HA0.out) (some B)) C7.out.ds.gr
            exact grown6 hg hRw (.int .i64 x.k) (.int .i64 x.e) (.int .i64 x.f) (.int .i64 x.s) (.int .i64 x.n) (.slice (some ⟨g7, 0, none⟩) (us9.length) (gc7))
        · go_simp
          refine (pick_anyD w2 B a len cap (k + 1) ys C2.out.ds.src hl (by omega) [1, 7, 8] (by simp) (by simp)).mono ?_
          rintro d w4 ⟨p, hp, rfl, hS4, hG4⟩
          have C4 := hid (C2.out.draw hS4 hG4)
          have c54 := C4.out.cells.1.1 5 _ rfl
          have hCl4 := C4.out.cells.2
          have hS : True := trivial
          refine hK.out _ _ hS (fun hHeld => ?_)
          clear hK K
          try simp only [Act.put, List.getElem_toArray, List.getElem_cons_succ, List.getElem_cons_zero, List.setIfInBounds_toArray, List.set_cons_zero, List.set_cons_succ]
          refine wpAnyH_ready (rs := [1, 5]) (by kernel_rfl) (by simp) ?_
          refine AllReadyH.cons rfl (fun K hK => ?_) (AllReadyH.cons rfl (fun K hK => ?_) AllReadyH.nil)
          · go_simp
            have hS : True := trivial
            refine hK.out _ _ hS (fun hHeld => ?_)
            clear hK K
            try simp only [Act.put, List.getElem_toArray, List.getElem_cons_succ, List.getElem_cons_zero, List.setIfInBounds_toArray, List.set_cons_zero, List.set_cons_succ]
            refine wpAnyH_ready (rs := [5]) (by kernel_rfl) (by simp) ?_
            refine AllReadyH.cons rfl (fun K hK => ?_) AllReadyH.nil
            go_simp
            have hS : True := trivial
            refine hK.out _ _ hS (fun hHeld => ?_)
            clear hK K
            try simp only [Act.put, List.getElem_toArray, List.getElem_cons_succ, List.getElem_cons_zero, List.setIfInBounds_toArray, List.set_cons_zero, List.set_cons_succ]
            refine wpAnyH_ready (rs := [6]) (by kernel_rfl) (by simp) ?_
            refine AllReadyH.cons rfl (fun K hK => ?_) AllReadyH.nil
            refine step_appendI rfl (.tmp 18) (.tmp 22) 29 rfl W.heap.size 2 i0 (.int .i64 0) 1 8 hun hi hz0 hz1 hz2 rfl (by decide) _ us.length (us.map (Value.int .i64)) (by rfl) (C4.out.ow.alloc _) ⟨w4.heap.size, 0, none⟩ 1 1 [.int .i64 p] (by rfl) (by rfl) (cell_one w4 p _) (by simp [Value.oneCell']) (by unfold maxLen; omega) (by omega) (by have := C4.out.ds.gr.size; simp; omega) ?_
            intro v7 w7 hown7 hgrow7 hnil7
            have HP := hid (CS.push (C4.out.below ((Below.refl _ _).alloc (Nat.le_refl _) _)) HS0.out.code_lt hown7 hgrow7)
            clear hown7 hgrow7 hnil7
            obtain ⟨⟨g7, gc7, rfl, C7⟩, hbw7, hCl7⟩ := HP.out
            have d5 := hbw7.1 5 _ rfl
            have e5 := hbw7.2 5
            have C7 := hid C7
            clear HP hbw7
            have hS : True := trivial
            refine hK.out _ _ hS (fun hHeld => ?_)
            clear hK K
            try simp only [Act.put, List.getElem_toArray, List.getElem_cons_succ, List.getElem_cons_zero, List.setIfInBounds_toArray, List.set_cons_zero, List.set_cons_succ]
            refine wpAnyH_take (i := 7) (v := ?_) rfl (by kernel_rfl) (by kernel_rfl) (by kernel_rfl) (fun _ _ _ h => h) (Or.inl ⟨by kernel_rfl, ?_⟩) (by assumption) ?_
            rotate_left 1
            · intro w hSw; (try dsimp only at hSw); go_simp; try (with_reducible rfl)
            try simp only [Act.put, List.getElem_toArray, List.getElem_cons_succ, List.getElem_cons_zero, List.setIfInBounds_toArray, List.set_cons_zero, List.set_cons_succ]
            refine wpAnyH_ready (rs := [8]) (by kernel_rfl) (by simp) ?_
            refine AllReadyH.cons rfl (fun K hK => ?_) AllReadyH.nil
            go_simp
            have hS : True := trivial
            refine hK.out _ _ hS (fun hHeld => ?_)
            clear hK K
            try simp only [Act.put, List.getElem_toArray, List.getElem_cons_succ, List.getElem_cons_zero, List.setIfInBounds_toArray, List.set_cons_zero, List.set_cons_succ]
            refine wpAnyH_done (by kernel_rfl) ?_ _
            generalize w7.setCell ⟨C, 5, none⟩ (.slice (some ⟨g7, 0, none⟩) (us.length + 1) gc7) = w8 at C7 ⊢
            clear d5 e5 c54 hCl4 c5' hCl2 C4 C2 hCl7
            have hu9 : (us ++ [p]).length = us.length + 1 := by simp
            rw [← hu9]
            generalize us ++ [p] = us9 at C7 hu9 ⊢
            have hu8 : us9.length ≤ 1001 := by omega
            clear hu9
            have cB := C7.out.cells
            have c0 := cB.1.1 0 _ rfl
            have c1 := cB.1.1 1 _ rfl
            have c2 := cB.1.1 2 _ rfl
            have c3 := cB.1.1 3 _ rfl
            have c4 := cB.1.1 4 _ rfl
            have c5 := cB.1.1 5 _ rfl
            have f5 := cB.1.2 5
            have hCl := cB.2
            have HRb := hid (ds_old C7.out.ds RB0.out hRl hRB)
            have r0 := HRb.out.1 0 _ rfl
            have m0 := HRb.out.2 0
            have r1 := HRb.out.1 1 _ rfl
            have m1 := HRb.out.2 1
            have r2 := HRb.out.1 2 _ rfl
            have m2 := HRb.out.2 2
            have r3 := HRb.out.1 3 _ rfl
            have m3 := HRb.out.2 3
            have r4 := HRb.out.1 4 _ rfl
            have m4 := HRb.out.2 4
            have r5 := HRb.out.1 5 _ rfl
            have m5 := HRb.out.2 5
            have hRl2 := Nat.lt_of_lt_of_le hRl C7.out.ds.gr.size
            have hCR : R ≠ C := by have := C7.out.gC; omega
            have hCR' := Ne.symm hCR
            clear cB
            go_wp2
            refine bodyPost_ret (v := .agg #[.int .i64 x.k, .int .i64 x.e, .int .i64 x.f, .int .i64 x.s, .int .i64 x.n, .slice (some ⟨g7, 0, none⟩) (us9.length) (gc7)]) (by simp [results, Try.results55, go_sem, r0, r1, r2, r3, r4, r5, hRl2, hCR, hCR']) rfl ⟨_, _, _, us9, rfl, by first | omega | (simp; omega), ?_, ?_, fun b off e => by cases e; exact Nat.le_trans HA0.out.size (ownI_parts C7.out.ow).1⟩
            · have h0 : World.ownsRow _ _ _ _ _ _ _ := C7.out.ow
              exact ownI_ints (own6 h0 R hRl (.int .i64 x.k) (.int .i64 x.e) (.int .i64 x.f) (.int .i64 x.s) (.int .i64 x.n) (.slice (some ⟨g7, 0, none⟩) (us9.length) (gc7)))
            · have hg := grown_trans (grown_none (grown_below HA0.out) (some B)) C7.out.ds.gr
              exact grown6 hg hRw (.int .i64 x.k) (.int .i64 x.e) (.int .i64 x.f) (.int .i64 x.s) (.int .i64 x.n) (.slice (some ⟨g7, 0, none⟩) (us9.length) (gc7))
          · go_simp
            have hS : True := trivial
            refine hK.out _ _ hS (fun hHeld => ?_)
            clear hK K
            try simp only [Act.put, List.getElem_toArray, List.getElem_cons_succ, List.getElem_cons_zero, List.setIfInBounds_toArray, List.set_cons_zero, List.set_cons_succ]
            refine wpAnyH_ready (rs := [1]) (by kernel_rfl) (by simp) ?_
            refine AllReadyH.cons rfl (fun K hK => ?_) AllReadyH.nil
            go_simp
            have hS : True := trivial
            refine hK.out _ _ hS (fun hHeld => ?_)
            clear hK K
            try simp only [Act.put, List.getElem_toArray, List.getElem_cons_succ, List.getElem_cons_zero, List.setIfInBounds_toArray, List.set_cons_zero, List.set_cons_succ]
            refine wpAnyH_ready (rs := [6]) (by kernel_rfl) (by simp) ?_
            refine AllReadyH.cons rfl (fun K hK => ?_) AllReadyH.nil
            refine step_appendI rfl (.tmp 18) (.tmp 22) 29 rfl W.heap.size 2 i0 (.int .i64 0) 1 8 hun hi hz0 hz1 hz2 rfl (by decide) _ us.length (us.map (Value.int .i64)) (by rfl) (C4.out.ow.alloc _) ⟨w4.heap.size, 0, none⟩ 1 1 [.int .i64 p] (by rfl) (by rfl) (cell_one w4 p _) (by simp [Value.oneCell']) (by unfold maxLen; omega) (by omega) (by have := C4.out.ds.gr.size; simp; omega) ?_
            intro v7 w7 hown7 hgrow7 hnil7
            have HP := hid (CS.push (C4.out.below ((Below.refl _ _).alloc (Nat.le_refl _) _)) HS0.out.code_lt hown7 hgrow7)
            clear hown7 hgrow7 hnil7
            obtain ⟨⟨g7, gc7, rfl, C7⟩, hbw7, hCl7⟩ := HP.out
            have d5 := hbw7.1 5 _ rfl
            have e5 := hbw7.2 5
            have C7 := hid C7
            clear HP hbw7
            have hS : True := trivial
            refine hK.out _ _ hS (fun hHeld => ?_)
            clear hK K
            try simp only [Act.put, List.getElem_toArray, List.getElem_cons_succ, List.getElem_cons_zero, List.setIfInBounds_toArray, List.set_cons_zero, List.set_cons_succ]
            refine wpAnyH_take (i := 7) (v := ?_) rfl (by kernel_rfl) (by kernel_rfl) (by kernel_rfl) (fun _ _ _ h => h) (Or.inl ⟨by kernel_rfl, ?_⟩) (by assumption) ?_
            rotate_left 1
            · intro w hSw; (try dsimp only at hSw); go_simp; try (with_reducible rfl)
            try simp only [Act.put, List.getElem_toArray, List.getElem_cons_succ, List.getElem_cons_zero, List.setIfInBounds_toArray, List.set_cons_zero, List.set_cons_succ]
            refine wpAnyH_ready (rs := [8]) (by kernel_rfl) (by simp) ?_
            refine AllReadyH.cons rfl (fun K hK => ?_) AllReadyH.nil
            go_simp
            have hS : True := trivial
            refine hK.out _ _ hS (fun hHeld => ?_)
            clear hK K
            try simp only [Act.put, List.getElem_toArray, List.getElem_cons_succ, List.getElem_cons_zero, List.setIfInBounds_toArray, List.set_cons_zero, List.set_cons_succ]
            refine wpAnyH_done (by kernel_rfl) ?_ _
            generalize w7.setCell ⟨C, 5, none⟩ (.slice (some ⟨g7, 0, none⟩) (us.length + 1) gc7) = w8 at C7 ⊢
            clear d5 e5 c54 hCl4 c5' hCl2 C4 C2 hCl7
            have hu9 : (us ++ [p]).length = us.length + 1 := by simp
            rw [← hu9]
            generalize us ++ [p] = us9 at C7 hu9 ⊢
            have hu8 : us9.length ≤ 1001 := by omega
            clear hu9
            have cB := C7.out.cells
            have c0 := cB.1.1 0 _ rfl
            have c1 := cB.1.1 1 _ rfl
            have c2 := cB.1.1 2 _ rfl
            have c3 := cB.1.1 3 _ rfl
            have c4 := cB.1.1 4 _ rfl
            have c5 := cB.1.1 5 _ rfl
            have f5 := cB.1.2 5
            have hCl := cB.2
            have HRb := hid (ds_old C7.out.ds RB0.out hRl hRB)
            have r0 := HRb.out.1 0 _ rfl
            have m0 := HRb.out.2 0
            have r1 := HRb.out.1 1 _ rfl
            have m1 := HRb.out.2 1
            have r2 := HRb.out.1 2 _ rfl
            have m2 := HRb.out.2 2
            have r3 := HRb.out.1 3 _ rfl
            have m3 := HRb.out.2 3
            have r4 := HRb.out.1 4 _ rfl
            have m4 := HRb.out.2 4
            have r5 := HRb.out.1 5 _ rfl
            have m5 := HRb.out.2 5
            have hRl2 := Nat.lt_of_lt_of_le hRl C7.out.ds.gr.size
            have hCR : R ≠ C := by have := C7.out.gC; omega
            have hCR' := Ne.symm hCR
            clear cB
            go_wp2
            refine bodyPost_ret (v := .agg #[.int .i64 x.k, .int .i64 x.e, .int .i64 x.f, .int .i64 x.s, .int .i64 x.n, .slice (some ⟨g7, 0, none⟩) (us9.length) (gc7)]) (by simp [results, Try.results55, go_sem, r0, r1, r2, r3, r4, r5, hRl2, hCR, hCR']) rfl ⟨_, _, _, us9, rfl, by first | omega | (simp; omega), ?_, ?_, fun b off e => by cases e; exact Nat.le_trans HA0.out.size (ownI_parts C7.out.ow).1⟩
            · have h0 : World.ownsRow _ _ _ _ _ _ _ := C7.out.ow
              exact ownI_ints (own6 h0 R hRl (.int .i64 x.k) (.int .i64 x.e) (.int .i64 x.f) (.int .i64 x.s) (.int .i64 x.n) (.slice (some ⟨g7, 0, none⟩) (us9.length) (gc7)))
            · have hg := grown_trans (grown_none (grown_below HA0.out) (some B)) C7.out.ds.gr
              exact grown6 hg hRw (.int .i64 x.k) (.int .i64 x.e) (.int .i64 x.f) (.int .i64 x.s) (.int .i64 x.n) (.slice (some ⟨g7, 0, none⟩) (us9.length) (gc7))
    by_cases e1 : t = 1
    · subst e1
      by_cases hu : 0 < us.length
      · have hu' : (0 : Int) < (us.length : Int) := by omega
        have hgc : us.length ≤ gc := (ownI_parts C2.out.ow).2.2.2.1
        have hgc' : (us.length : Int) ≤ (gc : Int) := by omega
        by_cases hg1 : gc = 1
        · have hu1 : us.length = 1 := by omega
          have cB := C2.out.cells
          have c0 := cB.1.1 0 _ rfl
          have c1 := cB.1.1 1 _ rfl
          have c2 := cB.1.1 2 _ rfl
          have c3 := cB.1.1 3 _ rfl
          have c4 := cB.1.1 4 _ rfl
          have c5 := cB.1.1 5 _ rfl
          have f5 := cB.1.2 5
          have hCl := cB.2
          have HRb := hid (ds_old C2.out.ds RB0.out hRl hRB)
          have r0 := HRb.out.1 0 _ rfl
          have m0 := HRb.out.2 0
          have r1 := HRb.out.1 1 _ rfl
          have m1 := HRb.out.2 1
          have r2 := HRb.out.1 2 _ rfl
          have m2 := HRb.out.2 2
          have r3 := HRb.out.1 3 _ rfl
          have m3 := HRb.out.2 3
          have r4 := HRb.out.1 4 _ rfl
          have m4 := HRb.out.2 4
          have r5 := HRb.out.1 5 _ rfl
          have m5 := HRb.out.2 5
          have hRl2 := Nat.lt_of_lt_of_le hRl C2.out.ds.gr.size
          have hCR : R ≠ C := by have := C2.out.gC; omega
          have hCR' := Ne.symm hCR
          clear cB
          go_wp2
          refine bodyPost_ret (v := .agg #[.int .i64 x.k, .int .i64 x.e, .int .i64 x.f, .int .i64 x.s, .int .i64 x.n, .slice (some ⟨g, 0, none⟩) (0) (0)]) (by simp [results, Try.results55, go_sem, r0, r1, r2, r3, r4, r5, hRl2, hCR, hCR']) rfl ⟨_, _, _, [], rfl, by first | omega | (simp; omega), ?_, ?_, fun b off e => by cases e; exact Nat.le_trans HA0.out.size (ownI_parts C2.out.ow).1⟩
          · have h0 : World.ownsRow _ _ _ _ _ _ _ := C2.out.ow
            exact ⟨rfl, fun hh => absurd hh (Nat.lt_irrefl 0)⟩
          · have hg := grown_trans (grown_none (grown_below HA0.out) (some B)) C2.out.ds.gr
            exact grown6 (grown_one hg (Nat.le_trans HA0.out.size C2.out.gC) 5 (.slice (some ⟨g, 0, none⟩) (0) (0))) hRw (.int .i64 x.k) (.int .i64 x.e) (.int .i64 x.f) (.int .i64 x.s) (.int .i64 x.n) (.slice (some ⟨g, 0, none⟩) (0) (0))
        · skip
          have cB := C2.out.cells
          have c0 := cB.1.1 0 _ rfl
          have c1 := cB.1.1 1 _ rfl
          have c2 := cB.1.1 2 _ rfl
          have c3 := cB.1.1 3 _ rfl
          have c4 := cB.1.1 4 _ rfl
          have c5 := cB.1.1 5 _ rfl
          have f5 := cB.1.2 5
          have hCl := cB.2
          have HRb := hid (ds_old C2.out.ds RB0.out hRl hRB)
          have r0 := HRb.out.1 0 _ rfl
          have m0 := HRb.out.2 0
          have r1 := HRb.out.1 1 _ rfl
          have m1 := HRb.out.2 1
          have r2 := HRb.out.1 2 _ rfl
          have m2 := HRb.out.2 2
          have r3 := HRb.out.1 3 _ rfl
          have m3 := HRb.out.2 3
          have r4 := HRb.out.1 4 _ rfl
          have m4 := HRb.out.2 4
          have r5 := HRb.out.1 5 _ rfl
          have m5 := HRb.out.2 5
          have hRl2 := Nat.lt_of_lt_of_le hRl C2.out.ds.gr.size
          have hCR : R ≠ C := by have := C2.out.gC; omega
          have hCR' := Ne.symm hCR
          clear cB
          go_wp2
          refine bodyPost_ret (v := .agg #[.int .i64 x.k, .int .i64 x.e, .int .i64 x.f, .int .i64 x.s, .int .i64 x.n, .slice (some ⟨g, 1, none⟩) (us.length - 1) (gc - 1)]) (by simp [results, Try.results55, go_sem, r0, r1, r2, r3, r4, r5, hRl2, hCR, hCR']) rfl ⟨_, _, _, (us.drop 1), rfl, by first | omega | (simp; omega), ?_, ?_, fun b off e => by cases e; exact Nat.le_trans HA0.out.size (ownI_parts C2.out.ow).1⟩
          · have h0 : World.ownsRow _ _ _ _ _ _ _ := C2.out.ow
            have h1 := owns_at h0 (C2.out.ne h0) 5 (.slice (some ⟨g, 1, none⟩) (us.length - 1) (gc - 1))
            exact ints_tail9 (ownI_ints (own6 h1 R hRl (.int .i64 x.k) (.int .i64 x.e) (.int .i64 x.f) (.int .i64 x.s) (.int .i64 x.n) (.slice (some ⟨g, 1, none⟩) (us.length - 1) (gc - 1))))
          · have hg := grown_trans (grown_none (grown_below HA0.out) (some B)) C2.out.ds.gr
            exact grown6 (grown_one hg (Nat.le_trans HA0.out.size C2.out.gC) 5 (.slice (some ⟨g, 1, none⟩) (us.length - 1) (gc - 1))) hRw (.int .i64 x.k) (.int .i64 x.e) (.int .i64 x.f) (.int .i64 x.s) (.int .i64 x.n) (.slice (some ⟨g, 1, none⟩) (us.length - 1) (gc - 1))
      · have hu' : ¬ (0 : Int) < (us.length : Int) := by omega
        have cB := C2.out.cells
        have c0 := cB.1.1 0 _ rfl
        have c1 := cB.1.1 1 _ rfl
        have c2 := cB.1.1 2 _ rfl
        have c3 := cB.1.1 3 _ rfl
        have c4 := cB.1.1 4 _ rfl
        have c5 := cB.1.1 5 _ rfl
        have f5 := cB.1.2 5
        have hCl := cB.2
        have HRb := hid (ds_old C2.out.ds RB0.out hRl hRB)
        have r0 := HRb.out.1 0 _ rfl
        have m0 := HRb.out.2 0
        have r1 := HRb.out.1 1 _ rfl
        have m1 := HRb.out.2 1
        have r2 := HRb.out.1 2 _ rfl
        have m2 := HRb.out.2 2
        have r3 := HRb.out.1 3 _ rfl
        have m3 := HRb.out.2 3
        have r4 := HRb.out.1 4 _ rfl
        have m4 := HRb.out.2 4
        have r5 := HRb.out.1 5 _ rfl
        have m5 := HRb.out.2 5
        have hRl2 := Nat.lt_of_lt_of_le hRl C2.out.ds.gr.size
        have hCR : R ≠ C := by have := C2.out.gC; omega
        have hCR' := Ne.symm hCR
        clear cB
        go_wp2
        refine bodyPost_ret (v := .agg #[.int .i64 x.k, .int .i64 x.e, .int .i64 x.f, .int .i64 x.s, .int .i64 x.n, .slice (some ⟨g, 0, none⟩) (us.length) (gc)]) (by simp [results, Try.results55, go_sem, r0, r1, r2, r3, r4, r5, hRl2, hCR, hCR']) rfl ⟨_, _, _, us, rfl, by first | omega | (simp; omega), ?_, ?_, fun b off e => by cases e; exact Nat.le_trans HA0.out.size (ownI_parts C2.out.ow).1⟩
        · have h0 : World.ownsRow _ _ _ _ _ _ _ := C2.out.ow
          exact ownI_ints (own6 h0 R hRl (.int .i64 x.k) (.int .i64 x.e) (.int .i64 x.f) (.int .i64 x.s) (.int .i64 x.n) (.slice (some ⟨g, 0, none⟩) (us.length) (gc)))
        · have hg := grown_trans (grown_none (grown_below HA0.out) (some B)) C2.out.ds.gr
          exact grown6 hg hRw (.int .i64 x.k) (.int .i64 x.e) (.int .i64 x.f) (.int .i64 x.s) (.int .i64 x.n) (.slice (some ⟨g, 0, none⟩) (us.length) (gc))
    have cB := C2.out.cells
    have c0 := cB.1.1 0 _ rfl
    have c1 := cB.1.1 1 _ rfl
    have c2 := cB.1.1 2 _ rfl
    have c3 := cB.1.1 3 _ rfl
    have c4 := cB.1.1 4 _ rfl
    have c5 := cB.1.1 5 _ rfl
    have f5 := cB.1.2 5
    have hCl := cB.2
    have HRb := hid (ds_old C2.out.ds RB0.out hRl hRB)
    have r0 := HRb.out.1 0 _ rfl
    have m0 := HRb.out.2 0
    have r1 := HRb.out.1 1 _ rfl
    have m1 := HRb.out.2 1
    have r2 := HRb.out.1 2 _ rfl
    have m2 := HRb.out.2 2
    have r3 := HRb.out.1 3 _ rfl
    have m3 := HRb.out.2 3
    have r4 := HRb.out.1 4 _ rfl
    have m4 := HRb.out.2 4
    have r5 := HRb.out.1 5 _ rfl
    have m5 := HRb.out.2 5
    have hRl2 := Nat.lt_of_lt_of_le hRl C2.out.ds.gr.size
    have hCR : R ≠ C := by have := C2.out.gC; omega
    have hCR' := Ne.symm hCR
    clear cB
    go_wp2
    refine bodyPost_ret (v := .agg #[.int .i64 x.k, .int .i64 x.e, .int .i64 x.f, .int .i64 x.s, .int .i64 x.n, .slice (some ⟨g, 0, none⟩) (us.length) (gc)]) (by simp [results, Try.results55, go_sem, r0, r1, r2, r3, r4, r5, hRl2, hCR, hCR']) rfl ⟨_, _, _, us, rfl, by first | omega | (simp; omega), ?_, ?_, fun b off e => by cases e; exact Nat.le_trans HA0.out.size (ownI_parts C2.out.ow).1⟩
    · have h0 : World.ownsRow _ _ _ _ _ _ _ := C2.out.ow
      exact ownI_ints (own6 h0 R hRl (.int .i64 x.k) (.int .i64 x.e) (.int .i64 x.f) (.int .i64 x.s) (.int .i64 x.n) (.slice (some ⟨g, 0, none⟩) (us.length) (gc)))
    · have hg := grown_trans (grown_none (grown_below HA0.out) (some B)) C2.out.ds.gr
      exact grown6 hg hRw (.int .i64 x.k) (.int .i64 x.e) (.int .i64 x.f) (.int .i64 x.s) (.int .i64 x.n) (.slice (some ⟨g, 0, none⟩) (us.length) (gc))

end Go.Proofs.Ytdfhebmecbcegaa
