/-
  CONTRACTS: spec.l5DrawClasses: classes drawn from a source.
  Conditions: each contract bears its own.
-/
import Derived.Test.YtaeigimgobilaaaGreatDoorDraw3
namespace Go.Proofs.YtaeigimgobilaaaGreatDoor
open Go.RowKit
set_option linter.unusedVariables false
set_option linter.unusedSimpArgs false

theorem Tryz.infoI : (Tryz.prog.info? 2).map (fun i => (i.zero, i.size, i.bytes)) = some (some (.int .i64 0), 1, 8) := by kernel_rfl

/-- Numbers being drawn: the row so far, the source. -/
structure LI (w wr : World) (B : Nat) (a : Option Addr) (len cap kk : Nat) (ys : List Int) (g n c : Nat) (zs : List Int) : Prop where
  ow : wr.ownsRow w.heap.size 2 1 (.slice (some ⟨g, 0, none⟩) n c) n (zs.map (Value.int .i64))
  ds : DS w wr B a len cap kk ys
  gw : w.heap.size ≤ g
  gl : g < wr.heap.size

theorem LI.draw {w wr wr' : World} {B : Nat} {a : Option Addr} {len cap kk k' : Nat} {ys : List Int} {g n c : Nat} {zs : List Int} (h : LI w wr B a len cap kk ys g n c zs) (hB : B < w.heap.size) (hs : SrcAt wr' B a len cap k' ys) (hg : wr.grownBy wr' (some B)) : LI w wr' B a len cap k' ys g n c zs :=
  ⟨World.ownsRow.kept (row := some B) h.ow hg (.inr (by have := h.gw; simp [Value.ownBlock]; omega)), h.ds.draw hs hg, h.gw, Nat.lt_of_lt_of_le h.gl hg.size⟩

theorem LI.alloc {w wr : World} {B : Nat} {a : Option Addr} {len cap kk : Nat} {ys : List Int} {g n c : Nat} {zs : List Int} (h : LI w wr B a len cap kk ys g n c zs) (o : Obj) : LI w (wr.alloc o) B a len cap kk ys g n c zs :=
  ⟨h.ow.alloc o, h.ds.alloc o, h.gw, by have := h.gl; simp; omega⟩

theorem LI.size {w wr : World} {B : Nat} {a : Option Addr} {len cap kk : Nat} {ys : List Int} {g n c : Nat} {zs : List Int} (h : LI w wr B a len cap kk ys g n c zs) : w.heap.size ≤ wr.heap.size := Nat.le_of_lt (Nat.lt_of_le_of_lt h.gw h.gl)

/-- Another row of one's own is written: the source goes on as it was. -/
theorem DS.row {w wx wy : World} {B : Nat} {a : Option Addr} {len cap k : Nat} {ys : List Int} {row : Option Nat} (h : DS w wx B a len cap k ys) (hg : wx.grownBy wy row) (hr : ∀ q, row = some q → w.heap.size ≤ q) (hB : B < w.heap.size) (ha : ∀ b off, a = some ⟨b, off, none⟩ → len = 0 ∨ b < w.heap.size) : DS w wy B a len cap k ys := by
  have hB' : some B ≠ row := fun e => by have := hr B e.symm; omega
  refine ⟨h.src.kept hg hB' (fun b off e => (ha b off e).imp id (fun hl q => by have := hr b q.symm; omega)), ⟨hg.os.trans h.gr.os, hg.tape.trans h.gr.tape, hg.output.trans h.gr.output, Nat.le_trans h.gr.size hg.size, fun i hi hne => ?_⟩⟩
  rw [hg.block i (Nat.lt_of_lt_of_le hi h.gr.size) (fun e => by have := hr i e.symm; omega)]
  exact h.gr.block i hi hne

theorem LI.next {w wr wr' : World} {B : Nat} {a : Option Addr} {len cap kk : Nat} {ys : List Int} {g n c : Nat} {zs : List Int} {x : Int} {v' : Value} (h : LI w wr B a len cap kk ys g n c zs) (ha : ∀ b off, a = some ⟨b, off, none⟩ → len = 0 ∨ b < w.heap.size) (hB : B < w.heap.size)
    (ho : wr'.ownsRow w.heap.size 2 1 v' (n + 1) (zs.map (Value.int .i64) ++ [.int .i64 x])) (hg : wr.grownBy wr' (some g)) : ∃ g' c', v' = .slice (some ⟨g', 0, none⟩) (n + 1) c' ∧ LI w wr' B a len cap kk ys g' (n + 1) c' (zs ++ [x]) := by
  rcases ho.2 with ⟨_, e⟩ | ⟨g', c', cur, e, hb, hh, _⟩
  · omega
  · subst e
    refine ⟨g', c', rfl, ⟨?_, h.ds.row hg (fun q e => by cases e; exact h.gw) hB ha, hb, (Array.getElem?_eq_some_iff.1 hh).1⟩⟩
    rw [List.map_append]
    exact ho

theorem cell_one (W : World) (x : Int) (T : TypeId) : ∀ j u, [Value.int .i64 x][j]? = some u → (W.alloc (.cells #[.int .i64 x] T)).cell? ((⟨W.heap.size, 0, none⟩ : Addr).add j) = some u := by
  intro j u hj
  match j with
  | 0 => simp at hj; subst hj; simp [Addr.add]
  | k + 1 => simp at hj

set_option maxRecDepth 20000 in
set_option maxHeartbeats 4000000 in
theorem drawClasses_c (w : World) (B : Nat) (a : Option Addr) (len cap k0 : Nat) (ys : List Int) (h : SrcAt w B a len cap k0 ys) (hl : len ≤ 1048576) (hk0 : k0 ≤ 700) :
    Calls Tryz.prog 39 #[.pointer (some ⟨B, 0, none⟩)] w fun e w' => ∃ (g n c kk : Nat) (zs : List Int), e = .returned (.slice (some ⟨g, 0, none⟩) n c) ∧ n ≤ 5 ∧ kk ≤ k0 + 30 ∧ LI w w' B a len cap kk ys g n c zs := by
  have hB := h.lt
  have HCode : Hid (∀ b off, a = some ⟨b, off, none⟩ → len = 0 ∨ b < w.heap.size) := h.code_lt
  have D0 : Hid (DS w (w.alloc (.cells #[] 2)) B a len cap k0 ys) := (DS.start h).alloc _
  have O0 : Hid ((w.alloc (.cells #[] 2)).ownsRow w.heap.size 2 1 (.slice (some ⟨w.heap.size, 0, none⟩) 0 0) 0 []) := World.ownsRow_lit (base := w.heap.size) (e := 2) (size := 1) w #[] 0 (Nat.le_refl _) (Nat.zero_le _) rfl
  obtain ⟨i0, hi, hz0, hz1, hz2⟩ := info_parts Tryz.infoI
  have hun : Tryz.prog.underlying 26 = some (.slice 2) := by kernel_rfl
  clear h
  go_enter Tryz.func39, Tryz.ntmps39
  go_wp2_with fail
  refine (next_c _ B a len cap k0 ys 3 D0.out.src hl (by omega) (by omega) (by omega)).mono ?_
  rintro e w1 ⟨v1, x0, x1, rfl, hS1, hG1⟩
  have hz1' : w.heap.size < w1.heap.size := by have := hG1.size; simp at this; omega
  have L1 : Hid (LI w w1 B a len cap (k0 + 1) ys w.heap.size 0 0 []) := ⟨World.ownsRow.kept (row := some B) O0.out hG1 (.inr (by simp [Value.ownBlock]; omega)), D0.out.draw hS1 hG1, Nat.le_refl _, hz1'⟩
  obtain ⟨r1, rfl⟩ := Int.eq_ofNat_of_zero_le x0
  clear hS1 hG1 D0 O0
  go_wp2_with fail
  go_loopw [3, 4] (fun v i wr => ∃ (g n c kk r : Nat) (zs : List Int), v = .slice (some ⟨g, 0, none⟩) n c ∧ i = .int .i64 (r : Int) ∧ n + r ≤ 2 ∧ kk + 4 * r ≤ k0 + 13 ∧ Hid (LI w wr B a len cap kk ys g n c zs)) (fun _ i _ => (intOf i).toNat)
  case atStart => exact ⟨_, 0, 0, k0 + 1, r1, [], rfl, rfl, by omega, by omega, L1.out⟩
  case round =>
    obtain ⟨g, n, c, kk, r, zs, rfl, rfl, hnr, hkr, HL⟩ := hrel
    by_cases hr : 0 < r
    · have hr' : (0 : Int) < (r : Int) := by omega
      go_wp2_with fail
      refine (next_c _ B a len cap kk ys 16 HL.out.ds.src hl (by omega) (by omega) (by omega)).mono ?_
      rintro e w2 ⟨v, v0, v1, rfl, hS2, hG2⟩
      have HL2 : Hid (LI w w2 B a len cap (kk + 1) ys g n c zs) := HL.out.draw hB hS2 hG2
      have HL3 : Hid (LI w (w2.alloc (.cells #[.int .i64 3, .int .i64 6, .int .i64 5, .int .i64 v] 2)) B a len cap (kk + 1) ys g n c zs) := HL2.out.alloc _
      have C3 : Hid (∀ k, k < 4 → (w2.alloc (.cells #[.int .i64 3, .int .i64 6, .int .i64 5, .int .i64 v] 2)).cell? ⟨w2.heap.size, k, none⟩ = some (.int .i64 ([3, 6, 5, v][k]?.getD 0))) := fun k hk => by
        have : k = 0 ∨ k = 1 ∨ k = 2 ∨ k = 3 := by omega
        rcases this with rfl | rfl | rfl | rfl <;> simp
      have hn2 : w2.heap.size ≠ B := by have := HL2.out.size; omega
      clear hS2 hG2 HL HL2
      go_wp2_with fail
      generalize w2.alloc (.cells #[.int .i64 3, .int .i64 6, .int .i64 5, .int .i64 v] 2) = w3 at HL3 C3 ⊢
      refine (pick_c _ B a len cap (kk + 1) ys HL3.out.ds.src hl (by omega) w2.heap.size 4 4 [3, 6, 5, v] rfl (by omega) (by omega) hn2 C3.out).mono ?_
      rintro e w4 ⟨j, hj, rfl, hS4, hG4⟩
      have HL4 : Hid (LI w w4 B a len cap (kk + 1 + 1) ys g n c zs) := HL3.out.draw hB hS4 hG4
      obtain ⟨x, hx⟩ : ∃ x : Int, [3, 6, 5, v][j]?.getD 0 = x := ⟨_, rfl⟩
      rw [hx]
      clear hS4 hG4 HL3 C3 hx
      go_wp2_with (first
        | (at_builtin; refine wpList_append_own _ rfl _ _ 26 rfl w.heap.size 2 i0 (.int .i64 0) 1 8 hun hi hz0 hz1 hz2 rfl (by decide) _ n (zs.map (Value.int .i64)) rfl (HL4.out.ow.alloc _) ⟨w4.heap.size, 0, none⟩ 1 1 [.int .i64 x] rfl rfl (cell_one w4 x _) (by simp [Value.oneCell']) (by unfold maxLen; omega) (by omega) (by have := HL4.out.size; simp; omega) ?_)
        | fail)
      intro v' w9 hown' hgrow hnil
      have HN : Hid (∃ g' c', v' = .slice (some ⟨g', 0, none⟩) (n + 1) c' ∧ LI w w9 B a len cap (kk + 1 + 1) ys g' (n + 1) c' (zs ++ [x])) := LI.next (HL4.out.alloc _) HCode.out hB hown' hgrow
      clear hown' hgrow hnil
      obtain ⟨g', c', rfl, hl9⟩ := HN.out
      have HL9 : Hid (LI w w9 B a len cap (kk + 1 + 1) ys g' (n + 1) c' (zs ++ [x])) := hl9
      clear hl9 HN HL4
      go_wp2
      exact ⟨⟨g', n + 1, c', _, r - 1, _, rfl, by simp; omega, by omega, by omega, HL9⟩, by simp [intOf]; omega⟩
    · have hr0 : r = 0 := by omega
      subst hr0
      go_wp2_with fail
      refine (next_c _ B a len cap kk ys 16 HL.out.ds.src hl (by omega) (by omega) (by omega)).mono ?_
      rintro e w2 ⟨v, v0, v1, rfl, hS2, hG2⟩
      have HL2 : Hid (LI w w2 B a len cap (kk + 1) ys g n c zs) := HL.out.draw hB hS2 hG2
      clear hS2 hG2 HL
      by_cases e0 : v = 0
      · subst e0
        have HL3 : Hid (LI w (w2.alloc (.cells #[.int .i64 (-1), .int .i64 16] 2)) B a len cap (kk + 1) ys g n c zs) := HL2.out.alloc _
        have C3 : Hid (∀ k, k < 2 → (w2.alloc (.cells #[.int .i64 (-1), .int .i64 16] 2)).cell? ⟨w2.heap.size, k, none⟩ = some (.int .i64 ([-1, 16][k]?.getD 0))) := fun k hk => by
          have : k = 0 ∨ k = 1 := by omega
          rcases this with rfl | rfl <;> simp
        have hn2 : w2.heap.size ≠ B := by have := HL2.out.size; omega
        clear HL2
        go_wp2_with fail
        generalize w2.alloc (.cells #[.int .i64 (-1), .int .i64 16] 2) = w3 at HL3 C3 ⊢
        refine (pick_c _ B a len cap (kk + 1) ys HL3.out.ds.src hl (by omega) w2.heap.size 2 2 [-1, 16] rfl (by omega) (by omega) hn2 C3.out).mono ?_
        rintro e w4 ⟨j, hj, rfl, hS4, hG4⟩
        have HL4 : Hid (LI w w4 B a len cap (kk + 1 + 1) ys g n c zs) := HL3.out.draw hB hS4 hG4
        obtain ⟨x, hx⟩ : ∃ x : Int, [-1, 16][j]?.getD 0 = x := ⟨_, rfl⟩
        rw [hx]
        clear hS4 hG4 HL3 C3 hx
        go_wp2_with (first
          | (at_builtin; refine wpList_append_own _ rfl _ _ 26 rfl w.heap.size 2 i0 (.int .i64 0) 1 8 hun hi hz0 hz1 hz2 rfl (by decide) _ n (zs.map (Value.int .i64)) rfl (HL4.out.ow.alloc _) ⟨w4.heap.size, 0, none⟩ 1 1 [.int .i64 x] rfl rfl (cell_one w4 x _) (by simp [Value.oneCell']) (by unfold maxLen; omega) (by omega) (by have := HL4.out.size; simp; omega) ?_)
          | fail)
        intro v' w9 hown' hgrow hnil
        have HN : Hid (∃ g' c', v' = .slice (some ⟨g', 0, none⟩) (n + 1) c' ∧ LI w w9 B a len cap (kk + 1 + 1) ys g' (n + 1) c' (zs ++ [x])) := LI.next (HL4.out.alloc _) HCode.out hB hown' hgrow
        clear hown' hgrow hnil
        obtain ⟨g', c', rfl, hl9⟩ := HN.out
        have HL9 : Hid (LI w w9 B a len cap (kk + 1 + 1) ys g' (n + 1) c' (zs ++ [x])) := hl9
        clear hl9 HN HL4
        go_wp2
        go_ret
        exact ⟨g', n + 1, c', _, _, rfl, by omega, by omega, HL9.out⟩
      · by_cases e1 : v = 1
        · subst e1
          obtain ⟨wm, hmk, hownm, hgrm⟩ := run_make_full (P := Tryz.prog) (w := w2) w.heap.size 26 2 i0 (.int .i64 0) 1 hun hi hz0 hz1 .i64 .i64 5 (by rw [hz2]; omega) (by unfold maxLen; omega) HL2.out.size
          have hmk' : (Instr.makeSlice 26 (.int .i64 5) (.int .i64 5)).run Tryz.prog w2 = .ok (.slice (some ⟨w2.heap.size, 0, none⟩) 5 5) wm := hmk
          have hm : (madeCells (Value.int .i64 0).cells (5 * 1)).toList = [0, 0, 0, 0, 0].map (Value.int .i64) := by
            rw [show (Value.int .i64 0).cells = #[.int .i64 0] from rfl, toList_madeCells_one]
            rfl
          rw [hm] at hownm
          have HLm : Hid (LI w wm B a len cap (kk + 1) ys w2.heap.size 5 5 [0, 0, 0, 0, 0]) := ⟨hownm, HL2.out.ds.row hgrm (fun q e => by cases e) hB HCode.out, HL2.out.size, (hownm.lt _ rfl).2⟩
          clear hownm hgrm hmk hm
          go_wp2
          go_ret
          exact ⟨_, 5, 5, _, _, rfl, by omega, by omega, HLm.out⟩
        · go_wp2
          go_ret
          exact ⟨g, n, c, _, zs, rfl, by omega, by omega, HL2.out⟩

end Go.Proofs.YtaeigimgobilaaaGreatDoor
