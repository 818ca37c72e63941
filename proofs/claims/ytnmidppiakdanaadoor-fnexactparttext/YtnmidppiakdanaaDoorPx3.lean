/-
  CONTRACT: spec.PartText, out of one of spec.l4Text.
  Conditions: each contract bears its own.
-/
import Derived.Test.YtnmidppiakdanaaDoorPx1
namespace Go.Proofs.YtnmidppiakdanaaDoor
open Go.RowKit
set_option linter.unusedVariables false
set_option linter.unusedSimpArgs false

set_option maxRecDepth 100000 in
set_option maxHeartbeats 2000000 in
theorem specPT_bad (a : Option Addr) (n cap : Nat) (zs : List PartI) (c : Int) (w : World) (hm : n ≤ maxLen) (h : PartsIn w a n zs) (hc : ptCode zs = c) (h0 : c ≠ 0) :
    GivesT 5 a n cap c noTx w := by
  have HM : Hid (∀ w2 : World, Below w.heap.size w w2 → Calls Tryd.prog 10 #[.slice a n cap] w2 fun e w' => e = .returned (.int .i64 c) ∧ Below w2.heap.size w2 w') := fun w2 q => by rw [← hc]; exact l4Fault_c a n cap zs w2 hm (h.below q)
  have hcb : (c != 0) = true := by simpa using h0
  clear h hc h0
  unfold GivesT
  go_enter Tryd.func5, Tryd.ntmps5
  go_wp2_with fail
  refine (HM.out _ ((Below.refl _ _).alloc (Nat.le_refl _) _)).mono ?_
  rintro e w1 ⟨rfl, hb1⟩
  have d0 : w1.cell? ⟨w.heap.size, 0, none⟩ = some (.int .i64 0) := (hb1.cell (p := ⟨w.heap.size, 0, none⟩) (by simp)).trans (by simp)
  have d1 : w1.cell? ⟨w.heap.size, 1, none⟩ = some (.string ⟨#[]⟩) := (hb1.cell (p := ⟨w.heap.size, 1, none⟩) (by simp)).trans (by simp)
  have g0 : w1.frozen? ⟨w.heap.size, 0, none⟩ = false := (hb1.frozen (p := ⟨w.heap.size, 0, none⟩) (by simp)).trans (by simp [go_sem])
  have g1 : w1.frozen? ⟨w.heap.size, 1, none⟩ = false := (hb1.frozen (p := ⟨w.heap.size, 1, none⟩) (by simp)).trans (by simp [go_sem])
  have hw : w.heap.size < w1.heap.size := by have := hb1.size; simp at this; omega
  have hbx : Below w.heap.size w w1 := below_new hb1
  clear hb1
  go_wp2
  refine bodyPost_ret (v := .agg #[.int .i64 c, .string ⟨#[]⟩]) (by simp [results, Tryd.results5, go_sem, d0, d1, hw]) rfl ⟨rfl, ?_⟩
  exact (hbx.setCell (Nat.le_refl _) _).setCell (Nat.le_refl _) _

set_option maxRecDepth 100000 in
set_option maxHeartbeats 4000000 in
theorem specPT_ok (a : Option Addr) (n cap : Nat) (zs : List PartI) (T : ByteArray) (w : World) (h : PartsIn w a n zs) (hc : ptCode zs = 0) (hT : textAt zs (n - 1) = T)
    (hTX : ∀ w2 : World, PartsIn w2 a n zs → Calls Tryd.prog 11 #[.slice a n cap, .int .i64 ((n : Int) - 1)] w2 fun e w' => e = .returned (.string T) ∧ Below w2.heap.size w2 w') (c : Int) (t0 : ByteArray) (HCT : Hid ((200 < T.size → c = 2 ∧ t0 = noTx) ∧ (¬ 200 < T.size → c = 0 ∧ t0 = T))) :
    GivesT 5 a n cap c t0 w := by
  obtain ⟨hz1, hz8, hall⟩ := pt_all hc
  rw [h.1] at hz1 hz8
  have HM : Hid (∀ w2 : World, Below w.heap.size w w2 → Calls Tryd.prog 10 #[.slice a n cap] w2 fun e w' => e = .returned (.int .i64 0) ∧ Below w2.heap.size w2 w') := fun w2 q => by rw [← hc]; exact l4Fault_c a n cap zs w2 (by unfold maxLen; omega) (h.below q)
  have HTX : Hid (∀ w2 : World, Below w.heap.size w w2 → Calls Tryd.prog 11 #[.slice a n cap, .int .i64 ((n : Int) - 1)] w2 fun e w' => e = .returned (.string T) ∧ Below w2.heap.size w2 w') := fun w2 q => hTX w2 (h.below q)
  have hTs : T.size ≤ 2043 := by rw [← hT]; exact textAt_small (by omega)
  have hn8 : (n : Int) ≤ 8 := by omega
  have hn1 : (1 : Int) ≤ (n : Int) := by omega
  clear h hc hT hall hTX
  unfold GivesT
  go_enter Tryd.func5, Tryd.ntmps5
  go_wp2_with fail
  refine (HM.out _ ((Below.refl _ _).alloc (Nat.le_refl _) _)).mono ?_
  rintro e w1 ⟨rfl, hb1⟩
  have hbx : Below w.heap.size w w1 := below_new hb1
  have hw1 : w.heap.size < w1.heap.size := by have := hb1.size; simp at this; omega
  go_wp2_with fail
  refine (HTX.out _ hbx).mono ?_
  rintro e w2 ⟨rfl, hb2⟩
  have d0 : w2.cell? ⟨w.heap.size, 0, none⟩ = some (.int .i64 0) := (hb2.cell (p := ⟨w.heap.size, 0, none⟩) hw1).trans ((hb1.cell (p := ⟨w.heap.size, 0, none⟩) (by simp)).trans (by simp))
  have d1 : w2.cell? ⟨w.heap.size, 1, none⟩ = some (.string ⟨#[]⟩) := (hb2.cell (p := ⟨w.heap.size, 1, none⟩) hw1).trans ((hb1.cell (p := ⟨w.heap.size, 1, none⟩) (by simp)).trans (by simp))
  have g0 : w2.frozen? ⟨w.heap.size, 0, none⟩ = false := (hb2.frozen (p := ⟨w.heap.size, 0, none⟩) hw1).trans ((hb1.frozen (p := ⟨w.heap.size, 0, none⟩) (by simp)).trans (by simp [go_sem]))
  have g1 : w2.frozen? ⟨w.heap.size, 1, none⟩ = false := (hb2.frozen (p := ⟨w.heap.size, 1, none⟩) hw1).trans ((hb1.frozen (p := ⟨w.heap.size, 1, none⟩) (by simp)).trans (by simp [go_sem]))
  have hw : w.heap.size < w2.heap.size := Nat.lt_of_lt_of_le hw1 hb2.size
  have HB : Hid (Below w.heap.size w w2) := hbx.trans (hb2.mono hbx.size)
  clear hb1 hb2 hbx hw1
  by_cases hbig : 200 < T.size
  · have hbig' : (200 : Int) < (T.size : Int) := by omega
    have E : Hid (c = 2 ∧ t0 = noTx) := HCT.out.1 hbig
    clear hbig
    go_wp2_with fail
    refine bodyPost_ret (v := .agg #[.int .i64 2, .string ⟨#[]⟩]) (by simp [results, Tryd.results5, go_sem, d0, d1, hw]) rfl ⟨by rw [E.out.1, E.out.2]; rfl, ?_⟩
    exact (HB.out.setCell (Nat.le_refl _) _).setCell (Nat.le_refl _) _
  · have hbig' : ¬ ((200 : Int) < (T.size : Int)) := by omega
    have E : Hid (c = 0 ∧ t0 = T) := HCT.out.2 hbig
    clear hbig
    go_wp2_with fail
    refine bodyPost_ret (v := .agg #[.int .i64 0, .string T]) (by simp [results, Tryd.results5, go_sem, d0, d1, hw]) rfl ⟨by rw [E.out.1, E.out.2], ?_⟩
    exact (HB.out.setCell (Nat.le_refl _) _).setCell (Nat.le_refl _) _

end Go.Proofs.YtnmidppiakdanaaDoor
