/-
  CONTRACTS: spec.l4Text at each kind of part.
  Conditions: each contract bears its own.
  CONTRACT: spec.PartText, out of one of spec.l4Text.
  Conditions: each contract bears its own.
  CONTRACTS: spec.l4Text; PartText of both programs together.
  Conditions: each contract bears its own.
  THE LAW laws.FnLeast.
  Conditions: each contract bears its own.
-/
import Derived.Test.YtnfolmjdicfobaaGreatDoorPl27
import Derived.Test.YtnfolmjdicfobaaGreatDoorPl12
import Derived.Test.YtnfolmjdicfobaaGreatDoorPl26
import Derived.Test.YtnfolmjdicfobaaGreatDoorPl25
import Derived.Test.YtnfolmjdicfobaaGreatDoorPl22
import Derived.Test.YtnfolmjdicfobaaGreatDoorPl23
import Derived.Deep.CutBlock
import Derived.Deep.RegionHeld3
namespace Go.Proofs.YtnfolmjdicfobaaGreatDoor
open Go.RowKit
set_option linter.unusedVariables false
set_option linter.unusedSimpArgs false

attribute [-go_sem] run_string_add_if

/-- The two numbers of a part in a block of the call's own, and nothing below has turned. -/
theorem keepT {g : Nat} {l r : Int} {w0 w w' : World} (h : w.cell? ⟨g, 3, none⟩ = some (.int .i64 l) ∧ w.cell? ⟨g, 4, none⟩ = some (.int .i64 r) ∧ Below w0.heap.size w0 w) (hb : Below w.heap.size w w') :
    w'.cell? ⟨g, 3, none⟩ = some (.int .i64 l) ∧ w'.cell? ⟨g, 4, none⟩ = some (.int .i64 r) ∧ Below w0.heap.size w0 w' := by
  have key : ∀ (o : Nat) (v : Value), w.cell? ⟨g, o, none⟩ = some v → w'.cell? ⟨g, o, none⟩ = some v := fun o v e => (hb.cell (p := ⟨g, o, none⟩) (World.block_lt_of_cell? w ⟨g, o, none⟩ e)).trans e
  exact ⟨key _ _ h.1, key _ _ h.2.1, h.2.2.trans (hb.mono h.2.2.size)⟩

set_option maxRecDepth 100000 in
set_option maxHeartbeats 2000000 in
theorem l4Text_role (b off n cap p : Nat) (ro rn l r : Int) (w : World) (hp : p < n) (hn : n ≤ 8) (hx : PartAt w b (off + p * 5) ⟨1, ro, rn, l, r⟩) (h : roleB ro rn = true) :
    Calls Tryz.prog 64 #[.slice (some ⟨b, off, none⟩) n cap, .int .i64 (p : Int)] w fun e w' => e = .returned (.string (roleT ro rn)) ∧ Below w.heap.size w w' := by
  obtain ⟨q0, q1, q2, q3, q4⟩ := hx
  simp only at q0 q1 q2 q3 q4
  have h1 : (p : Int) < (n : Int) := by omega
  have h2 : (n : Int) ≤ 8 := by omega
  go_enter Tryz.func64, Tryz.ntmps64
  go_wp2_with fail
  refine (l2Text_c ro rn h _).mono ?_
  rintro e w1 ⟨rfl, hb1⟩
  go_wp2
  go_ret
  exact ⟨rfl, below_new hb1⟩

set_option maxRecDepth 100000 in
set_option maxHeartbeats 4000000 in
theorem l4Text_two (b off n cap p : Nat) (ro rn l r : Int) (tx : Int → ByteArray) (w : World) (hp : p < n) (hn : n ≤ 8) (hx : PartAt w b (off + p * 5) ⟨2, ro, rn, l, r⟩) (hL : (tx l).size ≤ 2043) (hR : (tx r).size ≤ 2043)
    (H : Hid (∀ (q : Int) (w2 : World), (q = l ∨ q = r) → Below w.heap.size w w2 → Calls Tryz.prog 64 #[.slice (some ⟨b, off, none⟩) n cap, .int .i64 q] w2 fun e w' => e = .returned (.string (tx q)) ∧ Below w2.heap.size w2 w')) :
    Calls Tryz.prog 64 #[.slice (some ⟨b, off, none⟩) n cap, .int .i64 (p : Int)] w fun e w' => e = .returned (.string (wrapT ⟨#[32, 43, 32]⟩ (tx l) (tx r))) ∧ Below w.heap.size w w' := by
  obtain ⟨q0, q1, q2, q3, q4⟩ := hx
  simp only at q0 q1 q2 q3 q4
  have h1 : (p : Int) < (n : Int) := by omega
  have h2 : (n : Int) ≤ 8 := by omega
  have K : Hid (∀ (q : Int) (w2 : World), (q = l ∨ q = r) → (w2.cell? ⟨w.heap.size, 3, none⟩ = some (.int .i64 l) ∧ w2.cell? ⟨w.heap.size, 4, none⟩ = some (.int .i64 r) ∧ Below w.heap.size w w2) → Calls Tryz.prog 64 #[.slice (some ⟨b, off, none⟩) n cap, .int .i64 q] w2 fun e w' => e = .returned (.string (tx q)) ∧ w'.cell? ⟨w.heap.size, 3, none⟩ = some (.int .i64 l) ∧ w'.cell? ⟨w.heap.size, 4, none⟩ = some (.int .i64 r) ∧ Below w.heap.size w w') := fun q w2 hq hs =>
    (H.out q w2 hq hs.2.2).mono fun e w' hh => ⟨hh.1, keepT hs hh.2⟩
  obtain ⟨A1, eA1⟩ : ∃ A, (⟨#[40]⟩ : ByteArray) ++ tx l = A := ⟨_, rfl⟩
  obtain ⟨A2, eA2⟩ : ∃ A, A1 ++ (⟨#[32, 43, 32]⟩ : ByteArray) = A := ⟨_, rfl⟩
  obtain ⟨A3, eA3⟩ : ∃ A, A2 ++ tx r = A := ⟨_, rfl⟩
  obtain ⟨A4, eA4⟩ : ∃ A, A3 ++ (⟨#[41]⟩ : ByteArray) = A := ⟨_, rfl⟩
  have z1 : A1.size = 1 + (tx l).size := by rw [← eA1, size_cat]; rfl
  have z2 : A2.size = A1.size + 3 := by rw [← eA2, size_cat]; rfl
  have z3 : A3.size = A2.size + (tx r).size := by rw [← eA3, size_cat]
  have f1 : ∀ w, (Op.stringOp .add ⟨#[40]⟩ (tx l)).run Tryz.prog w = .ok (.string A1) w := fun w => by rw [← eA1]; exact run_string_add_sum w _ _ (by rw [show (ByteArray.mk #[40]).size = 1 from rfl]; omega)
  have f2 : ∀ w, (Op.stringOp .add A1 ⟨#[32, 43, 32]⟩).run Tryz.prog w = .ok (.string A2) w := fun w => by rw [← eA2]; exact run_string_add_sum w _ _ (by rw [show (ByteArray.mk #[32, 43, 32]).size = 3 from rfl]; omega)
  have f3 : ∀ w, (Op.stringOp .add A2 (tx r)).run Tryz.prog w = .ok (.string A3) w := fun w => by rw [← eA3]; exact run_string_add_sum w _ _ (by omega)
  have f4 : ∀ w, (Op.stringOp .add A3 ⟨#[41]⟩).run Tryz.prog w = .ok (.string A4) w := fun w => by rw [← eA4]; exact run_string_add_sum w _ _ (by rw [show (ByteArray.mk #[41]).size = 1 from rfl]; omega)
  have HW : Hid (wrapT ⟨#[32, 43, 32]⟩ (tx l) (tx r) = A4) := by show wrapT _ (tx l) (tx r) = A4; unfold wrapT; rw [eA1, eA2, eA3, eA4]
  rw [HW.out]
  clear hL hR H
  clear eA1 eA2 eA3 eA4 z1 z2 z3
  go_enter Tryz.func64, Tryz.ntmps64
  go_wp2_with fail
  clear q0 q1 q2 q3 q4
  go_region_held3 (fun w' => w'.cell? ⟨w.heap.size, 3, none⟩ = some (.int .i64 l) ∧ w'.cell? ⟨w.heap.size, 4, none⟩ = some (.int .i64 r) ∧ Below w.heap.size w w') (first | exact hS | (refine ⟨by go_cell, by go_cell, by go_grown⟩)) (first | (go_at_call 64; refine (K.out _ _ (by first | exact .inl rfl | exact .inr rfl) ?_).mono ?_; (first | assumption | exact ⟨by go_cell, by go_cell, by go_grown⟩); rintro e w1 ⟨rfl, hS⟩))
  go_wp2
  go_ret
  exact ⟨rfl, hS.2.2⟩

set_option maxRecDepth 100000 in
set_option maxHeartbeats 4000000 in
theorem l4Text_three (b off n cap p : Nat) (ro rn l r : Int) (tx : Int → ByteArray) (w : World) (hp : p < n) (hn : n ≤ 8) (hx : PartAt w b (off + p * 5) ⟨3, ro, rn, l, r⟩) (hL : (tx l).size ≤ 2043) (hR : (tx r).size ≤ 2043)
    (H : Hid (∀ (q : Int) (w2 : World), (q = l ∨ q = r) → Below w.heap.size w w2 → Calls Tryz.prog 64 #[.slice (some ⟨b, off, none⟩) n cap, .int .i64 q] w2 fun e w' => e = .returned (.string (tx q)) ∧ Below w2.heap.size w2 w')) :
    Calls Tryz.prog 64 #[.slice (some ⟨b, off, none⟩) n cap, .int .i64 (p : Int)] w fun e w' => e = .returned (.string (wrapT ⟨#[32, 42, 32]⟩ (tx l) (tx r))) ∧ Below w.heap.size w w' := by
  obtain ⟨q0, q1, q2, q3, q4⟩ := hx
  simp only at q0 q1 q2 q3 q4
  have h1 : (p : Int) < (n : Int) := by omega
  have h2 : (n : Int) ≤ 8 := by omega
  have K : Hid (∀ (q : Int) (w2 : World), (q = l ∨ q = r) → (w2.cell? ⟨w.heap.size, 3, none⟩ = some (.int .i64 l) ∧ w2.cell? ⟨w.heap.size, 4, none⟩ = some (.int .i64 r) ∧ Below w.heap.size w w2) → Calls Tryz.prog 64 #[.slice (some ⟨b, off, none⟩) n cap, .int .i64 q] w2 fun e w' => e = .returned (.string (tx q)) ∧ w'.cell? ⟨w.heap.size, 3, none⟩ = some (.int .i64 l) ∧ w'.cell? ⟨w.heap.size, 4, none⟩ = some (.int .i64 r) ∧ Below w.heap.size w w') := fun q w2 hq hs =>
    (H.out q w2 hq hs.2.2).mono fun e w' hh => ⟨hh.1, keepT hs hh.2⟩
  obtain ⟨A1, eA1⟩ : ∃ A, (⟨#[40]⟩ : ByteArray) ++ tx l = A := ⟨_, rfl⟩
  obtain ⟨A2, eA2⟩ : ∃ A, A1 ++ (⟨#[32, 42, 32]⟩ : ByteArray) = A := ⟨_, rfl⟩
  obtain ⟨A3, eA3⟩ : ∃ A, A2 ++ tx r = A := ⟨_, rfl⟩
  obtain ⟨A4, eA4⟩ : ∃ A, A3 ++ (⟨#[41]⟩ : ByteArray) = A := ⟨_, rfl⟩
  have z1 : A1.size = 1 + (tx l).size := by rw [← eA1, size_cat]; rfl
  have z2 : A2.size = A1.size + 3 := by rw [← eA2, size_cat]; rfl
  have z3 : A3.size = A2.size + (tx r).size := by rw [← eA3, size_cat]
  have f1 : ∀ w, (Op.stringOp .add ⟨#[40]⟩ (tx l)).run Tryz.prog w = .ok (.string A1) w := fun w => by rw [← eA1]; exact run_string_add_sum w _ _ (by rw [show (ByteArray.mk #[40]).size = 1 from rfl]; omega)
  have f2 : ∀ w, (Op.stringOp .add A1 ⟨#[32, 42, 32]⟩).run Tryz.prog w = .ok (.string A2) w := fun w => by rw [← eA2]; exact run_string_add_sum w _ _ (by rw [show (ByteArray.mk #[32, 42, 32]).size = 3 from rfl]; omega)
  have f3 : ∀ w, (Op.stringOp .add A2 (tx r)).run Tryz.prog w = .ok (.string A3) w := fun w => by rw [← eA3]; exact run_string_add_sum w _ _ (by omega)
  have f4 : ∀ w, (Op.stringOp .add A3 ⟨#[41]⟩).run Tryz.prog w = .ok (.string A4) w := fun w => by rw [← eA4]; exact run_string_add_sum w _ _ (by rw [show (ByteArray.mk #[41]).size = 1 from rfl]; omega)
  have HW : Hid (wrapT ⟨#[32, 42, 32]⟩ (tx l) (tx r) = A4) := by show wrapT _ (tx l) (tx r) = A4; unfold wrapT; rw [eA1, eA2, eA3, eA4]
  rw [HW.out]
  clear hL hR H
  clear eA1 eA2 eA3 eA4 z1 z2 z3
  go_enter Tryz.func64, Tryz.ntmps64
  go_wp2_with fail
  clear q0 q1 q2 q3 q4
  go_region_held3 (fun w' => w'.cell? ⟨w.heap.size, 3, none⟩ = some (.int .i64 l) ∧ w'.cell? ⟨w.heap.size, 4, none⟩ = some (.int .i64 r) ∧ Below w.heap.size w w') (first | exact hS | (refine ⟨by go_cell, by go_cell, by go_grown⟩)) (first | (go_at_call 64; refine (K.out _ _ (by first | exact .inl rfl | exact .inr rfl) ?_).mono ?_; (first | assumption | exact ⟨by go_cell, by go_cell, by go_grown⟩); rintro e w1 ⟨rfl, hS⟩))
  go_wp2
  go_ret
  exact ⟨rfl, hS.2.2⟩

end Go.Proofs.YtnfolmjdicfobaaGreatDoor

namespace Go.Proofs.YtnfolmjdicfobaaGreatDoor
open Go.RowKit
set_option linter.unusedVariables false
set_option linter.unusedSimpArgs false

set_option maxRecDepth 100000 in
set_option maxHeartbeats 2000000 in
theorem specPT_bad (a : Option Addr) (n cap : Nat) (zs : List PartI) (c : Int) (w : World) (hm : n ≤ maxLen) (h : PartsIn w a n zs) (hc : ptCode zs = c) (h0 : c ≠ 0) :
    GivesT 28 a n cap c noTx w := by
  have HM : Hid (∀ w2 : World, Below w.heap.size w w2 → Calls Tryz.prog 63 #[.slice a n cap] w2 fun e w' => e = .returned (.int .i64 c) ∧ Below w2.heap.size w2 w') := fun w2 q => by rw [← hc]; exact l4Fault_c a n cap zs w2 hm (h.below q)
  have hcb : (c != 0) = true := by simpa using h0
  clear h hc h0
  unfold GivesT
  go_enter Tryz.func28, Tryz.ntmps28
  go_wp2_with fail
  refine (HM.out _ ((Below.refl _ _).alloc (Nat.le_refl _) _)).mono ?_
  rintro e w1 ⟨rfl, hb1⟩
  have d0 : w1.cell? ⟨w.heap.size, 0, none⟩ = some (.int .i64 0) := (hb1.cell (p := ⟨w.heap.size, 0, none⟩) (by simp)).trans (by simp)
  have d1 : w1.cell? ⟨w.heap.size, 1, none⟩ = some (.string ⟨#[]⟩) := (hb1.cell (p := ⟨w.heap.size, 1, none⟩) (by simp)).trans (by simp)
  have g0 : w1.frozen? ⟨w.heap.size, 0, none⟩ = false := (hb1.frozen (p := ⟨w.heap.size, 0, none⟩) (by simp)).trans (by simp [go_sem])
  have g1 : w1.frozen? ⟨w.heap.size, 1, none⟩ = false := (hb1.frozen (p := ⟨w.heap.size, 1, none⟩) (by simp)).trans (by simp [go_sem])
  have hw : w.heap.size < w1.heap.size := by have := hb1.size; simp at this; omega
  have hbx : Below w.heap.size w w1 := below_new hb1
  clear hb1
  go_wp2
  refine bodyPost_ret (v := .agg #[.int .i64 c, .string ⟨#[]⟩]) (by simp [results, Tryz.results28, go_sem, d0, d1, hw]) rfl ⟨rfl, ?_⟩
  exact (hbx.setCell (Nat.le_refl _) _).setCell (Nat.le_refl _) _

set_option maxRecDepth 100000 in
set_option maxHeartbeats 4000000 in
theorem specPT_ok (a : Option Addr) (n cap : Nat) (zs : List PartI) (T : ByteArray) (w : World) (h : PartsIn w a n zs) (hc : ptCode zs = 0) (hT : textAt zs (n - 1) = T)
    (hTX : ∀ w2 : World, PartsIn w2 a n zs → Calls Tryz.prog 64 #[.slice a n cap, .int .i64 ((n : Int) - 1)] w2 fun e w' => e = .returned (.string T) ∧ Below w2.heap.size w2 w') (c : Int) (t0 : ByteArray) (HCT : Hid ((200 < T.size → c = 2 ∧ t0 = noTx) ∧ (¬ 200 < T.size → c = 0 ∧ t0 = T))) :
    GivesT 28 a n cap c t0 w := by
  obtain ⟨hz1, hz8, hall⟩ := pt_all hc
  rw [h.1] at hz1 hz8
  have HM : Hid (∀ w2 : World, Below w.heap.size w w2 → Calls Tryz.prog 63 #[.slice a n cap] w2 fun e w' => e = .returned (.int .i64 0) ∧ Below w2.heap.size w2 w') := fun w2 q => by rw [← hc]; exact l4Fault_c a n cap zs w2 (by unfold maxLen; omega) (h.below q)
  have HTX : Hid (∀ w2 : World, Below w.heap.size w w2 → Calls Tryz.prog 64 #[.slice a n cap, .int .i64 ((n : Int) - 1)] w2 fun e w' => e = .returned (.string T) ∧ Below w2.heap.size w2 w') := fun w2 q => hTX w2 (h.below q)
  have hTs : T.size ≤ 2043 := by rw [← hT]; exact textAt_small (by omega)
  have hn8 : (n : Int) ≤ 8 := by omega
  have hn1 : (1 : Int) ≤ (n : Int) := by omega
  clear h hc hT hall hTX
  unfold GivesT
  go_enter Tryz.func28, Tryz.ntmps28
  go_wp2_with fail
  refine (HM.out _ ((Below.refl _ _).alloc (Nat.le_refl _) _)).mono ?_
  rintro e w1 ⟨rfl, hb1⟩
  have hbx : Below w.heap.size w w1 := below_new hb1
  have hw1 : w.heap.size < w1.heap.size := by have := hb1.size; simp at this; omega
  go_wp2_with fail
  refine (HTX.out _ hbx).mono ?_
  rintro e w2 ⟨rfl, hb2⟩
  have d0 : w2.cell? ⟨w.heap.size, 0, none⟩ = some (.int .i64 0) := (hb2.cell (p := ⟨w.heap.size, 0, none⟩) hw1).trans ((hb1.cell (p := ⟨w.heap.size, 0, none⟩) (by simp)).trans (by simp))
  have d1 : w2.cell? ⟨w.heap.size, 1, none⟩ = some (.string ⟨#[]⟩) := (hb2.cell (p := ⟨w.heap.size, 1, none⟩) hw1).trans ((hb1.cell (p := ⟨w.heap.size, 1, none⟩) (by simp)).trans (by simp))
  have g0 : w2.frozen? ⟨w.heap.size, 0, none⟩ = false := (hb2.frozen (p := ⟨w.heap.size, 0, none⟩) hw1).trans ((hb1.frozen (p := ⟨w.heap.size, 0, none⟩) (by simp)).trans (by simp [go_sem]))
  have g1 : w2.frozen? ⟨w.heap.size, 1, none⟩ = false := (hb2.frozen (p := ⟨w.heap.size, 1, none⟩) hw1).trans ((hb1.frozen (p := ⟨w.heap.size, 1, none⟩) (by simp)).trans (by simp [go_sem]))
  have hw : w.heap.size < w2.heap.size := Nat.lt_of_lt_of_le hw1 hb2.size
  have HB : Hid (Below w.heap.size w w2) := hbx.trans (hb2.mono hbx.size)
  clear hb1 hb2 hbx hw1
  by_cases hbig : 200 < T.size
  · have hbig' : (200 : Int) < (T.size : Int) := by omega
    have E : Hid (c = 2 ∧ t0 = noTx) := HCT.out.1 hbig
    clear hbig
    go_wp2_with fail
    refine bodyPost_ret (v := .agg #[.int .i64 2, .string ⟨#[]⟩]) (by simp [results, Tryz.results28, go_sem, d0, d1, hw]) rfl ⟨by rw [E.out.1, E.out.2]; rfl, ?_⟩
    exact (HB.out.setCell (Nat.le_refl _) _).setCell (Nat.le_refl _) _
  · have hbig' : ¬ ((200 : Int) < (T.size : Int)) := by omega
    have E : Hid (c = 0 ∧ t0 = T) := HCT.out.2 hbig
    clear hbig
    go_wp2_with fail
    refine bodyPost_ret (v := .agg #[.int .i64 0, .string T]) (by simp [results, Tryz.results28, go_sem, d0, d1, hw]) rfl ⟨by rw [E.out.1, E.out.2], ?_⟩
    exact (HB.out.setCell (Nat.le_refl _) _).setCell (Nat.le_refl _) _

end Go.Proofs.YtnfolmjdicfobaaGreatDoor

namespace Go.Proofs.YtnfolmjdicfobaaGreatDoor
open Go.RowKit
set_option linter.unusedVariables false
set_option linter.unusedSimpArgs false

theorem l4Text_c (a : Option Addr) (n cap : Nat) (zs : List PartI) (hc : ptCode zs = 0) : ∀ (m p : Nat), p < m → p < n → ∀ w : World, PartsIn w a n zs →
    Calls Tryz.prog 64 #[.slice a n cap, .int .i64 (p : Int)] w fun e w' => e = .returned (.string (textAt zs p)) ∧ Below w.heap.size w w'
  | 0, p, h, _, _, _ => by omega
  | m + 1, p, hpm, hpn, w, hP => by
    obtain ⟨hz1, hz8, hall⟩ := pt_all hc
    rw [hP.1] at hz1 hz8
    obtain ⟨b, off, x, rfl, hs, hx⟩ := hP.at hpn
    have hx0 := hall p x hs
    rw [textAt_is hs]
    have IH : ∀ j : Nat, j < p → Hid (∀ w2, Below w.heap.size w w2 → Calls Tryz.prog 64 #[.slice (some ⟨b, off, none⟩) n cap, .int .i64 (j : Int)] w2 fun e w' => e = .returned (.string (textAt zs j)) ∧ Below w2.heap.size w2 w') := fun j hj w2 hb =>
      l4Text_c (some ⟨b, off, none⟩) n cap zs hc m j (by omega) (by omega) w2 (hP.below hb)
    have hlen := hP.1
    obtain ⟨kk, ro, rn, l, r⟩ := x
    unfold ptOne at hx0
    simp only at hx0
    split at hx0
    · cases hx0
    · split at hx0
      · rename_i e1
        subst e1
        have hb : roleB ro rn = true := by
          cases q : roleB ro rn
          · rw [if_pos q] at hx0; cases hx0
          · rfl
        exact l4Text_role b off n cap p ro rn l r w hpn hz8 hx hb
      · rename_i e1
        split at hx0
        · cases hx0
        · split at hx0
          · cases hx0
          · split at hx0
            · cases hx0
            · obtain ⟨l', rfl⟩ := Int.eq_ofNat_of_zero_le (show 0 ≤ l by omega)
              obtain ⟨r', rfl⟩ := Int.eq_ofNat_of_zero_le (show 0 ≤ r by omega)
              have hl := textAt_ahead (zs := zs) (show l' < p by omega) (by omega)
              have hr := textAt_ahead (zs := zs) (show r' < p by omega) (by omega)
              have hs1 := textAt_small (zs := zs) (show l' < 8 by omega)
              have hs2 := textAt_small (zs := zs) (show r' < 8 by omega)
              obtain ⟨tx, htx⟩ : ∃ tx : Int → ByteArray, ∀ q : Nat, tx (q : Int) = textAt zs q := ⟨fun q => textAt zs q.toNat, fun q => by simp⟩
              have ho : textOne (textsTo zs p) ⟨kk, ro, rn, (l' : Int), (r' : Int)⟩ = wrapT (sepT kk) (tx (l' : Int)) (tx (r' : Int)) := by
                rw [htx, htx]
                unfold textOne
                simp only
                rw [if_neg e1, Int.toNat_natCast, Int.toNat_natCast, hl, hr]; rfl
              rw [ho]
              have HH : Hid (∀ (q : Int) (w2 : World), (q = (l' : Int) ∨ q = (r' : Int)) → Below w.heap.size w w2 → Calls Tryz.prog 64 #[.slice (some ⟨b, off, none⟩) n cap, .int .i64 q] w2 fun e w' => e = .returned (.string (tx q)) ∧ Below w2.heap.size w2 w') := by
                rintro q w2 (rfl | rfl) hb
                · rw [htx]; exact (IH l' (by omega)).out w2 hb
                · rw [htx]; exact (IH r' (by omega)).out w2 hb
              have hk2 : kk = 2 ∨ kk = 3 := by omega
              rcases hk2 with rfl | rfl
              · rw [show sepT 2 = ⟨#[32, 43, 32]⟩ by unfold sepT; simp]
                exact l4Text_two b off n cap p ro rn (l' : Int) (r' : Int) tx w hpn hz8 hx (by rw [htx]; exact hs1) (by rw [htx]; exact hs2) HH
              · rw [show sepT 3 = ⟨#[32, 42, 32]⟩ by unfold sepT; simp]
                exact l4Text_three b off n cap p ro rn (l' : Int) (r' : Int) tx w hpn hz8 hx (by rw [htx]; exact hs1) (by rw [htx]; exact hs2) HH

theorem last_text (a : Option Addr) (n cap : Nat) (zs : List PartI) (w : World) (h : PartsIn w a n zs) (hc : ptCode zs = 0) : ∀ w2 : World, PartsIn w2 a n zs → Calls Tryz.prog 64 #[.slice a n cap, .int .i64 ((n : Int) - 1)] w2 fun e w' => e = .returned (.string (textAt zs (n - 1))) ∧ Below w2.heap.size w2 w' := fun w2 q => by
  obtain ⟨hz1, hz8, hall⟩ := pt_all hc
  rw [h.1] at hz1 hz8
  rw [show (n : Int) - 1 = ((n - 1 : Nat) : Int) by omega]
  exact l4Text_c a n cap zs hc n (n - 1) (by omega) (by omega) w2 q

/-- Both programs tell the same code and text of the same parts. -/
theorem partText_both (n : Nat) (zs : List PartI) (hm : n ≤ maxLen) : ∃ (c : Int) (t : ByteArray), (∀ (a : Option Addr) (cap : Nat) (w : World), PartsIn w a n zs → GivesT 28 a n cap c t w) ∧ (∀ (a : Option Addr) (cap : Nat) (w : World), PartsIn w a n zs → GivesT 26 a n cap c t w) := by
  by_cases hc : ptCode zs = 0
  · by_cases hb : 200 < (textAt zs (n - 1)).size
    · have HCT : Hid ((200 < (textAt zs (n - 1)).size → (2 : Int) = 2 ∧ noTx = noTx) ∧ (¬ 200 < (textAt zs (n - 1)).size → (2 : Int) = 0 ∧ noTx = textAt zs (n - 1))) := ⟨fun _ => ⟨rfl, rfl⟩, fun q => absurd hb q⟩
      exact ⟨2, noTx, fun a cap w h => specPT_ok a n cap zs _ w h hc rfl (last_text a n cap zs w h hc) 2 noTx HCT, fun a cap w h => implPT_ok a n cap zs _ w h hc rfl 2 noTx HCT⟩
    · have HCT : Hid ((200 < (textAt zs (n - 1)).size → (0 : Int) = 2 ∧ textAt zs (n - 1) = noTx) ∧ (¬ 200 < (textAt zs (n - 1)).size → (0 : Int) = 0 ∧ textAt zs (n - 1) = textAt zs (n - 1))) := ⟨fun q => absurd q hb, fun _ => ⟨rfl, rfl⟩⟩
      exact ⟨0, textAt zs (n - 1), fun a cap w h => specPT_ok a n cap zs _ w h hc rfl (last_text a n cap zs w h hc) 0 _ HCT, fun a cap w h => implPT_ok a n cap zs _ w h hc rfl 0 _ HCT⟩
  · exact ⟨ptCode zs, noTx, fun a cap w h => specPT_bad a n cap zs _ w hm h rfl hc, fun a cap w h => implPT_bad a n cap zs _ w hm h rfl hc⟩

end Go.Proofs.YtnfolmjdicfobaaGreatDoor

namespace Go.Proofs.YtnfolmjdicfobaaGreatDoor
open Go.RowKit
set_option linter.unusedVariables false
set_option linter.unusedSimpArgs false

theorem fldI0 (x y : Int) (w : World) : (Instr.field 37 (.agg #[.int .i64 x, .int .i64 y]) 0).run Tryz.prog w = .ok (.int .i64 x) w := by kernel_rfl
theorem fldI1L (x y : Int) (w : World) : (Instr.field 37 (.agg #[.int .i64 x, .int .i64 y]) 1).run Tryz.prog w = .ok (.int .i64 y) w := by kernel_rfl
theorem fldT1 (x : Int) (y : ByteArray) (w : World) : (Instr.field 33 (.agg #[.int .i64 x, .string y]) 1).run Tryz.prog w = .ok (.string y) w := by kernel_rfl

attribute [local go_sem ↓] fldI0 fldI1L fldT1

abbrev KL (W W' : World) : Prop := (∀ b o, b < W.heap.size → W'.cell? ⟨b, o, none⟩ = W.cell? ⟨b, o, none⟩) ∧ Below W.heap.size W W'

/-- Both programs tell the same text of parts that have no fault. -/
theorem partText_ok (n : Nat) (zs : List PartI) (hc : ptCode zs = 0) : ∃ (c : Int) (t : ByteArray), (c = 0 ∨ c = 2) ∧ (∀ (a : Option Addr) (cap : Nat) (w : World), PartsIn w a n zs → GivesT 28 a n cap c t w) ∧ (∀ (a : Option Addr) (cap : Nat) (w : World), PartsIn w a n zs → GivesT 26 a n cap c t w) := by
  by_cases hb : 200 < (textAt zs (n - 1)).size
  · have HCT : Hid ((200 < (textAt zs (n - 1)).size → (2 : Int) = 2 ∧ noTx = noTx) ∧ (¬ 200 < (textAt zs (n - 1)).size → (2 : Int) = 0 ∧ noTx = textAt zs (n - 1))) := ⟨fun _ => ⟨rfl, rfl⟩, fun q => absurd hb q⟩
    exact ⟨2, noTx, .inr rfl, fun a cap w h => specPT_ok a n cap zs _ w h hc rfl (last_text a n cap zs w h hc) 2 noTx HCT, fun a cap w h => implPT_ok a n cap zs _ w h hc rfl 2 noTx HCT⟩
  · have HCT : Hid ((200 < (textAt zs (n - 1)).size → (0 : Int) = 2 ∧ textAt zs (n - 1) = noTx) ∧ (¬ 200 < (textAt zs (n - 1)).size → (0 : Int) = 0 ∧ textAt zs (n - 1) = textAt zs (n - 1))) := ⟨fun q => absurd q hb, fun _ => ⟨rfl, rfl⟩⟩
    exact ⟨0, textAt zs (n - 1), .inl rfl, fun a cap w h => specPT_ok a n cap zs _ w h hc rfl (last_text a n cap zs w h hc) 0 _ HCT, fun a cap w h => implPT_ok a n cap zs _ w h hc rfl 0 _ HCT⟩

set_option maxRecDepth 100000 in
set_option maxHeartbeats 1000000 in
theorem drawLeast_c (a : Option Addr) (len cap : Nat) (ys : List Int) (w : World) (hc : CodeIn w a len ys) (hl : len ≤ 1048576) :
    Calls Tryz.prog 22 #[.slice a len cap] w fun e w' => DrawnP w e w' := by
  have HC : Hid (CodeIn w a len ys) := hc
  clear hc
  go_enter Tryz.func22, Tryz.ntmps22
  go_wp2_with fail
  refine (with_c a len cap ys _ HC.out hl).mono ?_
  rintro e w1 ⟨g, n, c, b, m, c', zs, ps, rfl, h1, h2, h3, h4, h5⟩
  have HD : Hid (RulesIn w1 (some ⟨g, 0, none⟩) n zs ∧ PartsIn w1 b m ps ∧ Below w.heap.size w w1) := ⟨h3, h4, h5⟩
  clear h3 h4 h5
  go_wp2_with fail
  refine bodyPost_ret (v := .tuple #[.slice (some ⟨g, 0, none⟩) n c, .slice b m c']) (by simp [results, Tryz.results22, go_sem]) rfl ?_
  exact ⟨g, n, c, b, m, c', zs, ps, rfl, h1, h2, HD.out.1, HD.out.2.1, HD.out.2.2⟩

/-- What stands of the two that were drawn. -/
structure FL (w : World) (g n : Nat) (zs : List RuleI) (b : Option Addr) (m : Nat) (ps : List PartI) (W : World) : Prop where
  bl : Below w.heap.size w W
  ra : RulesIn W (some ⟨g, 0, none⟩) n zs
  rp : PartsIn W b m ps

theorem FL.below {w : World} {g n : Nat} {zs : List RuleI} {b : Option Addr} {m : Nat} {ps : List PartI} {W W' : World} (h : FL w g n zs b m ps W) (hb : Below W.heap.size W W') : FL w g n zs b m ps W' :=
  ⟨h.bl.trans (hb.mono h.bl.size), h.ra.below hb, h.rp.below hb⟩

/-- What LeastOf of both programs tells of rules and parts. -/
theorem least_both (g n c : Nat) (zs : List RuleI) (b : Option Addr) (m c' : Nat) (ps : List PartI) (hn : n ≤ 17) (hnc : n ≤ c) (hcm : c ≤ maxLen) (hm : m ≤ 9) :
    ∃ k v : Int, (∀ w : World, RulesIn w (some ⟨g, 0, none⟩) n zs → PartsIn w b m ps → GivesL 23 (some ⟨g, 0, none⟩) n c b m c' k v w) ∧ (∀ w : World, RulesIn w (some ⟨g, 0, none⟩) n zs → PartsIn w b m ps → GivesL 24 (some ⟨g, 0, none⟩) n c b m c' k v w) ∧ (k = 0 → manyCode zs ps = 0 ∧ ∃ (gs : List GrI) (x : Nat), AllG zs gs ∧ v = (x : Int) ∧ IsLeast (tellsL (ofG gs) ps) x) := by
  by_cases hc : manyCode zs ps = 0
  · obtain ⟨gs, hg⟩ := all_some zs (many_zero hc).1
    obtain ⟨k, v, hlv⟩ := least_is (tellsL (ofG gs) ps)
    refine ⟨k, v, fun w h h' => implLeast_ok _ _ _ _ _ _ _ _ gs k v _ (by omega) (by omega) hnc hcm h h' hc hg hlv, fun w h h' => specLeast_ok _ _ _ _ _ _ _ k v _ hlv (fun w2 q => specSets_ok _ _ _ _ _ _ _ _ gs _ (by omega) (by omega) (h.below q) (h'.below q) hc hg), fun e => ⟨hc, gs, ?_⟩⟩
    rcases hlv with ⟨_, x, hx, hl⟩ | ⟨h4, _⟩
    · exact ⟨x, hg, hx, hl⟩
    · rw [e] at h4; cases h4
  · exact ⟨manyCode zs ps, 0, fun w h h' => implLeast_bad _ _ _ _ _ _ _ _ _ _ (by omega) (by omega) hnc hcm h h' rfl hc, fun w h h' => specLeast_bad _ _ _ _ _ _ _ _ hc (fun w2 q => specSets_bad _ _ _ _ _ _ _ _ _ _ (by omega) (by omega) (h.below q) (h'.below q) rfl hc), fun e => absurd e hc⟩

set_option maxRecDepth 100000 in
set_option maxHeartbeats 8000000 in
theorem least_inner (a : Option Addr) (len cap : Nat) (bs : List Int) (w : World) (hl : len ≤ 1048576) (hc : CodeIn w a len bs) :
    Calls Tryz.prog 5 #[.slice a len cap] w fun e w' => e = .returned (.bool true) ∧ Below w.heap.size w w' := by
  have hl' : (len : Int) ≤ 1048576 := by omega
  have HCO : Hid (CodeIn w a len bs) := hc
  clear hc
  go_enter Tryz.func5, Tryz.ntmps5
  go_wp2_with (first | (go_at_call 6; go_in) | fail)
  refine (drawLeast_c a len cap bs _ HCO.out hl).mono ?_
  rintro e w1 ⟨g, n, c, b, m, c', zs, ps, rfl, ⟨hn, hnc, hcm⟩, ⟨hm, hmc, hcm'⟩, hra, hrp, hb1⟩
  have F1 : Hid (FL w g n zs b m ps w1) := ⟨hb1, hra, hrp⟩
  clear HCO hra hrp hb1
  obtain ⟨k, v, hI, hS, hK⟩ := least_both g n c zs b m c' ps hn hnc hcm hm
  have HI : Hid (∀ w : World, RulesIn w (some ⟨g, 0, none⟩) n zs → PartsIn w b m ps → GivesL 23 (some ⟨g, 0, none⟩) n c b m c' k v w) := hI
  have HS : Hid (∀ w : World, RulesIn w (some ⟨g, 0, none⟩) n zs → PartsIn w b m ps → GivesL 24 (some ⟨g, 0, none⟩) n c b m c' k v w) := hS
  have HK : Hid (k = 0 → manyCode zs ps = 0 ∧ ∃ (gs : List GrI) (x : Nat), AllG zs gs ∧ v = (x : Int) ∧ IsLeast (tellsL (ofG gs) ps) x) := hK
  clear hI hS hK
  go_wp2_with fail
  refine (HI.out _ F1.out.ra F1.out.rp).mono ?_
  rintro e w2 ⟨rfl, hb2⟩
  obtain ⟨W, hW⟩ : ∃ W, W = w2.alloc (.cells #[.int .i64 k, .int .i64 v] 37) := ⟨_, rfl⟩
  have A2 : Below w2.heap.size w2 W := by rw [hW]; exact (Below.refl _ _).alloc (Nat.le_refl _) _
  have F2 : Hid (FL w g n zs b m ps W) := (F1.out.below hb2).below A2
  have X2 : Hid (Box2 W w2.heap.size (.int .i64 k) (.int .i64 v)) := by rw [hW]; exact Box2.new _ _ _ _
  clear hb2 A2 F1 HI
  go_upto_region 5 with fail
  rw [← hW]
  clear hW
  obtain ⟨x0, x1⟩ := X2.out
  have hlx := X2.out.lt
  by_cases hk0 : k = 0
  · have kb : (k != 0) = false := by simp [hk0]
    obtain ⟨hmc0, G, x, hG, hvx, hlst⟩ := HK.out hk0
    subst hvx
    have hx256 : x < 256 := hlst.1
    have HLW : Hid (0 < pcN x ∧ ∀ i, i < 256 → pcN i < pcN x → tellsL (ofG G) ps i = false) := least_law hlst
    have HTX : Hid (tellsL (ofG G) ps x = true) := hlst.2.1
    have hpc : ptCode ps = 0 := (many_zero hmc0).2
    have HAI : Hid (∀ (i : Nat) (t : Bool), i < 256 → tellsL (ofG G) ps i = t → ∀ w' : World, RulesIn w' (some ⟨g, 0, none⟩) n zs → PartsIn w' b m ps → GivesA 16 (some ⟨g, 0, none⟩) n c b m c' (i : Int) t w') := fun i t hi ht w' h h' => by
      have := implAdmits_c (some ⟨g, 0, none⟩) n c zs b m c' ps G (i : Int) w' (by omega) (by omega) hnc hcm h h' (fun _ => hG)
      have e : admB zs ps G (i : Int) = t := by
        unfold admB
        rw [decide_eq_true hmc0, Bool.true_and, show setIn (i : Int) = true by simp [setIn]; omega, Bool.true_and, Int.toNat_natCast]
        exact ht
      rw [e] at this
      exact this
    obtain ⟨tc, tt, htc, hTS, hTI⟩ := partText_ok m ps hpc
    have HTS : Hid (∀ (a : Option Addr) (cap : Nat) (w : World), PartsIn w a m ps → GivesT 28 a m cap tc tt w) := hTS
    have HTI : Hid (∀ (a : Option Addr) (cap : Nat) (w : World), PartsIn w a m ps → GivesT 26 a m cap tc tt w) := hTI
    have HPC : Hid (ptCode ps = 0) := hpc
    have HSZ : Hid (∀ (i : Nat), i < 256 → ∀ w' : World, Calls Tryz.prog 25 #[.int .i64 (i : Int)] w' fun e w'' => e = .returned (.agg #[.int .i64 0, .int .i64 (pcN i : Int)]) ∧ Below w'.heap.size w' w'') := fun i hi w' => implSize_in (i : Int) (by omega) (by omega) w'
    clear hk0 hG hlst hpc hTS hTI HK HS hmc0
    go_wp2_with fail
    refine (HSZ.out x hx256 _).mono ?_
    rintro e w3 ⟨rfl, hb3⟩
    have F3 : Hid (FL w g n zs b m ps w3) := F2.out.below hb3
    have X3 : Hid (Box2 w3 w2.heap.size (.int .i64 k) (.int .i64 (x : Int))) := X2.out.below hb3
    clear F2 X2 x0 x1 hlx hb3
    obtain ⟨N, hN⟩ : ∃ N, pcN x = N := ⟨_, rfl⟩
    have HN : Hid (pcN x = N) := hN
    have hN8 : (N : Int) ≤ 8 := by have := pc_le ⟨x, hx256⟩; simp only at this; rw [hN] at this; omega
    rw [hN]
    clear hN
    go_wp2_with fail
    go_loopw [7] (fun i wr => ∃ j : Nat, j ≤ 24 ∧ i = .int .i64 (11 * (j : Int)) ∧ FL w g n zs b m ps wr ∧ Box2 wr w2.heap.size (.int .i64 k) (.int .i64 (x : Int))) (fun i _ => (300 - intOf i).toNat)
    case atStart => exact ⟨0, by omega, by simp, F3.out, X3.out⟩
    case round =>
      obtain ⟨j, hj, rfl, hF, hX⟩ := hrel
      have F4 : Hid (FL w g n zs b m ps wr) := hF
      have X4 : Hid (Box2 wr w2.heap.size (.int .i64 k) (.int .i64 (x : Int))) := hX
      clear hF hX F3 X3
      by_cases hlt : j < 24
      · have h11 : 11 * (j : Int) < 256 := by omega
        have hi : 11 * j < 256 := by omega
        have HSJ : Hid (∀ w' : World, Calls Tryz.prog 25 #[.int .i64 (11 * (j : Int))] w' fun e w'' => e = .returned (.agg #[.int .i64 0, .int .i64 (pcN (11 * j) : Int)]) ∧ Below w'.heap.size w' w'') := fun w' => by
          have := HSZ.out (11 * j) hi w'
          rw [show ((11 * j : Nat) : Int) = 11 * (j : Int) by omega] at this
          exact this
        obtain ⟨q, hq⟩ : ∃ q, pcN (11 * j) = q := ⟨_, rfl⟩
        rw [hq] at HSJ
        by_cases hlq : q < N
        · have HAJ : Hid (∀ w' : World, RulesIn w' (some ⟨g, 0, none⟩) n zs → PartsIn w' b m ps → Calls Tryz.prog 16 #[.slice (some ⟨g, 0, none⟩) n c, .slice b m c', .int .i64 (11 * (j : Int))] w' fun e w'' => e = .returned (.bool false) ∧ Below w'.heap.size w' w'') := fun w' h h' => by
            have := HAI.out (11 * j) false hi (HLW.out.2 (11 * j) hi (by rw [hq, HN.out]; exact hlq)) w' h h'
            rw [show ((11 * j : Nat) : Int) = 11 * (j : Int) by omega] at this
            exact this
          have hlq' : (q : Int) < (N : Int) := by omega
          have hd : decide ((q : Int) < (N : Int)) = true := decide_eq_true hlq'
          clear hq hlq
          go_wp2_with fail
          refine (HSJ.out _).mono ?_
          rintro e w5 ⟨rfl, hb5⟩
          have F5 : Hid (FL w g n zs b m ps w5) := F4.out.below hb5
          have X5 : Hid (Box2 w5 w2.heap.size (.int .i64 k) (.int .i64 (x : Int))) := X4.out.below hb5
          clear F4 X4 hb5
          go_wp2_with fail
          refine (HAJ.out _ F5.out.ra F5.out.rp).mono ?_
          rintro e w6 ⟨rfl, hb6⟩
          have F6 : Hid (FL w g n zs b m ps w6) := F5.out.below hb6
          have X6 : Hid (Box2 w6 w2.heap.size (.int .i64 k) (.int .i64 (x : Int))) := X5.out.below hb6
          clear F5 X5 hb6
          go_wp2
          exact ⟨⟨j + 1, by omega, by first | (congr 1; omega) | congr 1, F6.out, X6.out⟩, by simp [intOf]; omega⟩
        · have hlq' : (N : Int) ≤ (q : Int) := by omega
          have hd : decide ((q : Int) < (N : Int)) = false := decide_eq_false (by omega)
          clear hq hlq
          go_wp2_with fail
          refine (HSJ.out _).mono ?_
          rintro e w5 ⟨rfl, hb5⟩
          have F5 : Hid (FL w g n zs b m ps w5) := F4.out.below hb5
          have X5 : Hid (Box2 w5 w2.heap.size (.int .i64 k) (.int .i64 (x : Int))) := X4.out.below hb5
          clear F4 X4 hb5
          go_wp2
          exact ⟨⟨j + 1, by omega, by first | (congr 1; omega) | congr 1, F5.out, X5.out⟩, by simp [intOf]; omega⟩
      · have h11 : 256 ≤ 11 * (j : Int) := by omega
        go_wp2_with fail
        refine (HTI.out _ _ _ F4.out.rp).mono ?_
        rintro e w5 ⟨rfl, hb5⟩
        obtain ⟨W, hW⟩ : ∃ W, W = w5.alloc (.cells #[.int .i64 tc, .string tt] 33) := ⟨_, rfl⟩
        have A5 : Below w5.heap.size w5 W := by rw [hW]; exact (Below.refl _ _).alloc (Nat.le_refl _) _
        have F5 : Hid (FL w g n zs b m ps W) := (F4.out.below hb5).below A5
        have X5 : Hid (Box2 W w2.heap.size (.int .i64 k) (.int .i64 (x : Int))) := (X4.out.below hb5).below A5
        have Y5 : Hid (Box2 W w5.heap.size (.int .i64 tc) (.string tt)) := by rw [hW]; exact Box2.new _ _ _ _
        clear F4 X4 hb5 A5
        go_upto_region 14 with fail
        rw [← hW]
        clear hW
        obtain ⟨x0, x1⟩ := X5.out
        obtain ⟨y0, y1⟩ := Y5.out
        have hlx := X5.out.lt
        have hly := Y5.out.lt
        have BW := F5.out.bl
        have HAD : Hid (∀ w' : World, KL W w' → Calls Tryz.prog 16 #[.slice (some ⟨g, 0, none⟩) n c, .slice b m c', .int .i64 (x : Int)] w' fun e w'' => e = .returned (.bool true) ∧ Below w'.heap.size w' w'') := fun w' q => HAI.out x true hx256 HTX.out w' (F5.out.ra.below q.2) (F5.out.rp.below q.2)
        have HPF : Hid (∀ w' : World, KL W w' → Calls Tryz.prog 27 #[.slice b m c'] w' fun e w'' => e = .returned (.int .i64 0) ∧ Below w'.heap.size w' w'') := fun w' q => by
          have := implPartsFault_c b m c' ps w' (by unfold maxLen; omega) (F5.out.rp.below q.2)
          rw [HPC.out] at this
          exact this
        have HPT : Hid (∀ w' : World, KL W w' → Calls Tryz.prog 28 #[.slice b m c'] w' fun e w'' => e = .returned (.agg #[.int .i64 tc, .string tt]) ∧ Below w'.heap.size w' w'') := fun w' q => HTS.out b c' w' (F5.out.rp.below q.2)
        have hNp : (0 : Int) < (N : Int) := by have := HLW.out.1; rw [HN.out] at this; omega
        have hNb : decide ((0 : Int) < (N : Int)) = true := decide_eq_true hNp
        have hNn : 0 < N := by omega
        clear F5 X5 Y5 HTS HTI HAI HSZ
        rcases htc with rfl | rfl
        · skip
          refine wp_region_held_drew (S := fun w' => KL W w') (by kernel_rfl) (kp_drew _) (fun hHeld => ?_)
          refine wpAnyH_take (i := 0) (v := ?_) rfl (by kernel_rfl) (by kernel_rfl) (by kernel_rfl) (fun _ _ _ h => h) (Or.inl ⟨by kernel_rfl, ?_⟩) (by assumption) ?_
          rotate_left 1
          · intro w hSw; (try dsimp only at hSw); go_simp; try (with_reducible rfl)
          try simp only [Act.put, List.getElem_toArray, List.getElem_cons_succ, List.getElem_cons_zero, List.setIfInBounds_toArray, List.set_cons_zero, List.set_cons_succ]
          refine wpAnyH_take (i := 1) (v := ?_) rfl (by kernel_rfl) (by kernel_rfl) (by kernel_rfl) (fun _ _ _ h => h) (Or.inl ⟨by kernel_rfl, ?_⟩) (by assumption) ?_
          rotate_left 1
          · intro w hSw; (try dsimp only at hSw); go_simp; try (with_reducible rfl)
          try simp only [Act.put, List.getElem_toArray, List.getElem_cons_succ, List.getElem_cons_zero, List.setIfInBounds_toArray, List.set_cons_zero, List.set_cons_succ]
          refine wpAnyH_take (i := 2) (v := ?_) rfl (by kernel_rfl) (by kernel_rfl) (by kernel_rfl) (fun _ _ _ h => h) (Or.inl ⟨by kernel_rfl, ?_⟩) (by assumption) ?_
          rotate_left 1
          · intro w hSw; (try dsimp only at hSw); go_simp; try (with_reducible rfl)
          try simp only [Act.put, List.getElem_toArray, List.getElem_cons_succ, List.getElem_cons_zero, List.setIfInBounds_toArray, List.set_cons_zero, List.set_cons_succ]
          refine wpAnyH_take (i := 3) (v := ?_) rfl (by kernel_rfl) (by kernel_rfl) (by kernel_rfl) (fun _ _ _ h => h) (Or.inl ⟨by kernel_rfl, ?_⟩) (by assumption) ?_
          rotate_left 1
          · intro w hSw; (try dsimp only at hSw); go_simp; try (with_reducible rfl)
          try simp only [Act.put, List.getElem_toArray, List.getElem_cons_succ, List.getElem_cons_zero, List.setIfInBounds_toArray, List.set_cons_zero, List.set_cons_succ]
          refine wpAnyH_ready (rs := [4]) (by kernel_rfl) (by simp) ?_
          refine AllReadyH.cons rfl (fun K hK => ?_) AllReadyH.nil
          go_simp
          refine (HAD.out _ hHeld).mono ?_
          rintro e wA ⟨rfl, hbA⟩
          have hS := kp_step hHeld hbA
          refine hK.out _ _ hS (fun hHeld => ?_)
          clear hK K
          try simp only [Act.put, List.getElem_toArray, List.getElem_cons_succ, List.getElem_cons_zero, List.setIfInBounds_toArray, List.set_cons_zero, List.set_cons_succ]
          refine wpAnyH_take (i := 5) (v := ?_) rfl (by kernel_rfl) (by kernel_rfl) (by kernel_rfl) (fun _ _ _ h => h) (Or.inl ⟨by kernel_rfl, ?_⟩) (by assumption) ?_
          rotate_left 1
          · intro w hSw; (try dsimp only at hSw); go_simp; try (with_reducible rfl)
          try simp only [Act.put, List.getElem_toArray, List.getElem_cons_succ, List.getElem_cons_zero, List.setIfInBounds_toArray, List.set_cons_zero, List.set_cons_succ]
          refine wpAnyH_take (i := 6) (v := ?_) rfl (by kernel_rfl) (by kernel_rfl) (by kernel_rfl) (fun _ _ _ h => h) (Or.inl ⟨by kernel_rfl, ?_⟩) (by assumption) ?_
          rotate_left 1
          · intro w hSw; (try dsimp only at hSw); go_simp; try (with_reducible rfl)
          try simp only [Act.put, List.getElem_toArray, List.getElem_cons_succ, List.getElem_cons_zero, List.setIfInBounds_toArray, List.set_cons_zero, List.set_cons_succ]
          refine wpAnyH_take (i := 7) (v := ?_) rfl (by kernel_rfl) (by kernel_rfl) (by kernel_rfl) (fun _ _ _ h => h) (Or.inl ⟨by kernel_rfl, ?_⟩) (by assumption) ?_
          rotate_left 1
          · intro w hSw; (try dsimp only at hSw); go_simp; try (with_reducible rfl)
          try simp only [Act.put, List.getElem_toArray, List.getElem_cons_succ, List.getElem_cons_zero, List.setIfInBounds_toArray, List.set_cons_zero, List.set_cons_succ]
          refine wpAnyH_take (i := 8) (v := ?_) rfl (by kernel_rfl) (by kernel_rfl) (by kernel_rfl) (fun _ _ _ h => h) (Or.inl ⟨by kernel_rfl, ?_⟩) (by assumption) ?_
          rotate_left 1
          · intro w hSw; (try dsimp only at hSw); go_simp; try (with_reducible rfl)
          try simp only [Act.put, List.getElem_toArray, List.getElem_cons_succ, List.getElem_cons_zero, List.setIfInBounds_toArray, List.set_cons_zero, List.set_cons_succ]
          refine wpAnyH_take (i := 9) (v := ?_) rfl (by kernel_rfl) (by kernel_rfl) (by kernel_rfl) (fun _ _ _ h => h) (Or.inl ⟨by kernel_rfl, ?_⟩) (by assumption) ?_
          rotate_left 1
          · intro w hSw; (try dsimp only at hSw); go_simp; try (with_reducible rfl)
          try simp only [Act.put, List.getElem_toArray, List.getElem_cons_succ, List.getElem_cons_zero, List.setIfInBounds_toArray, List.set_cons_zero, List.set_cons_succ]
          refine wpAnyH_take (i := 10) (v := ?_) rfl (by kernel_rfl) (by kernel_rfl) (by kernel_rfl) (fun _ _ _ h => h) (Or.inl ⟨by kernel_rfl, ?_⟩) (by assumption) ?_
          rotate_left 1
          · intro w hSw; (try dsimp only at hSw); go_simp; try (with_reducible rfl)
          try simp only [Act.put, List.getElem_toArray, List.getElem_cons_succ, List.getElem_cons_zero, List.setIfInBounds_toArray, List.set_cons_zero, List.set_cons_succ]
          refine wpAnyH_ready (rs := [11]) (by kernel_rfl) (by simp) ?_
          refine AllReadyH.cons rfl (fun K hK => ?_) AllReadyH.nil
          go_simp
          refine (HPF.out _ hHeld).mono ?_
          rintro e wB ⟨rfl, hbB⟩
          have hS := kp_step hHeld hbB
          refine hK.out _ _ hS (fun hHeld => ?_)
          clear hK K
          try simp only [Act.put, List.getElem_toArray, List.getElem_cons_succ, List.getElem_cons_zero, List.setIfInBounds_toArray, List.set_cons_zero, List.set_cons_succ]
          refine wpAnyH_take (i := 12) (v := ?_) rfl (by kernel_rfl) (by kernel_rfl) (by kernel_rfl) (fun _ _ _ h => h) (Or.inl ⟨by kernel_rfl, ?_⟩) (by assumption) ?_
          rotate_left 1
          · intro w hSw; (try dsimp only at hSw); go_simp; try (with_reducible rfl)
          try simp only [Act.put, List.getElem_toArray, List.getElem_cons_succ, List.getElem_cons_zero, List.setIfInBounds_toArray, List.set_cons_zero, List.set_cons_succ]
          refine wpAnyH_take (i := 13) (v := ?_) rfl (by kernel_rfl) (by kernel_rfl) (by kernel_rfl) (fun _ _ _ h => h) (Or.inl ⟨by kernel_rfl, ?_⟩) (by assumption) ?_
          rotate_left 1
          · intro w hSw; (try dsimp only at hSw); go_simp; try (with_reducible rfl)
          try simp only [Act.put, List.getElem_toArray, List.getElem_cons_succ, List.getElem_cons_zero, List.setIfInBounds_toArray, List.set_cons_zero, List.set_cons_succ]
          refine wpAnyH_take (i := 14) (v := ?_) rfl (by kernel_rfl) (by kernel_rfl) (by kernel_rfl) (fun _ _ _ h => h) (Or.inl ⟨by kernel_rfl, ?_⟩) (by assumption) ?_
          rotate_left 1
          · intro w hSw; (try dsimp only at hSw); go_simp; try (with_reducible rfl)
          try simp only [Act.put, List.getElem_toArray, List.getElem_cons_succ, List.getElem_cons_zero, List.setIfInBounds_toArray, List.set_cons_zero, List.set_cons_succ]
          refine wpAnyH_take (i := 15) (v := ?_) rfl (by kernel_rfl) (by kernel_rfl) (by kernel_rfl) (fun _ _ _ h => h) (Or.inl ⟨by kernel_rfl, ?_⟩) (by assumption) ?_
          rotate_left 1
          · intro w hSw; (try dsimp only at hSw); go_simp; try (with_reducible rfl)
          try simp only [Act.put, List.getElem_toArray, List.getElem_cons_succ, List.getElem_cons_zero, List.setIfInBounds_toArray, List.set_cons_zero, List.set_cons_succ]
          refine wpAnyH_take (i := 16) (v := ?_) rfl (by kernel_rfl) (by kernel_rfl) (by kernel_rfl) (fun _ _ _ h => h) (Or.inl ⟨by kernel_rfl, ?_⟩) (by assumption) ?_
          rotate_left 1
          · intro w hSw; (try dsimp only at hSw); go_simp; try (with_reducible rfl)
          try simp only [Act.put, List.getElem_toArray, List.getElem_cons_succ, List.getElem_cons_zero, List.setIfInBounds_toArray, List.set_cons_zero, List.set_cons_succ]
          refine wpAnyH_take (i := 17) (v := ?_) rfl (by kernel_rfl) (by kernel_rfl) (by kernel_rfl) (fun _ _ _ h => h) (Or.inl ⟨by kernel_rfl, ?_⟩) (by assumption) ?_
          rotate_left 1
          · intro w hSw; (try dsimp only at hSw); go_simp; try (with_reducible rfl)
          try simp only [Act.put, List.getElem_toArray, List.getElem_cons_succ, List.getElem_cons_zero, List.setIfInBounds_toArray, List.set_cons_zero, List.set_cons_succ]
          refine wpAnyH_take (i := 18) (v := ?_) rfl (by kernel_rfl) (by kernel_rfl) (by kernel_rfl) (fun _ _ _ h => h) (Or.inl ⟨by kernel_rfl, ?_⟩) (by assumption) ?_
          rotate_left 1
          · intro w hSw; (try dsimp only at hSw); go_simp; try (with_reducible rfl)
          try simp only [Act.put, List.getElem_toArray, List.getElem_cons_succ, List.getElem_cons_zero, List.setIfInBounds_toArray, List.set_cons_zero, List.set_cons_succ]
          refine wpAnyH_take (i := 19) (v := undef) rfl (by kernel_rfl) (by kernel_rfl) (by kernel_rfl) (fun _ _ _ h => h) (Or.inr ⟨by kernel_rfl, rfl⟩) (by assumption) ?_
          try simp only [Act.put, List.getElem_toArray, List.getElem_cons_succ, List.getElem_cons_zero, List.setIfInBounds_toArray, List.set_cons_zero, List.set_cons_succ]
          refine wpAnyH_take (i := 20) (v := undef) rfl (by kernel_rfl) (by kernel_rfl) (by kernel_rfl) (fun _ _ _ h => h) (Or.inr ⟨by kernel_rfl, rfl⟩) (by assumption) ?_
          try simp only [Act.put, List.getElem_toArray, List.getElem_cons_succ, List.getElem_cons_zero, List.setIfInBounds_toArray, List.set_cons_zero, List.set_cons_succ]
          refine wpAnyH_take (i := 21) (v := undef) rfl (by kernel_rfl) (by kernel_rfl) (by kernel_rfl) (fun _ _ _ h => h) (Or.inr ⟨by kernel_rfl, rfl⟩) (by assumption) ?_
          try simp only [Act.put, List.getElem_toArray, List.getElem_cons_succ, List.getElem_cons_zero, List.setIfInBounds_toArray, List.set_cons_zero, List.set_cons_succ]
          refine wpAnyH_take (i := 22) (v := ?_) rfl (by kernel_rfl) (by kernel_rfl) (by kernel_rfl) (fun _ _ _ h => h) (Or.inl ⟨by kernel_rfl, ?_⟩) (by assumption) ?_
          rotate_left 1
          · intro w hSw; (try dsimp only at hSw); go_simp; try (with_reducible rfl)
          try simp only [Act.put, List.getElem_toArray, List.getElem_cons_succ, List.getElem_cons_zero, List.setIfInBounds_toArray, List.set_cons_zero, List.set_cons_succ]
          refine wpAnyH_take (i := 23) (v := ?_) rfl (by kernel_rfl) (by kernel_rfl) (by kernel_rfl) (fun _ _ _ h => h) (Or.inl ⟨by kernel_rfl, ?_⟩) (by assumption) ?_
          rotate_left 1
          · intro w hSw; (try dsimp only at hSw); go_simp; try (with_reducible rfl)
          try simp only [Act.put, List.getElem_toArray, List.getElem_cons_succ, List.getElem_cons_zero, List.setIfInBounds_toArray, List.set_cons_zero, List.set_cons_succ]
          refine wpAnyH_take (i := 24) (v := ?_) rfl (by kernel_rfl) (by kernel_rfl) (by kernel_rfl) (fun _ _ _ h => h) (Or.inl ⟨by kernel_rfl, ?_⟩) (by assumption) ?_
          rotate_left 1
          · intro w hSw; (try dsimp only at hSw); go_simp; try (with_reducible rfl)
          try simp only [Act.put, List.getElem_toArray, List.getElem_cons_succ, List.getElem_cons_zero, List.setIfInBounds_toArray, List.set_cons_zero, List.set_cons_succ]
          refine wpAnyH_take (i := 25) (v := ?_) rfl (by kernel_rfl) (by kernel_rfl) (by kernel_rfl) (fun _ _ _ h => h) (Or.inl ⟨by kernel_rfl, ?_⟩) (by assumption) ?_
          rotate_left 1
          · intro w hSw; (try dsimp only at hSw); go_simp; try (with_reducible rfl)
          try simp only [Act.put, List.getElem_toArray, List.getElem_cons_succ, List.getElem_cons_zero, List.setIfInBounds_toArray, List.set_cons_zero, List.set_cons_succ]
          refine wpAnyH_take (i := 26) (v := ?_) rfl (by kernel_rfl) (by kernel_rfl) (by kernel_rfl) (fun _ _ _ h => h) (Or.inl ⟨by kernel_rfl, ?_⟩) (by assumption) ?_
          rotate_left 1
          · intro w hSw; (try dsimp only at hSw); go_simp; try (with_reducible rfl)
          try simp only [Act.put, List.getElem_toArray, List.getElem_cons_succ, List.getElem_cons_zero, List.setIfInBounds_toArray, List.set_cons_zero, List.set_cons_succ]
          refine wpAnyH_take (i := 27) (v := ?_) rfl (by kernel_rfl) (by kernel_rfl) (by kernel_rfl) (fun _ _ _ h => h) (Or.inl ⟨by kernel_rfl, ?_⟩) (by assumption) ?_
          rotate_left 1
          · intro w hSw; (try dsimp only at hSw); go_simp; try (with_reducible rfl)
          try simp only [Act.put, List.getElem_toArray, List.getElem_cons_succ, List.getElem_cons_zero, List.setIfInBounds_toArray, List.set_cons_zero, List.set_cons_succ]
          refine wpAnyH_ready (rs := [28]) (by kernel_rfl) (by simp) ?_
          refine AllReadyH.cons rfl (fun K hK => ?_) AllReadyH.nil
          go_simp
          refine (HPT.out _ hHeld).mono ?_
          rintro e wC ⟨rfl, hbC⟩
          have hS := kp_step hHeld hbC
          refine hK.out _ _ hS (fun hHeld => ?_)
          clear hK K
          try simp only [Act.put, List.getElem_toArray, List.getElem_cons_succ, List.getElem_cons_zero, List.setIfInBounds_toArray, List.set_cons_zero, List.set_cons_succ]
          refine wpAnyH_take (i := 29) (v := ?_) rfl (by kernel_rfl) (by kernel_rfl) (by kernel_rfl) (fun _ _ _ h => h) (Or.inl ⟨by kernel_rfl, ?_⟩) (by assumption) ?_
          rotate_left 1
          · intro w hSw; (try dsimp only at hSw); go_simp; try (with_reducible rfl)
          try simp only [Act.put, List.getElem_toArray, List.getElem_cons_succ, List.getElem_cons_zero, List.setIfInBounds_toArray, List.set_cons_zero, List.set_cons_succ]
          refine wpAnyH_take (i := 30) (v := ?_) rfl (by kernel_rfl) (by kernel_rfl) (by kernel_rfl) (fun _ _ _ h => h) (Or.inl ⟨by kernel_rfl, ?_⟩) (by assumption) ?_
          rotate_left 1
          · intro w hSw; (try dsimp only at hSw); go_simp; try (with_reducible rfl)
          try simp only [Act.put, List.getElem_toArray, List.getElem_cons_succ, List.getElem_cons_zero, List.setIfInBounds_toArray, List.set_cons_zero, List.set_cons_succ]
          refine wpAnyH_take (i := 31) (v := ?_) rfl (by kernel_rfl) (by kernel_rfl) (by kernel_rfl) (fun _ _ _ h => h) (Or.inl ⟨by kernel_rfl, ?_⟩) (by assumption) ?_
          rotate_left 1
          · intro w hSw; (try dsimp only at hSw); go_simp; try (with_reducible rfl)
          try simp only [Act.put, List.getElem_toArray, List.getElem_cons_succ, List.getElem_cons_zero, List.setIfInBounds_toArray, List.set_cons_zero, List.set_cons_succ]
          refine wpAnyH_ready (rs := [32]) (by kernel_rfl) (by simp) ?_
          refine AllReadyH.cons rfl (fun K hK => ?_) AllReadyH.nil
          go_simp
          refine hK.out _ _ (by assumption) (fun hHeld => ?_)
          clear hK K
          try simp only [Act.put, List.getElem_toArray, List.getElem_cons_succ, List.getElem_cons_zero, List.setIfInBounds_toArray, List.set_cons_zero, List.set_cons_succ]
          refine wpAnyH_done (by kernel_rfl) ?_ _
          go_wp2
          go_ret
          exact ⟨rfl, BW.trans (hHeld.2.mono BW.size)⟩
        · skip
          refine wp_region_held_drew (S := fun w' => KL W w') (by kernel_rfl) (kp_drew _) (fun hHeld => ?_)
          refine wpAnyH_take (i := 0) (v := ?_) rfl (by kernel_rfl) (by kernel_rfl) (by kernel_rfl) (fun _ _ _ h => h) (Or.inl ⟨by kernel_rfl, ?_⟩) (by assumption) ?_
          rotate_left 1
          · intro w hSw; (try dsimp only at hSw); go_simp; try (with_reducible rfl)
          try simp only [Act.put, List.getElem_toArray, List.getElem_cons_succ, List.getElem_cons_zero, List.setIfInBounds_toArray, List.set_cons_zero, List.set_cons_succ]
          refine wpAnyH_take (i := 1) (v := ?_) rfl (by kernel_rfl) (by kernel_rfl) (by kernel_rfl) (fun _ _ _ h => h) (Or.inl ⟨by kernel_rfl, ?_⟩) (by assumption) ?_
          rotate_left 1
          · intro w hSw; (try dsimp only at hSw); go_simp; try (with_reducible rfl)
          try simp only [Act.put, List.getElem_toArray, List.getElem_cons_succ, List.getElem_cons_zero, List.setIfInBounds_toArray, List.set_cons_zero, List.set_cons_succ]
          refine wpAnyH_take (i := 2) (v := ?_) rfl (by kernel_rfl) (by kernel_rfl) (by kernel_rfl) (fun _ _ _ h => h) (Or.inl ⟨by kernel_rfl, ?_⟩) (by assumption) ?_
          rotate_left 1
          · intro w hSw; (try dsimp only at hSw); go_simp; try (with_reducible rfl)
          try simp only [Act.put, List.getElem_toArray, List.getElem_cons_succ, List.getElem_cons_zero, List.setIfInBounds_toArray, List.set_cons_zero, List.set_cons_succ]
          refine wpAnyH_take (i := 3) (v := ?_) rfl (by kernel_rfl) (by kernel_rfl) (by kernel_rfl) (fun _ _ _ h => h) (Or.inl ⟨by kernel_rfl, ?_⟩) (by assumption) ?_
          rotate_left 1
          · intro w hSw; (try dsimp only at hSw); go_simp; try (with_reducible rfl)
          try simp only [Act.put, List.getElem_toArray, List.getElem_cons_succ, List.getElem_cons_zero, List.setIfInBounds_toArray, List.set_cons_zero, List.set_cons_succ]
          refine wpAnyH_ready (rs := [4]) (by kernel_rfl) (by simp) ?_
          refine AllReadyH.cons rfl (fun K hK => ?_) AllReadyH.nil
          go_simp
          refine (HAD.out _ hHeld).mono ?_
          rintro e wA ⟨rfl, hbA⟩
          have hS := kp_step hHeld hbA
          refine hK.out _ _ hS (fun hHeld => ?_)
          clear hK K
          try simp only [Act.put, List.getElem_toArray, List.getElem_cons_succ, List.getElem_cons_zero, List.setIfInBounds_toArray, List.set_cons_zero, List.set_cons_succ]
          refine wpAnyH_take (i := 5) (v := ?_) rfl (by kernel_rfl) (by kernel_rfl) (by kernel_rfl) (fun _ _ _ h => h) (Or.inl ⟨by kernel_rfl, ?_⟩) (by assumption) ?_
          rotate_left 1
          · intro w hSw; (try dsimp only at hSw); go_simp; try (with_reducible rfl)
          try simp only [Act.put, List.getElem_toArray, List.getElem_cons_succ, List.getElem_cons_zero, List.setIfInBounds_toArray, List.set_cons_zero, List.set_cons_succ]
          refine wpAnyH_take (i := 6) (v := ?_) rfl (by kernel_rfl) (by kernel_rfl) (by kernel_rfl) (fun _ _ _ h => h) (Or.inl ⟨by kernel_rfl, ?_⟩) (by assumption) ?_
          rotate_left 1
          · intro w hSw; (try dsimp only at hSw); go_simp; try (with_reducible rfl)
          try simp only [Act.put, List.getElem_toArray, List.getElem_cons_succ, List.getElem_cons_zero, List.setIfInBounds_toArray, List.set_cons_zero, List.set_cons_succ]
          refine wpAnyH_take (i := 7) (v := ?_) rfl (by kernel_rfl) (by kernel_rfl) (by kernel_rfl) (fun _ _ _ h => h) (Or.inl ⟨by kernel_rfl, ?_⟩) (by assumption) ?_
          rotate_left 1
          · intro w hSw; (try dsimp only at hSw); go_simp; try (with_reducible rfl)
          try simp only [Act.put, List.getElem_toArray, List.getElem_cons_succ, List.getElem_cons_zero, List.setIfInBounds_toArray, List.set_cons_zero, List.set_cons_succ]
          refine wpAnyH_take (i := 8) (v := ?_) rfl (by kernel_rfl) (by kernel_rfl) (by kernel_rfl) (fun _ _ _ h => h) (Or.inl ⟨by kernel_rfl, ?_⟩) (by assumption) ?_
          rotate_left 1
          · intro w hSw; (try dsimp only at hSw); go_simp; try (with_reducible rfl)
          try simp only [Act.put, List.getElem_toArray, List.getElem_cons_succ, List.getElem_cons_zero, List.setIfInBounds_toArray, List.set_cons_zero, List.set_cons_succ]
          refine wpAnyH_take (i := 9) (v := ?_) rfl (by kernel_rfl) (by kernel_rfl) (by kernel_rfl) (fun _ _ _ h => h) (Or.inl ⟨by kernel_rfl, ?_⟩) (by assumption) ?_
          rotate_left 1
          · intro w hSw; (try dsimp only at hSw); go_simp; try (with_reducible rfl)
          try simp only [Act.put, List.getElem_toArray, List.getElem_cons_succ, List.getElem_cons_zero, List.setIfInBounds_toArray, List.set_cons_zero, List.set_cons_succ]
          refine wpAnyH_take (i := 10) (v := ?_) rfl (by kernel_rfl) (by kernel_rfl) (by kernel_rfl) (fun _ _ _ h => h) (Or.inl ⟨by kernel_rfl, ?_⟩) (by assumption) ?_
          rotate_left 1
          · intro w hSw; (try dsimp only at hSw); go_simp; try (with_reducible rfl)
          try simp only [Act.put, List.getElem_toArray, List.getElem_cons_succ, List.getElem_cons_zero, List.setIfInBounds_toArray, List.set_cons_zero, List.set_cons_succ]
          refine wpAnyH_ready (rs := [11]) (by kernel_rfl) (by simp) ?_
          refine AllReadyH.cons rfl (fun K hK => ?_) AllReadyH.nil
          go_simp
          refine (HPF.out _ hHeld).mono ?_
          rintro e wB ⟨rfl, hbB⟩
          have hS := kp_step hHeld hbB
          refine hK.out _ _ hS (fun hHeld => ?_)
          clear hK K
          try simp only [Act.put, List.getElem_toArray, List.getElem_cons_succ, List.getElem_cons_zero, List.setIfInBounds_toArray, List.set_cons_zero, List.set_cons_succ]
          refine wpAnyH_take (i := 12) (v := ?_) rfl (by kernel_rfl) (by kernel_rfl) (by kernel_rfl) (fun _ _ _ h => h) (Or.inl ⟨by kernel_rfl, ?_⟩) (by assumption) ?_
          rotate_left 1
          · intro w hSw; (try dsimp only at hSw); go_simp; try (with_reducible rfl)
          try simp only [Act.put, List.getElem_toArray, List.getElem_cons_succ, List.getElem_cons_zero, List.setIfInBounds_toArray, List.set_cons_zero, List.set_cons_succ]
          refine wpAnyH_take (i := 13) (v := ?_) rfl (by kernel_rfl) (by kernel_rfl) (by kernel_rfl) (fun _ _ _ h => h) (Or.inl ⟨by kernel_rfl, ?_⟩) (by assumption) ?_
          rotate_left 1
          · intro w hSw; (try dsimp only at hSw); go_simp; try (with_reducible rfl)
          try simp only [Act.put, List.getElem_toArray, List.getElem_cons_succ, List.getElem_cons_zero, List.setIfInBounds_toArray, List.set_cons_zero, List.set_cons_succ]
          refine wpAnyH_take (i := 14) (v := ?_) rfl (by kernel_rfl) (by kernel_rfl) (by kernel_rfl) (fun _ _ _ h => h) (Or.inl ⟨by kernel_rfl, ?_⟩) (by assumption) ?_
          rotate_left 1
          · intro w hSw; (try dsimp only at hSw); go_simp; try (with_reducible rfl)
          try simp only [Act.put, List.getElem_toArray, List.getElem_cons_succ, List.getElem_cons_zero, List.setIfInBounds_toArray, List.set_cons_zero, List.set_cons_succ]
          refine wpAnyH_take (i := 15) (v := ?_) rfl (by kernel_rfl) (by kernel_rfl) (by kernel_rfl) (fun _ _ _ h => h) (Or.inl ⟨by kernel_rfl, ?_⟩) (by assumption) ?_
          rotate_left 1
          · intro w hSw; (try dsimp only at hSw); go_simp; try (with_reducible rfl)
          try simp only [Act.put, List.getElem_toArray, List.getElem_cons_succ, List.getElem_cons_zero, List.setIfInBounds_toArray, List.set_cons_zero, List.set_cons_succ]
          refine wpAnyH_take (i := 16) (v := ?_) rfl (by kernel_rfl) (by kernel_rfl) (by kernel_rfl) (fun _ _ _ h => h) (Or.inl ⟨by kernel_rfl, ?_⟩) (by assumption) ?_
          rotate_left 1
          · intro w hSw; (try dsimp only at hSw); go_simp; try (with_reducible rfl)
          try simp only [Act.put, List.getElem_toArray, List.getElem_cons_succ, List.getElem_cons_zero, List.setIfInBounds_toArray, List.set_cons_zero, List.set_cons_succ]
          refine wpAnyH_take (i := 17) (v := ?_) rfl (by kernel_rfl) (by kernel_rfl) (by kernel_rfl) (fun _ _ _ h => h) (Or.inl ⟨by kernel_rfl, ?_⟩) (by assumption) ?_
          rotate_left 1
          · intro w hSw; (try dsimp only at hSw); go_simp; try (with_reducible rfl)
          try simp only [Act.put, List.getElem_toArray, List.getElem_cons_succ, List.getElem_cons_zero, List.setIfInBounds_toArray, List.set_cons_zero, List.set_cons_succ]
          refine wpAnyH_take (i := 18) (v := ?_) rfl (by kernel_rfl) (by kernel_rfl) (by kernel_rfl) (fun _ _ _ h => h) (Or.inl ⟨by kernel_rfl, ?_⟩) (by assumption) ?_
          rotate_left 1
          · intro w hSw; (try dsimp only at hSw); go_simp; try (with_reducible rfl)
          try simp only [Act.put, List.getElem_toArray, List.getElem_cons_succ, List.getElem_cons_zero, List.setIfInBounds_toArray, List.set_cons_zero, List.set_cons_succ]
          refine wpAnyH_take (i := 19) (v := ?_) rfl (by kernel_rfl) (by kernel_rfl) (by kernel_rfl) (fun _ _ _ h => h) (Or.inl ⟨by kernel_rfl, ?_⟩) (by assumption) ?_
          rotate_left 1
          · intro w hSw; (try dsimp only at hSw); go_simp; try (with_reducible rfl)
          try simp only [Act.put, List.getElem_toArray, List.getElem_cons_succ, List.getElem_cons_zero, List.setIfInBounds_toArray, List.set_cons_zero, List.set_cons_succ]
          refine wpAnyH_take (i := 20) (v := ?_) rfl (by kernel_rfl) (by kernel_rfl) (by kernel_rfl) (fun _ _ _ h => h) (Or.inl ⟨by kernel_rfl, ?_⟩) (by assumption) ?_
          rotate_left 1
          · intro w hSw; (try dsimp only at hSw); go_simp; try (with_reducible rfl)
          try simp only [Act.put, List.getElem_toArray, List.getElem_cons_succ, List.getElem_cons_zero, List.setIfInBounds_toArray, List.set_cons_zero, List.set_cons_succ]
          refine wpAnyH_take (i := 21) (v := ?_) rfl (by kernel_rfl) (by kernel_rfl) (by kernel_rfl) (fun _ _ _ h => h) (Or.inl ⟨by kernel_rfl, ?_⟩) (by assumption) ?_
          rotate_left 1
          · intro w hSw; (try dsimp only at hSw); go_simp; try (with_reducible rfl)
          try simp only [Act.put, List.getElem_toArray, List.getElem_cons_succ, List.getElem_cons_zero, List.setIfInBounds_toArray, List.set_cons_zero, List.set_cons_succ]
          refine wpAnyH_take (i := 22) (v := ?_) rfl (by kernel_rfl) (by kernel_rfl) (by kernel_rfl) (fun _ _ _ h => h) (Or.inl ⟨by kernel_rfl, ?_⟩) (by assumption) ?_
          rotate_left 1
          · intro w hSw; (try dsimp only at hSw); go_simp; try (with_reducible rfl)
          try simp only [Act.put, List.getElem_toArray, List.getElem_cons_succ, List.getElem_cons_zero, List.setIfInBounds_toArray, List.set_cons_zero, List.set_cons_succ]
          refine wpAnyH_take (i := 23) (v := ?_) rfl (by kernel_rfl) (by kernel_rfl) (by kernel_rfl) (fun _ _ _ h => h) (Or.inl ⟨by kernel_rfl, ?_⟩) (by assumption) ?_
          rotate_left 1
          · intro w hSw; (try dsimp only at hSw); go_simp; try (with_reducible rfl)
          try simp only [Act.put, List.getElem_toArray, List.getElem_cons_succ, List.getElem_cons_zero, List.setIfInBounds_toArray, List.set_cons_zero, List.set_cons_succ]
          refine wpAnyH_take (i := 24) (v := ?_) rfl (by kernel_rfl) (by kernel_rfl) (by kernel_rfl) (fun _ _ _ h => h) (Or.inl ⟨by kernel_rfl, ?_⟩) (by assumption) ?_
          rotate_left 1
          · intro w hSw; (try dsimp only at hSw); go_simp; try (with_reducible rfl)
          try simp only [Act.put, List.getElem_toArray, List.getElem_cons_succ, List.getElem_cons_zero, List.setIfInBounds_toArray, List.set_cons_zero, List.set_cons_succ]
          refine wpAnyH_take (i := 25) (v := ?_) rfl (by kernel_rfl) (by kernel_rfl) (by kernel_rfl) (fun _ _ _ h => h) (Or.inl ⟨by kernel_rfl, ?_⟩) (by assumption) ?_
          rotate_left 1
          · intro w hSw; (try dsimp only at hSw); go_simp; try (with_reducible rfl)
          try simp only [Act.put, List.getElem_toArray, List.getElem_cons_succ, List.getElem_cons_zero, List.setIfInBounds_toArray, List.set_cons_zero, List.set_cons_succ]
          refine wpAnyH_take (i := 26) (v := ?_) rfl (by kernel_rfl) (by kernel_rfl) (by kernel_rfl) (fun _ _ _ h => h) (Or.inl ⟨by kernel_rfl, ?_⟩) (by assumption) ?_
          rotate_left 1
          · intro w hSw; (try dsimp only at hSw); go_simp; try (with_reducible rfl)
          try simp only [Act.put, List.getElem_toArray, List.getElem_cons_succ, List.getElem_cons_zero, List.setIfInBounds_toArray, List.set_cons_zero, List.set_cons_succ]
          refine wpAnyH_take (i := 27) (v := ?_) rfl (by kernel_rfl) (by kernel_rfl) (by kernel_rfl) (fun _ _ _ h => h) (Or.inl ⟨by kernel_rfl, ?_⟩) (by assumption) ?_
          rotate_left 1
          · intro w hSw; (try dsimp only at hSw); go_simp; try (with_reducible rfl)
          try simp only [Act.put, List.getElem_toArray, List.getElem_cons_succ, List.getElem_cons_zero, List.setIfInBounds_toArray, List.set_cons_zero, List.set_cons_succ]
          refine wpAnyH_ready (rs := [28]) (by kernel_rfl) (by simp) ?_
          refine AllReadyH.cons rfl (fun K hK => ?_) AllReadyH.nil
          go_simp
          refine (HPT.out _ hHeld).mono ?_
          rintro e wC ⟨rfl, hbC⟩
          have hS := kp_step hHeld hbC
          refine hK.out _ _ hS (fun hHeld => ?_)
          clear hK K
          try simp only [Act.put, List.getElem_toArray, List.getElem_cons_succ, List.getElem_cons_zero, List.setIfInBounds_toArray, List.set_cons_zero, List.set_cons_succ]
          refine wpAnyH_take (i := 29) (v := ?_) rfl (by kernel_rfl) (by kernel_rfl) (by kernel_rfl) (fun _ _ _ h => h) (Or.inl ⟨by kernel_rfl, ?_⟩) (by assumption) ?_
          rotate_left 1
          · intro w hSw; (try dsimp only at hSw); go_simp; try (with_reducible rfl)
          try simp only [Act.put, List.getElem_toArray, List.getElem_cons_succ, List.getElem_cons_zero, List.setIfInBounds_toArray, List.set_cons_zero, List.set_cons_succ]
          refine wpAnyH_take (i := 30) (v := ?_) rfl (by kernel_rfl) (by kernel_rfl) (by kernel_rfl) (fun _ _ _ h => h) (Or.inl ⟨by kernel_rfl, ?_⟩) (by assumption) ?_
          rotate_left 1
          · intro w hSw; (try dsimp only at hSw); go_simp; try (with_reducible rfl)
          try simp only [Act.put, List.getElem_toArray, List.getElem_cons_succ, List.getElem_cons_zero, List.setIfInBounds_toArray, List.set_cons_zero, List.set_cons_succ]
          refine wpAnyH_take (i := 31) (v := ?_) rfl (by kernel_rfl) (by kernel_rfl) (by kernel_rfl) (fun _ _ _ h => h) (Or.inl ⟨by kernel_rfl, ?_⟩) (by assumption) ?_
          rotate_left 1
          · intro w hSw; (try dsimp only at hSw); go_simp; try (with_reducible rfl)
          try simp only [Act.put, List.getElem_toArray, List.getElem_cons_succ, List.getElem_cons_zero, List.setIfInBounds_toArray, List.set_cons_zero, List.set_cons_succ]
          refine wpAnyH_ready (rs := [32]) (by kernel_rfl) (by simp) ?_
          refine AllReadyH.cons rfl (fun K hK => ?_) AllReadyH.nil
          go_simp
          refine hK.out _ _ (by assumption) (fun hHeld => ?_)
          clear hK K
          try simp only [Act.put, List.getElem_toArray, List.getElem_cons_succ, List.getElem_cons_zero, List.setIfInBounds_toArray, List.set_cons_zero, List.set_cons_succ]
          refine wpAnyH_done (by kernel_rfl) ?_ _
          go_wp2
          go_ret
          exact ⟨rfl, BW.trans (hHeld.2.mono BW.size)⟩
  · have kb : (k != 0) = true := by simp [hk0]
    have kk : (k == k) = true := by simp
    have BW := F2.out.bl
    have HR : Hid (∀ w' : World, KL W w' → Calls Tryz.prog 24 #[.slice (some ⟨g, 0, none⟩) n c, .slice b m c'] w' fun e w'' => e = .returned (.agg #[.int .i64 k, .int .i64 v]) ∧ Below w'.heap.size w' w'') := fun w' q => HS.out w' (F2.out.ra.below q.2) (F2.out.rp.below q.2)
    clear hk0 HK HS
    go_wp2_with fail
    go_region_held3 (fun w' => KL W w') (first | exact hS | exact kp_drew _)
      (first | (go_at_call 24; refine (HR.out _ (by assumption)).mono ?_; rintro e w' ⟨rfl, hb2⟩; have hS := kp_step (by assumption) hb2))
    go_wp2
    go_ret
    exact ⟨rfl, BW.trans (hS.2.mono BW.size)⟩

end Go.Proofs.YtnfolmjdicfobaaGreatDoor
