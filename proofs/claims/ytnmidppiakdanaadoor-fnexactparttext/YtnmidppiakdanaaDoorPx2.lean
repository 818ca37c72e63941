/-
  CONTRACTS: spec.l4Text at each kind of part.
  Conditions: each contract bears its own.
-/
import Derived.Test.YtnmidppiakdanaaDoorPx1
namespace Go.Proofs.YtnmidppiakdanaaDoor
open Go.RowKit
set_option linter.unusedVariables false
set_option linter.unusedSimpArgs false

attribute [-go_sem] run_string_add_if

/-- The two numbers of a part in a block of the call's own, and nothing below has turned. -/
theorem keepT {g : Nat} {l r : Int} {w0 w w' : World} (h : w.cell? ⟨g, 3, none⟩ = some (.int .i64 l) ∧ w.cell? ⟨g, 4, none⟩ = some (.int .i64 r) ∧ Below w0.heap.size w0 w) (hb : Below w.heap.size w w') :
    w'.cell? ⟨g, 3, none⟩ = some (.int .i64 l) ∧ w'.cell? ⟨g, 4, none⟩ = some (.int .i64 r) ∧ Below w0.heap.size w0 w' := by
  have key : ∀ (o : Nat) (v : Value), w.cell? ⟨g, o, none⟩ = some v → w'.cell? ⟨g, o, none⟩ = some v := fun o v e => (hb.cell (p := ⟨g, o, none⟩) (World.block_lt_of_cell? w ⟨g, o, none⟩ e)).trans e
  exact ⟨key _ _ h.1, key _ _ h.2.1, h.2.2.trans (hb.mono h.2.2.size)⟩

set_option maxRecDepth 100000 in
set_option maxHeartbeats 2000000 in
theorem l4Text_role (b off n cap p : Nat) (ro rn l r : Int) (w : World) (hp : p < n) (hn : n ≤ 8) (hx : PartAt w b (off + p * 5) ⟨1, ro, rn, l, r⟩) (h : roleB ro rn = true) :
    Calls Tryd.prog 11 #[.slice (some ⟨b, off, none⟩) n cap, .int .i64 (p : Int)] w fun e w' => e = .returned (.string (roleT ro rn)) ∧ Below w.heap.size w w' := by
  obtain ⟨q0, q1, q2, q3, q4⟩ := hx
  simp only at q0 q1 q2 q3 q4
  have h1 : (p : Int) < (n : Int) := by omega
  have h2 : (n : Int) ≤ 8 := by omega
  go_enter Tryd.func11, Tryd.ntmps11
  go_wp2_with fail
  refine (l2Text_c ro rn h _).mono ?_
  rintro e w1 ⟨rfl, hb1⟩
  go_wp2
  go_ret
  exact ⟨rfl, below_new hb1⟩

set_option maxRecDepth 100000 in
set_option maxHeartbeats 4000000 in
theorem l4Text_two (b off n cap p : Nat) (ro rn l r : Int) (tx : Int → ByteArray) (w : World) (hp : p < n) (hn : n ≤ 8) (hx : PartAt w b (off + p * 5) ⟨2, ro, rn, l, r⟩) (hL : (tx l).size ≤ 2043) (hR : (tx r).size ≤ 2043)
    (H : Hid (∀ (q : Int) (w2 : World), (q = l ∨ q = r) → Below w.heap.size w w2 → Calls Tryd.prog 11 #[.slice (some ⟨b, off, none⟩) n cap, .int .i64 q] w2 fun e w' => e = .returned (.string (tx q)) ∧ Below w2.heap.size w2 w')) :
    Calls Tryd.prog 11 #[.slice (some ⟨b, off, none⟩) n cap, .int .i64 (p : Int)] w fun e w' => e = .returned (.string (wrapT ⟨#[32, 43, 32]⟩ (tx l) (tx r))) ∧ Below w.heap.size w w' := by
  obtain ⟨q0, q1, q2, q3, q4⟩ := hx
  simp only at q0 q1 q2 q3 q4
  have h1 : (p : Int) < (n : Int) := by omega
  have h2 : (n : Int) ≤ 8 := by omega
  have K : Hid (∀ (q : Int) (w2 : World), (q = l ∨ q = r) → (w2.cell? ⟨w.heap.size, 3, none⟩ = some (.int .i64 l) ∧ w2.cell? ⟨w.heap.size, 4, none⟩ = some (.int .i64 r) ∧ Below w.heap.size w w2) → Calls Tryd.prog 11 #[.slice (some ⟨b, off, none⟩) n cap, .int .i64 q] w2 fun e w' => e = .returned (.string (tx q)) ∧ w'.cell? ⟨w.heap.size, 3, none⟩ = some (.int .i64 l) ∧ w'.cell? ⟨w.heap.size, 4, none⟩ = some (.int .i64 r) ∧ Below w.heap.size w w') := fun q w2 hq hs =>
    (H.out q w2 hq hs.2.2).mono fun e w' hh => ⟨hh.1, keepT hs hh.2⟩
  obtain ⟨A1, eA1⟩ : ∃ A, (⟨#[40]⟩ : ByteArray) ++ tx l = A := ⟨_, rfl⟩
  obtain ⟨A2, eA2⟩ : ∃ A, A1 ++ (⟨#[32, 43, 32]⟩ : ByteArray) = A := ⟨_, rfl⟩
  obtain ⟨A3, eA3⟩ : ∃ A, A2 ++ tx r = A := ⟨_, rfl⟩
  obtain ⟨A4, eA4⟩ : ∃ A, A3 ++ (⟨#[41]⟩ : ByteArray) = A := ⟨_, rfl⟩
  have z1 : A1.size = 1 + (tx l).size := by rw [← eA1, size_cat]; rfl
  have z2 : A2.size = A1.size + 3 := by rw [← eA2, size_cat]; rfl
  have z3 : A3.size = A2.size + (tx r).size := by rw [← eA3, size_cat]
  have f1 : ∀ w, (Op.stringOp .add ⟨#[40]⟩ (tx l)).run Tryd.prog w = .ok (.string A1) w := fun w => by rw [← eA1]; exact run_string_add_sum w _ _ (by rw [show (ByteArray.mk #[40]).size = 1 from rfl]; omega)
  have f2 : ∀ w, (Op.stringOp .add A1 ⟨#[32, 43, 32]⟩).run Tryd.prog w = .ok (.string A2) w := fun w => by rw [← eA2]; exact run_string_add_sum w _ _ (by rw [show (ByteArray.mk #[32, 43, 32]).size = 3 from rfl]; omega)
  have f3 : ∀ w, (Op.stringOp .add A2 (tx r)).run Tryd.prog w = .ok (.string A3) w := fun w => by rw [← eA3]; exact run_string_add_sum w _ _ (by omega)
  have f4 : ∀ w, (Op.stringOp .add A3 ⟨#[41]⟩).run Tryd.prog w = .ok (.string A4) w := fun w => by rw [← eA4]; exact run_string_add_sum w _ _ (by rw [show (ByteArray.mk #[41]).size = 1 from rfl]; omega)
  have HW : Hid (wrapT ⟨#[32, 43, 32]⟩ (tx l) (tx r) = A4) := by show wrapT _ (tx l) (tx r) = A4; unfold wrapT; rw [eA1, eA2, eA3, eA4]
  rw [HW.out]
  clear hL hR H
  clear eA1 eA2 eA3 eA4 z1 z2 z3
  go_enter Tryd.func11, Tryd.ntmps11
  go_wp2_with fail
  clear q0 q1 q2 q3 q4
  go_region_held3 (fun w' => w'.cell? ⟨w.heap.size, 3, none⟩ = some (.int .i64 l) ∧ w'.cell? ⟨w.heap.size, 4, none⟩ = some (.int .i64 r) ∧ Below w.heap.size w w') (first | exact hS | (refine ⟨by go_cell, by go_cell, by go_grown⟩)) (first | (go_at_call 11; refine (K.out _ _ (by first | exact .inl rfl | exact .inr rfl) ?_).mono ?_; (first | assumption | exact ⟨by go_cell, by go_cell, by go_grown⟩); rintro e w1 ⟨rfl, hS⟩))
  go_wp2
  go_ret
  exact ⟨rfl, hS.2.2⟩

set_option maxRecDepth 100000 in
set_option maxHeartbeats 4000000 in
theorem l4Text_three (b off n cap p : Nat) (ro rn l r : Int) (tx : Int → ByteArray) (w : World) (hp : p < n) (hn : n ≤ 8) (hx : PartAt w b (off + p * 5) ⟨3, ro, rn, l, r⟩) (hL : (tx l).size ≤ 2043) (hR : (tx r).size ≤ 2043)
    (H : Hid (∀ (q : Int) (w2 : World), (q = l ∨ q = r) → Below w.heap.size w w2 → Calls Tryd.prog 11 #[.slice (some ⟨b, off, none⟩) n cap, .int .i64 q] w2 fun e w' => e = .returned (.string (tx q)) ∧ Below w2.heap.size w2 w')) :
    Calls Tryd.prog 11 #[.slice (some ⟨b, off, none⟩) n cap, .int .i64 (p : Int)] w fun e w' => e = .returned (.string (wrapT ⟨#[32, 42, 32]⟩ (tx l) (tx r))) ∧ Below w.heap.size w w' := by
  obtain ⟨q0, q1, q2, q3, q4⟩ := hx
  simp only at q0 q1 q2 q3 q4
  have h1 : (p : Int) < (n : Int) := by omega
  have h2 : (n : Int) ≤ 8 := by omega
  have K : Hid (∀ (q : Int) (w2 : World), (q = l ∨ q = r) → (w2.cell? ⟨w.heap.size, 3, none⟩ = some (.int .i64 l) ∧ w2.cell? ⟨w.heap.size, 4, none⟩ = some (.int .i64 r) ∧ Below w.heap.size w w2) → Calls Tryd.prog 11 #[.slice (some ⟨b, off, none⟩) n cap, .int .i64 q] w2 fun e w' => e = .returned (.string (tx q)) ∧ w'.cell? ⟨w.heap.size, 3, none⟩ = some (.int .i64 l) ∧ w'.cell? ⟨w.heap.size, 4, none⟩ = some (.int .i64 r) ∧ Below w.heap.size w w') := fun q w2 hq hs =>
    (H.out q w2 hq hs.2.2).mono fun e w' hh => ⟨hh.1, keepT hs hh.2⟩
  obtain ⟨A1, eA1⟩ : ∃ A, (⟨#[40]⟩ : ByteArray) ++ tx l = A := ⟨_, rfl⟩
  obtain ⟨A2, eA2⟩ : ∃ A, A1 ++ (⟨#[32, 42, 32]⟩ : ByteArray) = A := ⟨_, rfl⟩
  obtain ⟨A3, eA3⟩ : ∃ A, A2 ++ tx r = A := ⟨_, rfl⟩
  obtain ⟨A4, eA4⟩ : ∃ A, A3 ++ (⟨#[41]⟩ : ByteArray) = A := ⟨_, rfl⟩
  have z1 : A1.size = 1 + (tx l).size := by rw [← eA1, size_cat]; rfl
  have z2 : A2.size = A1.size + 3 := by rw [← eA2, size_cat]; rfl
  have z3 : A3.size = A2.size + (tx r).size := by rw [← eA3, size_cat]
  have f1 : ∀ w, (Op.stringOp .add ⟨#[40]⟩ (tx l)).run Tryd.prog w = .ok (.string A1) w := fun w => by rw [← eA1]; exact run_string_add_sum w _ _ (by rw [show (ByteArray.mk #[40]).size = 1 from rfl]; omega)
  have f2 : ∀ w, (Op.stringOp .add A1 ⟨#[32, 42, 32]⟩).run Tryd.prog w = .ok (.string A2) w := fun w => by rw [← eA2]; exact run_string_add_sum w _ _ (by rw [show (ByteArray.mk #[32, 42, 32]).size = 3 from rfl]; omega)
  have f3 : ∀ w, (Op.stringOp .add A2 (tx r)).run Tryd.prog w = .ok (.string A3) w := fun w => by rw [← eA3]; exact run_string_add_sum w _ _ (by omega)
  have f4 : ∀ w, (Op.stringOp .add A3 ⟨#[41]⟩).run Tryd.prog w = .ok (.string A4) w := fun w => by rw [← eA4]; exact run_string_add_sum w _ _ (by rw [show (ByteArray.mk #[41]).size = 1 from rfl]; omega)
  have HW : Hid (wrapT ⟨#[32, 42, 32]⟩ (tx l) (tx r) = A4) := by show wrapT _ (tx l) (tx r) = A4; unfold wrapT; rw [eA1, eA2, eA3, eA4]
  rw [HW.out]
  clear hL hR H
  clear eA1 eA2 eA3 eA4 z1 z2 z3
  go_enter Tryd.func11, Tryd.ntmps11
  go_wp2_with fail
  clear q0 q1 q2 q3 q4
  go_region_held3 (fun w' => w'.cell? ⟨w.heap.size, 3, none⟩ = some (.int .i64 l) ∧ w'.cell? ⟨w.heap.size, 4, none⟩ = some (.int .i64 r) ∧ Below w.heap.size w w') (first | exact hS | (refine ⟨by go_cell, by go_cell, by go_grown⟩)) (first | (go_at_call 11; refine (K.out _ _ (by first | exact .inl rfl | exact .inr rfl) ?_).mono ?_; (first | assumption | exact ⟨by go_cell, by go_cell, by go_grown⟩); rintro e w1 ⟨rfl, hS⟩))
  go_wp2
  go_ret
  exact ⟨rfl, hS.2.2⟩

end Go.Proofs.YtnmidppiakdanaaDoor
