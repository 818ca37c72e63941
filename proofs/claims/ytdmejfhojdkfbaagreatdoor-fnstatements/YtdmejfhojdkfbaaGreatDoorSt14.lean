/-
  CONTRACTS: the text of a statement, of the document's program.
  Conditions: each contract bears its own.
-/
import Derived.Test.YtdmejfhojdkfbaaGreatDoorSt13
namespace Go.Proofs.YtdmejfhojdkfbaaGreatDoor
open Go.RowKit Go.Shelf
set_option linter.unusedVariables false
set_option linter.unusedSimpArgs false
attribute [-go_sem] run_string_add_if

set_option maxRecDepth 20000 in
set_option maxHeartbeats 2000000 in
theorem l7Text_3 (b o : Nat) (x : StI) (w : World) (h : StAt w b o x) (hc : stCode x = 0) (hk : x.k = 3) : Calls Tryz.prog 20 #[.pointer (some ⟨b, o, none⟩)] w fun e w' => e = .returned (.string (stText x)) ∧ Below w.heap.size w w' := by
  obtain ⟨_, ⟨e0, e1⟩, _, _, n0, n1⟩ := st_bounds hc
  obtain ⟨x0, x1, x2, x3, x4⟩ := h
  rw [hk] at x0
  have hb : b < w.heap.size := World.block_lt_of_cell? w ⟨b, o, none⟩ x0
  obtain ⟨T, hT⟩ : ∃ T, stText x = T := ⟨_, rfl⟩
  obtain ⟨A1, hA1⟩ : ∃ A, (⟨#[110, 101, 120, 116, 32]⟩ : ByteArray) ++ dgT x.e = A := ⟨_, rfl⟩
  obtain ⟨A2, hA2⟩ : ∃ A, A1 ++ ⟨#[32]⟩ = A := ⟨_, rfl⟩
  have hA3 : A2 ++ dgT x.n = T := by
    rw [← hT, stT_next (by rw [hk]; rfl), hk, ← hA2, ← hA1]
    simp [dgT, swT, ByteArray.mk_append_mk]
  have z1 : A1.size ≤ 100 := by rw [← hA1]; simp [dgT, ByteArray.size]
  have z2 : A2.size ≤ 200 := by rw [← hA2, ByteArray.size_append]; have : (ByteArray.mk #[32]).size = 1 := rfl; omega
  have zd : ∀ p, (dgT p).size = 1 := fun p => rfl
  have q1 : ∀ w', (Op.stringOp .add ⟨#[110, 101, 120, 116, 32]⟩ (dgT x.e)).run Tryz.prog w' = .ok (.string A1) w' := fun w' => by rw [← hA1]; exact run_string_add_sum w' _ _ (by rw [zd]; show 5 + 1 ≤ _; omega)
  have q2 : ∀ w', (Op.stringOp .add A1 ⟨#[32]⟩).run Tryz.prog w' = .ok (.string A2) w' := fun w' => by rw [← hA2]; exact run_string_add_sum w' _ _ (by rw [show (ByteArray.mk #[32]).size = 1 from rfl]; omega)
  have q3 : ∀ w', (Op.stringOp .add A2 (dgT x.n)).run Tryz.prog w' = .ok (.string T) w' := fun w' => by rw [← hA3]; exact run_string_add_sum w' _ _ (by rw [zd]; omega)
  rw [hT]
  clear hA1 hA2 hA3 hT zd hc hk
  go_enter Tryz.func20, Tryz.ntmps20
  go_wp2_with fail
  go_region_held3 (fun w' => (∀ b o, b < w.heap.size → w'.cell? ⟨b, o, none⟩ = w.cell? ⟨b, o, none⟩) ∧ Below w.heap.size w w') (first | exact hS | exact kp_drew _)
    (first | (go_at_call 44; refine (digS_c _ (by omega) (by omega) _).mono ?_; rintro e w' ⟨rfl, hb1⟩; have hS := kp_step (by assumption) hb1))
  go_wp2_with fail
  go_ret
  exact ⟨rfl, hS.2⟩

set_option maxRecDepth 20000 in
set_option maxHeartbeats 2000000 in
theorem l7Text_4 (b o : Nat) (x : StI) (w : World) (h : StAt w b o x) (hc : stCode x = 0) (hk : x.k = 4) : Calls Tryz.prog 20 #[.pointer (some ⟨b, o, none⟩)] w fun e w' => e = .returned (.string (stText x)) ∧ Below w.heap.size w w' := by
  obtain ⟨_, ⟨e0, e1⟩, _, _, n0, n1⟩ := st_bounds hc
  obtain ⟨x0, x1, x2, x3, x4⟩ := h
  rw [hk] at x0
  have hb : b < w.heap.size := World.block_lt_of_cell? w ⟨b, o, none⟩ x0
  obtain ⟨T, hT⟩ : ∃ T, stText x = T := ⟨_, rfl⟩
  obtain ⟨A1, hA1⟩ : ∃ A, (⟨#[116, 97, 107, 101, 32]⟩ : ByteArray) ++ dgT x.e = A := ⟨_, rfl⟩
  obtain ⟨A2, hA2⟩ : ∃ A, A1 ++ ⟨#[32]⟩ = A := ⟨_, rfl⟩
  have hA3 : A2 ++ dgT x.n = T := by
    rw [← hT, stT_next (by rw [hk]; rfl), hk, ← hA2, ← hA1]
    simp [dgT, swT, ByteArray.mk_append_mk]
  have z1 : A1.size ≤ 100 := by rw [← hA1]; simp [dgT, ByteArray.size]
  have z2 : A2.size ≤ 200 := by rw [← hA2, ByteArray.size_append]; have : (ByteArray.mk #[32]).size = 1 := rfl; omega
  have zd : ∀ p, (dgT p).size = 1 := fun p => rfl
  have q1 : ∀ w', (Op.stringOp .add ⟨#[116, 97, 107, 101, 32]⟩ (dgT x.e)).run Tryz.prog w' = .ok (.string A1) w' := fun w' => by rw [← hA1]; exact run_string_add_sum w' _ _ (by rw [zd]; show 5 + 1 ≤ _; omega)
  have q2 : ∀ w', (Op.stringOp .add A1 ⟨#[32]⟩).run Tryz.prog w' = .ok (.string A2) w' := fun w' => by rw [← hA2]; exact run_string_add_sum w' _ _ (by rw [show (ByteArray.mk #[32]).size = 1 from rfl]; omega)
  have q3 : ∀ w', (Op.stringOp .add A2 (dgT x.n)).run Tryz.prog w' = .ok (.string T) w' := fun w' => by rw [← hA3]; exact run_string_add_sum w' _ _ (by rw [zd]; omega)
  rw [hT]
  clear hA1 hA2 hA3 hT zd hc hk
  go_enter Tryz.func20, Tryz.ntmps20
  go_wp2_with fail
  go_region_held3 (fun w' => (∀ b o, b < w.heap.size → w'.cell? ⟨b, o, none⟩ = w.cell? ⟨b, o, none⟩) ∧ Below w.heap.size w w') (first | exact hS | exact kp_drew _)
    (first | (go_at_call 44; refine (digS_c _ (by omega) (by omega) _).mono ?_; rintro e w' ⟨rfl, hb1⟩; have hS := kp_step (by assumption) hb1))
  go_wp2_with fail
  go_ret
  exact ⟨rfl, hS.2⟩

set_option maxRecDepth 20000 in
set_option maxHeartbeats 2000000 in
theorem l7Text_1 (b o : Nat) (x : StI) (w : World) (h : StAt w b o x) (hc : stCode x = 0) (hk : x.k = 1) : Calls Tryz.prog 20 #[.pointer (some ⟨b, o, none⟩)] w fun e w' => e = .returned (.string (stText x)) ∧ Below w.heap.size w w' := by
  obtain ⟨_, ⟨e0, e1⟩, ⟨f0, f1⟩, ⟨s0, s1⟩, _⟩ := st_bounds hc
  obtain ⟨x0, x1, x2, x3, x4⟩ := h
  rw [hk] at x0
  have hb : b < w.heap.size := World.block_lt_of_cell? w ⟨b, o, none⟩ x0
  obtain ⟨T, hT⟩ : ∃ T, stText x = T := ⟨_, rfl⟩
  obtain ⟨D, hD⟩ : ∃ D, textI x.s = D := ⟨_, rfl⟩
  obtain ⟨A1, hA1⟩ : ∃ A, (⟨#[105, 115, 115, 117, 101, 32]⟩ : ByteArray) ++ dgT x.e = A := ⟨_, rfl⟩
  obtain ⟨A2, hA2⟩ : ∃ A, A1 ++ ⟨#[32]⟩ = A := ⟨_, rfl⟩
  obtain ⟨A3, hA3⟩ : ∃ A, A2 ++ dgT x.f = A := ⟨_, rfl⟩
  obtain ⟨A4, hA4⟩ : ∃ A, A3 ++ ⟨#[32]⟩ = A := ⟨_, rfl⟩
  have hA5 : A4 ++ D = T := by
    rw [← hT, stT_form (by rw [hk]; rfl), hk, ← hA4, ← hA3, ← hA2, ← hA1, hD]
    obtain ⟨⟨d⟩⟩ := D
    simp only [dgT, swT, ByteArray.mk_append_mk]
    simp
  have zD : D.size ≤ 18 := by rw [← hD]; exact (textI_size x.s s0 s1).2
  have zd : ∀ p, (dgT p).size = 1 := fun p => rfl
  have z32 : (ByteArray.mk #[32]).size = 1 := rfl
  have z1 : A1.size ≤ 100 := by rw [← hA1]; simp [dgT, ByteArray.size]
  have z2 : A2.size ≤ 200 := by rw [← hA2, ByteArray.size_append]; omega
  have z3 : A3.size ≤ 300 := by rw [← hA3, ByteArray.size_append, zd]; omega
  have z4 : A4.size ≤ 400 := by rw [← hA4, ByteArray.size_append]; omega
  have q1 : ∀ w', (Op.stringOp .add ⟨#[105, 115, 115, 117, 101, 32]⟩ (dgT x.e)).run Tryz.prog w' = .ok (.string A1) w' := fun w' => by rw [← hA1]; exact run_string_add_sum w' _ _ (by rw [zd]; show 6 + 1 ≤ _; omega)
  have q2 : ∀ w', (Op.stringOp .add A1 ⟨#[32]⟩).run Tryz.prog w' = .ok (.string A2) w' := fun w' => by rw [← hA2]; exact run_string_add_sum w' _ _ (by omega)
  have q3 : ∀ w', (Op.stringOp .add A2 (dgT x.f)).run Tryz.prog w' = .ok (.string A3) w' := fun w' => by rw [← hA3]; exact run_string_add_sum w' _ _ (by rw [zd]; omega)
  have q4 : ∀ w', (Op.stringOp .add A3 ⟨#[32]⟩).run Tryz.prog w' = .ok (.string A4) w' := fun w' => by rw [← hA4]; exact run_string_add_sum w' _ _ (by omega)
  have q5 : ∀ w', (Op.stringOp .add A4 D).run Tryz.prog w' = .ok (.string T) w' := fun w' => by rw [← hA5]; exact run_string_add_sum w' _ _ (by omega)
  have HD : Hid (∀ w : World, Calls Tryz.prog 45 #[.int .i64 x.s] w fun e w' => e = .returned (.string D) ∧ Below w.heap.size w w') := fun w => by rw [← hD]; exact l1Text_c x.s s0 s1 w
  rw [hT]
  clear hA1 hA2 hA3 hA4 hA5 hT hD zd z32 hc hk
  go_enter Tryz.func20, Tryz.ntmps20
  go_wp2_with fail
  go_region_held3 (fun w' => (∀ b o, b < w.heap.size → w'.cell? ⟨b, o, none⟩ = w.cell? ⟨b, o, none⟩) ∧ Below w.heap.size w w') (first | exact hS | exact kp_drew _)
    (first | (go_at_call 44; refine (digS_c _ (by omega) (by omega) _).mono ?_; rintro e w' ⟨rfl, hb1⟩; have hS := kp_step (by assumption) hb1)
           | (go_at_call 45; refine (HD.out _).mono ?_; rintro e w' ⟨rfl, hb1⟩; have hS := kp_step (by assumption) hb1))
  go_wp2_with fail
  go_ret
  exact ⟨rfl, hS.2⟩

set_option maxRecDepth 20000 in
set_option maxHeartbeats 2000000 in
theorem l7Text_2 (b o : Nat) (x : StI) (w : World) (h : StAt w b o x) (hc : stCode x = 0) (hk : x.k = 2) : Calls Tryz.prog 20 #[.pointer (some ⟨b, o, none⟩)] w fun e w' => e = .returned (.string (stText x)) ∧ Below w.heap.size w w' := by
  obtain ⟨_, ⟨e0, e1⟩, ⟨f0, f1⟩, ⟨s0, s1⟩, _⟩ := st_bounds hc
  obtain ⟨x0, x1, x2, x3, x4⟩ := h
  rw [hk] at x0
  have hb : b < w.heap.size := World.block_lt_of_cell? w ⟨b, o, none⟩ x0
  obtain ⟨T, hT⟩ : ∃ T, stText x = T := ⟨_, rfl⟩
  obtain ⟨D, hD⟩ : ∃ D, textI x.s = D := ⟨_, rfl⟩
  obtain ⟨A1, hA1⟩ : ∃ A, (⟨#[114, 101, 118, 111, 107, 101, 32]⟩ : ByteArray) ++ dgT x.e = A := ⟨_, rfl⟩
  obtain ⟨A2, hA2⟩ : ∃ A, A1 ++ ⟨#[32]⟩ = A := ⟨_, rfl⟩
  obtain ⟨A3, hA3⟩ : ∃ A, A2 ++ dgT x.f = A := ⟨_, rfl⟩
  obtain ⟨A4, hA4⟩ : ∃ A, A3 ++ ⟨#[32]⟩ = A := ⟨_, rfl⟩
  have hA5 : A4 ++ D = T := by
    rw [← hT, stT_form (by rw [hk]; rfl), hk, ← hA4, ← hA3, ← hA2, ← hA1, hD]
    obtain ⟨⟨d⟩⟩ := D
    simp only [dgT, swT, ByteArray.mk_append_mk]
    simp
  have zD : D.size ≤ 18 := by rw [← hD]; exact (textI_size x.s s0 s1).2
  have zd : ∀ p, (dgT p).size = 1 := fun p => rfl
  have z32 : (ByteArray.mk #[32]).size = 1 := rfl
  have z1 : A1.size ≤ 100 := by rw [← hA1]; simp [dgT, ByteArray.size]
  have z2 : A2.size ≤ 200 := by rw [← hA2, ByteArray.size_append]; omega
  have z3 : A3.size ≤ 300 := by rw [← hA3, ByteArray.size_append, zd]; omega
  have z4 : A4.size ≤ 400 := by rw [← hA4, ByteArray.size_append]; omega
  have q1 : ∀ w', (Op.stringOp .add ⟨#[114, 101, 118, 111, 107, 101, 32]⟩ (dgT x.e)).run Tryz.prog w' = .ok (.string A1) w' := fun w' => by rw [← hA1]; exact run_string_add_sum w' _ _ (by rw [zd]; show 7 + 1 ≤ _; omega)
  have q2 : ∀ w', (Op.stringOp .add A1 ⟨#[32]⟩).run Tryz.prog w' = .ok (.string A2) w' := fun w' => by rw [← hA2]; exact run_string_add_sum w' _ _ (by omega)
  have q3 : ∀ w', (Op.stringOp .add A2 (dgT x.f)).run Tryz.prog w' = .ok (.string A3) w' := fun w' => by rw [← hA3]; exact run_string_add_sum w' _ _ (by rw [zd]; omega)
  have q4 : ∀ w', (Op.stringOp .add A3 ⟨#[32]⟩).run Tryz.prog w' = .ok (.string A4) w' := fun w' => by rw [← hA4]; exact run_string_add_sum w' _ _ (by omega)
  have q5 : ∀ w', (Op.stringOp .add A4 D).run Tryz.prog w' = .ok (.string T) w' := fun w' => by rw [← hA5]; exact run_string_add_sum w' _ _ (by omega)
  have HD : Hid (∀ w : World, Calls Tryz.prog 45 #[.int .i64 x.s] w fun e w' => e = .returned (.string D) ∧ Below w.heap.size w w') := fun w => by rw [← hD]; exact l1Text_c x.s s0 s1 w
  rw [hT]
  clear hA1 hA2 hA3 hA4 hA5 hT hD zd z32 hc hk
  go_enter Tryz.func20, Tryz.ntmps20
  go_wp2_with fail
  go_region_held3 (fun w' => (∀ b o, b < w.heap.size → w'.cell? ⟨b, o, none⟩ = w.cell? ⟨b, o, none⟩) ∧ Below w.heap.size w w') (first | exact hS | exact kp_drew _)
    (first | (go_at_call 44; refine (digS_c _ (by omega) (by omega) _).mono ?_; rintro e w' ⟨rfl, hb1⟩; have hS := kp_step (by assumption) hb1)
           | (go_at_call 45; refine (HD.out _).mono ?_; rintro e w' ⟨rfl, hb1⟩; have hS := kp_step (by assumption) hb1))
  go_wp2_with fail
  go_ret
  exact ⟨rfl, hS.2⟩

theorem l7Text_c (b o : Nat) (x : StI) (w : World) (h : StAt w b o x) (hc : stCode x = 0) : Calls Tryz.prog 20 #[.pointer (some ⟨b, o, none⟩)] w fun e w' => e = .returned (.string (stText x)) ∧ Below w.heap.size w w' := by
  obtain ⟨⟨k0, k1⟩, _⟩ := st_bounds hc
  have hk : x.k = 1 ∨ x.k = 2 ∨ x.k = 3 ∨ x.k = 4 := by omega
  rcases hk with hk | hk | hk | hk
  · exact l7Text_1 b o x w h hc hk
  · exact l7Text_2 b o x w h hc hk
  · exact l7Text_3 b o x w h hc hk
  · exact l7Text_4 b o x w h hc hk

def GivesX (f : Nat) (x : StI) (c : Int) (t : ByteArray) (w : World) : Prop := Calls Tryz.prog f #[.agg #[.int .i64 x.k, .int .i64 x.e, .int .i64 x.f, .int .i64 x.s, .int .i64 x.n]] w fun e w' => e = .returned (.agg #[.int .i64 c, .string t]) ∧ Below w.heap.size w w'

end Go.Proofs.YtdmejfhojdkfbaaGreatDoor
