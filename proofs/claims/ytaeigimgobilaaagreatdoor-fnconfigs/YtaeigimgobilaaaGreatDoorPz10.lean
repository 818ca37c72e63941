/-
  CONTRACTS: spec.l4Text at each kind of part.
  Conditions: each contract bears its own.
  CONTRACT: spec.PartText, out of one of spec.l4Text.
  Conditions: each contract bears its own.
  CONTRACTS: spec.l4Text; PartText of both programs together.
  Conditions: each contract bears its own.
  CONTRACTS on the line of a rule: what it is.
  Conditions: each contract bears its own.
  CONTRACTS on the line of a rule: impl's bodyText.
  Conditions: each contract bears its own.
  CONTRACTS on the line of a rule: spec.l2Line.
  Conditions: each contract bears its own.
  CONTRACTS: spec.l2Line of a rule without fault, RuleText of both programs.
  Conditions: each contract bears its own.
  CONTRACT: impl.RuleText of a rule without fault.
  Conditions: the rule has no fault.
-/
import Derived.Test.YtaeigimgobilaaaGreatDoorPz09
import Derived.Test.YtaeigimgobilaaaGreatDoorPz01

namespace Go.Proofs.YtaeigimgobilaaaGreatDoor
open Go.RowKit
set_option linter.unusedVariables false
set_option linter.unusedSimpArgs false

attribute [-go_sem] run_string_add_if

/-- The two numbers of a part in a block of the call's own, and nothing below has turned. -/
theorem keepT {g : Nat} {l r : Int} {w0 w w' : World} (h : w.cell? ⟨g, 3, none⟩ = some (.int .i64 l) ∧ w.cell? ⟨g, 4, none⟩ = some (.int .i64 r) ∧ Below w0.heap.size w0 w) (hb : Below w.heap.size w w') :
    w'.cell? ⟨g, 3, none⟩ = some (.int .i64 l) ∧ w'.cell? ⟨g, 4, none⟩ = some (.int .i64 r) ∧ Below w0.heap.size w0 w' := by
  have key : ∀ (o : Nat) (v : Value), w.cell? ⟨g, o, none⟩ = some v → w'.cell? ⟨g, o, none⟩ = some v := fun o v e => (hb.cell (p := ⟨g, o, none⟩) (World.block_lt_of_cell? w ⟨g, o, none⟩ e)).trans e
  exact ⟨key _ _ h.1, key _ _ h.2.1, h.2.2.trans (hb.mono h.2.2.size)⟩

set_option maxRecDepth 100000 in
set_option maxHeartbeats 2000000 in
theorem l4Text_role (b off n cap p : Nat) (ro rn l r : Int) (w : World) (hp : p < n) (hn : n ≤ 8) (hx : PartAt w b (off + p * 5) ⟨1, ro, rn, l, r⟩) (h : roleB ro rn = true) :
    Calls Tryz.prog 56 #[.slice (some ⟨b, off, none⟩) n cap, .int .i64 (p : Int)] w fun e w' => e = .returned (.string (roleT ro rn)) ∧ Below w.heap.size w w' := by
  obtain ⟨q0, q1, q2, q3, q4⟩ := hx
  simp only at q0 q1 q2 q3 q4
  have h1 : (p : Int) < (n : Int) := by omega
  have h2 : (n : Int) ≤ 8 := by omega
  go_enter Tryz.func56, Tryz.ntmps56
  go_wp2_with fail
  refine (l2Text_c ro rn h _).mono ?_
  rintro e w1 ⟨rfl, hb1⟩
  go_wp2
  go_ret
  exact ⟨rfl, below_new hb1⟩

set_option maxRecDepth 100000 in
set_option maxHeartbeats 4000000 in
theorem l4Text_two (b off n cap p : Nat) (ro rn l r : Int) (tx : Int → ByteArray) (w : World) (hp : p < n) (hn : n ≤ 8) (hx : PartAt w b (off + p * 5) ⟨2, ro, rn, l, r⟩) (hL : (tx l).size ≤ 2043) (hR : (tx r).size ≤ 2043)
    (H : Hid (∀ (q : Int) (w2 : World), (q = l ∨ q = r) → Below w.heap.size w w2 → Calls Tryz.prog 56 #[.slice (some ⟨b, off, none⟩) n cap, .int .i64 q] w2 fun e w' => e = .returned (.string (tx q)) ∧ Below w2.heap.size w2 w')) :
    Calls Tryz.prog 56 #[.slice (some ⟨b, off, none⟩) n cap, .int .i64 (p : Int)] w fun e w' => e = .returned (.string (wrapT ⟨#[32, 43, 32]⟩ (tx l) (tx r))) ∧ Below w.heap.size w w' := by
  obtain ⟨q0, q1, q2, q3, q4⟩ := hx
  simp only at q0 q1 q2 q3 q4
  have h1 : (p : Int) < (n : Int) := by omega
  have h2 : (n : Int) ≤ 8 := by omega
  have K : Hid (∀ (q : Int) (w2 : World), (q = l ∨ q = r) → (w2.cell? ⟨w.heap.size, 3, none⟩ = some (.int .i64 l) ∧ w2.cell? ⟨w.heap.size, 4, none⟩ = some (.int .i64 r) ∧ Below w.heap.size w w2) → Calls Tryz.prog 56 #[.slice (some ⟨b, off, none⟩) n cap, .int .i64 q] w2 fun e w' => e = .returned (.string (tx q)) ∧ w'.cell? ⟨w.heap.size, 3, none⟩ = some (.int .i64 l) ∧ w'.cell? ⟨w.heap.size, 4, none⟩ = some (.int .i64 r) ∧ Below w.heap.size w w') := fun q w2 hq hs =>
    (H.out q w2 hq hs.2.2).mono fun e w' hh => ⟨hh.1, keepT hs hh.2⟩
  obtain ⟨A1, eA1⟩ : ∃ A, (⟨#[40]⟩ : ByteArray) ++ tx l = A := ⟨_, rfl⟩
  obtain ⟨A2, eA2⟩ : ∃ A, A1 ++ (⟨#[32, 43, 32]⟩ : ByteArray) = A := ⟨_, rfl⟩
  obtain ⟨A3, eA3⟩ : ∃ A, A2 ++ tx r = A := ⟨_, rfl⟩
  obtain ⟨A4, eA4⟩ : ∃ A, A3 ++ (⟨#[41]⟩ : ByteArray) = A := ⟨_, rfl⟩
  have z1 : A1.size = 1 + (tx l).size := by rw [← eA1, size_cat]; rfl
  have z2 : A2.size = A1.size + 3 := by rw [← eA2, size_cat]; rfl
  have z3 : A3.size = A2.size + (tx r).size := by rw [← eA3, size_cat]
  have f1 : ∀ w, (Op.stringOp .add ⟨#[40]⟩ (tx l)).run Tryz.prog w = .ok (.string A1) w := fun w => by rw [← eA1]; exact run_string_add_sum w _ _ (by rw [show (ByteArray.mk #[40]).size = 1 from rfl]; omega)
  have f2 : ∀ w, (Op.stringOp .add A1 ⟨#[32, 43, 32]⟩).run Tryz.prog w = .ok (.string A2) w := fun w => by rw [← eA2]; exact run_string_add_sum w _ _ (by rw [show (ByteArray.mk #[32, 43, 32]).size = 3 from rfl]; omega)
  have f3 : ∀ w, (Op.stringOp .add A2 (tx r)).run Tryz.prog w = .ok (.string A3) w := fun w => by rw [← eA3]; exact run_string_add_sum w _ _ (by omega)
  have f4 : ∀ w, (Op.stringOp .add A3 ⟨#[41]⟩).run Tryz.prog w = .ok (.string A4) w := fun w => by rw [← eA4]; exact run_string_add_sum w _ _ (by rw [show (ByteArray.mk #[41]).size = 1 from rfl]; omega)
  have HW : Hid (wrapT ⟨#[32, 43, 32]⟩ (tx l) (tx r) = A4) := by show wrapT _ (tx l) (tx r) = A4; unfold wrapT; rw [eA1, eA2, eA3, eA4]
  rw [HW.out]
  clear hL hR H
  clear eA1 eA2 eA3 eA4 z1 z2 z3
  go_enter Tryz.func56, Tryz.ntmps56
  go_wp2_with fail
  clear q0 q1 q2 q3 q4
  go_region_held3 (fun w' => w'.cell? ⟨w.heap.size, 3, none⟩ = some (.int .i64 l) ∧ w'.cell? ⟨w.heap.size, 4, none⟩ = some (.int .i64 r) ∧ Below w.heap.size w w') (first | exact hS | (refine ⟨by go_cell, by go_cell, by go_grown⟩)) (first | (go_at_call 56; refine (K.out _ _ (by first | exact .inl rfl | exact .inr rfl) ?_).mono ?_; (first | assumption | exact ⟨by go_cell, by go_cell, by go_grown⟩); rintro e w1 ⟨rfl, hS⟩))
  go_wp2
  go_ret
  exact ⟨rfl, hS.2.2⟩

set_option maxRecDepth 100000 in
set_option maxHeartbeats 4000000 in
theorem l4Text_three (b off n cap p : Nat) (ro rn l r : Int) (tx : Int → ByteArray) (w : World) (hp : p < n) (hn : n ≤ 8) (hx : PartAt w b (off + p * 5) ⟨3, ro, rn, l, r⟩) (hL : (tx l).size ≤ 2043) (hR : (tx r).size ≤ 2043)
    (H : Hid (∀ (q : Int) (w2 : World), (q = l ∨ q = r) → Below w.heap.size w w2 → Calls Tryz.prog 56 #[.slice (some ⟨b, off, none⟩) n cap, .int .i64 q] w2 fun e w' => e = .returned (.string (tx q)) ∧ Below w2.heap.size w2 w')) :
    Calls Tryz.prog 56 #[.slice (some ⟨b, off, none⟩) n cap, .int .i64 (p : Int)] w fun e w' => e = .returned (.string (wrapT ⟨#[32, 42, 32]⟩ (tx l) (tx r))) ∧ Below w.heap.size w w' := by
  obtain ⟨q0, q1, q2, q3, q4⟩ := hx
  simp only at q0 q1 q2 q3 q4
  have h1 : (p : Int) < (n : Int) := by omega
  have h2 : (n : Int) ≤ 8 := by omega
  have K : Hid (∀ (q : Int) (w2 : World), (q = l ∨ q = r) → (w2.cell? ⟨w.heap.size, 3, none⟩ = some (.int .i64 l) ∧ w2.cell? ⟨w.heap.size, 4, none⟩ = some (.int .i64 r) ∧ Below w.heap.size w w2) → Calls Tryz.prog 56 #[.slice (some ⟨b, off, none⟩) n cap, .int .i64 q] w2 fun e w' => e = .returned (.string (tx q)) ∧ w'.cell? ⟨w.heap.size, 3, none⟩ = some (.int .i64 l) ∧ w'.cell? ⟨w.heap.size, 4, none⟩ = some (.int .i64 r) ∧ Below w.heap.size w w') := fun q w2 hq hs =>
    (H.out q w2 hq hs.2.2).mono fun e w' hh => ⟨hh.1, keepT hs hh.2⟩
  obtain ⟨A1, eA1⟩ : ∃ A, (⟨#[40]⟩ : ByteArray) ++ tx l = A := ⟨_, rfl⟩
  obtain ⟨A2, eA2⟩ : ∃ A, A1 ++ (⟨#[32, 42, 32]⟩ : ByteArray) = A := ⟨_, rfl⟩
  obtain ⟨A3, eA3⟩ : ∃ A, A2 ++ tx r = A := ⟨_, rfl⟩
  obtain ⟨A4, eA4⟩ : ∃ A, A3 ++ (⟨#[41]⟩ : ByteArray) = A := ⟨_, rfl⟩
  have z1 : A1.size = 1 + (tx l).size := by rw [← eA1, size_cat]; rfl
  have z2 : A2.size = A1.size + 3 := by rw [← eA2, size_cat]; rfl
  have z3 : A3.size = A2.size + (tx r).size := by rw [← eA3, size_cat]
  have f1 : ∀ w, (Op.stringOp .add ⟨#[40]⟩ (tx l)).run Tryz.prog w = .ok (.string A1) w := fun w => by rw [← eA1]; exact run_string_add_sum w _ _ (by rw [show (ByteArray.mk #[40]).size = 1 from rfl]; omega)
  have f2 : ∀ w, (Op.stringOp .add A1 ⟨#[32, 42, 32]⟩).run Tryz.prog w = .ok (.string A2) w := fun w => by rw [← eA2]; exact run_string_add_sum w _ _ (by rw [show (ByteArray.mk #[32, 42, 32]).size = 3 from rfl]; omega)
  have f3 : ∀ w, (Op.stringOp .add A2 (tx r)).run Tryz.prog w = .ok (.string A3) w := fun w => by rw [← eA3]; exact run_string_add_sum w _ _ (by omega)
  have f4 : ∀ w, (Op.stringOp .add A3 ⟨#[41]⟩).run Tryz.prog w = .ok (.string A4) w := fun w => by rw [← eA4]; exact run_string_add_sum w _ _ (by rw [show (ByteArray.mk #[41]).size = 1 from rfl]; omega)
  have HW : Hid (wrapT ⟨#[32, 42, 32]⟩ (tx l) (tx r) = A4) := by show wrapT _ (tx l) (tx r) = A4; unfold wrapT; rw [eA1, eA2, eA3, eA4]
  rw [HW.out]
  clear hL hR H
  clear eA1 eA2 eA3 eA4 z1 z2 z3
  go_enter Tryz.func56, Tryz.ntmps56
  go_wp2_with fail
  clear q0 q1 q2 q3 q4
  go_region_held3 (fun w' => w'.cell? ⟨w.heap.size, 3, none⟩ = some (.int .i64 l) ∧ w'.cell? ⟨w.heap.size, 4, none⟩ = some (.int .i64 r) ∧ Below w.heap.size w w') (first | exact hS | (refine ⟨by go_cell, by go_cell, by go_grown⟩)) (first | (go_at_call 56; refine (K.out _ _ (by first | exact .inl rfl | exact .inr rfl) ?_).mono ?_; (first | assumption | exact ⟨by go_cell, by go_cell, by go_grown⟩); rintro e w1 ⟨rfl, hS⟩))
  go_wp2
  go_ret
  exact ⟨rfl, hS.2.2⟩

end Go.Proofs.YtaeigimgobilaaaGreatDoor

namespace Go.Proofs.YtaeigimgobilaaaGreatDoor
open Go.RowKit
set_option linter.unusedVariables false
set_option linter.unusedSimpArgs false

set_option maxRecDepth 100000 in
set_option maxHeartbeats 2000000 in
theorem specPT_bad (a : Option Addr) (n cap : Nat) (zs : List PartI) (c : Int) (w : World) (hm : n ≤ maxLen) (h : PartsIn w a n zs) (hc : ptCode zs = c) (h0 : c ≠ 0) :
    GivesT 29 a n cap c noTx w := by
  have HM : Hid (∀ w2 : World, Below w.heap.size w w2 → Calls Tryz.prog 43 #[.slice a n cap] w2 fun e w' => e = .returned (.int .i64 c) ∧ Below w2.heap.size w2 w') := fun w2 q => by rw [← hc]; exact l4Fault_c a n cap zs w2 hm (h.below q)
  have hcb : (c != 0) = true := by simpa using h0
  clear h hc h0
  unfold GivesT
  go_enter Tryz.func29, Tryz.ntmps29
  go_wp2_with fail
  refine (HM.out _ ((Below.refl _ _).alloc (Nat.le_refl _) _)).mono ?_
  rintro e w1 ⟨rfl, hb1⟩
  have d0 : w1.cell? ⟨w.heap.size, 0, none⟩ = some (.int .i64 0) := (hb1.cell (p := ⟨w.heap.size, 0, none⟩) (by simp)).trans (by simp)
  have d1 : w1.cell? ⟨w.heap.size, 1, none⟩ = some (.string ⟨#[]⟩) := (hb1.cell (p := ⟨w.heap.size, 1, none⟩) (by simp)).trans (by simp)
  have g0 : w1.frozen? ⟨w.heap.size, 0, none⟩ = false := (hb1.frozen (p := ⟨w.heap.size, 0, none⟩) (by simp)).trans (by simp [go_sem])
  have g1 : w1.frozen? ⟨w.heap.size, 1, none⟩ = false := (hb1.frozen (p := ⟨w.heap.size, 1, none⟩) (by simp)).trans (by simp [go_sem])
  have hw : w.heap.size < w1.heap.size := by have := hb1.size; simp at this; omega
  have hbx : Below w.heap.size w w1 := below_new hb1
  clear hb1
  go_wp2
  refine bodyPost_ret (v := .agg #[.int .i64 c, .string ⟨#[]⟩]) (by simp [results, Tryz.results29, go_sem, d0, d1, hw]) rfl ⟨rfl, ?_⟩
  exact (hbx.setCell (Nat.le_refl _) _).setCell (Nat.le_refl _) _

set_option maxRecDepth 100000 in
set_option maxHeartbeats 4000000 in
theorem specPT_ok (a : Option Addr) (n cap : Nat) (zs : List PartI) (T : ByteArray) (w : World) (h : PartsIn w a n zs) (hc : ptCode zs = 0) (hT : textAt zs (n - 1) = T)
    (hTX : ∀ w2 : World, PartsIn w2 a n zs → Calls Tryz.prog 56 #[.slice a n cap, .int .i64 ((n : Int) - 1)] w2 fun e w' => e = .returned (.string T) ∧ Below w2.heap.size w2 w') (c : Int) (t0 : ByteArray) (HCT : Hid ((200 < T.size → c = 2 ∧ t0 = noTx) ∧ (¬ 200 < T.size → c = 0 ∧ t0 = T))) :
    GivesT 29 a n cap c t0 w := by
  obtain ⟨hz1, hz8, hall⟩ := pt_all hc
  rw [h.1] at hz1 hz8
  have HM : Hid (∀ w2 : World, Below w.heap.size w w2 → Calls Tryz.prog 43 #[.slice a n cap] w2 fun e w' => e = .returned (.int .i64 0) ∧ Below w2.heap.size w2 w') := fun w2 q => by rw [← hc]; exact l4Fault_c a n cap zs w2 (by unfold maxLen; omega) (h.below q)
  have HTX : Hid (∀ w2 : World, Below w.heap.size w w2 → Calls Tryz.prog 56 #[.slice a n cap, .int .i64 ((n : Int) - 1)] w2 fun e w' => e = .returned (.string T) ∧ Below w2.heap.size w2 w') := fun w2 q => hTX w2 (h.below q)
  have hTs : T.size ≤ 2043 := by rw [← hT]; exact textAt_small (by omega)
  have hn8 : (n : Int) ≤ 8 := by omega
  have hn1 : (1 : Int) ≤ (n : Int) := by omega
  clear h hc hT hall hTX
  unfold GivesT
  go_enter Tryz.func29, Tryz.ntmps29
  go_wp2_with fail
  refine (HM.out _ ((Below.refl _ _).alloc (Nat.le_refl _) _)).mono ?_
  rintro e w1 ⟨rfl, hb1⟩
  have hbx : Below w.heap.size w w1 := below_new hb1
  have hw1 : w.heap.size < w1.heap.size := by have := hb1.size; simp at this; omega
  go_wp2_with fail
  refine (HTX.out _ hbx).mono ?_
  rintro e w2 ⟨rfl, hb2⟩
  have d0 : w2.cell? ⟨w.heap.size, 0, none⟩ = some (.int .i64 0) := (hb2.cell (p := ⟨w.heap.size, 0, none⟩) hw1).trans ((hb1.cell (p := ⟨w.heap.size, 0, none⟩) (by simp)).trans (by simp))
  have d1 : w2.cell? ⟨w.heap.size, 1, none⟩ = some (.string ⟨#[]⟩) := (hb2.cell (p := ⟨w.heap.size, 1, none⟩) hw1).trans ((hb1.cell (p := ⟨w.heap.size, 1, none⟩) (by simp)).trans (by simp))
  have g0 : w2.frozen? ⟨w.heap.size, 0, none⟩ = false := (hb2.frozen (p := ⟨w.heap.size, 0, none⟩) hw1).trans ((hb1.frozen (p := ⟨w.heap.size, 0, none⟩) (by simp)).trans (by simp [go_sem]))
  have g1 : w2.frozen? ⟨w.heap.size, 1, none⟩ = false := (hb2.frozen (p := ⟨w.heap.size, 1, none⟩) hw1).trans ((hb1.frozen (p := ⟨w.heap.size, 1, none⟩) (by simp)).trans (by simp [go_sem]))
  have hw : w.heap.size < w2.heap.size := Nat.lt_of_lt_of_le hw1 hb2.size
  have HB : Hid (Below w.heap.size w w2) := hbx.trans (hb2.mono hbx.size)
  clear hb1 hb2 hbx hw1
  by_cases hbig : 200 < T.size
  · have hbig' : (200 : Int) < (T.size : Int) := by omega
    have E : Hid (c = 2 ∧ t0 = noTx) := HCT.out.1 hbig
    clear hbig
    go_wp2_with fail
    refine bodyPost_ret (v := .agg #[.int .i64 2, .string ⟨#[]⟩]) (by simp [results, Tryz.results29, go_sem, d0, d1, hw]) rfl ⟨by rw [E.out.1, E.out.2]; rfl, ?_⟩
    exact (HB.out.setCell (Nat.le_refl _) _).setCell (Nat.le_refl _) _
  · have hbig' : ¬ ((200 : Int) < (T.size : Int)) := by omega
    have E : Hid (c = 0 ∧ t0 = T) := HCT.out.2 hbig
    clear hbig
    go_wp2_with fail
    refine bodyPost_ret (v := .agg #[.int .i64 0, .string T]) (by simp [results, Tryz.results29, go_sem, d0, d1, hw]) rfl ⟨by rw [E.out.1, E.out.2], ?_⟩
    exact (HB.out.setCell (Nat.le_refl _) _).setCell (Nat.le_refl _) _

end Go.Proofs.YtaeigimgobilaaaGreatDoor

namespace Go.Proofs.YtaeigimgobilaaaGreatDoor
open Go.RowKit
set_option linter.unusedVariables false
set_option linter.unusedSimpArgs false

theorem l4Text_c (a : Option Addr) (n cap : Nat) (zs : List PartI) (hc : ptCode zs = 0) : ∀ (m p : Nat), p < m → p < n → ∀ w : World, PartsIn w a n zs →
    Calls Tryz.prog 56 #[.slice a n cap, .int .i64 (p : Int)] w fun e w' => e = .returned (.string (textAt zs p)) ∧ Below w.heap.size w w'
  | 0, p, h, _, _, _ => by omega
  | m + 1, p, hpm, hpn, w, hP => by
    obtain ⟨hz1, hz8, hall⟩ := pt_all hc
    rw [hP.1] at hz1 hz8
    obtain ⟨b, off, x, rfl, hs, hx⟩ := hP.at hpn
    have hx0 := hall p x hs
    rw [textAt_is hs]
    have IH : ∀ j : Nat, j < p → Hid (∀ w2, Below w.heap.size w w2 → Calls Tryz.prog 56 #[.slice (some ⟨b, off, none⟩) n cap, .int .i64 (j : Int)] w2 fun e w' => e = .returned (.string (textAt zs j)) ∧ Below w2.heap.size w2 w') := fun j hj w2 hb =>
      l4Text_c (some ⟨b, off, none⟩) n cap zs hc m j (by omega) (by omega) w2 (hP.below hb)
    have hlen := hP.1
    obtain ⟨kk, ro, rn, l, r⟩ := x
    unfold ptOne at hx0
    simp only at hx0
    split at hx0
    · cases hx0
    · split at hx0
      · rename_i e1
        subst e1
        have hb : roleB ro rn = true := by
          cases q : roleB ro rn
          · rw [if_pos q] at hx0; cases hx0
          · rfl
        exact l4Text_role b off n cap p ro rn l r w hpn hz8 hx hb
      · rename_i e1
        split at hx0
        · cases hx0
        · split at hx0
          · cases hx0
          · split at hx0
            · cases hx0
            · obtain ⟨l', rfl⟩ := Int.eq_ofNat_of_zero_le (show 0 ≤ l by omega)
              obtain ⟨r', rfl⟩ := Int.eq_ofNat_of_zero_le (show 0 ≤ r by omega)
              have hl := textAt_ahead (zs := zs) (show l' < p by omega) (by omega)
              have hr := textAt_ahead (zs := zs) (show r' < p by omega) (by omega)
              have hs1 := textAt_small (zs := zs) (show l' < 8 by omega)
              have hs2 := textAt_small (zs := zs) (show r' < 8 by omega)
              obtain ⟨tx, htx⟩ : ∃ tx : Int → ByteArray, ∀ q : Nat, tx (q : Int) = textAt zs q := ⟨fun q => textAt zs q.toNat, fun q => by simp⟩
              have ho : textOne (textsTo zs p) ⟨kk, ro, rn, (l' : Int), (r' : Int)⟩ = wrapT (sepT kk) (tx (l' : Int)) (tx (r' : Int)) := by
                rw [htx, htx]
                unfold textOne
                simp only
                rw [if_neg e1, Int.toNat_natCast, Int.toNat_natCast, hl, hr]; rfl
              rw [ho]
              have HH : Hid (∀ (q : Int) (w2 : World), (q = (l' : Int) ∨ q = (r' : Int)) → Below w.heap.size w w2 → Calls Tryz.prog 56 #[.slice (some ⟨b, off, none⟩) n cap, .int .i64 q] w2 fun e w' => e = .returned (.string (tx q)) ∧ Below w2.heap.size w2 w') := by
                rintro q w2 (rfl | rfl) hb
                · rw [htx]; exact (IH l' (by omega)).out w2 hb
                · rw [htx]; exact (IH r' (by omega)).out w2 hb
              have hk2 : kk = 2 ∨ kk = 3 := by omega
              rcases hk2 with rfl | rfl
              · rw [show sepT 2 = ⟨#[32, 43, 32]⟩ by unfold sepT; simp]
                exact l4Text_two b off n cap p ro rn (l' : Int) (r' : Int) tx w hpn hz8 hx (by rw [htx]; exact hs1) (by rw [htx]; exact hs2) HH
              · rw [show sepT 3 = ⟨#[32, 42, 32]⟩ by unfold sepT; simp]
                exact l4Text_three b off n cap p ro rn (l' : Int) (r' : Int) tx w hpn hz8 hx (by rw [htx]; exact hs1) (by rw [htx]; exact hs2) HH

theorem last_text (a : Option Addr) (n cap : Nat) (zs : List PartI) (w : World) (h : PartsIn w a n zs) (hc : ptCode zs = 0) : ∀ w2 : World, PartsIn w2 a n zs → Calls Tryz.prog 56 #[.slice a n cap, .int .i64 ((n : Int) - 1)] w2 fun e w' => e = .returned (.string (textAt zs (n - 1))) ∧ Below w2.heap.size w2 w' := fun w2 q => by
  obtain ⟨hz1, hz8, hall⟩ := pt_all hc
  rw [h.1] at hz1 hz8
  rw [show (n : Int) - 1 = ((n - 1 : Nat) : Int) by omega]
  exact l4Text_c a n cap zs hc n (n - 1) (by omega) (by omega) w2 q

/-- Both programs tell the same code and text of the same parts. -/
theorem partText_both (n : Nat) (zs : List PartI) (hm : n ≤ maxLen) : ∃ (c : Int) (t : ByteArray), (∀ (a : Option Addr) (cap : Nat) (w : World), PartsIn w a n zs → GivesT 29 a n cap c t w) ∧ (∀ (a : Option Addr) (cap : Nat) (w : World), PartsIn w a n zs → GivesT 50 a n cap c t w) := by
  by_cases hc : ptCode zs = 0
  · by_cases hb : 200 < (textAt zs (n - 1)).size
    · have HCT : Hid ((200 < (textAt zs (n - 1)).size → (2 : Int) = 2 ∧ noTx = noTx) ∧ (¬ 200 < (textAt zs (n - 1)).size → (2 : Int) = 0 ∧ noTx = textAt zs (n - 1))) := ⟨fun _ => ⟨rfl, rfl⟩, fun q => absurd hb q⟩
      exact ⟨2, noTx, fun a cap w h => specPT_ok a n cap zs _ w h hc rfl (last_text a n cap zs w h hc) 2 noTx HCT, fun a cap w h => implPT_ok a n cap zs _ w h hc rfl 2 noTx HCT⟩
    · have HCT : Hid ((200 < (textAt zs (n - 1)).size → (0 : Int) = 2 ∧ textAt zs (n - 1) = noTx) ∧ (¬ 200 < (textAt zs (n - 1)).size → (0 : Int) = 0 ∧ textAt zs (n - 1) = textAt zs (n - 1))) := ⟨fun q => absurd q hb, fun _ => ⟨rfl, rfl⟩⟩
      exact ⟨0, textAt zs (n - 1), fun a cap w h => specPT_ok a n cap zs _ w h hc rfl (last_text a n cap zs w h hc) 0 _ HCT, fun a cap w h => implPT_ok a n cap zs _ w h hc rfl 0 _ HCT⟩
  · exact ⟨ptCode zs, noTx, fun a cap w h => specPT_bad a n cap zs _ w hm h rfl hc, fun a cap w h => implPT_bad a n cap zs _ w hm h rfl hc⟩

end Go.Proofs.YtaeigimgobilaaaGreatDoor

namespace Go.Proofs.YtaeigimgobilaaaGreatDoor
open Go.RowKit
set_option linter.unusedVariables false
set_option linter.unusedSimpArgs false

/-- What stands behind the arrow. -/
def tailL (r : RuleI) : List UInt8 :=
  if r.k = 1 then [digitB r.w]
  else if r.k = 2 then [digitB r.oo, 46, digitB r.on]
  else if r.k = 3 then [digitB r.oo, 46, digitB r.on, 46, digitB r.tn]
  else [digitB r.oo, 46, digitB r.on, 32, 38, 32, digitB r.to, 46, digitB r.tn]

/-- A rule's line. -/
def lineL (r : RuleI) : List UInt8 := [digitB r.ho, 46, digitB r.hn, 32, 60, 45, 32] ++ tailL r
def lineT (r : RuleI) : ByteArray := ⟨(lineL r).toArray⟩
def tailT (r : RuleI) : ByteArray := ⟨(tailL r).toArray⟩

theorem code0 {r : RuleI} (h : ruleCode r = 0) : (1 ≤ r.k ∧ r.k ≤ 4) ∧ roleB r.ho r.hn = true ∧ bareB r = true ∧ hasB r = true := by
  unfold ruleCode at h
  split at h
  · omega
  · rename_i hk
    split at h
    · omega
    · split at h
      · omega
      · split at h
        · omega
        · rename_i h1 h2 h3
          refine ⟨by omega, ?_, ?_, ?_⟩
          · cases e : roleB r.ho r.hn <;> simp_all
          · cases e : bareB r <;> simp_all
          · cases e : hasB r <;> simp_all

theorem tail_size (r : RuleI) : (tailT r).size ≤ 9 := by
  simp only [tailT, tailL, ByteArray.size]
  split
  · simp
  · split
    · simp
    · split <;> simp

theorem tail_1 (r : RuleI) (h : r.k = 1) : tailT r = ⟨#[digitB r.w]⟩ := by simp [tailT, tailL, h]
theorem tail_2 (r : RuleI) (h : r.k = 2) : tailT r = roleT r.oo r.on := by simp [tailT, tailL, h, roleT]
theorem tail_3 (r : RuleI) (h : r.k = 3) : tailT r = roleT r.oo r.on ++ ⟨#[46]⟩ ++ ⟨#[digitB r.tn]⟩ := by
  simp [tailT, tailL, h, roleT, ByteArray.mk_append_mk]
theorem tail_4 (r : RuleI) (h : r.k = 4) : tailT r = roleT r.oo r.on ++ ⟨#[32, 38, 32]⟩ ++ roleT r.to r.tn := by
  simp [tailT, tailL, h, roleT, ByteArray.mk_append_mk]
theorem line_eq (r : RuleI) : lineT r = roleT r.ho r.hn ++ ⟨#[32, 60, 45, 32]⟩ ++ tailT r := by
  simp [lineT, lineL, tailT, roleT, ByteArray.mk_append_mk]
theorem cat_assoc (a b c : ByteArray) : a ++ b ++ c = a ++ (b ++ c) := ByteArray.append_assoc

theorem withS {P : Program} {f : Nat} {args : Array Value} {w : World} {e0 : Ending} {S : World → Prop} (K : ∀ w', Below w.heap.size w w' → S w')
    (h : Calls P f args w fun e w' => e = e0 ∧ Below w.heap.size w w') : Calls P f args w fun e w' => e = e0 ∧ S w' := h.mono fun e w' hh => ⟨hh.1, K w' hh.2⟩

theorem keepS3 {g : Nat} {x0 x1 x2 : Int} {w0 w w' : World} (h : w.cell? ⟨g, 0, none⟩ = some (.int .i64 x0) ∧ w.cell? ⟨g, 1, none⟩ = some (.int .i64 x1) ∧ w.cell? ⟨g, 2, none⟩ = some (.int .i64 x2) ∧ Below w0.heap.size w0 w) (hb : Below w.heap.size w w') : w'.cell? ⟨g, 0, none⟩ = some (.int .i64 x0) ∧ w'.cell? ⟨g, 1, none⟩ = some (.int .i64 x1) ∧ w'.cell? ⟨g, 2, none⟩ = some (.int .i64 x2) ∧ Below w0.heap.size w0 w' := by
  have key : ∀ (o : Nat) (v : Value), w.cell? ⟨g, o, none⟩ = some v → w'.cell? ⟨g, o, none⟩ = some v := fun o v e => (hb.cell (p := ⟨g, o, none⟩) (World.block_lt_of_cell? w ⟨g, o, none⟩ e)).trans e
  obtain ⟨h0, h1, h2, hB⟩ := h
  exact ⟨key _ _ h0, key _ _ h1, key _ _ h2, hB.trans (hb.mono hB.size)⟩

theorem keepS4 {g : Nat} {x0 x1 x2 x3 : Int} {w0 w w' : World} (h : w.cell? ⟨g, 0, none⟩ = some (.int .i64 x0) ∧ w.cell? ⟨g, 1, none⟩ = some (.int .i64 x1) ∧ w.cell? ⟨g, 2, none⟩ = some (.int .i64 x2) ∧ w.cell? ⟨g, 3, none⟩ = some (.int .i64 x3) ∧ Below w0.heap.size w0 w) (hb : Below w.heap.size w w') : w'.cell? ⟨g, 0, none⟩ = some (.int .i64 x0) ∧ w'.cell? ⟨g, 1, none⟩ = some (.int .i64 x1) ∧ w'.cell? ⟨g, 2, none⟩ = some (.int .i64 x2) ∧ w'.cell? ⟨g, 3, none⟩ = some (.int .i64 x3) ∧ Below w0.heap.size w0 w' := by
  have key : ∀ (o : Nat) (v : Value), w.cell? ⟨g, o, none⟩ = some v → w'.cell? ⟨g, o, none⟩ = some v := fun o v e => (hb.cell (p := ⟨g, o, none⟩) (World.block_lt_of_cell? w ⟨g, o, none⟩ e)).trans e
  obtain ⟨h0, h1, h2, h3, hB⟩ := h
  exact ⟨key _ _ h0, key _ _ h1, key _ _ h2, key _ _ h3, hB.trans (hb.mono hB.size)⟩

theorem keepS8 {g : Nat} {x0 x1 x2 x3 x4 x5 x6 x7 : Int} {w0 w w' : World} (h : w.cell? ⟨g, 0, none⟩ = some (.int .i64 x0) ∧ w.cell? ⟨g, 1, none⟩ = some (.int .i64 x1) ∧ w.cell? ⟨g, 2, none⟩ = some (.int .i64 x2) ∧ w.cell? ⟨g, 3, none⟩ = some (.int .i64 x3) ∧ w.cell? ⟨g, 4, none⟩ = some (.int .i64 x4) ∧ w.cell? ⟨g, 5, none⟩ = some (.int .i64 x5) ∧ w.cell? ⟨g, 6, none⟩ = some (.int .i64 x6) ∧ w.cell? ⟨g, 7, none⟩ = some (.int .i64 x7) ∧ Below w0.heap.size w0 w) (hb : Below w.heap.size w w') : w'.cell? ⟨g, 0, none⟩ = some (.int .i64 x0) ∧ w'.cell? ⟨g, 1, none⟩ = some (.int .i64 x1) ∧ w'.cell? ⟨g, 2, none⟩ = some (.int .i64 x2) ∧ w'.cell? ⟨g, 3, none⟩ = some (.int .i64 x3) ∧ w'.cell? ⟨g, 4, none⟩ = some (.int .i64 x4) ∧ w'.cell? ⟨g, 5, none⟩ = some (.int .i64 x5) ∧ w'.cell? ⟨g, 6, none⟩ = some (.int .i64 x6) ∧ w'.cell? ⟨g, 7, none⟩ = some (.int .i64 x7) ∧ Below w0.heap.size w0 w' := by
  have key : ∀ (o : Nat) (v : Value), w.cell? ⟨g, o, none⟩ = some v → w'.cell? ⟨g, o, none⟩ = some v := fun o v e => (hb.cell (p := ⟨g, o, none⟩) (World.block_lt_of_cell? w ⟨g, o, none⟩ e)).trans e
  obtain ⟨h0, h1, h2, h3, h4, h5, h6, h7, hB⟩ := h
  exact ⟨key _ _ h0, key _ _ h1, key _ _ h2, key _ _ h3, key _ _ h4, key _ _ h5, key _ _ h6, key _ _ h7, hB.trans (hb.mono hB.size)⟩

end Go.Proofs.YtaeigimgobilaaaGreatDoor

namespace Go.Proofs.YtaeigimgobilaaaGreatDoor
open Go.RowKit
set_option linter.unusedVariables false
set_option linter.unusedSimpArgs false
attribute [local go_sem] ta11 ta12 ta13 ta14 ta21 ta22 ta23 ta24 ta31 ta32 ta33 ta34 ta41 ta42 ta43 ta44

set_option maxHeartbeats 400000 in
theorem bodyText_1 (r : RuleI) (h : r.k = 1) (hw : prinB r.w = true) (w : World) :
    Calls Tryz.prog 83 #[.iface 160 (.agg #[.int .i64 r.w])] w fun e w' => e = .returned (.string (tailT r)) ∧ Below w.heap.size w w' := by
  have E : Hid (tailT r = ⟨#[digitB r.w]⟩) := tail_1 r h
  have hw' : 1 ≤ r.w ∧ r.w ≤ 8 := by simpa [prinB] using hw
  obtain ⟨w1, w8⟩ := hw'
  go_enter Tryz.func83, Tryz.ntmps83
  go_wp2_with (first | (go_at_call 48; refine (num_c _ (by omega) (by omega) _).mono ?_; rintro e w1 ⟨rfl, rfl⟩))
  go_ret
  exact ⟨by rw [E.out]; rfl, by go_grown⟩

set_option maxHeartbeats 400000 in
theorem bodyText_2 (r : RuleI) (h : r.k = 2) (hr : roleB r.oo r.on = true) (w : World) :
    Calls Tryz.prog 83 #[.iface 162 (.agg #[.int .i64 r.oo, .int .i64 r.on])] w fun e w' => e = .returned (.string (tailT r)) ∧ Below w.heap.size w w' := by
  have E : Hid (tailT r = roleT r.oo r.on) := tail_2 r h
  go_enter Tryz.func83, Tryz.ntmps83
  go_wp2_with (first | (go_at_call 82; refine (roleText_c _ _ hr _).mono ?_; rintro e w1 ⟨rfl, hb1⟩))
  go_ret
  exact ⟨by rw [E.out]; rfl, below_new hb1⟩

set_option maxHeartbeats 400000 in
theorem bodyText_3 (r : RuleI) (h : r.k = 3) (hr : roleB r.oo r.on = true) (hn : nameB r.tn = true) (w : World) :
    Calls Tryz.prog 83 #[.iface 164 (.agg #[.int .i64 r.oo, .int .i64 r.on, .int .i64 r.tn])] w fun e w' => e = .returned (.string (tailT r)) ∧ Below w.heap.size w w' := by
  have E : Hid (tailT r = roleT r.oo r.on ++ ⟨#[46]⟩ ++ ⟨#[digitB r.tn]⟩) := tail_3 r h
  have hs1 : (roleT r.oo r.on).size = 3 := rfl
  have hn' : 1 ≤ r.tn ∧ r.tn ≤ 5 := by simpa [nameB] using hn
  obtain ⟨n1, n5⟩ := hn'
  go_enter Tryz.func83, Tryz.ntmps83
  go_wp2
  go_region_held3 (fun w' => w'.cell? ⟨w.heap.size, 0, none⟩ = some (.int .i64 r.oo) ∧ w'.cell? ⟨w.heap.size, 1, none⟩ = some (.int .i64 r.on) ∧ w'.cell? ⟨w.heap.size, 2, none⟩ = some (.int .i64 r.tn) ∧ Below w.heap.size w w') (first | exact hS | (refine ⟨by go_cell, by go_cell, by go_cell, by go_grown⟩))
    (first
      | (go_at_call 48; refine (withS (S := fun w' => w'.cell? ⟨w.heap.size, 0, none⟩ = some (.int .i64 r.oo) ∧ w'.cell? ⟨w.heap.size, 1, none⟩ = some (.int .i64 r.on) ∧ w'.cell? ⟨w.heap.size, 2, none⟩ = some (.int .i64 r.tn) ∧ Below w.heap.size w w') (fun w' hb => keepS3 ?_ hb) ((num_c _ (by omega) (by omega) _).mono fun e w' hh => ⟨hh.1, hh.2 ▸ Below.refl _ _⟩)).mono ?_; (first | assumption | exact ⟨by go_cell, by go_cell, by go_cell, by go_grown⟩); rintro e w1 ⟨rfl, hS⟩)
      | (go_at_call 82; refine (withS (S := fun w' => w'.cell? ⟨w.heap.size, 0, none⟩ = some (.int .i64 r.oo) ∧ w'.cell? ⟨w.heap.size, 1, none⟩ = some (.int .i64 r.on) ∧ w'.cell? ⟨w.heap.size, 2, none⟩ = some (.int .i64 r.tn) ∧ Below w.heap.size w w') (fun w' hb => keepS3 ?_ hb) (roleText_c _ _ hr _)).mono ?_; (first | assumption | exact ⟨by go_cell, by go_cell, by go_cell, by go_grown⟩); rintro e w1 ⟨rfl, hS⟩))
  go_wp2
  go_ret
  exact ⟨by rw [E.out]; rfl, hS.2.2.2⟩

set_option maxRecDepth 20000 in
set_option maxHeartbeats 1000000 in
theorem bodyText_4 (r : RuleI) (h : r.k = 4) (hr : roleB r.oo r.on = true) (ht : roleB r.to r.tn = true) (w : World) :
    Calls Tryz.prog 83 #[.iface 166 (.agg #[.int .i64 r.oo, .int .i64 r.on, .int .i64 r.to, .int .i64 r.tn])] w fun e w' => e = .returned (.string (tailT r)) ∧ Below w.heap.size w w' := by
  have E : Hid (tailT r = roleT r.oo r.on ++ ⟨#[32, 38, 32]⟩ ++ roleT r.to r.tn) := tail_4 r h
  have hs1 : (roleT r.oo r.on).size = 3 := rfl
  have hs2 : (roleT r.to r.tn).size = 3 := rfl
  go_enter Tryz.func83, Tryz.ntmps83
  go_wp2
  go_region_held3 (fun w' => w'.cell? ⟨w.heap.size, 0, none⟩ = some (.int .i64 r.oo) ∧ w'.cell? ⟨w.heap.size, 1, none⟩ = some (.int .i64 r.on) ∧ w'.cell? ⟨w.heap.size, 2, none⟩ = some (.int .i64 r.to) ∧ w'.cell? ⟨w.heap.size, 3, none⟩ = some (.int .i64 r.tn) ∧ Below w.heap.size w w') (first | exact hS | (refine ⟨by go_cell, by go_cell, by go_cell, by go_cell, by go_grown⟩))
    (first
      | (go_at_call 82; refine (withS (S := fun w' => w'.cell? ⟨w.heap.size, 0, none⟩ = some (.int .i64 r.oo) ∧ w'.cell? ⟨w.heap.size, 1, none⟩ = some (.int .i64 r.on) ∧ w'.cell? ⟨w.heap.size, 2, none⟩ = some (.int .i64 r.to) ∧ w'.cell? ⟨w.heap.size, 3, none⟩ = some (.int .i64 r.tn) ∧ Below w.heap.size w w') (fun w' hb => keepS4 ?_ hb) (roleText_c _ _ (by assumption) _)).mono ?_; (first | assumption | exact ⟨by go_cell, by go_cell, by go_cell, by go_cell, by go_grown⟩); rintro e w1 ⟨rfl, hS⟩))
  go_wp2
  go_ret
  exact ⟨by rw [E.out]; rfl, hS.2.2.2.2⟩

end Go.Proofs.YtaeigimgobilaaaGreatDoor

namespace Go.Proofs.YtaeigimgobilaaaGreatDoor
open Go.RowKit
set_option linter.unusedVariables false
set_option linter.unusedSimpArgs false

theorem keepR {g off : Nat} {r : RuleI} {w0 w w' : World} (h : w.cell? ⟨g, off, none⟩ = some (.int .i64 r.k) ∧ w.cell? ⟨g, off + 1, none⟩ = some (.int .i64 r.ho) ∧ w.cell? ⟨g, off + 2, none⟩ = some (.int .i64 r.hn) ∧ w.cell? ⟨g, off + 3, none⟩ = some (.int .i64 r.w) ∧ w.cell? ⟨g, off + 4, none⟩ = some (.int .i64 r.oo) ∧ w.cell? ⟨g, off + 5, none⟩ = some (.int .i64 r.on) ∧ w.cell? ⟨g, off + 6, none⟩ = some (.int .i64 r.to) ∧ w.cell? ⟨g, off + 7, none⟩ = some (.int .i64 r.tn) ∧ Below w0.heap.size w0 w) (hb : Below w.heap.size w w') : w'.cell? ⟨g, off, none⟩ = some (.int .i64 r.k) ∧ w'.cell? ⟨g, off + 1, none⟩ = some (.int .i64 r.ho) ∧ w'.cell? ⟨g, off + 2, none⟩ = some (.int .i64 r.hn) ∧ w'.cell? ⟨g, off + 3, none⟩ = some (.int .i64 r.w) ∧ w'.cell? ⟨g, off + 4, none⟩ = some (.int .i64 r.oo) ∧ w'.cell? ⟨g, off + 5, none⟩ = some (.int .i64 r.on) ∧ w'.cell? ⟨g, off + 6, none⟩ = some (.int .i64 r.to) ∧ w'.cell? ⟨g, off + 7, none⟩ = some (.int .i64 r.tn) ∧ Below w0.heap.size w0 w' := by
  have key : ∀ (o : Nat) (v : Value), w.cell? ⟨g, o, none⟩ = some v → w'.cell? ⟨g, o, none⟩ = some v := fun o v e => (hb.cell (p := ⟨g, o, none⟩) (World.block_lt_of_cell? w ⟨g, o, none⟩ e)).trans e
  obtain ⟨h0, h1, h2, h3, h4, h5, h6, h7, hB⟩ := h
  exact ⟨key _ _ h0, key _ _ h1, key _ _ h2, key _ _ h3, key _ _ h4, key _ _ h5, key _ _ h6, key _ _ h7, hB.trans (hb.mono hB.size)⟩

set_option maxHeartbeats 1000000 in
theorem l2Line_1 (g off : Nat) (r : RuleI) (w : World) (hx : RuleAt w g off r) (h : r.k = 1) (hr : roleB r.ho r.hn = true) (hw : prinB r.w = true) :
    Calls Tryz.prog 28 #[.pointer (some ⟨g, off, none⟩)] w fun e w' => e = .returned (.string (lineT r)) ∧ Below w.heap.size w w' := by
  have E : Hid (lineT r = roleT r.ho r.hn ++ ⟨#[32, 60, 45, 32]⟩ ++ ⟨#[digitB r.w]⟩) := by show lineT r = _; rw [line_eq, tail_1 r h]
  have hs0 : (roleT r.ho r.hn).size = 3 := rfl
  have hs1 : (roleT r.oo r.on).size = 3 := rfl
  have hs2 : (roleT r.to r.tn).size = 3 := rfl
  have hw' : 1 ≤ r.w ∧ r.w ≤ 8 := by simpa [prinB] using hw
  obtain ⟨w1, w8⟩ := hw'
  have hX : Hid (RuleAt w g off r) := hx
  have hb : Below w.heap.size w w := Below.refl _ _
  obtain ⟨h0, h1, h2, h3, h4, h5, h6, h7⟩ := hx
  have hk : w.cell? ⟨g, off, none⟩ = some (.int .i64 1) := by rw [h0, h]
  go_enter Tryz.func28, Tryz.ntmps28
  go_wp2_with fail
  refine (l2Text_c r.ho r.hn hr _).mono ?_
  rintro e w1 ⟨rfl, hb1⟩
  replace hb := hb.trans (hb1.mono hb.size)
  clear h0 h1 h2 h3 h4 h5 h6 h7 hb1 hk
  obtain ⟨h0, h1, h2, h3, h4, h5, h6, h7⟩ := hX.out.below hb
  go_wp2_with fail
  refine (l1Digits_c r.w (by omega) (by omega) _).mono ?_
  rintro e w2 ⟨rfl, hb2⟩
  go_wp2
  go_ret
  exact ⟨by rw [E.out]; rfl, hb.trans (hb2.mono hb.size)⟩

set_option maxHeartbeats 1000000 in
theorem l2Line_2 (g off : Nat) (r : RuleI) (w : World) (hx : RuleAt w g off r) (h : r.k = 2) (hr : roleB r.ho r.hn = true) (ho : roleB r.oo r.on = true) :
    Calls Tryz.prog 28 #[.pointer (some ⟨g, off, none⟩)] w fun e w' => e = .returned (.string (lineT r)) ∧ Below w.heap.size w w' := by
  have E : Hid (lineT r = roleT r.ho r.hn ++ ⟨#[32, 60, 45, 32]⟩ ++ roleT r.oo r.on) := by show lineT r = _; rw [line_eq, tail_2 r h]
  have hs0 : (roleT r.ho r.hn).size = 3 := rfl
  have hs1 : (roleT r.oo r.on).size = 3 := rfl
  have hs2 : (roleT r.to r.tn).size = 3 := rfl
  have hX : Hid (RuleAt w g off r) := hx
  have hb : Below w.heap.size w w := Below.refl _ _
  obtain ⟨h0, h1, h2, h3, h4, h5, h6, h7⟩ := hx
  have hk : w.cell? ⟨g, off, none⟩ = some (.int .i64 2) := by rw [h0, h]
  go_enter Tryz.func28, Tryz.ntmps28
  go_wp2_with fail
  refine (l2Text_c r.ho r.hn hr _).mono ?_
  rintro e w1 ⟨rfl, hb1⟩
  replace hb := hb.trans (hb1.mono hb.size)
  clear h0 h1 h2 h3 h4 h5 h6 h7 hb1 hk
  obtain ⟨h0, h1, h2, h3, h4, h5, h6, h7⟩ := hX.out.below hb
  go_wp2_with fail
  refine (l2Text_c r.oo r.on ho _).mono ?_
  rintro e w2 ⟨rfl, hb2⟩
  go_wp2
  go_ret
  exact ⟨by rw [E.out]; rfl, hb.trans (hb2.mono hb.size)⟩

set_option maxRecDepth 20000 in
set_option maxHeartbeats 2000000 in
theorem l2Line_3 (g off : Nat) (r : RuleI) (w : World) (hx : RuleAt w g off r) (h : r.k = 3) (hr : roleB r.ho r.hn = true) (ho : roleB r.oo r.on = true) (hn : nameB r.tn = true) :
    Calls Tryz.prog 28 #[.pointer (some ⟨g, off, none⟩)] w fun e w' => e = .returned (.string (lineT r)) ∧ Below w.heap.size w w' := by
  have E : Hid (lineT r = roleT r.ho r.hn ++ ⟨#[32, 60, 45, 32]⟩ ++ roleT r.oo r.on ++ ⟨#[46]⟩ ++ ⟨#[digitB r.tn]⟩) := by show lineT r = _; rw [line_eq, tail_3 r h]; simp only [cat_assoc]
  have hs0 : (roleT r.ho r.hn).size = 3 := rfl
  have hs1 : (roleT r.oo r.on).size = 3 := rfl
  have hs2 : (roleT r.to r.tn).size = 3 := rfl
  have hn' : 1 ≤ r.tn ∧ r.tn ≤ 5 := by simpa [nameB] using hn
  obtain ⟨n1, n5⟩ := hn'
  have hX : Hid (RuleAt w g off r) := hx
  have hb : Below w.heap.size w w := Below.refl _ _
  obtain ⟨h0, h1, h2, h3, h4, h5, h6, h7⟩ := hx
  have hk : w.cell? ⟨g, off, none⟩ = some (.int .i64 3) := by rw [h0, h]
  go_enter Tryz.func28, Tryz.ntmps28
  go_wp2_with fail
  refine (l2Text_c r.ho r.hn hr _).mono ?_
  rintro e w1 ⟨rfl, hb1⟩
  replace hb := hb.trans (hb1.mono hb.size)
  clear h0 h1 h2 h3 h4 h5 h6 h7 hb1 hk
  obtain ⟨h0, h1, h2, h3, h4, h5, h6, h7⟩ := hX.out.below hb
  go_wp2_with fail
  go_region_held3 (fun w' => w'.cell? ⟨g, off, none⟩ = some (.int .i64 r.k) ∧ w'.cell? ⟨g, off + 1, none⟩ = some (.int .i64 r.ho) ∧ w'.cell? ⟨g, off + 2, none⟩ = some (.int .i64 r.hn) ∧ w'.cell? ⟨g, off + 3, none⟩ = some (.int .i64 r.w) ∧ w'.cell? ⟨g, off + 4, none⟩ = some (.int .i64 r.oo) ∧ w'.cell? ⟨g, off + 5, none⟩ = some (.int .i64 r.on) ∧ w'.cell? ⟨g, off + 6, none⟩ = some (.int .i64 r.to) ∧ w'.cell? ⟨g, off + 7, none⟩ = some (.int .i64 r.tn) ∧ Below w.heap.size w w') (first | exact hS | exact ⟨h0, h1, h2, h3, h4, h5, h6, h7, hb⟩ | exact ⟨by go_cell, by go_cell, by go_cell, by go_cell, by go_cell, by go_cell, by go_cell, by go_cell, hb.drew⟩)
    (first
      | (go_at_call 27; refine (withS (S := fun w' => w'.cell? ⟨g, off, none⟩ = some (.int .i64 r.k) ∧ w'.cell? ⟨g, off + 1, none⟩ = some (.int .i64 r.ho) ∧ w'.cell? ⟨g, off + 2, none⟩ = some (.int .i64 r.hn) ∧ w'.cell? ⟨g, off + 3, none⟩ = some (.int .i64 r.w) ∧ w'.cell? ⟨g, off + 4, none⟩ = some (.int .i64 r.oo) ∧ w'.cell? ⟨g, off + 5, none⟩ = some (.int .i64 r.on) ∧ w'.cell? ⟨g, off + 6, none⟩ = some (.int .i64 r.to) ∧ w'.cell? ⟨g, off + 7, none⟩ = some (.int .i64 r.tn) ∧ Below w.heap.size w w') (fun w' hb => keepR ?_ hb) (l1Digits_c r.tn (by omega) (by omega) _)).mono ?_; (first | assumption | exact ⟨h0, h1, h2, h3, h4, h5, h6, h7, hb⟩ | exact ⟨by go_cell, by go_cell, by go_cell, by go_cell, by go_cell, by go_cell, by go_cell, by go_cell, hb.drew⟩); rintro e w1 ⟨rfl, hS⟩)
      | (go_at_call 55; refine (withS (S := fun w' => w'.cell? ⟨g, off, none⟩ = some (.int .i64 r.k) ∧ w'.cell? ⟨g, off + 1, none⟩ = some (.int .i64 r.ho) ∧ w'.cell? ⟨g, off + 2, none⟩ = some (.int .i64 r.hn) ∧ w'.cell? ⟨g, off + 3, none⟩ = some (.int .i64 r.w) ∧ w'.cell? ⟨g, off + 4, none⟩ = some (.int .i64 r.oo) ∧ w'.cell? ⟨g, off + 5, none⟩ = some (.int .i64 r.on) ∧ w'.cell? ⟨g, off + 6, none⟩ = some (.int .i64 r.to) ∧ w'.cell? ⟨g, off + 7, none⟩ = some (.int .i64 r.tn) ∧ Below w.heap.size w w') (fun w' hb => keepR ?_ hb) (l2Text_c r.oo r.on ho _)).mono ?_; (first | assumption | exact ⟨h0, h1, h2, h3, h4, h5, h6, h7, hb⟩ | exact ⟨by go_cell, by go_cell, by go_cell, by go_cell, by go_cell, by go_cell, by go_cell, by go_cell, hb.drew⟩); rintro e w1 ⟨rfl, hS⟩))
  go_wp2
  go_ret
  exact ⟨by rw [E.out]; rfl, hS.2.2.2.2.2.2.2.2⟩

set_option maxRecDepth 20000 in
set_option maxHeartbeats 2000000 in
theorem l2Line_4 (g off : Nat) (r : RuleI) (w : World) (hx : RuleAt w g off r) (h : r.k = 4) (hr : roleB r.ho r.hn = true) (ho : roleB r.oo r.on = true) (ht : roleB r.to r.tn = true) :
    Calls Tryz.prog 28 #[.pointer (some ⟨g, off, none⟩)] w fun e w' => e = .returned (.string (lineT r)) ∧ Below w.heap.size w w' := by
  have E : Hid (lineT r = roleT r.ho r.hn ++ ⟨#[32, 60, 45, 32]⟩ ++ roleT r.oo r.on ++ ⟨#[32, 38, 32]⟩ ++ roleT r.to r.tn) := by show lineT r = _; rw [line_eq, tail_4 r h]; simp only [cat_assoc]
  have hs0 : (roleT r.ho r.hn).size = 3 := rfl
  have hs1 : (roleT r.oo r.on).size = 3 := rfl
  have hs2 : (roleT r.to r.tn).size = 3 := rfl
  have hX : Hid (RuleAt w g off r) := hx
  have hb : Below w.heap.size w w := Below.refl _ _
  obtain ⟨h0, h1, h2, h3, h4, h5, h6, h7⟩ := hx
  have hk : w.cell? ⟨g, off, none⟩ = some (.int .i64 4) := by rw [h0, h]
  go_enter Tryz.func28, Tryz.ntmps28
  go_wp2_with fail
  refine (l2Text_c r.ho r.hn hr _).mono ?_
  rintro e w1 ⟨rfl, hb1⟩
  replace hb := hb.trans (hb1.mono hb.size)
  clear h0 h1 h2 h3 h4 h5 h6 h7 hb1 hk
  obtain ⟨h0, h1, h2, h3, h4, h5, h6, h7⟩ := hX.out.below hb
  go_wp2_with fail
  go_region_held3 (fun w' => w'.cell? ⟨g, off, none⟩ = some (.int .i64 r.k) ∧ w'.cell? ⟨g, off + 1, none⟩ = some (.int .i64 r.ho) ∧ w'.cell? ⟨g, off + 2, none⟩ = some (.int .i64 r.hn) ∧ w'.cell? ⟨g, off + 3, none⟩ = some (.int .i64 r.w) ∧ w'.cell? ⟨g, off + 4, none⟩ = some (.int .i64 r.oo) ∧ w'.cell? ⟨g, off + 5, none⟩ = some (.int .i64 r.on) ∧ w'.cell? ⟨g, off + 6, none⟩ = some (.int .i64 r.to) ∧ w'.cell? ⟨g, off + 7, none⟩ = some (.int .i64 r.tn) ∧ Below w.heap.size w w') (first | exact hS | exact ⟨h0, h1, h2, h3, h4, h5, h6, h7, hb⟩ | exact ⟨by go_cell, by go_cell, by go_cell, by go_cell, by go_cell, by go_cell, by go_cell, by go_cell, hb.drew⟩)
    (first
      | (go_at_call 55; refine (withS (S := fun w' => w'.cell? ⟨g, off, none⟩ = some (.int .i64 r.k) ∧ w'.cell? ⟨g, off + 1, none⟩ = some (.int .i64 r.ho) ∧ w'.cell? ⟨g, off + 2, none⟩ = some (.int .i64 r.hn) ∧ w'.cell? ⟨g, off + 3, none⟩ = some (.int .i64 r.w) ∧ w'.cell? ⟨g, off + 4, none⟩ = some (.int .i64 r.oo) ∧ w'.cell? ⟨g, off + 5, none⟩ = some (.int .i64 r.on) ∧ w'.cell? ⟨g, off + 6, none⟩ = some (.int .i64 r.to) ∧ w'.cell? ⟨g, off + 7, none⟩ = some (.int .i64 r.tn) ∧ Below w.heap.size w w') (fun w' hb => keepR ?_ hb) (l2Text_c _ _ (by assumption) _)).mono ?_; (first | assumption | exact ⟨h0, h1, h2, h3, h4, h5, h6, h7, hb⟩ | exact ⟨by go_cell, by go_cell, by go_cell, by go_cell, by go_cell, by go_cell, by go_cell, by go_cell, hb.drew⟩); rintro e w1 ⟨rfl, hS⟩))
  go_wp2
  go_ret
  exact ⟨by rw [E.out]; rfl, hS.2.2.2.2.2.2.2.2⟩

end Go.Proofs.YtaeigimgobilaaaGreatDoor

namespace Go.Proofs.YtaeigimgobilaaaGreatDoor
open Go.RowKit
set_option linter.unusedVariables false
set_option linter.unusedSimpArgs false

theorem l2Line_c (g off : Nat) (r : RuleI) (w : World) (hx : RuleAt w g off r) (hc : ruleCode r = 0) :
    Calls Tryz.prog 28 #[.pointer (some ⟨g, off, none⟩)] w fun e w' => e = .returned (.string (lineT r)) ∧ Below w.heap.size w w' := by
  obtain ⟨hk, hr, hb, hh⟩ := code0 hc
  have hk' : r.k = 1 ∨ r.k = 2 ∨ r.k = 3 ∨ r.k = 4 := by omega
  rcases hk' with e | e | e | e
  · exact l2Line_1 g off r w hx e hr (by simpa [hasB, e] using hh)
  · exact l2Line_2 g off r w hx e hr (by simpa [hasB, e] using hh)
  · have : roleB r.oo r.on = true ∧ nameB r.tn = true := by simpa [hasB, e] using hh
    exact l2Line_3 g off r w hx e hr this.1 this.2
  · have : roleB r.oo r.on = true ∧ roleB r.to r.tn = true := by simpa [hasB, e] using hh
    exact l2Line_4 g off r w hx e hr this.1 this.2

/-- What bodyOf and bodyText do together, of a rule without fault. -/
theorem body_both (r : RuleI) (hc : ruleCode r = 0) : ∃ t v, (∀ w : World, Calls Tryz.prog 84 #[.agg #[.int .i64 r.k, .int .i64 r.ho, .int .i64 r.hn, .int .i64 r.w, .int .i64 r.oo, .int .i64 r.on, .int .i64 r.to, .int .i64 r.tn]] w fun e w' => e = .returned (.iface t v) ∧ Below w.heap.size w w') ∧
    (∀ w : World, Calls Tryz.prog 83 #[.iface t v] w fun e w' => e = .returned (.string (tailT r)) ∧ Below w.heap.size w w') := by
  obtain ⟨hk, hr, hb, hh⟩ := code0 hc
  have hk' : r.k = 1 ∨ r.k = 2 ∨ r.k = 3 ∨ r.k = 4 := by omega
  rcases hk' with e | e | e | e
  · exact ⟨_, _, bodyOf_1 r e, bodyText_1 r e (by simpa [hasB, e] using hh)⟩
  · exact ⟨_, _, bodyOf_2 r e, bodyText_2 r e (by simpa [hasB, e] using hh)⟩
  · have : roleB r.oo r.on = true ∧ nameB r.tn = true := by simpa [hasB, e] using hh
    exact ⟨_, _, bodyOf_3 r e, bodyText_3 r e this.1 this.2⟩
  · have : roleB r.oo r.on = true ∧ roleB r.to r.tn = true := by simpa [hasB, e] using hh
    exact ⟨_, _, bodyOf_4 r e, bodyText_4 r e this.1 this.2⟩

set_option maxHeartbeats 400000 in
theorem implRuleText_out (r : RuleI) (c : Int) (hcr : ruleCode r = c) (h0 : c ≠ 0) (w : World) :
    Calls Tryz.prog 49 #[.agg #[.int .i64 r.k, .int .i64 r.ho, .int .i64 r.hn, .int .i64 r.w, .int .i64 r.oo, .int .i64 r.on, .int .i64 r.to, .int .i64 r.tn]] w fun e w' => e = .returned (.agg #[.int .i64 c, .string ⟨#[]⟩]) ∧ Below w.heap.size w w' := by
  have hc0 : (c != 0) = true := by simpa using h0
  go_enter Tryz.func49, Tryz.ntmps49
  go_wp2_with fail
  refine (implRuleFault_c r _).mono ?_
  rintro e w1 ⟨rfl, hb1⟩
  rw [hcr]
  clear h0 hcr
  obtain ⟨hc1, hf1⟩ := bcell hb1
  have hz1 := hb1.size
  simp only [World.size_alloc] at hc1 hf1 hz1
  have hlt1 : w.heap.size + 1 < w1.heap.size := by omega
  have c0 : w1.cell? ⟨w.heap.size + 1, 0, none⟩ = some (.int .i64 0) := (hc1 _ _ (by omega)).trans (by go_cell)
  have c1 : w1.cell? ⟨w.heap.size + 1, 1, none⟩ = some (.string ⟨#[]⟩) := (hc1 _ _ (by omega)).trans (by go_cell)
  have f0 : w1.frozen? ⟨w.heap.size + 1, 0, none⟩ = false := (hf1 _ _ (by omega)).trans (by simp [go_sem])
  have f1 : w1.frozen? ⟨w.heap.size + 1, 1, none⟩ = false := (hf1 _ _ (by omega)).trans (by simp [go_sem])
  clear hc1 hf1
  go_wp2
  refine bodyPost_ret (v := .agg #[.int .i64 c, .string ⟨#[]⟩]) (by simp [results, Tryz.results49, go_sem, c0, c1]) rfl ⟨rfl, ?_⟩
  exact ((below_new (below_new hb1)).setCell (by simp) _).setCell (by simp) _

end Go.Proofs.YtaeigimgobilaaaGreatDoor

namespace Go.Proofs.YtaeigimgobilaaaGreatDoor
open Go.RowKit
set_option linter.unusedVariables false
set_option linter.unusedSimpArgs false

theorem keepF {g q : Nat} {r : RuleI} {w0 w w' : World} (h : w.cell? ⟨g, 0, none⟩ = some (.int .i64 r.k) ∧ w.cell? ⟨g, 1, none⟩ = some (.int .i64 r.ho) ∧ w.cell? ⟨g, 2, none⟩ = some (.int .i64 r.hn) ∧ w.cell? ⟨g, 3, none⟩ = some (.int .i64 r.w) ∧ w.cell? ⟨g, 4, none⟩ = some (.int .i64 r.oo) ∧ w.cell? ⟨g, 5, none⟩ = some (.int .i64 r.on) ∧ w.cell? ⟨g, 6, none⟩ = some (.int .i64 r.to) ∧ w.cell? ⟨g, 7, none⟩ = some (.int .i64 r.tn) ∧ w.cell? ⟨q, 0, none⟩ = some (.int .i64 0) ∧ w.cell? ⟨q, 1, none⟩ = some (.string ⟨#[]⟩) ∧ w.frozen? ⟨q, 0, none⟩ = false ∧ w.frozen? ⟨q, 1, none⟩ = false ∧ Below w0.heap.size w0 w) (hb : Below w.heap.size w w') : w'.cell? ⟨g, 0, none⟩ = some (.int .i64 r.k) ∧ w'.cell? ⟨g, 1, none⟩ = some (.int .i64 r.ho) ∧ w'.cell? ⟨g, 2, none⟩ = some (.int .i64 r.hn) ∧ w'.cell? ⟨g, 3, none⟩ = some (.int .i64 r.w) ∧ w'.cell? ⟨g, 4, none⟩ = some (.int .i64 r.oo) ∧ w'.cell? ⟨g, 5, none⟩ = some (.int .i64 r.on) ∧ w'.cell? ⟨g, 6, none⟩ = some (.int .i64 r.to) ∧ w'.cell? ⟨g, 7, none⟩ = some (.int .i64 r.tn) ∧ w'.cell? ⟨q, 0, none⟩ = some (.int .i64 0) ∧ w'.cell? ⟨q, 1, none⟩ = some (.string ⟨#[]⟩) ∧ w'.frozen? ⟨q, 0, none⟩ = false ∧ w'.frozen? ⟨q, 1, none⟩ = false ∧ Below w0.heap.size w0 w' := by
  have key : ∀ (g o : Nat) (v : Value), w.cell? ⟨g, o, none⟩ = some v → w'.cell? ⟨g, o, none⟩ = some v := fun g o v e => (hb.cell (p := ⟨g, o, none⟩) (World.block_lt_of_cell? w ⟨g, o, none⟩ e)).trans e
  obtain ⟨h0, h1, h2, h3, h4, h5, h6, h7, c0, c1, f0, f1, hB⟩ := h
  have hq := World.block_lt_of_cell? w ⟨q, 0, none⟩ c0
  exact ⟨key _ _ _ h0, key _ _ _ h1, key _ _ _ h2, key _ _ _ h3, key _ _ _ h4, key _ _ _ h5, key _ _ _ h6, key _ _ _ h7, key _ _ _ c0, key _ _ _ c1, (hb.frozen (p := ⟨q, 0, none⟩) hq).trans f0, (hb.frozen (p := ⟨q, 1, none⟩) hq).trans f1, hB.trans (hb.mono hB.size)⟩

theorem tail_size4 (r : RuleI) (h : 1 ≤ r.k ∧ r.k ≤ 4) : (tailT r).size = 1 ∨ (tailT r).size = 3 ∨ (tailT r).size = 5 ∨ (tailT r).size = 9 := by
  have hk' : r.k = 1 ∨ r.k = 2 ∨ r.k = 3 ∨ r.k = 4 := by omega
  rcases hk' with e | e | e | e
  · left; simp [tailT, tailL, e, ByteArray.size]
  · right; left; simp [tailT, tailL, e, ByteArray.size]
  · right; right; left; simp [tailT, tailL, e, ByteArray.size]
  · right; right; right; simp [tailT, tailL, e, ByteArray.size]

set_option maxRecDepth 20000 in
set_option maxHeartbeats 2000000 in
theorem ruleText_n (n : Nat) (hn : n = 1 ∨ n = 3 ∨ n = 5 ∨ n = 9) (r : RuleI) (hs1 : (tailT r).size = n) (hc : ruleCode r = 0) (w : World) :
    Calls Tryz.prog 49 #[.agg #[.int .i64 r.k, .int .i64 r.ho, .int .i64 r.hn, .int .i64 r.w, .int .i64 r.oo, .int .i64 r.on, .int .i64 r.to, .int .i64 r.tn]] w fun e w' => e = .returned (.agg #[.int .i64 0, .string (lineT r)]) ∧ Below w.heap.size w w' := by
  obtain ⟨t, v, HO, HT⟩ := body_both r hc
  have HO' : Hid (∀ w : World, Calls Tryz.prog 84 #[.agg #[.int .i64 r.k, .int .i64 r.ho, .int .i64 r.hn, .int .i64 r.w, .int .i64 r.oo, .int .i64 r.on, .int .i64 r.to, .int .i64 r.tn]] w fun e w' => e = .returned (.iface t v) ∧ Below w.heap.size w w') := HO
  have HT' : Hid (∀ w : World, Calls Tryz.prog 83 #[.iface t v] w fun e w' => e = .returned (.string (tailT r)) ∧ Below w.heap.size w w') := HT
  clear HO HT
  have hr := (code0 hc).2.1
  have E : Hid (lineT r = roleT r.ho r.hn ++ ⟨#[32, 60, 45, 32]⟩ ++ tailT r) := line_eq r
  have hs0 : (roleT r.ho r.hn).size = 3 := rfl
  rcases hn with rfl | rfl | rfl | rfl
  all_goals
    go_enter Tryz.func49, Tryz.ntmps49
    go_wp2_with fail
    refine (implRuleFault_c r _).mono ?_
    rintro e w1 ⟨rfl, hb1⟩
    rw [hc]
    obtain ⟨d0, d1, d2, d3, d4, d5, d6, d7⟩ := ((RuleAt.new w r _).below ((Below.refl _ _).alloc (Nat.le_refl _) _)).below hb1
    simp only [Nat.zero_add] at d0 d1 d2 d3 d4 d5 d6 d7
    obtain ⟨hc1, hf1⟩ := bcell hb1
    have hz1 := hb1.size
    simp only [World.size_alloc] at hc1 hf1 hz1
    have hlt1 : w.heap.size + 1 < w1.heap.size := by omega
    have c0 : w1.cell? ⟨w.heap.size + 1, 0, none⟩ = some (.int .i64 0) := (hc1 _ _ (by omega)).trans (by go_cell)
    have c1 : w1.cell? ⟨w.heap.size + 1, 1, none⟩ = some (.string ⟨#[]⟩) := (hc1 _ _ (by omega)).trans (by go_cell)
    have f0 : w1.frozen? ⟨w.heap.size + 1, 0, none⟩ = false := (hf1 _ _ (by omega)).trans (by simp [go_sem])
    have f1 : w1.frozen? ⟨w.heap.size + 1, 1, none⟩ = false := (hf1 _ _ (by omega)).trans (by simp [go_sem])
    have B1 : Below w.heap.size w w1 := below_new (below_new hb1)
    clear hc1 hf1
    go_wp2_with fail
    go_region_held3 (fun w' => w'.cell? ⟨w.heap.size, 0, none⟩ = some (.int .i64 r.k) ∧ w'.cell? ⟨w.heap.size, 1, none⟩ = some (.int .i64 r.ho) ∧ w'.cell? ⟨w.heap.size, 2, none⟩ = some (.int .i64 r.hn) ∧ w'.cell? ⟨w.heap.size, 3, none⟩ = some (.int .i64 r.w) ∧ w'.cell? ⟨w.heap.size, 4, none⟩ = some (.int .i64 r.oo) ∧ w'.cell? ⟨w.heap.size, 5, none⟩ = some (.int .i64 r.on) ∧ w'.cell? ⟨w.heap.size, 6, none⟩ = some (.int .i64 r.to) ∧ w'.cell? ⟨w.heap.size, 7, none⟩ = some (.int .i64 r.tn) ∧ Below w.heap.size w w') (first | exact ⟨hS.1, hS.2.1, hS.2.2.1, hS.2.2.2.1, hS.2.2.2.2.1, hS.2.2.2.2.2.1, hS.2.2.2.2.2.2.1, hS.2.2.2.2.2.2.2.1, hS.2.2.2.2.2.2.2.2.2.2.2.2⟩ | exact ⟨d0, d1, d2, d3, d4, d5, d6, d7, B1⟩ | exact ⟨d0, d1, d2, d3, d4, d5, d6, d7, B1.drew⟩ | (obtain ⟨e0, e1, e2, e3, e4, e5, e6, e7, _, _, _, _, eB⟩ := hS; exact ⟨by go_cell, by go_cell, by go_cell, by go_cell, by go_cell, by go_cell, by go_cell, by go_cell, (eB.setCell (by simp) _).setCell (by simp) _⟩))
      (first
        | (go_at_call 82; refine (withS (S := fun w' => w'.cell? ⟨w.heap.size, 0, none⟩ = some (.int .i64 r.k) ∧ w'.cell? ⟨w.heap.size, 1, none⟩ = some (.int .i64 r.ho) ∧ w'.cell? ⟨w.heap.size, 2, none⟩ = some (.int .i64 r.hn) ∧ w'.cell? ⟨w.heap.size, 3, none⟩ = some (.int .i64 r.w) ∧ w'.cell? ⟨w.heap.size, 4, none⟩ = some (.int .i64 r.oo) ∧ w'.cell? ⟨w.heap.size, 5, none⟩ = some (.int .i64 r.on) ∧ w'.cell? ⟨w.heap.size, 6, none⟩ = some (.int .i64 r.to) ∧ w'.cell? ⟨w.heap.size, 7, none⟩ = some (.int .i64 r.tn) ∧ w'.cell? ⟨w.heap.size + 1, 0, none⟩ = some (.int .i64 0) ∧ w'.cell? ⟨w.heap.size + 1, 1, none⟩ = some (.string ⟨#[]⟩) ∧ w'.frozen? ⟨w.heap.size + 1, 0, none⟩ = false ∧ w'.frozen? ⟨w.heap.size + 1, 1, none⟩ = false ∧ Below w.heap.size w w') (fun w' hb => keepF ?_ hb) (roleText_c _ _ hr _)).mono ?_; (first | exact hS | exact ⟨d0, d1, d2, d3, d4, d5, d6, d7, c0, c1, f0, f1, B1⟩ | exact ⟨d0, d1, d2, d3, d4, d5, d6, d7, c0, c1, f0, f1, B1.drew⟩); rintro e w1 ⟨rfl, hS⟩)
        | (go_at_call 84; refine (withS (S := fun w' => w'.cell? ⟨w.heap.size, 0, none⟩ = some (.int .i64 r.k) ∧ w'.cell? ⟨w.heap.size, 1, none⟩ = some (.int .i64 r.ho) ∧ w'.cell? ⟨w.heap.size, 2, none⟩ = some (.int .i64 r.hn) ∧ w'.cell? ⟨w.heap.size, 3, none⟩ = some (.int .i64 r.w) ∧ w'.cell? ⟨w.heap.size, 4, none⟩ = some (.int .i64 r.oo) ∧ w'.cell? ⟨w.heap.size, 5, none⟩ = some (.int .i64 r.on) ∧ w'.cell? ⟨w.heap.size, 6, none⟩ = some (.int .i64 r.to) ∧ w'.cell? ⟨w.heap.size, 7, none⟩ = some (.int .i64 r.tn) ∧ w'.cell? ⟨w.heap.size + 1, 0, none⟩ = some (.int .i64 0) ∧ w'.cell? ⟨w.heap.size + 1, 1, none⟩ = some (.string ⟨#[]⟩) ∧ w'.frozen? ⟨w.heap.size + 1, 0, none⟩ = false ∧ w'.frozen? ⟨w.heap.size + 1, 1, none⟩ = false ∧ Below w.heap.size w w') (fun w' hb => keepF ?_ hb) (HO'.out _)).mono ?_; (first | exact hS | exact ⟨d0, d1, d2, d3, d4, d5, d6, d7, c0, c1, f0, f1, B1⟩ | exact ⟨d0, d1, d2, d3, d4, d5, d6, d7, c0, c1, f0, f1, B1.drew⟩); rintro e w1 ⟨rfl, hS⟩)
        | (go_at_call 83; refine (withS (S := fun w' => w'.cell? ⟨w.heap.size, 0, none⟩ = some (.int .i64 r.k) ∧ w'.cell? ⟨w.heap.size, 1, none⟩ = some (.int .i64 r.ho) ∧ w'.cell? ⟨w.heap.size, 2, none⟩ = some (.int .i64 r.hn) ∧ w'.cell? ⟨w.heap.size, 3, none⟩ = some (.int .i64 r.w) ∧ w'.cell? ⟨w.heap.size, 4, none⟩ = some (.int .i64 r.oo) ∧ w'.cell? ⟨w.heap.size, 5, none⟩ = some (.int .i64 r.on) ∧ w'.cell? ⟨w.heap.size, 6, none⟩ = some (.int .i64 r.to) ∧ w'.cell? ⟨w.heap.size, 7, none⟩ = some (.int .i64 r.tn) ∧ w'.cell? ⟨w.heap.size + 1, 0, none⟩ = some (.int .i64 0) ∧ w'.cell? ⟨w.heap.size + 1, 1, none⟩ = some (.string ⟨#[]⟩) ∧ w'.frozen? ⟨w.heap.size + 1, 0, none⟩ = false ∧ w'.frozen? ⟨w.heap.size + 1, 1, none⟩ = false ∧ Below w.heap.size w w') (fun w' hb => keepF ?_ hb) (HT'.out _)).mono ?_; (first | exact hS | exact ⟨d0, d1, d2, d3, d4, d5, d6, d7, c0, c1, f0, f1, B1⟩ | exact ⟨d0, d1, d2, d3, d4, d5, d6, d7, c0, c1, f0, f1, B1.drew⟩); rintro e w1 ⟨rfl, hS⟩))
    go_wp2
    obtain ⟨_, _, _, _, _, _, _, _, g0, g1, _, _, gB⟩ := hS
    refine bodyPost_ret (v := .agg #[.int .i64 0, .string (lineT r)]) (by simp [results, Tryz.results49, go_sem, g0, g1, E.out]) rfl ⟨rfl, ?_⟩
    exact (gB.setCell (by simp) _).setCell (by simp) _

theorem implRuleText_in (r : RuleI) (hc : ruleCode r = 0) (w : World) :
    Calls Tryz.prog 49 #[.agg #[.int .i64 r.k, .int .i64 r.ho, .int .i64 r.hn, .int .i64 r.w, .int .i64 r.oo, .int .i64 r.on, .int .i64 r.to, .int .i64 r.tn]] w fun e w' => e = .returned (.agg #[.int .i64 0, .string (lineT r)]) ∧ Below w.heap.size w w' :=
  ruleText_n _ (tail_size4 r (code0 hc).1) r rfl hc w

end Go.Proofs.YtaeigimgobilaaaGreatDoor
