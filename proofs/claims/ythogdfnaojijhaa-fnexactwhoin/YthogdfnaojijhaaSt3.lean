/-
  CONTRACTS: StatementFault of the document's program.
  Conditions: each contract bears its own.
-/
import Derived.Test.YthogdfnaojijhaaSt2
namespace Go.Proofs.Ythogdfnaojijhaa
open Go.RowKit
set_option linter.unusedVariables false
set_option linter.unusedSimpArgs false

/-- A statement of a kind that has a form. -/
theorem st_form {x : StI} (hk : inR x.k 1 4 = true) (h : x.k < 3) : stCode x = if x.n = 0 then (if inR x.e 1 9 = false then 3 else if inR x.f 1 4 = false then 3 else if inR x.s 1 255 = false then 3 else 0) else 1 := by
  obtain ⟨k, e, f, s, n⟩ := x
  simp only at hk h ⊢
  have hf : formK k = true := by rw [inR_iff] at hk; have : k = 1 ∨ k = 2 := (by omega); rcases this with rfl | rfl <;> rfl
  have ho : ownB ⟨k, e, f, s, n⟩ = decide (n = 0) := by
    unfold ownB ownI
    simp only [hf, if_true, sameSt]
    simp [eq_comm]
  unfold stCode rngB
  simp only [hk, ho, hf]
  by_cases h0 : n = 0
  · subst h0
    cases inR e 1 9 <;> cases inR f 1 4 <;> cases inR s 1 255 <;> simp
  · simp [h0]

theorem st_next {x : StI} (hk : inR x.k 1 4 = true) (h : 3 ≤ x.k) : stCode x = if x.f = 0 ∧ x.s = 0 then (if inR x.e 1 9 = false then 3 else if inR x.n 0 7 = false then 3 else 0) else 1 := by
  obtain ⟨k, e, f, s, n⟩ := x
  simp only at hk h ⊢
  have hf : formK k = false := by rw [inR_iff] at hk; have : k = 3 ∨ k = 4 := (by omega); rcases this with rfl | rfl <;> rfl
  have ho : ownB ⟨k, e, f, s, n⟩ = decide (f = 0 ∧ s = 0) := by
    unfold ownB ownI
    simp only [hf, sameSt]
    simp
  unfold stCode rngB
  simp only [hk, ho, hf]
  by_cases h0 : f = 0 ∧ s = 0
  · obtain ⟨rfl, rfl⟩ := h0
    cases inR e 1 9 <;> cases inR n 0 7 <;> simp
  · simp [h0]

theorem in07 : inR 0 0 7 = true := rfl

set_option maxRecDepth 20000 in
set_option maxHeartbeats 4000000 in
theorem l7Fault_c (b o : Nat) (x : StI) (w : World) (h : StAt w b o x) : Calls Try.prog 30 #[.pointer (some ⟨b, o, none⟩)] w fun e w' => e = .returned (.int .i64 (stCode x)) ∧ w = w' := by
  obtain ⟨x0, x1, x2, x3, x4⟩ := h
  cases hk : inR x.k 1 4
  · have hC : stCode x = 1 := by unfold stCode; rw [if_pos hk]
    rw [hC]
    clear hC
    go_enter Try.func30, Try.ntmps30
    go_wp2_with (first | (go_at_call 27; refine (cin_c _ _ _ _).mono ?_; rintro e w' ⟨rfl, rfl⟩; rw [hk]))
    go_ret
    exact ⟨rfl, rfl⟩
  · by_cases h3 : 3 ≤ x.k
    · rw [st_next hk h3]
      by_cases f0 : x.f = 0
      · by_cases s0 : x.s = 0
        · rw [if_pos ⟨f0, s0⟩]
          rw [f0] at x2
          rw [s0] at x3
          clear f0 s0
          cases he : inR x.e 1 9
          · go_enter Try.func30, Try.ntmps30
            go_wp2_with (first | (go_at_call 27; refine (cin_c _ _ _ _).mono ?_; rintro e w' ⟨rfl, rfl⟩; rw [hk]) | (go_at_call 55; refine (sEpoch_c _ _).mono ?_; rintro e w' ⟨rfl, rfl⟩; rw [he]))
            go_ret
            exact ⟨rfl, rfl⟩
          · cases hn : inR x.n 0 7
            all_goals
              go_enter Try.func30, Try.ntmps30
              go_wp2_with (first | (go_at_call 27; refine (cin_c _ _ _ _).mono ?_; rintro e w' ⟨rfl, rfl⟩; rw [hk]) | (go_at_call 55; refine (sEpoch_c _ _).mono ?_; rintro e w' ⟨rfl, rfl⟩; rw [he]) | (go_at_call 27; refine (cin_c _ _ _ _).mono ?_; rintro e w' ⟨rfl, rfl⟩; rw [hn]))
              go_ret
              exact ⟨rfl, rfl⟩
        · rw [if_neg (fun q => s0 q.2)]
          rw [f0] at x2
          have sb : (x.s != 0) = true := by simpa using s0
          clear f0 s0
          go_enter Try.func30, Try.ntmps30
          go_wp2_with (first | (go_at_call 27; refine (cin_c _ _ _ _).mono ?_; rintro e w' ⟨rfl, rfl⟩; rw [hk]))
          go_ret
          exact ⟨rfl, rfl⟩
      · rw [if_neg (fun q => f0 q.1)]
        have fb : (x.f != 0) = true := by simpa using f0
        clear f0
        go_enter Try.func30, Try.ntmps30
        go_wp2_with (first | (go_at_call 27; refine (cin_c _ _ _ _).mono ?_; rintro e w' ⟨rfl, rfl⟩; rw [hk]))
        go_ret
        exact ⟨rfl, rfl⟩
    · have h3' : x.k < 3 := by omega
      rw [st_form hk h3']
      clear h3
      by_cases n0 : x.n = 0
      · rw [if_pos n0]
        rw [n0] at x4
        clear n0
        have hn := in07
        cases he : inR x.e 1 9
        · go_enter Try.func30, Try.ntmps30
          go_wp2_with (first | (go_at_call 27; refine (cin_c _ _ _ _).mono ?_; rintro e w' ⟨rfl, rfl⟩; rw [hk]) | (go_at_call 55; refine (sEpoch_c _ _).mono ?_; rintro e w' ⟨rfl, rfl⟩; rw [he]))
          go_ret
          exact ⟨rfl, rfl⟩
        · cases hf : inR x.f 1 4
          · go_enter Try.func30, Try.ntmps30
            go_wp2_with (first | (go_at_call 27; refine (cin_c _ _ _ _).mono ?_; rintro e w' ⟨rfl, rfl⟩; rw [hk]) | (go_at_call 55; refine (sEpoch_c _ _).mono ?_; rintro e w' ⟨rfl, rfl⟩; rw [he]) | (go_at_call 56; refine (sForm_c _ _).mono ?_; rintro e w' ⟨rfl, rfl⟩; rw [hf]))
            go_ret
            exact ⟨rfl, rfl⟩
          · cases hs : inR x.s 1 255
            all_goals
              go_enter Try.func30, Try.ntmps30
              go_wp2_with (first | (go_at_call 27; refine (cin_c _ _ _ _).mono ?_; rintro e w' ⟨rfl, rfl⟩; rw [hk]) | (go_at_call 55; refine (sEpoch_c _ _).mono ?_; rintro e w' ⟨rfl, rfl⟩; rw [he]) | (go_at_call 56; refine (sForm_c _ _).mono ?_; rintro e w' ⟨rfl, rfl⟩; rw [hf]) | (go_at_call 27; refine (cin_c _ _ _ _).mono ?_; rintro e w' ⟨rfl, rfl⟩; rw [hs]) | (go_at_call 27; refine (cin_c _ _ _ _).mono ?_; rintro e w' ⟨rfl, rfl⟩; rw [hn]))
              go_ret
              exact ⟨rfl, rfl⟩
      · rw [if_neg n0]
        have nb : (x.n != 0) = true := by simpa using n0
        clear n0
        go_enter Try.func30, Try.ntmps30
        go_wp2_with (first | (go_at_call 27; refine (cin_c _ _ _ _).mono ?_; rintro e w' ⟨rfl, rfl⟩; rw [hk]))
        go_ret
        exact ⟨rfl, rfl⟩

end Go.Proofs.Ythogdfnaojijhaa
