/-
  CONTRACTS: ClassesFault and ClashForms of both programs.
  Conditions: each contract bears its own.
-/
import Derived.Test.YthogdfnaojijhaaIn0
import Derived.Test.YthogdfnaojijhaaLk1
import Derived.Test.YthogdfnaojijhaaPlain
namespace Go.Proofs.Ythogdfnaojijhaa
open Go.RowKit
set_option linter.unusedVariables false
set_option linter.unusedSimpArgs false

def clCode (zs : List Int) : Int := if 4 < zs.length then 2 else if zs.all (fun c => inR c 0 15) = true then 0 else 3

theorem clCode_bad {zs : List Int} {k : Nat} {x : Int} (hl : zs.length ≤ 4) (hx : zs[k]? = some x) (hb : inR x 0 15 = false) : clCode zs = 3 := by
  unfold clCode
  rw [if_neg (by omega), if_neg]
  intro h
  have := List.all_eq_true.1 h x (List.mem_of_getElem? hx)
  rw [hb] at this
  cases this

theorem clCode_ok {zs : List Int} (hl : zs.length ≤ 4) (h : ∀ (k : Nat) (x : Int), k < zs.length → zs[k]? = some x → inR x 0 15 = true) : clCode zs = 0 := by
  unfold clCode
  rw [if_neg (by omega), if_pos]
  refine List.all_eq_true.2 (fun x hx => ?_)
  obtain ⟨k, hk⟩ := List.mem_iff_getElem?.1 hx
  exact h k x (by
    by_cases q : k < zs.length
    · exact q
    · rw [List.getElem?_eq_none (by omega)] at hk; cases hk) hk

theorem cl_ok {zs : List Int} (h : clCode zs = 0) : zs.length ≤ 4 ∧ ∀ x ∈ zs, inR x 0 15 = true := by
  unfold clCode at h
  split at h
  · cases h
  · split at h
    · rename_i q1 q2
      exact ⟨by omega, List.all_eq_true.1 q2⟩
    · cases h

theorem inR_iff (v lo hi : Int) : inR v lo hi = true ↔ lo ≤ v ∧ v ≤ hi := by simp [inR]

set_option maxHeartbeats 400000 in
theorem cin_c (v lo hi : Int) (w : World) : Calls Try.prog 27 #[.int .i64 v, .int .i64 lo, .int .i64 hi] w fun e w' => e = .returned (.bool (inR v lo hi)) ∧ w = w' := by
  unfold inR
  cases h0 : decide (lo ≤ v)
  · go_enter Try.func27, Try.ntmps27
    go_wp2
    go_ret
    exact ⟨by simp, rfl⟩
  · cases h1 : decide (v ≤ hi)
    all_goals
      go_enter Try.func27, Try.ntmps27
      go_wp2
      go_ret
      exact ⟨by simp, rfl⟩

set_option maxHeartbeats 400000 in
theorem sForm_c (v : Int) (w : World) : Calls Try.prog 56 #[.int .i64 v] w fun e w' => e = .returned (.bool (inR v 1 4)) ∧ w = w' := by
  go_enter Try.func56, Try.ntmps56
  go_wp2_with (go_at_call 27; refine (cin_c _ _ _ _).mono ?_; rintro e w' ⟨rfl, rfl⟩)
  go_ret
  exact ⟨rfl, rfl⟩

set_option maxHeartbeats 400000 in
theorem sEpoch_c (v : Int) (w : World) : Calls Try.prog 55 #[.int .i64 v] w fun e w' => e = .returned (.bool (inR v 1 9)) ∧ w = w' := by
  go_enter Try.func55, Try.ntmps55
  go_wp2_with (go_at_call 27; refine (cin_c _ _ _ _).mono ?_; rintro e w' ⟨rfl, rfl⟩)
  go_ret
  exact ⟨rfl, rfl⟩

set_option maxHeartbeats 400000 in
theorem iForm_c (v : Int) (w : World) : Calls Try.prog 78 #[.int .i64 v] w fun e w' => e = .returned (.bool (inR v 1 4)) ∧ w = w' := by
  unfold inR
  cases h0 : decide (1 ≤ v)
  · go_enter Try.func78, Try.ntmps78
    go_wp2
    go_ret
    exact ⟨by simp, rfl⟩
  · cases h1 : decide (v ≤ 4)
    all_goals
      go_enter Try.func78, Try.ntmps78
      go_wp2
      go_ret
      exact ⟨by simp, rfl⟩

set_option maxHeartbeats 400000 in
theorem iEpoch_c (v : Int) (w : World) : Calls Try.prog 77 #[.int .i64 v] w fun e w' => e = .returned (.bool (inR v 1 9)) ∧ w = w' := by
  unfold inR
  cases h0 : decide (1 ≤ v)
  · go_enter Try.func77, Try.ntmps77
    go_wp2
    go_ret
    exact ⟨by simp, rfl⟩
  · cases h1 : decide (v ≤ 9)
    all_goals
      go_enter Try.func77, Try.ntmps77
      go_wp2
      go_ret
      exact ⟨by simp, rfl⟩

end Go.Proofs.Ythogdfnaojijhaa
