/-
  CONTRACTS: NeedOf and ReplicasOf of both programs.
  Conditions: each contract bears its own.
-/
import Derived.Test.YthogdfnaojijhaaCl0
namespace Go.Proofs.Ythogdfnaojijhaa
open Go.RowKit
set_option linter.unusedVariables false
set_option linter.unusedSimpArgs false

set_option maxHeartbeats 400000 in
theorem iBad_c (v : Int) (w : World) : Calls Try.prog 85 #[.int .i64 v] w fun e w' => e = .returned (.bool (inR v 1 2)) ∧ w = w' := by
  unfold inR
  cases h0 : decide (1 ≤ v)
  · go_enter Try.func85, Try.ntmps85
    go_wp2
    go_ret
    exact ⟨by simp, rfl⟩
  · cases h1 : decide (v ≤ 2)
    all_goals
      go_enter Try.func85, Try.ntmps85
      go_wp2
      go_ret
      exact ⟨by simp, rfl⟩

set_option maxHeartbeats 400000 in
theorem l6F_c (v : Int) (w : World) : Calls Try.prog 53 #[.int .i64 v] w fun e w' => e = .returned (.bool (inR v 1 2)) ∧ w = w' := by
  go_enter Try.func53, Try.ntmps53
  go_wp2_with (go_at_call 27; refine (cin_c _ _ _ _).mono ?_; rintro e w' ⟨rfl, rfl⟩)
  go_ret
  exact ⟨rfl, rfl⟩

def GivesNF (fn : Nat) (f c v : Int) (w : World) : Prop := Calls Try.prog fn #[.int .i64 f] w fun e w' => e = .returned (.agg #[.int .i64 c, .int .i64 v]) ∧ Below w.heap.size w w'

def nfCode (f : Int) : Int := if inR f 1 2 = true then 0 else 3
def nfVal (k f : Int) : Int := if inR f 1 2 = true then k * f + 1 else 0

set_option maxHeartbeats 400000 in
theorem implNeedOf_c (f : Int) (w : World) : GivesNF 59 f (nfCode f) (nfVal 2 f) w := by
  unfold GivesNF nfCode nfVal
  cases h : inR f 1 2
  · have H : Hid (inR f 1 2 = false) := h
    clear h
    simp only [Bool.false_eq_true, if_false]
    go_enter Try.func59, Try.ntmps59
    go_wp2_with (first | (go_at_call 85; refine (iBad_c _ _).mono ?_; rintro e w' ⟨rfl, rfl⟩; rw [H.out]) | go_in)
    go_returns
    exact ⟨rfl, by go_grown⟩
  · have H : Hid (inR f 1 2 = true) := h
    obtain ⟨h1, h2⟩ := (inR_iff f 1 2).1 h
    clear h
    simp only [if_true]
    go_enter Try.func59, Try.ntmps59
    go_wp2_with (first | (go_at_call 85; refine (iBad_c _ _).mono ?_; rintro e w' ⟨rfl, rfl⟩; rw [H.out]) | go_in)
    go_returns
    exact ⟨rfl, by go_grown⟩

set_option maxHeartbeats 400000 in
theorem implReplicasOf_c (f : Int) (w : World) : GivesNF 60 f (nfCode f) (nfVal 3 f) w := by
  unfold GivesNF nfCode nfVal
  cases h : inR f 1 2
  · have H : Hid (inR f 1 2 = false) := h
    clear h
    simp only [Bool.false_eq_true, if_false]
    go_enter Try.func60, Try.ntmps60
    go_wp2_with (first | (go_at_call 85; refine (iBad_c _ _).mono ?_; rintro e w' ⟨rfl, rfl⟩; rw [H.out]) | go_in)
    go_returns
    exact ⟨rfl, by go_grown⟩
  · have H : Hid (inR f 1 2 = true) := h
    obtain ⟨h1, h2⟩ := (inR_iff f 1 2).1 h
    clear h
    simp only [if_true]
    go_enter Try.func60, Try.ntmps60
    go_wp2_with (first | (go_at_call 85; refine (iBad_c _ _).mono ?_; rintro e w' ⟨rfl, rfl⟩; rw [H.out]) | go_in)
    go_returns
    exact ⟨rfl, by go_grown⟩

end Go.Proofs.Ythogdfnaojijhaa
