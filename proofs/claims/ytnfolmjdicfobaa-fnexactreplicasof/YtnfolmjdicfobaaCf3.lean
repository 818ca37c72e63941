/-
  CONTRACTS: NeedOf and ReplicasOf of both programs.
  Conditions: each contract bears its own.
-/
import Derived.Test.YtnfolmjdicfobaaCf2
import Derived.Test.YtnfolmjdicfobaaSize1
namespace Go.Proofs.Ytnfolmjdicfobaa
open Go.RowKit
set_option linter.unusedVariables false
set_option linter.unusedSimpArgs false

def GivesF (fn : Nat) (f c v : Int) (w : World) : Prop := Calls Try.prog fn #[.int .i64 f] w fun e w' => e = .returned (.agg #[.int .i64 c, .int .i64 v]) ∧ Below w.heap.size w w'

def nfCode (f : Int) : Int := if inR f 1 2 = true then 0 else 3
def nfVal (k f : Int) : Int := if inR f 1 2 = true then k * f + 1 else 0

set_option maxHeartbeats 400000 in
theorem specNeedOf_c (f : Int) (w : World) : GivesF 13 f (nfCode f) (nfVal 2 f) w := by
  unfold GivesF nfCode nfVal
  cases h : inR f 1 2
  · have H : Hid (inR f 1 2 = false) := h
    clear h
    simp only [Bool.false_eq_true, if_false]
    go_enter Try.func13, Try.ntmps13
    go_wp2_with (first | (go_at_call 34; refine (l6F_c _ _).mono ?_; rintro e w' ⟨rfl, rfl⟩; rw [H.out]))
    go_returns
    exact ⟨rfl, by go_grown⟩
  · have H : Hid (inR f 1 2 = true) := h
    obtain ⟨h1, h2⟩ := (inR_iff f 1 2).1 h
    clear h
    simp only [if_true]
    go_enter Try.func13, Try.ntmps13
    go_wp2_with (first | (go_at_call 34; refine (l6F_c _ _).mono ?_; rintro e w' ⟨rfl, rfl⟩; rw [H.out]))
    go_returns
    exact ⟨rfl, by go_grown⟩

set_option maxHeartbeats 400000 in
theorem implNeedOf_c (f : Int) (w : World) : GivesF 14 f (nfCode f) (nfVal 2 f) w := by
  unfold GivesF nfCode nfVal
  cases h : inR f 1 2
  · have H : Hid (inR f 1 2 = false) := h
    clear h
    simp only [Bool.false_eq_true, if_false]
    go_enter Try.func14, Try.ntmps14
    go_wp2_with (first | (go_at_call 48; refine (iBad_c _ _).mono ?_; rintro e w' ⟨rfl, rfl⟩; rw [H.out]) | go_in)
    go_returns
    exact ⟨rfl, by go_grown⟩
  · have H : Hid (inR f 1 2 = true) := h
    obtain ⟨h1, h2⟩ := (inR_iff f 1 2).1 h
    clear h
    simp only [if_true]
    go_enter Try.func14, Try.ntmps14
    go_wp2_with (first | (go_at_call 48; refine (iBad_c _ _).mono ?_; rintro e w' ⟨rfl, rfl⟩; rw [H.out]) | go_in)
    go_returns
    exact ⟨rfl, by go_grown⟩

set_option maxHeartbeats 400000 in
theorem specReplicasOf_c (f : Int) (w : World) : GivesF 16 f (nfCode f) (nfVal 3 f) w := by
  unfold GivesF nfCode nfVal
  cases h : inR f 1 2
  · have H : Hid (inR f 1 2 = false) := h
    clear h
    simp only [Bool.false_eq_true, if_false]
    go_enter Try.func16, Try.ntmps16
    go_wp2_with (first | (go_at_call 34; refine (l6F_c _ _).mono ?_; rintro e w' ⟨rfl, rfl⟩; rw [H.out]))
    go_returns
    exact ⟨rfl, by go_grown⟩
  · have H : Hid (inR f 1 2 = true) := h
    obtain ⟨h1, h2⟩ := (inR_iff f 1 2).1 h
    clear h
    simp only [if_true]
    go_enter Try.func16, Try.ntmps16
    go_wp2_with (first | (go_at_call 34; refine (l6F_c _ _).mono ?_; rintro e w' ⟨rfl, rfl⟩; rw [H.out]))
    go_returns
    exact ⟨rfl, by go_grown⟩

set_option maxHeartbeats 400000 in
theorem implReplicasOf_c (f : Int) (w : World) : GivesF 17 f (nfCode f) (nfVal 3 f) w := by
  unfold GivesF nfCode nfVal
  cases h : inR f 1 2
  · have H : Hid (inR f 1 2 = false) := h
    clear h
    simp only [Bool.false_eq_true, if_false]
    go_enter Try.func17, Try.ntmps17
    go_wp2_with (first | (go_at_call 48; refine (iBad_c _ _).mono ?_; rintro e w' ⟨rfl, rfl⟩; rw [H.out]) | go_in)
    go_returns
    exact ⟨rfl, by go_grown⟩
  · have H : Hid (inR f 1 2 = true) := h
    obtain ⟨h1, h2⟩ := (inR_iff f 1 2).1 h
    clear h
    simp only [if_true]
    go_enter Try.func17, Try.ntmps17
    go_wp2_with (first | (go_at_call 48; refine (iBad_c _ _).mono ?_; rintro e w' ⟨rfl, rfl⟩; rw [H.out]) | go_in)
    go_returns
    exact ⟨rfl, by go_grown⟩

end Go.Proofs.Ytnfolmjdicfobaa
