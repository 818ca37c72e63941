/-
  CONTRACTS: NeedOf and ReplicasOf of both programs.
  Conditions: each contract bears its own.
-/
import Derived.Test.YteknjkifgnfjgaaCl0
namespace Go.Proofs.Yteknjkifgnfjgaa
open Go.RowKit
set_option linter.unusedVariables false
set_option linter.unusedSimpArgs false

set_option maxHeartbeats 400000 in
theorem iBad_c (v : Int) (w : World) : Calls Try.prog 46 #[.int .i64 v] w fun e w' => e = .returned (.bool (inR v 1 2)) ∧ w = w' := by
  unfold inR
  cases h0 : decide (1 ≤ v)
  · go_enter Try.func46, Try.ntmps46
    go_wp2
    go_ret
    exact ⟨by simp, rfl⟩
  · cases h1 : decide (v ≤ 2)
    all_goals
      go_enter Try.func46, Try.ntmps46
      go_wp2
      go_ret
      exact ⟨by simp, rfl⟩

set_option maxHeartbeats 400000 in
theorem l6F_c (v : Int) (w : World) : Calls Try.prog 39 #[.int .i64 v] w fun e w' => e = .returned (.bool (inR v 1 2)) ∧ w = w' := by
  go_enter Try.func39, Try.ntmps39
  go_wp2_with (go_at_call 54; refine (cin_c _ _ _ _).mono ?_; rintro e w' ⟨rfl, rfl⟩)
  go_ret
  exact ⟨rfl, rfl⟩

def GivesNF (fn : Nat) (f c v : Int) (w : World) : Prop := Calls Try.prog fn #[.int .i64 f] w fun e w' => e = .returned (.agg #[.int .i64 c, .int .i64 v]) ∧ Below w.heap.size w w'

def nfCode (f : Int) : Int := if inR f 1 2 = true then 0 else 3
def nfVal (k f : Int) : Int := if inR f 1 2 = true then k * f + 1 else 0

end Go.Proofs.Yteknjkifgnfjgaa
