/-
  CONTRACTS of spec.SetText, impl.SetText and laws.eqTextResult (two that are alike).
  Conditions: each contract bears its own.
-/
import Derived.Test.YtpeddanicenohaaDoorText2
namespace Go.Proofs.YtpeddanicenohaaDoor
open Go.RowKit
set_option linter.unusedVariables false

set_option maxHeartbeats 400000 in
theorem eqText_same (a : Int) (b : ByteArray) (w : World) :
    Calls Tryd.prog 29 #[.agg #[.int .i64 a, .string b], .agg #[.int .i64 a, .string b]] w fun e w' => e = .returned (.bool true) ∧ Below w.heap.size w w' := by
  go_enter Tryd.func29, Tryd.ntmps29
  go_wp2
  go_ret
  exact ⟨rfl, ((Below.refl _ _).alloc (Nat.le_refl _) _).alloc (by simp) _⟩

end Go.Proofs.YtpeddanicenohaaDoor
