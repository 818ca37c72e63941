/-
  CONTRACTS of spec.l1Bit and impl.bitOf: the set of one principal.
  Conditions: the principal is one of 1 to 8.
-/
import Derived.Test.YtabbjcngilocnaaDoorSpec1
import Derived.Test.YtabbjcngilocnaaDoorPlain2
namespace Go.Proofs.YtabbjcngilocnaaDoor
open Go.RowKit
set_option linter.unusedVariables false

set_option maxHeartbeats 400000 in
theorem l1Bit_c (p : Int) (p0 : 1 ≤ p) (p1 : p ≤ 8) (w : World) :
    Calls Tryd.prog 100 #[.int .i64 p] w fun e w' => e = .returned (.int .i64 (bitI p)) ∧ w = w' := by
  have hp : p = 1 ∨ p = 2 ∨ p = 3 ∨ p = 4 ∨ p = 5 ∨ p = 6 ∨ p = 7 ∨ p = 8 := by omega
  rcases hp with rfl | rfl | rfl | rfl | rfl | rfl | rfl | rfl
  all_goals
    go_enter Tryd.func100, Tryd.ntmps100
    go_wp2
    go_ret
    exact ⟨rfl, rfl⟩

set_option maxHeartbeats 400000 in
theorem bitOf_c (p : Int) (p0 : 1 ≤ p) (p1 : p ≤ 8) (w : World) :
    Calls Tryd.prog 60 #[.int .i64 p] w fun e w' => e = .returned (.int .u8 (bitI p)) ∧ w = w' := by
  have hp : p = 1 ∨ p = 2 ∨ p = 3 ∨ p = 4 ∨ p = 5 ∨ p = 6 ∨ p = 7 ∨ p = 8 := by omega
  rcases hp with rfl | rfl | rfl | rfl | rfl | rfl | rfl | rfl
  all_goals
    go_enter Tryd.func60, Tryd.ntmps60
    go_wp2
    go_ret
    exact ⟨rfl, rfl⟩

end Go.Proofs.YtabbjcngilocnaaDoor
