/-
  CONTRACT: laws.eqStatementResult of two that are alike.
  Conditions: none.
-/
import Derived.Test.YtabbjcngilocnaaDoorSt7
namespace Go.Proofs.YtabbjcngilocnaaDoor
open Go.RowKit
set_option linter.unusedVariables false
set_option linter.unusedSimpArgs false

set_option maxHeartbeats 1000000 in
theorem eqSR_same (c : Int) (x : StI) (w : World) :
    Calls Tryd.prog 15 #[.agg #[.int .i64 c, .int .i64 x.k, .int .i64 x.e, .int .i64 x.f, .int .i64 x.s, .int .i64 x.n], .agg #[.int .i64 c, .int .i64 x.k, .int .i64 x.e, .int .i64 x.f, .int .i64 x.s, .int .i64 x.n]] w fun e w' => e = .returned (.bool true) ∧ Below w.heap.size w w' := by
  go_enter Tryd.func15, Tryd.ntmps15
  go_wp2_with (first | (go_at_call 41; refine (eqStatement_same x _).mono ?_; rintro e w1 ⟨rfl, hb1⟩))
  go_ret
  exact ⟨rfl, below_new (below_new hb1)⟩

end Go.Proofs.YtabbjcngilocnaaDoor
