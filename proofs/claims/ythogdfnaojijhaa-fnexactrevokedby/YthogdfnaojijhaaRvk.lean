/-
  CONTRACT: impl.revokeOf: what goes against a statement.
  Conditions: none.
-/
import Derived.Test.YthogdfnaojijhaaRq0
import Derived.Test.YthogdfnaojijhaaSt2
namespace Go.Proofs.Ythogdfnaojijhaa
open Go.RowKit
set_option linter.unusedVariables false
set_option linter.unusedSimpArgs false

set_option maxHeartbeats 400000 in
theorem revokeOf_c (x : StI) (w : World) : Calls Try.prog 38 #[.agg #[.int .i64 x.k, .int .i64 x.e, .int .i64 x.f, .int .i64 x.s, .int .i64 x.n]] w fun e w' => e = .returned (.agg #[.int .i64 2, .int .i64 x.e, .int .i64 x.f, .int .i64 x.s, .int .i64 0]) ∧ Below w.heap.size w w' := by
  go_enter Try.func38, Try.ntmps38
  go_wp2
  refine bodyPost_ret (v := .agg #[.int .i64 2, .int .i64 x.e, .int .i64 x.f, .int .i64 x.s, .int .i64 0]) (by simp [results, Try.results38, go_sem]) rfl ⟨rfl, ((Below.refl _ _).alloc (Nat.le_refl _) _).alloc (by simp) _⟩

end Go.Proofs.Ythogdfnaojijhaa
