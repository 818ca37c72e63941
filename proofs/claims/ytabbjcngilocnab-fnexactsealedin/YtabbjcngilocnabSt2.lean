/-
  CONTRACTS: StatementFault of both programs.
  Conditions: each contract bears its own.
-/
import Derived.Test.YtabbjcngilocnabSt1
namespace Go.Proofs.Ytabbjcngilocnab
open Go.RowKit
set_option linter.unusedVariables false
set_option linter.unusedSimpArgs false

theorem StAt.new (w : World) (x : StI) (t : TypeId) : StAt (w.alloc (.cells #[.int .i64 x.k, .int .i64 x.e, .int .i64 x.f, .int .i64 x.s, .int .i64 x.n] t)) w.heap.size 0 x := by
  simp [StAt]

theorem st_neq (x y : StI) (w : World) : (binOp .neq 46 (.agg #[.int .i64 x.k, .int .i64 x.e, .int .i64 x.f, .int .i64 x.s, .int .i64 x.n]) (.agg #[.int .i64 y.k, .int .i64 y.e, .int .i64 y.f, .int .i64 y.s, .int .i64 y.n])).run Try.prog w = .ok (.bool (!(sameSt x y))) w := by
  have h := st_eql x y w
  simp only [binOp, Sem.run_bind] at h ⊢
  revert h
  cases (Op.equal 46 (.agg #[.int .i64 x.k, .int .i64 x.e, .int .i64 x.f, .int .i64 x.s, .int .i64 x.n]) (.agg #[.int .i64 y.k, .int .i64 y.e, .int .i64 y.f, .int .i64 y.s, .int .i64 y.n])).run Try.prog w <;> simp [Result.andThen]

end Go.Proofs.Ytabbjcngilocnab
