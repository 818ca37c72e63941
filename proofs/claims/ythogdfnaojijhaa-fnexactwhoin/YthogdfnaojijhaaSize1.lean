/-
  CONTRACTS of math/bits.OnesCount8, spec.SizeOf, impl.SizeOf and laws.eqIntResult (two that are alike).
  Conditions: each contract bears its own.
-/
import Derived.Test.YthogdfnaojijhaaSpec1
import Derived.Lib.BitFns
namespace Go.Proofs.Ythogdfnaojijhaa
open Go.RowKit
set_option linter.unusedVariables false

theorem ones_eq : ∀ n : Fin 256, Lib.onesCount n.val = (listTo (n.val : Int) 8).length := by decide +kernel

end Go.Proofs.Ythogdfnaojijhaa
