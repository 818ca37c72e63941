/-
  CONTRACTS on rules: laws.toRule, spec.l2Bare.
  Conditions: each contract bears its own.
-/
import Derived.Test.YthogdfnaojijhaaRole1
import Derived.BigQuiet
import Derived.Deep.QuietTactic
namespace Go.Proofs.Ythogdfnaojijhaa
open Go.RowKit
set_option linter.unusedVariables false
set_option linter.unusedSimpArgs false

theorem bdN {B : Nat} {a w : World} (h : Below B a w) (n : Nat) : Below B a (w.drewN n) := h.trans ⟨rfl, rfl, rfl, Nat.le_refl _, fun _ _ => rfl⟩

end Go.Proofs.Ythogdfnaojijhaa
