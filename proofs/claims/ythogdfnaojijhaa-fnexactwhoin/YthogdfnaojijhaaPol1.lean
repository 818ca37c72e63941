/-
  CONTRACTS on lists of rules: '==' of two rules; slices.Index and slices.Contains over rules.
  Conditions: each contract bears its own.
-/
import Derived.Test.YthogdfnaojijhaaRule0
import Derived.Test.YthogdfnaojijhaaPol0
import Derived.WalkSmall
import Derived.BigQuiet
import Derived.Deep.QuietTactic
namespace Go.Proofs.Ythogdfnaojijhaa
open Go.RowKit
set_option linter.unusedVariables false
set_option linter.unusedSimpArgs false

def sameB (r s : RuleI) : Bool := decide (r = s)
theorem sameB_mk (a0 a1 a2 a3 a4 a5 a6 a7 b0 b1 b2 b3 b4 b5 b6 b7 : Int) : sameB ⟨a0, a1, a2, a3, a4, a5, a6, a7⟩ ⟨b0, b1, b2, b3, b4, b5, b6, b7⟩ = (a0 == b0 && (a1 == b1 && a2 == b2) && a3 == b3 && (a4 == b4 && a5 == b5) && (a6 == b6 && a7 == b7)) := by
  unfold sameB
  rw [Bool.eq_iff_iff]
  simp only [decide_eq_true_eq, RuleI.mk.injEq, Bool.and_eq_true, beq_iff_eq]
  constructor
  · rintro ⟨h0, h1, h2, h3, h4, h5, h6, h7⟩; exact ⟨⟨⟨⟨h0, h1, h2⟩, h3⟩, h4, h5⟩, h6, h7⟩
  · rintro ⟨⟨⟨⟨h0, h1, h2⟩, h3⟩, h4, h5⟩, h6, h7⟩; exact ⟨h0, h1, h2, h3, h4, h5, h6, h7⟩

end Go.Proofs.Ythogdfnaojijhaa
