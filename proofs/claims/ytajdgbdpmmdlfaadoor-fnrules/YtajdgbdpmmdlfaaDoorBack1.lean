/-
  PLAIN FACTS: a rule without fault is the one that its line's digits tell, and the one that its line's words tell. No Go text is walked here.
  Conditions: each fact bears its own.
-/
import Derived.Test.YtajdgbdpmmdlfaaDoorLine0
import Derived.Test.YtajdgbdpmmdlfaaDoorCut1
import Derived.Test.YtajdgbdpmmdlfaaDoorDig1
namespace Go.Proofs.YtajdgbdpmmdlfaaDoor
open Go.RowKit

/-- The rule that so many digits tell. -/
def ruleOfD (ds : List Int) : RuleI :=
  match ds with
  | [a, b, c] => ⟨1, a, b, c, 0, 0, 0, 0⟩
  | [a, b, c, d] => ⟨2, a, b, 0, c, d, 0, 0⟩
  | [a, b, c, d, e] => ⟨3, a, b, 0, c, d, 0, e⟩
  | [a, b, c, d, e, f] => ⟨4, a, b, 0, c, d, e, f⟩
  | _ => ⟨0, 0, 0, 0, 0, 0, 0, 0⟩

theorem dig_dec : ∀ n : Fin 9, ((UInt8.ofNat (48 + n.val)).toNat : Int) - 48 = (n.val : Int) ∧ 48 ≤ ((UInt8.ofNat (48 + n.val)).toNat : Int) ∧ ((UInt8.ofNat (48 + n.val)).toNat : Int) ≤ 57 ∧ UInt8.ofNat (48 + n.val) ≠ 32 ∧ UInt8.ofNat (48 + n.val) ≠ 46 := by
  decide

theorem digitB_ok (p : Int) (h0 : 0 ≤ p) (h8 : p ≤ 8) : ((digitB p).toNat : Int) - 48 = p ∧ 48 ≤ ((digitB p).toNat : Int) ∧ ((digitB p).toNat : Int) ≤ 57 ∧ digitB p ≠ 32 ∧ digitB p ≠ 46 := by
  obtain ⟨n, rfl⟩ := Int.eq_ofNat_of_zero_le h0
  have := dig_dec ⟨n, by omega⟩
  simpa [digitB] using this

end Go.Proofs.YtajdgbdpmmdlfaaDoor
