/-
  PLAIN FACTS on the bits of a set (0 to 255): no Go text is walked here.
  Conditions: each fact bears its own.
-/
import Derived.WalkKit
import Derived.Laws.BitsAllLaws
namespace Go.Proofs.Ythogdfnaojijhaa
open Go.RowKit

/-- Principal p is in the set s. -/
def hasI (s p : Int) : Bool := s.toNat.testBit (p - 1).toNat

/-- The principals of s among 1 .. k. -/
def listTo (s : Int) : Nat → List Int
  | 0 => []
  | k + 1 => if hasI s ((k : Int) + 1) then listTo s k ++ [(k : Int) + 1] else listTo s k

theorem and_dec : ∀ n : Fin 256, ∀ k : Fin 8, (bits .and .u8 ((n.val : Nat) : Int) ((2 ^ k.val : Nat) : Int) = bits .and .i64 ((n.val : Nat) : Int) ((2 ^ k.val : Nat) : Int)) ∧ (bits .and .i64 ((n.val : Nat) : Int) ((2 ^ k.val : Nat) : Int) != 0) = n.val.testBit k.val := by
  decide +kernel

theorem and_i64 (s p : Int) (h0 : 0 ≤ s) (h1 : s ≤ 255) (p0 : 1 ≤ p) (p1 : p ≤ 8) :
    (bits .and .i64 s ((2 ^ (p - 1).toNat : Nat) : Int) != 0) = hasI s p := by
  obtain ⟨n, rfl⟩ := Int.eq_ofNat_of_zero_le h0
  have := (and_dec ⟨n, by omega⟩ ⟨(p - 1).toNat, by omega⟩).2
  simpa [hasI] using this

theorem and_u8 (s p : Int) (h0 : 0 ≤ s) (h1 : s ≤ 255) (p0 : 1 ≤ p) (p1 : p ≤ 8) :
    (bits .and .u8 s ((2 ^ (p - 1).toNat : Nat) : Int) != 0) = hasI s p := by
  obtain ⟨n, rfl⟩ := Int.eq_ofNat_of_zero_le h0
  have h := and_dec ⟨n, by omega⟩ ⟨(p - 1).toNat, by omega⟩
  have h2 := h.2
  rw [← h.1] at h2
  simpa [hasI] using h2

end Go.Proofs.Ythogdfnaojijhaa
