/-
  PLAIN FACTS on the set of a list of principals: no Go text is walked here.
  Conditions: each fact bears its own.
-/
import Derived.Test.YtaeigimgobilaaaGreatDoorPlain
namespace Go.Proofs.YtaeigimgobilaaaGreatDoor
open Go.RowKit

/-- The set of one principal. -/
def bitI (p : Int) : Int := ((2 ^ (p - 1).toNat : Nat) : Int)

/-- The set of the first k of a list. -/
def orTo (ys : List Int) : Nat → Int
  | 0 => 0
  | k + 1 => bits .or .i64 (orTo ys k) (bitI (ys[k]?.getD 0))

/-- The first k are principals. -/
def okTo (ys : List Int) (k : Nat) : Prop := ∀ j, j < k → 1 ≤ ys[j]?.getD 0 ∧ ys[j]?.getD 0 ≤ 8

theorem or_dec : ∀ n : Fin 256, ∀ k : Fin 8, bits .or .u8 ((n.val : Nat) : Int) ((2 ^ k.val : Nat) : Int) = bits .or .i64 ((n.val : Nat) : Int) ((2 ^ k.val : Nat) : Int) ∧ 0 ≤ bits .or .i64 ((n.val : Nat) : Int) ((2 ^ k.val : Nat) : Int) ∧ bits .or .i64 ((n.val : Nat) : Int) ((2 ^ k.val : Nat) : Int) ≤ 255 := by
  decide +kernel

theorem or_u8 (m p : Int) (h0 : 0 ≤ m) (h1 : m ≤ 255) (p0 : 1 ≤ p) (p1 : p ≤ 8) :
    bits .or .u8 m (bitI p) = bits .or .i64 m (bitI p) ∧ 0 ≤ bits .or .i64 m (bitI p) ∧ bits .or .i64 m (bitI p) ≤ 255 := by
  obtain ⟨n, rfl⟩ := Int.eq_ofNat_of_zero_le h0
  exact or_dec ⟨n, by omega⟩ ⟨(p - 1).toNat, by omega⟩

theorem orTo_bd (ys : List Int) (k : Nat) (h : okTo ys k) : 0 ≤ orTo ys k ∧ orTo ys k ≤ 255 := by
  induction k with
  | zero => simp [orTo]
  | succ k ih =>
    have i := ih (fun j hj => h j (by omega))
    have y := h k (by omega)
    exact (or_u8 _ _ i.1 i.2 y.1 y.2).2

theorem okTo_or_first (ys : List Int) (n : Nat) : okTo ys n ∨ ∃ j, j < n ∧ okTo ys j ∧ ¬ (1 ≤ ys[j]?.getD 0 ∧ ys[j]?.getD 0 ≤ 8) := by
  induction n with
  | zero => exact .inl (fun j hj => by omega)
  | succ n ih =>
    rcases ih with h | ⟨j, hj, h⟩
    · by_cases hb : 1 ≤ ys[n]?.getD 0 ∧ ys[n]?.getD 0 ≤ 8
      · refine .inl (fun j hj => ?_)
        by_cases e : j = n
        · subst e; exact hb
        · exact h j (by omega)
      · exact .inr ⟨n, by omega, h, hb⟩
    · exact .inr ⟨j, by omega, h⟩

end Go.Proofs.YtaeigimgobilaaaGreatDoor
