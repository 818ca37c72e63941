/-
  PLAIN FACTS: a rule without fault is the one that its line's digits tell. No Go text is walked here.
  Conditions: the rule has no fault.
-/
import Derived.Test.YtajdgbdpmmdlfaaDoorBack1
namespace Go.Proofs.YtajdgbdpmmdlfaaDoor
open Go.RowKit

/-- The digits of a list of bytes. -/
def digL : List UInt8 → List Int
  | [] => []
  | x :: xs => if 48 ≤ (x.toNat : Int) ∧ (x.toNat : Int) ≤ 57 then ((x.toNat : Int) - 48) :: digL xs else digL xs

theorem digL_append (xs ys : List UInt8) : digL (xs ++ ys) = digL xs ++ digL ys := by
  induction xs with
  | nil => rfl
  | cons x xs ih =>
    simp only [List.cons_append, digL]
    split
    · rw [ih]; rfl
    · exact ih

theorem digTo_eq (bs : List UInt8) (k : Nat) (h : k ≤ bs.length) : digTo bs k = digL (bs.take k) := by
  induction k with
  | zero => simp [digTo, digL]
  | succ k ih =>
    have hk : k < bs.length := by omega
    rw [List.take_succ_eq_append_getElem hk, digL_append, ← ih (by omega)]
    simp only [digTo, List.getElem?_eq_getElem hk, Option.getD_some, digL]
    split
    · rfl
    · simp

theorem digL_d (p : Int) (h0 : 0 ≤ p) (h8 : p ≤ 8) (xs : List UInt8) : digL (digitB p :: xs) = p :: digL xs := by
  obtain ⟨e, a, b, _, _⟩ := digitB_ok p h0 h8
  simp only [digL, if_pos (show 48 ≤ ((digitB p).toNat : Int) ∧ ((digitB p).toNat : Int) ≤ 57 from ⟨a, b⟩), e]

theorem digL_x (x : UInt8) (h : x = 46 ∨ x = 32 ∨ x = 60 ∨ x = 45 ∨ x = 38) (xs : List UInt8) : digL (x :: xs) = digL xs := by
  rcases h with rfl | rfl | rfl | rfl | rfl <;> rfl

theorem roleB_bd2 {o n : Int} (h : roleB o n = true) : 0 ≤ o ∧ o ≤ 8 ∧ 0 ≤ n ∧ n ≤ 8 := by
  have := roleB_bd h
  omega

/-- The digits of a right rule's line tell the rule. -/
theorem line_digits (r : RuleI) (h : ruleCode r = 0) : ruleOfD (digTo (lineT r).data.toList (lineT r).size) = r := by
  obtain ⟨hk, hr, hb, hh⟩ := code0 h
  obtain ⟨a1, a2, a3, a4⟩ := roleB_bd2 hr
  have e0 : (lineT r).data.toList = lineL r := by simp [lineT]
  have e1 : (lineT r).size = (lineL r).length := by simp [lineT, ByteArray.size]
  rw [e0, e1, digTo_eq _ _ (Nat.le_refl _), List.take_length]
  obtain ⟨k, ho, hn, wh, oo, on, to, tn⟩ := r
  simp only at hk a1 a2 a3 a4
  have hk' : k = 1 ∨ k = 2 ∨ k = 3 ∨ k = 4 := by omega
  rcases hk' with rfl | rfl | rfl | rfl
  · simp [hasB, prinB] at hh
    simp [bareB] at hb
    simp only [lineL, tailL, List.cons_append, List.nil_append, if_true]
    rw [digL_d _ a1 a2, digL_x 46 (by decide), digL_d _ a3 a4, digL_x 32 (by decide), digL_x 60 (by decide), digL_x 45 (by decide), digL_x 32 (by decide), digL_d _ (by omega) (by omega)]
    simp [digL, ruleOfD, hb]
  · simp [hasB] at hh
    obtain ⟨b1, b2, b3, b4⟩ := roleB_bd2 hh
    simp [bareB] at hb
    simp only [lineL, tailL, List.cons_append, List.nil_append]
    rw [if_neg (by decide)]
    first | rw [if_pos rfl] | rw [if_pos trivial]
    try simp only [List.cons_append, List.nil_append]
    rw [digL_d _ a1 a2, digL_x 46 (by decide), digL_d _ a3 a4, digL_x 32 (by decide), digL_x 60 (by decide), digL_x 45 (by decide), digL_x 32 (by decide), digL_d _ b1 b2, digL_x 46 (by decide), digL_d _ b3 b4]
    simp [digL, ruleOfD, hb]
  · simp [hasB] at hh
    obtain ⟨b1, b2, b3, b4⟩ := roleB_bd2 hh.1
    have hn := hh.2
    simp [nameB] at hn
    simp [bareB] at hb
    simp only [lineL, tailL]
    rw [if_neg (by decide), if_neg (by decide)]
    first | rw [if_pos rfl] | rw [if_pos trivial]
    try simp only [List.cons_append, List.nil_append]
    rw [digL_d _ a1 a2, digL_x 46 (by decide), digL_d _ a3 a4, digL_x 32 (by decide), digL_x 60 (by decide), digL_x 45 (by decide), digL_x 32 (by decide), digL_d _ b1 b2, digL_x 46 (by decide), digL_d _ b3 b4, digL_x 46 (by decide), digL_d _ (by omega) (by omega)]
    simp [digL, ruleOfD, hb]
  · simp [hasB] at hh
    obtain ⟨b1, b2, b3, b4⟩ := roleB_bd2 hh.1
    obtain ⟨c1, c2, c3, c4⟩ := roleB_bd2 hh.2
    simp [bareB] at hb
    simp only [lineL, tailL]
    rw [if_neg (by decide), if_neg (by decide), if_neg (by decide)]
    simp only [List.cons_append, List.nil_append]
    rw [digL_d _ a1 a2, digL_x 46 (by decide), digL_d _ a3 a4, digL_x 32 (by decide), digL_x 60 (by decide), digL_x 45 (by decide), digL_x 32 (by decide), digL_d _ b1 b2, digL_x 46 (by decide), digL_d _ b3 b4, digL_x 32 (by decide), digL_x 38 (by decide), digL_x 32 (by decide), digL_d _ c1 c2, digL_x 46 (by decide), digL_d _ c3 c4]
    simp [digL, ruleOfD, hb]

end Go.Proofs.YtajdgbdpmmdlfaaDoor
