/-
  PLAIN WORDS on lists of rules: which code a policy has, rule by rule; a list of rules in memory. No Go text is walked here.
  Conditions: each fact bears its own.
-/
import Derived.Test.YtajdgbdpmmdlfaaDoorRole0
namespace Go.Proofs.YtajdgbdpmmdlfaaDoor
open Go.RowKit

/-- The code of the first k rules: rule by rule, the rule's own code, then 6 where one ahead is the same. -/
def polTo (zs : List RuleI) : Nat → Int
  | 0 => 0
  | k + 1 => if polTo zs k ≠ 0 then polTo zs k else match zs[k]? with
    | none => 0
    | some r => if ruleCode r ≠ 0 then ruleCode r else if r ∈ zs.take k then 6 else 0

def polCode (zs : List RuleI) : Int := if 16 < zs.length then 2 else polTo zs zs.length

theorem polTo_stay (zs : List RuleI) (k m : Nat) (c : Int) (hc : c ≠ 0) (h : polTo zs k = c) (hm : k ≤ m) : polTo zs m = c := by
  induction m with
  | zero => obtain rfl : k = 0 := by omega
            exact h
  | succ m ih =>
    by_cases e : k = m + 1
    · subst e; exact h
    · have := ih (by omega)
      simp only [polTo, this]
      rw [if_pos hc]

theorem polTo_bad (zs : List RuleI) (k : Nat) (r : RuleI) (hk : zs[k]? = some r) (h0 : polTo zs k = 0) (hr : ruleCode r ≠ 0) : polTo zs (k + 1) = ruleCode r := by
  simp [polTo, h0, hk, hr]

theorem polTo_same (zs : List RuleI) (k : Nat) (r : RuleI) (hk : zs[k]? = some r) (h0 : polTo zs k = 0) (hr : ruleCode r = 0) (hm : r ∈ zs.take k) : polTo zs (k + 1) = 6 := by
  simp [polTo, h0, hk, hr, hm]

theorem polTo_good (zs : List RuleI) (k : Nat) (r : RuleI) (hk : zs[k]? = some r) (h0 : polTo zs k = 0) (hr : ruleCode r = 0) (hm : ¬ r ∈ zs.take k) : polTo zs (k + 1) = 0 := by
  simp [polTo, h0, hk, hr, hm]

theorem mem_take_iff (zs : List RuleI) (k : Nat) (r : RuleI) : r ∈ zs.take k ↔ ∃ j, j < k ∧ zs[j]? = some r := by
  rw [List.mem_iff_getElem?]
  constructor
  · rintro ⟨j, hj⟩
    rw [List.getElem?_take] at hj
    by_cases h : j < k
    · rw [if_pos h] at hj; exact ⟨j, h, hj⟩
    · rw [if_neg h] at hj; cases hj
  · rintro ⟨j, h, hj⟩
    exact ⟨j, by rw [List.getElem?_take, if_pos h]; exact hj⟩

/-- Rules lie in a block, eight cells each. -/
def RulesAt (w : World) (g off : Nat) (zs : List RuleI) : Prop := ∀ k r, zs[k]? = some r → RuleAt w g (off + k * 8) r

theorem RulesAt.below {w w' : World} {g off : Nat} {zs : List RuleI} (h : RulesAt w g off zs) (hb : Below w.heap.size w w') : RulesAt w' g off zs := fun k r e => (h k r e).below hb

/-- A slice of rules. -/
def RulesIn (w : World) (a : Option Addr) (len : Nat) (zs : List RuleI) : Prop := zs.length = len ∧ (0 < len → ∃ b off, a = some ⟨b, off, none⟩ ∧ RulesAt w b off zs)

theorem RulesIn.below {w w' : World} {a : Option Addr} {len : Nat} {zs : List RuleI} (h : RulesIn w a len zs) (hb : Below w.heap.size w w') : RulesIn w' a len zs := by
  refine ⟨h.1, fun hl => ?_⟩
  obtain ⟨b, off, e, hr⟩ := h.2 hl
  exact ⟨b, off, e, hr.below hb⟩

theorem RulesIn.at {w : World} {a : Option Addr} {len : Nat} {zs : List RuleI} (h : RulesIn w a len zs) {k : Nat} (hk : k < len) :
    ∃ b off r, a = some ⟨b, off, none⟩ ∧ zs[k]? = some r ∧ RuleAt w b (off + k * 8) r := by
  obtain ⟨b, off, e, hr⟩ := h.2 (by omega)
  have hl := h.1
  exact ⟨b, off, zs[k]'(by omega), e, List.getElem?_eq_getElem (by omega), hr k _ (List.getElem?_eq_getElem (by omega))⟩

theorem RulesIn.of {w : World} {g len : Nat} {zs : List RuleI} (hl : zs.length = len) (h : RulesAt w g 0 zs) : RulesIn w (some ⟨g, 0, none⟩) len zs :=
  ⟨hl, fun _ => ⟨g, 0, rfl, h⟩⟩

end Go.Proofs.YtajdgbdpmmdlfaaDoor
