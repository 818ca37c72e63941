/-
  PLAIN WORDS on lists of rules: which code a policy has, rule by rule; a list of rules in memory. No Go text is walked here.
  Conditions: each fact bears its own.
-/
import Derived.Test.YthogdfnaojijhaaRole0
namespace Go.Proofs.Ythogdfnaojijhaa
open Go.RowKit

/-- The code of the first k rules: rule by rule, the rule's own code, then 6 where one ahead is the same. -/
def polTo (zs : List RuleI) : Nat → Int
  | 0 => 0
  | k + 1 => if polTo zs k ≠ 0 then polTo zs k else match zs[k]? with
    | none => 0
    | some r => if ruleCode r ≠ 0 then ruleCode r else if r ∈ zs.take k then 6 else 0

def polCode (zs : List RuleI) : Int := if 16 < zs.length then 2 else polTo zs zs.length

theorem polTo_stay (zs : List RuleI) (k m : Nat) (c : Int) (hc : c ≠ 0) (h : polTo zs k = c) (hm : k ≤ m) : polTo zs m = c := by
  induction m with
  | zero => obtain rfl : k = 0 := by omega
            exact h
  | succ m ih =>
    by_cases e : k = m + 1
    · subst e; exact h
    · have := ih (by omega)
      simp only [polTo, this]
      rw [if_pos hc]

theorem polTo_bad (zs : List RuleI) (k : Nat) (r : RuleI) (hk : zs[k]? = some r) (h0 : polTo zs k = 0) (hr : ruleCode r ≠ 0) : polTo zs (k + 1) = ruleCode r := by
  simp [polTo, h0, hk, hr]

theorem polTo_same (zs : List RuleI) (k : Nat) (r : RuleI) (hk : zs[k]? = some r) (h0 : polTo zs k = 0) (hr : ruleCode r = 0) (hm : r ∈ zs.take k) : polTo zs (k + 1) = 6 := by
  simp [polTo, h0, hk, hr, hm]

theorem polTo_good (zs : List RuleI) (k : Nat) (r : RuleI) (hk : zs[k]? = some r) (h0 : polTo zs k = 0) (hr : ruleCode r = 0) (hm : ¬ r ∈ zs.take k) : polTo zs (k + 1) = 0 := by
  simp [polTo, h0, hk, hr, hm]

theorem mem_take_iff (zs : List RuleI) (k : Nat) (r : RuleI) : r ∈ zs.take k ↔ ∃ j, j < k ∧ zs[j]? = some r := by
  rw [List.mem_iff_getElem?]
  constructor
  · rintro ⟨j, hj⟩
    rw [List.getElem?_take] at hj
    by_cases h : j < k
    · rw [if_pos h] at hj; exact ⟨j, h, hj⟩
    · rw [if_neg h] at hj; cases hj
  · rintro ⟨j, h, hj⟩
    exact ⟨j, by rw [List.getElem?_take, if_pos h]; exact hj⟩

/-- Rules lie in a block, eight cells each. -/
def RulesAt (w : World) (g off : Nat) (zs : List RuleI) : Prop := ∀ k r, zs[k]? = some r → RuleAt w g (off + k * 8) r

theorem RulesAt.below {w w' : World} {g off : Nat} {zs : List RuleI} (h : RulesAt w g off zs) (hb : Below w.heap.size w w') : RulesAt w' g off zs := fun k r e => (h k r e).below hb

/-- A slice of rules. -/
def RulesIn (w : World) (a : Option Addr) (len : Nat) (zs : List RuleI) : Prop := zs.length = len ∧ (0 < len → ∃ b off, a = some ⟨b, off, none⟩ ∧ RulesAt w b off zs)

theorem RulesIn.below {w w' : World} {a : Option Addr} {len : Nat} {zs : List RuleI} (h : RulesIn w a len zs) (hb : Below w.heap.size w w') : RulesIn w' a len zs := by
  refine ⟨h.1, fun hl => ?_⟩
  obtain ⟨b, off, e, hr⟩ := h.2 hl
  exact ⟨b, off, e, hr.below hb⟩

theorem RulesIn.at {w : World} {a : Option Addr} {len : Nat} {zs : List RuleI} (h : RulesIn w a len zs) {k : Nat} (hk : k < len) :
    ∃ b off r, a = some ⟨b, off, none⟩ ∧ zs[k]? = some r ∧ RuleAt w b (off + k * 8) r := by
  obtain ⟨b, off, e, hr⟩ := h.2 (by omega)
  have hl := h.1
  exact ⟨b, off, zs[k]'(by omega), e, List.getElem?_eq_getElem (by omega), hr k _ (List.getElem?_eq_getElem (by omega))⟩

theorem RulesIn.here {w : World} {b off len : Nat} {zs : List RuleI} (h : RulesIn w (some ⟨b, off, none⟩) len zs) {k : Nat} (hk : k < len) : ∃ r, zs[k]? = some r ∧ RuleAt w b (off + k * 8) r := by
  obtain ⟨b', off', r, e, h1, h2⟩ := h.at hk
  cases e
  exact ⟨r, h1, h2⟩

/-- The first rules of a slice. -/
theorem RulesIn.cut {w : World} {a : Option Addr} {len : Nat} {zs : List RuleI} (h : RulesIn w a len zs) {k : Nat} (hk : k ≤ len) : RulesIn w a k (zs.take k) := by
  refine ⟨by have := h.1; simp; omega, fun hp => ?_⟩
  obtain ⟨b, off, e, hr⟩ := h.2 (by omega)
  refine ⟨b, off, e, fun j r ej => hr j r ?_⟩
  rw [List.getElem?_take] at ej
  split at ej
  · exact ej
  · cases ej

theorem RulesIn.of {w : World} {g len : Nat} {zs : List RuleI} (hl : zs.length = len) (h : RulesAt w g 0 zs) : RulesIn w (some ⟨g, 0, none⟩) len zs :=
  ⟨hl, fun _ => ⟨g, 0, rfl, h⟩⟩

/-- Old cells are as they were: in the form that a region's walk takes for its S. -/
theorem kp_drew (W : World) : (∀ b o, b < W.heap.size → W.drew.cell? ⟨b, o, none⟩ = W.cell? ⟨b, o, none⟩) ∧ Below W.heap.size W W.drew :=
  ⟨fun _ _ _ => rfl, ⟨rfl, rfl, rfl, Nat.le_refl _, fun _ _ => rfl⟩⟩

theorem kp_refl (W : World) : (∀ b o, b < W.heap.size → W.cell? ⟨b, o, none⟩ = W.cell? ⟨b, o, none⟩) ∧ Below W.heap.size W W :=
  ⟨fun _ _ _ => rfl, Below.refl _ _⟩

theorem kp_step {W w w' : World} (h : (∀ b o, b < W.heap.size → w.cell? ⟨b, o, none⟩ = W.cell? ⟨b, o, none⟩) ∧ Below W.heap.size W w) (hb : Below w.heap.size w w') : (∀ b o, b < W.heap.size → w'.cell? ⟨b, o, none⟩ = W.cell? ⟨b, o, none⟩) ∧ Below W.heap.size W w' := by
  have hz := h.2.size
  exact ⟨fun b o hl => (hb.cell (p := ⟨b, o, none⟩) (by show b < w.heap.size; omega)).trans (h.1 b o hl), h.2.trans (hb.mono hz)⟩

/-- A slice of rules that came in. -/
def RulesArg (w : World) (a : Option Addr) (len : Nat) (zs : List RuleI) : Prop := RulesIn w a len zs ∧ len ≤ maxLen

end Go.Proofs.Ythogdfnaojijhaa
