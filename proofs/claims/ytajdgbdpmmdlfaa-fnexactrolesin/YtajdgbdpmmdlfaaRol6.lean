/-
  PLAIN WORDS on lists that do not fall, and what is kept of one. No Go text is walked here.
  Conditions: each fact bears its own.
-/
import Derived.Test.YtajdgbdpmmdlfaaRol3
namespace Go.Proofs.Ytajdgbdpmmdlfaa
open Go.RowKit

/-- What is kept of the first p: the first one, and each that is not the one ahead. -/
def keepTo (xs : List RoI) : Nat → List RoI
  | 0 => []
  | p + 1 => match xs[p]? with
    | none => keepTo xs p
    | some y => if p ≠ 0 ∧ xs[p - 1]? = some y then keepTo xs p else keepTo xs p ++ [y]

theorem keep_hit {xs : List RoI} {p : Nat} {y : RoI} (h : xs[p]? = some y) (h2 : p = 0 ∨ xs[p - 1]? ≠ some y) : keepTo xs (p + 1) = keepTo xs p ++ [y] := by
  simp only [keepTo, h]
  rw [if_neg]
  rintro ⟨h3, h4⟩
  rcases h2 with h2 | h2
  · exact h3 h2
  · exact h2 h4

theorem keep_miss {xs : List RoI} {p : Nat} {y : RoI} (h : xs[p]? = some y) (h1 : p ≠ 0) (h2 : xs[p - 1]? = some y) : keepTo xs (p + 1) = keepTo xs p := by
  simp only [keepTo, h]
  rw [if_pos ⟨h1, h2⟩]

def Falls (xs : List RoI) : Prop := xs.Pairwise (fun a b => ltR b a = false)

theorem ltR_antisymm {a b : RoI} (h : ltR a b = false) (k : ltR b a = false) : a = b := by
  by_cases e : a = b
  · exact e
  · have := ltR_total h e
    rw [k] at this
    cases this

theorem falls_at {xs : List RoI} (h : Falls xs) {i j : Nat} {x y : RoI} (hij : i < j) (hx : xs[i]? = some x) (hy : xs[j]? = some y) : ltR y x = false := by
  have hj : j < xs.length := by
    by_cases q : j < xs.length
    · exact q
    · rw [List.getElem?_eq_none (by omega)] at hy; cases hy
  have h1 := List.pairwise_iff_getElem.1 h i j (by omega) hj hij
  rw [List.getElem?_eq_getElem (by omega)] at hx
  rw [List.getElem?_eq_getElem hj] at hy
  cases hx
  cases hy
  exact h1

theorem mem_take_at {xs : List RoI} {p : Nat} {x : RoI} : x ∈ xs.take p ↔ ∃ j, j < p ∧ xs[j]? = some x := by
  rw [List.mem_iff_getElem?]
  constructor
  · rintro ⟨j, hj⟩
    rw [List.getElem?_take] at hj
    by_cases h : j < p
    · rw [if_pos h] at hj; exact ⟨j, h, hj⟩
    · rw [if_neg h] at hj; cases hj
  · rintro ⟨j, h, hj⟩
    exact ⟨j, by rw [List.getElem?_take, if_pos h]; exact hj⟩

theorem keep_facts {xs : List RoI} (h : Falls xs) (p : Nat) (hp : p ≤ xs.length) : SS (keepTo xs p) ∧ (∀ x, x ∈ keepTo xs p ↔ x ∈ xs.take p) := by
  induction p with
  | zero => exact ⟨List.Pairwise.nil, fun x => by simp [keepTo]⟩
  | succ p ih =>
    obtain ⟨h1, h2⟩ := ih (by omega)
    have hy : xs[p]? = some xs[p] := List.getElem?_eq_getElem (by omega)
    have ht : xs.take (p + 1) = xs.take p ++ [xs[p]] := List.take_succ_eq_append_getElem (by omega)
    by_cases hq : p = 0 ∨ xs[p - 1]? ≠ some xs[p]
    · rw [keep_hit hy hq]
      refine ⟨List.pairwise_append.2 ⟨h1, List.pairwise_singleton _ _, fun a ha b hb => ?_⟩, fun x => by rw [ht, List.mem_append, List.mem_append, h2 x]⟩
      simp at hb
      subst hb
      obtain ⟨i, hi, hxi⟩ := mem_take_at.1 ((h2 a).1 ha)
      have f1 := falls_at h hi hxi hy
      by_cases e : xs[p] = a
      · exfalso
        subst e
        rcases hq with hq | hq
        · omega
        · by_cases e2 : i = p - 1
          · subst e2; exact hq hxi
          · have hy1 : xs[p - 1]? = some (xs[p - 1]) := List.getElem?_eq_getElem (by omega)
            have f2 := falls_at h (show i < p - 1 by omega) hxi hy1
            have f3 := falls_at h (show p - 1 < p by omega) hy1 hy
            rw [hy1] at hq
            exact hq (by rw [ltR_antisymm f2 f3])
      · exact ltR_total f1 e
    · have hq1 : p ≠ 0 := fun e => hq (.inl e)
      have hq2 : xs[p - 1]? = some xs[p] := by
        by_cases e : xs[p - 1]? = some xs[p]
        · exact e
        · exact absurd (.inr e) hq
      rw [keep_miss hy hq1 hq2]
      refine ⟨h1, fun x => ?_⟩
      rw [h2 x, ht, List.mem_append]
      constructor
      · exact .inl
      · rintro (hx | hx)
        · exact hx
        · simp at hx
          subst hx
          exact mem_take_at.2 ⟨p - 1, by omega, hq2⟩

theorem keep_all {xs : List RoI} {p : Nat} (hp : p ≤ xs.length) (h : ∀ j y, j < p → j ≠ 0 → xs[j]? = some y → xs[j - 1]? ≠ some y) : keepTo xs p = xs.take p := by
  induction p with
  | zero => simp [keepTo]
  | succ p ih =>
    have hy : xs[p]? = some xs[p] := List.getElem?_eq_getElem (by omega)
    have hq : p = 0 ∨ xs[p - 1]? ≠ some xs[p] := by
      by_cases e : p = 0
      · exact .inl e
      · exact .inr (h p _ (by omega) e hy)
    rw [keep_hit hy hq, ih (by omega) (fun j y hj => h j y (by omega)), List.take_succ_eq_append_getElem (by omega)]

theorem keep_len (xs : List RoI) (p : Nat) : (keepTo xs p).length ≤ p := by
  induction p with
  | zero => simp [keepTo]
  | succ p ih =>
    simp only [keepTo]
    split
    · omega
    · split
      · omega
      · simp; omega

end Go.Proofs.Ytajdgbdpmmdlfaa
