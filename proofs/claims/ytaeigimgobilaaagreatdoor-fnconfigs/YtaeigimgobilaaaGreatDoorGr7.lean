/-
  PLAIN WORDS: the rules of a policy without a fault are such as the steps need. No Go text is walked here.
  Conditions: each fact bears its own.
-/
import Derived.Test.YtaeigimgobilaaaGreatDoorGr1
namespace Go.Proofs.YtaeigimgobilaaaGreatDoor
open Go.RowKit

theorem okR_of {r : RuleI} (h : ruleCode r = 0) : okR r ∧ 1 ≤ r.k ∧ r.k ≤ 4 := by
  unfold ruleCode at h
  by_cases hk : 1 ≤ r.k ∧ r.k ≤ 4
  · rw [if_neg (fun q => q hk)] at h
    cases hr : roleB r.ho r.hn
    · simp [hr] at h
    · refine ⟨⟨hr, fun e => ?_⟩, hk⟩
      rw [if_neg (by rw [hr]; simp)] at h
      cases hb : bareB r
      · simp [hb] at h
      · cases hh : hasB r
        · simp [hb, hh] at h
        · unfold hasB at hh
          rw [if_pos e] at hh
          simpa [prinB] using hh
  · rw [if_pos hk] at h; cases h

theorem polTo_all {zs : List RuleI} : ∀ k, polTo zs k = 0 → ∀ j z, j < k → zs[j]? = some z → ruleCode z = 0
  | 0, _, j, _, hj, _ => by omega
  | k + 1, h, j, z, hj, hz => by
    have h0 : polTo zs k = 0 := by
      by_cases q : polTo zs k = 0
      · exact q
      · exact absurd (polTo_stay zs k (k + 1) _ q rfl (by omega)) (by rw [h]; exact fun e => q e.symm)
    by_cases e : j = k
    · subst e
      by_cases q : ruleCode z = 0
      · exact q
      · rw [polTo_bad zs j z hz h0 q] at h; exact h
    · exact polTo_all k h0 j z (by omega) hz

theorem pol_ok {zs : List RuleI} (h : polCode zs = 0) : zs.length ≤ 16 ∧ ∀ z ∈ zs, okR z ∧ 1 ≤ z.k ∧ z.k ≤ 4 := by
  unfold polCode at h
  split at h
  · cases h
  · refine ⟨by omega, fun z hz => ?_⟩
    obtain ⟨j, hj⟩ := List.mem_iff_getElem?.1 hz
    have hl : j < zs.length := by
      by_cases q : j < zs.length
      · exact q
      · rw [List.getElem?_eq_none (by omega)] at hj; cases hj
    exact okR_of (polTo_all _ h j z hl hj)

end Go.Proofs.YtaeigimgobilaaaGreatDoor
