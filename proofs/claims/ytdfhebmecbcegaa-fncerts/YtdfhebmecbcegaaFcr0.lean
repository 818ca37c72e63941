/-
  CONTRACTS: laws.lwHas; and plain words on certificates that were combined.
  Conditions: each contract bears its own.
-/
import Derived.Test.YtdfhebmecbcegaaDd2
import Derived.Test.YtdfhebmecbcegaaCeb
import Derived.Test.YtdfhebmecbcegaaCea
namespace Go.Proofs.Ytdfhebmecbcegaa
open Go.RowKit
set_option linter.unusedVariables false
set_option linter.unusedSimpArgs false

set_option maxRecDepth 20000 in
set_option maxHeartbeats 1000000 in
theorem lwHas9_c (a : Option Addr) (n cap : Nat) (us : List Int) (y : Int) (w : World) (hn : n ≤ 1048576) (h : IntIn w a n us) :
    Calls Try.prog 19 #[.slice a n cap, .int .i64 y] w fun e w' => e = .returned (.bool (decide (y ∈ us))) ∧ w = w' := by
  have H : Hid (IntIn w a n us) := h
  have HZ : Hid (us.length = n) := h.1
  have hn' : (n : Int) ≤ 1048576 := by omega
  clear h
  go_enter Try.func19, Try.ntmps19
  go_wp2
  go_loop [5] (fun i => ∃ k : Nat, k ≤ n ∧ i = .int .i64 (k : Int) ∧ ¬ y ∈ us.take k) (fun i => n - (intOf i).toNat)
  case atStart => exact ⟨0, Nat.zero_le _, rfl, by simp⟩
  case round =>
    obtain ⟨k, hk, rfl, hm⟩ := hrel
    have HM : Hid (¬ y ∈ us.take k) := hm
    clear hm
    by_cases hlt : k < n
    · obtain ⟨b, off, p, rfl, hp, hpa, hbl⟩ := H.out.at hlt
      have hlt' : (k : Int) < (n : Int) := by omega
      by_cases e : p = y
      · have eb : (p == y) = true := by simp [e]
        have HI : Hid (decide (y ∈ us) = true) := by show _ = _; simp; rw [← e]; exact List.mem_of_getElem? hp
        clear hp e
        go_wp2
        go_ret
        exact ⟨by rw [HI.out]; rfl, rfl⟩
      · have eb : (p == y) = false := by simp [e]
        have HN : Hid (¬ y ∈ us.take (k + 1)) := no_nextI HM.out hp e
        clear hp e
        go_wp2
        exact ⟨⟨k + 1, by omega, by go_num, HN.out⟩, by simp [intOf]; omega⟩
    · have hkn : k = n := by omega
      subst hkn
      have HN : Hid (decide (y ∈ us) = false) := by
        have := HM.out
        rw [List.take_of_length_le (by rw [HZ.out]; exact Nat.le_refl _)] at this
        show _ = _
        simp [this]
      go_wp2
      go_ret
      exact ⟨by rw [HN.out]; rfl, rfl⟩

theorem ownSh_caps {w : World} {B : Nat} {va : Option Addr} {vc : Nat} {zs : List ShI} (h : OwnSh w B (.slice va zs.length vc) zs) : zs.length ≤ vc ∧ vc ≤ maxLen := by
  have h0 : w.ownsRow B 45 6 (.slice va zs.length vc) zs.length (flatSh zs) := h
  rcases h0.2 with ⟨e, hn⟩ | ⟨g, cap, cur, e, hg, hb, h1, h2, rest⟩
  · simp at e
    rw [e.2.2, e.2.1]
    exact ⟨Nat.le_refl _, Nat.zero_le _⟩
  · simp at e
    rw [e.2]
    exact ⟨h1, h2⟩

/-- What Combine's answer without a code tells. -/
theorem cb_zero {f : Int} {zs : List ShI} {x : StI} (h : cbCode f zs x = 0) : shCode f zs = 0 ∧ stCode x = 0 ∧ 2 * f + 1 ≤ ((sgL zs x).length : Int) := by
  unfold cbCode at h
  split at h
  · split at h
    · split at h
      · cases h
      · exact ⟨by assumption, by assumption, by omega⟩
    · contradiction
  · contradiction

theorem up_take {ys : List Int} (h : Up ys) (k : Nat) : Up (ys.take k) := List.Pairwise.sublist (List.take_sublist k ys) h
theorem up_drop {ys : List Int} (h : Up ys) (k : Nat) : Up (ys.drop k) := List.Pairwise.sublist (List.drop_sublist k ys) h

/-- Signers of the statement alone: the code hangs on how many they are. -/
theorem vf_of {f : Int} {zs : List ShI} {x : StI} {ys : List Int} (h1 : shCode f zs = 0) (h2 : stCode x = 0) (hu : Up ys) (hm : ∀ y ∈ ys, y ∈ sgL zs x) : vfCode f zs x ys = if (ys.length : Int) < 2 * f + 1 then 7 else 0 := by
  have hr : riseB ys = true := by unfold riseB; exact decide_eq_true hu
  have hg : rngAll f ys = true := by
    unfold rngAll
    rw [List.all_eq_true]
    intro y hy
    have := (sh_ok h1).2.2 _ ((mem_sgL zs x y).1 (hm y hy))
    exact this.1
  have hs : sgdAll zs x ys = true := by
    unfold sgdAll
    rw [List.all_eq_true]
    intro y hy
    exact hasSh_iff.2 ((mem_sgL zs x y).1 (hm y hy))
  unfold vfCode
  rw [if_pos h1, if_pos h2]
  unfold sfCode
  rw [if_pos hr, if_pos hg]
  by_cases q : (ys.length : Int) < 2 * f + 1
  · rw [if_pos q, if_neg (by decide)]
  · rw [if_neg q, if_pos rfl, if_pos hs]

theorem cb_facts {f : Int} {zs : List ShI} {x : StI} (h : cbCode f zs x = 0) : 1 ≤ f ∧ f ≤ 2 ∧ zs.length ≤ 120 ∧ cbX f zs x = x ∧ (cbL f zs x).length = (2 * f + 1).toNat ∧ sgCode zs x = 0 ∧ sgRes zs x = sgL zs x ∧ vfCode f zs x (cbL f zs x) = 0 ∧ vfCode f zs x ((cbL f zs x).drop 1) = 7 ∧ (∀ y ∈ cbL f zs x, y ∈ sgL zs x) ∧ (cbL f zs x).length ≤ (sgL zs x).length := by
  obtain ⟨h1, h2, h3⟩ := cb_zero h
  obtain ⟨hf, hn, _⟩ := sh_ok h1
  have hf' : 1 ≤ f ∧ f ≤ 2 := by simpa [inR] using hf
  have hL : cbL f zs x = (sgL zs x).take (2 * f + 1).toNat := by unfold cbL; rw [if_pos h]
  have hX : cbX f zs x = x := by unfold cbX; rw [if_pos h]
  have hl : (cbL f zs x).length = (2 * f + 1).toNat := by rw [hL, List.length_take]; omega
  have hc : sgCode zs x = 0 := by unfold sgCode; rw [if_neg (by omega), h2]
  have hR : sgRes zs x = sgL zs x := by unfold sgRes; rw [if_pos hc]
  have hm : ∀ y ∈ cbL f zs x, y ∈ sgL zs x := fun y hy => by rw [hL] at hy; exact List.mem_of_mem_take hy
  have hu : Up (cbL f zs x) := by rw [hL]; exact up_take (sgL_up zs x) _
  refine ⟨hf'.1, hf'.2, hn, hX, hl, hc, hR, ?_, ?_, hm, by omega⟩
  · rw [vf_of h1 h2 hu hm, if_neg (by omega)]
  · rw [vf_of h1 h2 (up_drop hu 1) (fun y hy => hm y (List.mem_of_mem_drop hy)), if_pos (by rw [List.length_drop]; omega)]

end Go.Proofs.Ytdfhebmecbcegaa
