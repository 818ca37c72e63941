/- Contracts. -/
import Derived.Test.YtfkajnenniapaaaGreatPr02
namespace Go.Proofs.YtfkajnenniapaaaGreat
set_option maxRecDepth 100000
set_option maxHeartbeats 8000000
open Go.RowKit
set_option linter.unusedVariables false
set_option linter.unusedSimpArgs false

theorem code_1 (r : RuleI) (h : r.k = 1) (hr : roleB r.ho r.hn = true) (hb : bareB r = true) : ruleCode r = if prinB r.w = true then 0 else 3 := by
 have : 1 ≤ r.k ∧ r.k ≤ 4 := by omega
 have e : hasB r = prinB r.w := by simp [hasB, h]
 simp [ruleCode, this, hr, hb, e]
 cases prinB r.w <;> rfl
theorem code_2 (r : RuleI) (h : r.k = 2) (hr : roleB r.ho r.hn = true) (hb : bareB r = true) : ruleCode r = if roleB r.oo r.on = true then 0 else 3 := by
 have : 1 ≤ r.k ∧ r.k ≤ 4 := by omega
 have e : hasB r = roleB r.oo r.on := by simp [hasB, h]
 simp [ruleCode, this, hr, hb, e]
 cases roleB r.oo r.on <;> rfl
theorem code_3 (r : RuleI) (h : r.k = 3) (hr : roleB r.ho r.hn = true) (hb : bareB r = true) : ruleCode r = if (roleB r.oo r.on && nameB r.tn) = true then 0 else 3 := by
 have : 1 ≤ r.k ∧ r.k ≤ 4 := by omega
 have e : hasB r = (roleB r.oo r.on && nameB r.tn) := by simp [hasB, h]
 simp only [ruleCode, this, hr, hb, e]
 cases roleB r.oo r.on <;> cases nameB r.tn <;> rfl
theorem code_4 (r : RuleI) (h : r.k = 4) (hr : roleB r.ho r.hn = true) (hb : bareB r = true) : ruleCode r = if (roleB r.oo r.on && roleB r.to r.tn) = true then 0 else 3 := by
 have : 1 ≤ r.k ∧ r.k ≤ 4 := by omega
 have e : hasB r = (roleB r.oo r.on && roleB r.to r.tn) := by simp [hasB, h]
 simp only [ruleCode, this, hr, hb, e]
 cases roleB r.oo r.on <;> cases roleB r.to r.tn <;> rfl
theorem l2Rule_c (g off : Nat) (r : RuleI) (w : World) (h : RuleAt w g off r) :
  Calls Tryz.prog 128 #[.pointer (some ⟨g, off, none⟩)] w fun e w' => e = .returned (.int .i64 (ruleCode r)) ∧ Below w.heap.size w w' := by
 have hB : Hid (∀ w' : World, Below w.heap.size w w' → 1 ≤ r.k ∧ r.k ≤ 4 → Calls Tryz.prog 144 #[.pointer (some ⟨g, off, none⟩)] w' fun e w'' => e = .returned (.bool (bareB r)) ∧ Below w'.heap.size w' w'') := fun w' hb hk => l2Bare_c g off r w' (h.below hb) hk
 have hX : Hid (RuleAt w g off r) := h
 clear h
 by_cases hk : 1 ≤ r.k ∧ r.k ≤ 4
 ·have HK : Hid (1 ≤ r.k ∧ r.k ≤ 4) := hk
  cases hr : roleB r.ho r.hn
  ·have E : Hid (ruleCode r = 3) := by show ruleCode r = 3; simp [ruleCode, hk, hr]
   clear hB
   obtain ⟨k, ho, hn, wh, oo, on, tw, tn⟩ := r
   have hb : Below w.heap.size w w := Below.refl _ _
   obtain ⟨h0, h1, h2, h3, h4, h5, h6, h7⟩ := hX.out.below hb
   simp only at h0 h1 h2 h3 h4 h5 h6 h7
   simp only at hk hr 
   go_enter Tryz.func128, Tryz.ntmps128
   go_wp2_with (first | (go_at_call 129; refine (l2Role_c _ _ _).mono ?_; rintro e w1 ⟨rfl, hb1⟩; replace hb := hb.trans (hb1.mono hb.size); clear h0 h1 h2 h3 h4 h5 h6 h7 hb1; obtain ⟨h0, h1, h2, h3, h4, h5, h6, h7⟩ := hX.out.below hb; simp only at h0 h1 h2 h3 h4 h5 h6 h7; (first | rw [hr])) | go_in)
   go_ret
   exact ⟨by rw [E.out]; rfl, hb⟩
  ·cases hbr : bareB r
   ·have E : Hid (ruleCode r = 1) := by show ruleCode r = 1; simp [ruleCode, hk, hr, hbr]
    rw [hbr] at hB
    clear hbr
    obtain ⟨k, ho, hn, wh, oo, on, tw, tn⟩ := r
    have hb : Below w.heap.size w w := Below.refl _ _
    obtain ⟨h0, h1, h2, h3, h4, h5, h6, h7⟩ := hX.out.below hb
    simp only at h0 h1 h2 h3 h4 h5 h6 h7
    simp only at hk hr 
    go_enter Tryz.func128, Tryz.ntmps128
    go_wp2_with (first | (go_at_call 129; refine (l2Role_c _ _ _).mono ?_; rintro e w1 ⟨rfl, hb1⟩; replace hb := hb.trans (hb1.mono hb.size); clear h0 h1 h2 h3 h4 h5 h6 h7 hb1; obtain ⟨h0, h1, h2, h3, h4, h5, h6, h7⟩ := hX.out.below hb; simp only at h0 h1 h2 h3 h4 h5 h6 h7; (first | rw [hr])) | (go_at_call 144; refine (hB.out _ hb HK.out).mono ?_; rintro e w1 ⟨rfl, hb1⟩; replace hb := hb.trans (hb1.mono hb.size); clear h0 h1 h2 h3 h4 h5 h6 h7 hb1; obtain ⟨h0, h1, h2, h3, h4, h5, h6, h7⟩ := hX.out.below hb; simp only at h0 h1 h2 h3 h4 h5 h6 h7) | go_in)
    go_ret
    exact ⟨by rw [E.out]; rfl, hb⟩
   ·have hk' : r.k = 1 ∨ r.k = 2 ∨ r.k = 3 ∨ r.k = 4 := by omega
    rw [hbr] at hB
    rcases hk' with e | e | e | e
    ·have E2 := code_1 r e hr hbr
     clear hbr
     cases hq : roleB r.oo r.on <;> cases hp : prinB r.w
     all_goals
      rw [hp] at E2
      have E : Hid (ruleCode r = _) := E2
      clear E2
      obtain ⟨k, ho, hn, wh, oo, on, tw, tn⟩ := r
      have hb : Below w.heap.size w w := Below.refl _ _
      obtain ⟨h0, h1, h2, h3, h4, h5, h6, h7⟩ := hX.out.below hb
      simp only at h0 h1 h2 h3 h4 h5 h6 h7
      simp only at hk hr hq hp e
      subst e
      go_enter Tryz.func128, Tryz.ntmps128
      go_wp2_with (first | (go_at_call 129; refine (l2Role_c _ _ _).mono ?_; rintro e w1 ⟨rfl, hb1⟩; replace hb := hb.trans (hb1.mono hb.size); clear h0 h1 h2 h3 h4 h5 h6 h7 hb1; obtain ⟨h0, h1, h2, h3, h4, h5, h6, h7⟩ := hX.out.below hb; simp only at h0 h1 h2 h3 h4 h5 h6 h7; (first | rw [hr] | rw [hq])) | (go_at_call 144; refine (hB.out _ hb HK.out).mono ?_; rintro e w1 ⟨rfl, hb1⟩; replace hb := hb.trans (hb1.mono hb.size); clear h0 h1 h2 h3 h4 h5 h6 h7 hb1; obtain ⟨h0, h1, h2, h3, h4, h5, h6, h7⟩ := hX.out.below hb; simp only at h0 h1 h2 h3 h4 h5 h6 h7) | (go_at_call 145; refine (l1Principal_c _ _).mono ?_; rintro e w1 ⟨rfl, rfl⟩; rw [hp]) | go_in)
      go_ret
      exact ⟨by rw [E.out]; rfl, hb⟩
    ·have E2 := code_2 r e hr hbr
     clear hbr
     cases hq : roleB r.oo r.on
     all_goals
      rw [hq] at E2
      have E : Hid (ruleCode r = _) := E2
      clear E2
      obtain ⟨k, ho, hn, wh, oo, on, tw, tn⟩ := r
      have hb : Below w.heap.size w w := Below.refl _ _
      obtain ⟨h0, h1, h2, h3, h4, h5, h6, h7⟩ := hX.out.below hb
      simp only at h0 h1 h2 h3 h4 h5 h6 h7
      simp only at hk hr hq e
      subst e
      go_enter Tryz.func128, Tryz.ntmps128
      go_wp2_with (first | (go_at_call 129; refine (l2Role_c _ _ _).mono ?_; rintro e w1 ⟨rfl, hb1⟩; replace hb := hb.trans (hb1.mono hb.size); clear h0 h1 h2 h3 h4 h5 h6 h7 hb1; obtain ⟨h0, h1, h2, h3, h4, h5, h6, h7⟩ := hX.out.below hb; simp only at h0 h1 h2 h3 h4 h5 h6 h7; (first | rw [hr] | rw [hq])) | (go_at_call 144; refine (hB.out _ hb HK.out).mono ?_; rintro e w1 ⟨rfl, hb1⟩; replace hb := hb.trans (hb1.mono hb.size); clear h0 h1 h2 h3 h4 h5 h6 h7 hb1; obtain ⟨h0, h1, h2, h3, h4, h5, h6, h7⟩ := hX.out.below hb; simp only at h0 h1 h2 h3 h4 h5 h6 h7) | go_in)
      go_ret
      exact ⟨by rw [E.out]; rfl, hb⟩
    ·have E2 := code_3 r e hr hbr
     clear hbr
     cases hq : roleB r.oo r.on <;> cases hp : nameB r.tn
     all_goals
      rw [hq, hp] at E2
      have E : Hid (ruleCode r = _) := E2
      clear E2
      obtain ⟨k, ho, hn, wh, oo, on, tw, tn⟩ := r
      have hb : Below w.heap.size w w := Below.refl _ _
      obtain ⟨h0, h1, h2, h3, h4, h5, h6, h7⟩ := hX.out.below hb
      simp only at h0 h1 h2 h3 h4 h5 h6 h7
      simp only at hk hr hq hp e
      subst e
      go_enter Tryz.func128, Tryz.ntmps128
      go_wp2_with (first | (go_at_call 129; refine (l2Role_c _ _ _).mono ?_; rintro e w1 ⟨rfl, hb1⟩; replace hb := hb.trans (hb1.mono hb.size); clear h0 h1 h2 h3 h4 h5 h6 h7 hb1; obtain ⟨h0, h1, h2, h3, h4, h5, h6, h7⟩ := hX.out.below hb; simp only at h0 h1 h2 h3 h4 h5 h6 h7; (first | rw [hr] | rw [hq])) | (go_at_call 144; refine (hB.out _ hb HK.out).mono ?_; rintro e w1 ⟨rfl, hb1⟩; replace hb := hb.trans (hb1.mono hb.size); clear h0 h1 h2 h3 h4 h5 h6 h7 hb1; obtain ⟨h0, h1, h2, h3, h4, h5, h6, h7⟩ := hX.out.below hb; simp only at h0 h1 h2 h3 h4 h5 h6 h7) | (go_at_call 146; refine (l2Name_c _ _).mono ?_; rintro e w1 ⟨rfl, rfl⟩; rw [hp]) | go_in)
      go_ret
      exact ⟨by rw [E.out]; rfl, hb⟩
    ·have E2 := code_4 r e hr hbr
     clear hbr
     cases hq : roleB r.oo r.on <;> cases ht : roleB r.to r.tn
     all_goals
      rw [hq, ht] at E2
      have E : Hid (ruleCode r = _) := E2
      clear E2
      obtain ⟨k, ho, hn, wh, oo, on, tw, tn⟩ := r
      have hb : Below w.heap.size w w := Below.refl _ _
      obtain ⟨h0, h1, h2, h3, h4, h5, h6, h7⟩ := hX.out.below hb
      simp only at h0 h1 h2 h3 h4 h5 h6 h7
      simp only at hk hr hq ht e
      subst e
      go_enter Tryz.func128, Tryz.ntmps128
      go_wp2_with (first | (go_at_call 129; refine (l2Role_c _ _ _).mono ?_; rintro e w1 ⟨rfl, hb1⟩; replace hb := hb.trans (hb1.mono hb.size); clear h0 h1 h2 h3 h4 h5 h6 h7 hb1; obtain ⟨h0, h1, h2, h3, h4, h5, h6, h7⟩ := hX.out.below hb; simp only at h0 h1 h2 h3 h4 h5 h6 h7; (first | rw [hr] | rw [hq] | rw [ht])) | (go_at_call 144; refine (hB.out _ hb HK.out).mono ?_; rintro e w1 ⟨rfl, hb1⟩; replace hb := hb.trans (hb1.mono hb.size); clear h0 h1 h2 h3 h4 h5 h6 h7 hb1; obtain ⟨h0, h1, h2, h3, h4, h5, h6, h7⟩ := hX.out.below hb; simp only at h0 h1 h2 h3 h4 h5 h6 h7) | go_in)
      go_ret
      exact ⟨by rw [E.out]; rfl, hb⟩
 ·have E : Hid (ruleCode r = 1) := by show ruleCode r = 1; simp [ruleCode, hk]
  clear hB
  obtain ⟨k, ho, hn, wh, oo, on, tw, tn⟩ := r
  obtain ⟨h0, h1, h2, h3, h4, h5, h6, h7⟩ := hX.out
  simp only at h0 h1 h2 h3 h4 h5 h6 h7 hk
  by_cases k1 : 1 ≤ k
  ·have k4 : decide (k ≤ 4) = false := by simp; omega
   go_enter Tryz.func128, Tryz.ntmps128
   go_wp2
   go_ret
   exact ⟨by rw [E.out]; rfl, Below.refl _ _⟩
  ·have k4 : decide (1 ≤ k) = false := by simp; omega
   go_enter Tryz.func128, Tryz.ntmps128
   go_wp2
   go_ret
   exact ⟨by rw [E.out]; rfl, Below.refl _ _⟩

end Go.Proofs.YtfkajnenniapaaaGreat
