/- Contracts. -/
import Derived.Test.YtfkajnenniapaaaGreatPt04
namespace Go.Proofs.YtfkajnenniapaaaGreat
set_option maxRecDepth 100000
set_option maxHeartbeats 8000000
open Go.RowKit
set_option linter.unusedVariables false
set_option linter.unusedSimpArgs false

theorem code_1 (r : RuleI) (h : r.k = 1) (hr : roleB r.ho r.hn = true) (hb : bareB r = true) : ruleCode r = if prinB r.w = true then 0 else 3 := by
 have : 1 ≤ r.k ∧ r.k ≤ 4 := by omega
 have e : hasB r = prinB r.w := by simp [hasB, h]
 simp [ruleCode, this, hr, hb, e]
 cases prinB r.w <;> rfl
theorem code_2 (r : RuleI) (h : r.k = 2) (hr : roleB r.ho r.hn = true) (hb : bareB r = true) : ruleCode r = if roleB r.oo r.on = true then 0 else 3 := by
 have : 1 ≤ r.k ∧ r.k ≤ 4 := by omega
 have e : hasB r = roleB r.oo r.on := by simp [hasB, h]
 simp [ruleCode, this, hr, hb, e]
 cases roleB r.oo r.on <;> rfl
theorem code_3 (r : RuleI) (h : r.k = 3) (hr : roleB r.ho r.hn = true) (hb : bareB r = true) : ruleCode r = if (roleB r.oo r.on && nameB r.tn) = true then 0 else 3 := by
 have : 1 ≤ r.k ∧ r.k ≤ 4 := by omega
 have e : hasB r = (roleB r.oo r.on && nameB r.tn) := by simp [hasB, h]
 simp only [ruleCode, this, hr, hb, e]
 cases roleB r.oo r.on <;> cases nameB r.tn <;> rfl
theorem code_4 (r : RuleI) (h : r.k = 4) (hr : roleB r.ho r.hn = true) (hb : bareB r = true) : ruleCode r = if (roleB r.oo r.on && roleB r.to r.tn) = true then 0 else 3 := by
 have : 1 ≤ r.k ∧ r.k ≤ 4 := by omega
 have e : hasB r = (roleB r.oo r.on && roleB r.to r.tn) := by simp [hasB, h]
 simp only [ruleCode, this, hr, hb, e]
 cases roleB r.oo r.on <;> cases roleB r.to r.tn <;> rfl
theorem l2Rule_c (g off : Nat) (r : RuleI) (w : World) (h : RuleAt w g off r) :
  Calls Tryz.prog 128 #[.pointer (some ⟨g, off, none⟩)] w fun e w' => e = .returned (.int .i64 (ruleCode r)) ∧ Below w.heap.size w w' := by
 have hB : Hid (∀ w' : World, Below w.heap.size w w' → 1 ≤ r.k ∧ r.k ≤ 4 → Calls Tryz.prog 144 #[.pointer (some ⟨g, off, none⟩)] w' fun e w'' => e = .returned (.bool (bareB r)) ∧ Below w'.heap.size w' w'') := fun w' hb hk => l2Bare_c g off r w' (h.below hb) hk
 have hX : Hid (RuleAt w g off r) := h
 clear h
 by_cases hk : 1 ≤ r.k ∧ r.k ≤ 4
 ·have HK : Hid (1 ≤ r.k ∧ r.k ≤ 4) := hk
  cases hr : roleB r.ho r.hn
  ·have E : Hid (ruleCode r = 3) := by show ruleCode r = 3; simp [ruleCode, hk, hr]
   clear hB
   obtain ⟨k, ho, hn, wh, oo, on, tw, tn⟩ := r
   have hb : Below w.heap.size w w := Below.refl _ _
   obtain ⟨h0, h1, h2, h3, h4, h5, h6, h7⟩ := hX.out.below hb
   simp only at h0 h1 h2 h3 h4 h5 h6 h7
   simp only at hk hr 
   go_enter Tryz.func128, Tryz.ntmps128
   go_wp2_with (first | (go_at_call 129; refine (l2Role_c _ _ _).mono ?_; rintro e w1 ⟨rfl, hb1⟩; replace hb := hb.trans (hb1.mono hb.size); clear h0 h1 h2 h3 h4 h5 h6 h7 hb1; obtain ⟨h0, h1, h2, h3, h4, h5, h6, h7⟩ := hX.out.below hb; simp only at h0 h1 h2 h3 h4 h5 h6 h7; (first | rw [hr])) | go_in)
   go_ret
   exact ⟨by rw [E.out]; rfl, hb⟩
  ·cases hbr : bareB r
   ·have E : Hid (ruleCode r = 1) := by show ruleCode r = 1; simp [ruleCode, hk, hr, hbr]
    rw [hbr] at hB
    clear hbr
    obtain ⟨k, ho, hn, wh, oo, on, tw, tn⟩ := r
    have hb : Below w.heap.size w w := Below.refl _ _
    obtain ⟨h0, h1, h2, h3, h4, h5, h6, h7⟩ := hX.out.below hb
    simp only at h0 h1 h2 h3 h4 h5 h6 h7
    simp only at hk hr 
    go_enter Tryz.func128, Tryz.ntmps128
    go_wp2_with (first | (go_at_call 129; refine (l2Role_c _ _ _).mono ?_; rintro e w1 ⟨rfl, hb1⟩; replace hb := hb.trans (hb1.mono hb.size); clear h0 h1 h2 h3 h4 h5 h6 h7 hb1; obtain ⟨h0, h1, h2, h3, h4, h5, h6, h7⟩ := hX.out.below hb; simp only at h0 h1 h2 h3 h4 h5 h6 h7; (first | rw [hr])) | (go_at_call 144; refine (hB.out _ hb HK.out).mono ?_; rintro e w1 ⟨rfl, hb1⟩; replace hb := hb.trans (hb1.mono hb.size); clear h0 h1 h2 h3 h4 h5 h6 h7 hb1; obtain ⟨h0, h1, h2, h3, h4, h5, h6, h7⟩ := hX.out.below hb; simp only at h0 h1 h2 h3 h4 h5 h6 h7) | go_in)
    go_ret
    exact ⟨by rw [E.out]; rfl, hb⟩
   ·have hk' : r.k = 1 ∨ r.k = 2 ∨ r.k = 3 ∨ r.k = 4 := by omega
    rw [hbr] at hB
    rcases hk' with e | e | e | e
    ·have E2 := code_1 r e hr hbr
     clear hbr
     cases hq : roleB r.oo r.on <;> cases hp : prinB r.w
     all_goals
      rw [hp] at E2
      have E : Hid (ruleCode r = _) := E2
      clear E2
      obtain ⟨k, ho, hn, wh, oo, on, tw, tn⟩ := r
      have hb : Below w.heap.size w w := Below.refl _ _
      obtain ⟨h0, h1, h2, h3, h4, h5, h6, h7⟩ := hX.out.below hb
      simp only at h0 h1 h2 h3 h4 h5 h6 h7
      simp only at hk hr hq hp e
      subst e
      go_enter Tryz.func128, Tryz.ntmps128
      go_wp2_with (first | (go_at_call 129; refine (l2Role_c _ _ _).mono ?_; rintro e w1 ⟨rfl, hb1⟩; replace hb := hb.trans (hb1.mono hb.size); clear h0 h1 h2 h3 h4 h5 h6 h7 hb1; obtain ⟨h0, h1, h2, h3, h4, h5, h6, h7⟩ := hX.out.below hb; simp only at h0 h1 h2 h3 h4 h5 h6 h7; (first | rw [hr] | rw [hq])) | (go_at_call 144; refine (hB.out _ hb HK.out).mono ?_; rintro e w1 ⟨rfl, hb1⟩; replace hb := hb.trans (hb1.mono hb.size); clear h0 h1 h2 h3 h4 h5 h6 h7 hb1; obtain ⟨h0, h1, h2, h3, h4, h5, h6, h7⟩ := hX.out.below hb; simp only at h0 h1 h2 h3 h4 h5 h6 h7) | (go_at_call 145; refine (l1Principal_c _ _).mono ?_; rintro e w1 ⟨rfl, rfl⟩; rw [hp]) | go_in)
      go_ret
      exact ⟨by rw [E.out]; rfl, hb⟩
    ·have E2 := code_2 r e hr hbr
     clear hbr
     cases hq : roleB r.oo r.on
     all_goals
      rw [hq] at E2
      have E : Hid (ruleCode r = _) := E2
      clear E2
      obtain ⟨k, ho, hn, wh, oo, on, tw, tn⟩ := r
      have hb : Below w.heap.size w w := Below.refl _ _
      obtain ⟨h0, h1, h2, h3, h4, h5, h6, h7⟩ := hX.out.below hb
      simp only at h0 h1 h2 h3 h4 h5 h6 h7
      simp only at hk hr hq e
      subst e
      go_enter Tryz.func128, Tryz.ntmps128
      go_wp2_with (first | (go_at_call 129; refine (l2Role_c _ _ _).mono ?_; rintro e w1 ⟨rfl, hb1⟩; replace hb := hb.trans (hb1.mono hb.size); clear h0 h1 h2 h3 h4 h5 h6 h7 hb1; obtain ⟨h0, h1, h2, h3, h4, h5, h6, h7⟩ := hX.out.below hb; simp only at h0 h1 h2 h3 h4 h5 h6 h7; (first | rw [hr] | rw [hq])) | (go_at_call 144; refine (hB.out _ hb HK.out).mono ?_; rintro e w1 ⟨rfl, hb1⟩; replace hb := hb.trans (hb1.mono hb.size); clear h0 h1 h2 h3 h4 h5 h6 h7 hb1; obtain ⟨h0, h1, h2, h3, h4, h5, h6, h7⟩ := hX.out.below hb; simp only at h0 h1 h2 h3 h4 h5 h6 h7) | go_in)
      go_ret
      exact ⟨by rw [E.out]; rfl, hb⟩
    ·have E2 := code_3 r e hr hbr
     clear hbr
     cases hq : roleB r.oo r.on <;> cases hp : nameB r.tn
     all_goals
      rw [hq, hp] at E2
      have E : Hid (ruleCode r = _) := E2
      clear E2
      obtain ⟨k, ho, hn, wh, oo, on, tw, tn⟩ := r
      have hb : Below w.heap.size w w := Below.refl _ _
      obtain ⟨h0, h1, h2, h3, h4, h5, h6, h7⟩ := hX.out.below hb
      simp only at h0 h1 h2 h3 h4 h5 h6 h7
      simp only at hk hr hq hp e
      subst e
      go_enter Tryz.func128, Tryz.ntmps128
      go_wp2_with (first | (go_at_call 129; refine (l2Role_c _ _ _).mono ?_; rintro e w1 ⟨rfl, hb1⟩; replace hb := hb.trans (hb1.mono hb.size); clear h0 h1 h2 h3 h4 h5 h6 h7 hb1; obtain ⟨h0, h1, h2, h3, h4, h5, h6, h7⟩ := hX.out.below hb; simp only at h0 h1 h2 h3 h4 h5 h6 h7; (first | rw [hr] | rw [hq])) | (go_at_call 144; refine (hB.out _ hb HK.out).mono ?_; rintro e w1 ⟨rfl, hb1⟩; replace hb := hb.trans (hb1.mono hb.size); clear h0 h1 h2 h3 h4 h5 h6 h7 hb1; obtain ⟨h0, h1, h2, h3, h4, h5, h6, h7⟩ := hX.out.below hb; simp only at h0 h1 h2 h3 h4 h5 h6 h7) | (go_at_call 146; refine (l2Name_c _ _).mono ?_; rintro e w1 ⟨rfl, rfl⟩; rw [hp]) | go_in)
      go_ret
      exact ⟨by rw [E.out]; rfl, hb⟩
    ·have E2 := code_4 r e hr hbr
     clear hbr
     cases hq : roleB r.oo r.on <;> cases ht : roleB r.to r.tn
     all_goals
      rw [hq, ht] at E2
      have E : Hid (ruleCode r = _) := E2
      clear E2
      obtain ⟨k, ho, hn, wh, oo, on, tw, tn⟩ := r
      have hb : Below w.heap.size w w := Below.refl _ _
      obtain ⟨h0, h1, h2, h3, h4, h5, h6, h7⟩ := hX.out.below hb
      simp only at h0 h1 h2 h3 h4 h5 h6 h7
      simp only at hk hr hq ht e
      subst e
      go_enter Tryz.func128, Tryz.ntmps128
      go_wp2_with (first | (go_at_call 129; refine (l2Role_c _ _ _).mono ?_; rintro e w1 ⟨rfl, hb1⟩; replace hb := hb.trans (hb1.mono hb.size); clear h0 h1 h2 h3 h4 h5 h6 h7 hb1; obtain ⟨h0, h1, h2, h3, h4, h5, h6, h7⟩ := hX.out.below hb; simp only at h0 h1 h2 h3 h4 h5 h6 h7; (first | rw [hr] | rw [hq] | rw [ht])) | (go_at_call 144; refine (hB.out _ hb HK.out).mono ?_; rintro e w1 ⟨rfl, hb1⟩; replace hb := hb.trans (hb1.mono hb.size); clear h0 h1 h2 h3 h4 h5 h6 h7 hb1; obtain ⟨h0, h1, h2, h3, h4, h5, h6, h7⟩ := hX.out.below hb; simp only at h0 h1 h2 h3 h4 h5 h6 h7) | go_in)
      go_ret
      exact ⟨by rw [E.out]; rfl, hb⟩
 ·have E : Hid (ruleCode r = 1) := by show ruleCode r = 1; simp [ruleCode, hk]
  clear hB
  obtain ⟨k, ho, hn, wh, oo, on, tw, tn⟩ := r
  obtain ⟨h0, h1, h2, h3, h4, h5, h6, h7⟩ := hX.out
  simp only at h0 h1 h2 h3 h4 h5 h6 h7 hk
  by_cases k1 : 1 ≤ k
  ·have k4 : decide (k ≤ 4) = false := by simp; omega
   go_enter Tryz.func128, Tryz.ntmps128
   go_wp2
   go_ret
   exact ⟨by rw [E.out]; rfl, Below.refl _ _⟩
  ·have k4 : decide (1 ≤ k) = false := by simp; omega
   go_enter Tryz.func128, Tryz.ntmps128
   go_wp2
   go_ret
   exact ⟨by rw [E.out]; rfl, Below.refl _ _⟩

section
attribute [local go_sem ↓] rule_eql
theorem l2Fault_many (a : Option Addr) (n cap : Nat) (w : World) (hn : n ≤ 1048576) (h16 : 16 < n) :
  Calls Tryz.prog 110 #[.slice a n cap] w fun e w' => e = .returned (.int .i64 2) ∧ Below w.heap.size w w' := by
 have h' : (16 : Int) < (n : Int) := by omega
 go_enter Tryz.func110, Tryz.ntmps110
 go_wp2
 go_ret
 exact ⟨rfl, Below.refl _ _⟩
theorem l2Fault_few (a : Option Addr) (n cap : Nat) (zs : List RuleI) (c : Int) (w : World) (h16 : n ≤ 16) (h : RulesIn w a n zs) (hc : polTo zs n = c) :
  Calls Tryz.prog 110 #[.slice a n cap] w fun e w' => e = .returned (.int .i64 c) ∧ Below w.heap.size w w' := by
 have H : Hid (RulesIn w a n zs) := h
 have hz : Hid (zs.length = n) := h.1
 have HC : Hid (polTo zs n = c) := hc
 clear h hc
 have h' : ¬ ((16 : Int) < (n : Int)) := by omega
 go_enter Tryz.func110, Tryz.ntmps110
 go_wp2
 go_loopw [3] (fun i wr => ∃ k : Nat, k ≤ n ∧ i = .int .i64 (k : Int) ∧ polTo zs k = 0 ∧ Below w.heap.size w wr) (fun i _ => n - (intOf i).toNat)
 case atStart => exact ⟨0, Nat.zero_le _, rfl, rfl, Below.refl _ _⟩
 case round =>
  obtain ⟨k, hk, rfl, hp, hnx⟩ := hrel
  have HP : Hid (polTo zs k = 0) := hp
  clear hp
  by_cases hlt : k < n
  ·obtain ⟨b, off, r, rfl, hs, hr⟩ := H.out.at hlt
   have HS : Hid (zs[k]? = some r) := hs
   clear hs
   have hr1 : Hid (RuleAt wr b (off + k * 8) r) := hr.below hnx
   clear hr
   have hlt' : (k : Int) < (n : Int) := by omega
   go_wp2_with fail
   refine (l2Rule_c b (off + k * 8) r _ hr1.out).mono ?_
   rintro e w1 ⟨rfl, hb1⟩
   have hnx1 : Below w.heap.size w w1 := hnx.trans (hb1.mono hnx.size)
   have hr2 : Hid (RuleAt w1 b (off + k * 8) r) := hr1.out.below hb1
   clear hr1 hb1 hnx
   by_cases hcode : ruleCode r = 0
   ·rw [hcode]
    have HO : Hid (ruleCode r = 0) := hcode
    clear hcode
    go_wp2
    go_loopw [5] (fun i2 wq => ∃ j : Nat, j ≤ k ∧ i2 = .int .i64 (j : Int) ∧ ¬ r ∈ zs.take j ∧ ∃ m, wq = w1.drewN m) (fun i2 _ => k - (intOf i2).toNat)
    case atStart => exact ⟨0, Nat.zero_le _, rfl, by simp, 0, rfl⟩
    case round =>
     obtain ⟨j, hj, rfl, hm, m, rfl⟩ := hrel
     have HM : Hid (¬ r ∈ zs.take j) := hm
     clear hm
     by_cases hjk : j < k
     ·obtain ⟨s, hs2, hq⟩ := H.out.here (show j < n by omega)
      have HS2 : Hid (zs[j]? = some s) := hs2
      clear hs2
      obtain ⟨h0, h1, h2, h3, h4, h5, h6, h7⟩ := hr2.out
      obtain ⟨g0, g1, g2, g3, g4, g5, g6, g7⟩ := hq.below hnx1
      clear hq
      have hjk' : (j : Int) < (k : Int) := by omega
      cases hsame : sameB s r
      ·have HF : Hid (sameB s r = false) := hsame
       have HN : Hid (¬ r ∈ zs.take (j + 1)) := by
        show ¬ r ∈ zs.take (j + 1)
        rw [mem_take_iff]
        rintro ⟨i, hi, his⟩
        by_cases e : i = j
        ·subst e
         rw [HS2.out] at his
         simp [sameB] at hsame
         exact hsame (Option.some.inj his)
        ·exact HM.out ((mem_take_iff _ _ _).2 ⟨i, by omega, his⟩)
       clear hsame
       have hsame : sameB s r = false := HF.out
       go_wp2
       go_quiet (fail)
       go_wp2
       exact ⟨⟨j + 1, by omega, by go_num, HN.out, _, rfl⟩, by simp [intOf]; omega⟩
      ·have HI : Hid (c = 6) := by
        show c = 6
        simp [sameB] at hsame
        subst hsame
        exact HC.out.symm.trans (polTo_stay zs (k + 1) n 6 (by decide) (polTo_same zs k s HS.out HP.out HO.out ((mem_take_iff _ _ _).2 ⟨j, hjk, HS2.out⟩)) (by omega))
       go_wp2
       go_quiet (fail)
       go_wp2
       go_ret
       exact ⟨by rw [HI.out]; rfl, by first | exact bdN hnx1 _ | exact bdN (bdN hnx1 _) _⟩
     ·have hjn : j = k := by omega
      subst hjn
      have HN : Hid (polTo zs (j + 1) = 0) := polTo_good zs j r HS.out HP.out HO.out HM.out
      go_wp2
      exact ⟨⟨j + 1, by omega, by go_num, HN.out, by first | exact hnx1 | exact bdN hnx1 _⟩, by simp [intOf]; omega⟩
   ·have E : Hid (c = ruleCode r) := (HC.out.symm.trans (polTo_stay zs (k + 1) n _ hcode (polTo_bad zs k r HS.out HP.out hcode) (by omega)))
    obtain ⟨d, hd⟩ : ∃ d, d = ruleCode r := ⟨_, rfl⟩
    rw [← hd] at hcode E ⊢
    clear hd
    have hne : (d != 0) = true := by simpa using hcode
    go_wp2
    go_ret
    exact ⟨by rw [E.out]; rfl, hnx1⟩
  ·have hkn : k = n := by omega
   subst hkn
   have E : Hid (c = 0) := HC.out.symm.trans HP.out
   go_wp2
   go_ret
   exact ⟨by rw [E.out]; rfl, hnx⟩
theorem l2Fault_c (a : Option Addr) (n cap : Nat) (zs : List RuleI) (w : World) (hn : n ≤ 1048576) (h : RulesIn w a n zs) :
  Calls Tryz.prog 110 #[.slice a n cap] w fun e w' => e = .returned (.int .i64 (polCode zs)) ∧ Below w.heap.size w w' := by
 have hz := h.1
 by_cases h16 : 16 < n
 ·have e : polCode zs = 2 := by simp [polCode, hz, h16]
  rw [e]
  exact l2Fault_many a n cap w hn h16
 ·have e : polCode zs = polTo zs n := by simp [polCode, hz, h16]
  rw [e]
  exact l2Fault_few a n cap zs _ w (by omega) h rfl
end

end Go.Proofs.YtfkajnenniapaaaGreat
