/-
  CONTRACTS: spec.l2Fault, spec.PolicyFault.
  Conditions: each contract bears its own.
  CONTRACTS: slices.Index and slices.Contains over rules.
  Conditions: each contract bears its own.
  CONTRACT: impl.PolicyFault.
  Conditions: each contract bears its own.
  CONTRACTS: ConfigFault of both programs, and what its parts ask; NeedOf and ReplicasOf.
  Conditions: each contract bears its own.
-/
import Derived.Test.YtnfolmjdicfobaaGreatDoorPc03
import Derived.Test.YtnfolmjdicfobaaGreatDoorPc08
import Derived.Deep.RegionHeld3
import Derived.Test.YtnfolmjdicfobaaGreatDoorPc11
import Derived.Test.YtnfolmjdicfobaaGreatDoorPc05
namespace Go.Proofs.YtnfolmjdicfobaaGreatDoor
open Go.RowKit
set_option linter.unusedVariables false
set_option linter.unusedSimpArgs false
attribute [local go_sem ↓] rule_eql

set_option maxHeartbeats 1000000 in
theorem l2Fault_many (a : Option Addr) (n cap : Nat) (w : World) (hn : n ≤ 1048576) (h16 : 16 < n) :
    Calls Tryz.prog 71 #[.slice a n cap] w fun e w' => e = .returned (.int .i64 2) ∧ Below w.heap.size w w' := by
  have h' : (16 : Int) < (n : Int) := by omega
  go_enter Tryz.func71, Tryz.ntmps71
  go_wp2
  go_ret
  exact ⟨rfl, Below.refl _ _⟩

set_option maxHeartbeats 2000000 in
theorem l2Fault_few (a : Option Addr) (n cap : Nat) (zs : List RuleI) (c : Int) (w : World) (h16 : n ≤ 16) (h : RulesIn w a n zs) (hc : polTo zs n = c) :
    Calls Tryz.prog 71 #[.slice a n cap] w fun e w' => e = .returned (.int .i64 c) ∧ Below w.heap.size w w' := by
  have H : Hid (RulesIn w a n zs) := h
  have hz : Hid (zs.length = n) := h.1
  have HC : Hid (polTo zs n = c) := hc
  clear h hc
  have h' : ¬ ((16 : Int) < (n : Int)) := by omega
  go_enter Tryz.func71, Tryz.ntmps71
  go_wp2
  go_loopw [3] (fun i wr => ∃ k : Nat, k ≤ n ∧ i = .int .i64 (k : Int) ∧ polTo zs k = 0 ∧ Below w.heap.size w wr) (fun i _ => n - (intOf i).toNat)
  case atStart => exact ⟨0, Nat.zero_le _, rfl, rfl, Below.refl _ _⟩
  case round =>
    obtain ⟨k, hk, rfl, hp, hnx⟩ := hrel
    have HP : Hid (polTo zs k = 0) := hp
    clear hp
    by_cases hlt : k < n
    · obtain ⟨b, off, r, rfl, hs, hr⟩ := H.out.at hlt
      have HS : Hid (zs[k]? = some r) := hs
      clear hs
      have hr1 : Hid (RuleAt wr b (off + k * 8) r) := hr.below hnx
      clear hr
      have hlt' : (k : Int) < (n : Int) := by omega
      go_wp2_with fail
      refine (l2Rule_c b (off + k * 8) r _ hr1.out).mono ?_
      rintro e w1 ⟨rfl, hb1⟩
      have hnx1 : Below w.heap.size w w1 := hnx.trans (hb1.mono hnx.size)
      have hr2 : Hid (RuleAt w1 b (off + k * 8) r) := hr1.out.below hb1
      clear hr1 hb1 hnx
      by_cases hcode : ruleCode r = 0
      · rw [hcode]
        have HO : Hid (ruleCode r = 0) := hcode
        clear hcode
        go_wp2
        go_loopw [5] (fun i2 wq => ∃ j : Nat, j ≤ k ∧ i2 = .int .i64 (j : Int) ∧ ¬ r ∈ zs.take j ∧ ∃ m, wq = w1.drewN m) (fun i2 _ => k - (intOf i2).toNat)
        case atStart => exact ⟨0, Nat.zero_le _, rfl, by simp, 0, rfl⟩
        case round =>
          obtain ⟨j, hj, rfl, hm, m, rfl⟩ := hrel
          have HM : Hid (¬ r ∈ zs.take j) := hm
          clear hm
          by_cases hjk : j < k
          · obtain ⟨s, hs2, hq⟩ := H.out.here (show j < n by omega)
            have HS2 : Hid (zs[j]? = some s) := hs2
            clear hs2
            obtain ⟨h0, h1, h2, h3, h4, h5, h6, h7⟩ := hr2.out
            obtain ⟨g0, g1, g2, g3, g4, g5, g6, g7⟩ := hq.below hnx1
            clear hq
            have hjk' : (j : Int) < (k : Int) := by omega
            cases hsame : sameB s r
            · have HF : Hid (sameB s r = false) := hsame
              have HN : Hid (¬ r ∈ zs.take (j + 1)) := by
                show ¬ r ∈ zs.take (j + 1)
                rw [mem_take_iff]
                rintro ⟨i, hi, his⟩
                by_cases e : i = j
                · subst e
                  rw [HS2.out] at his
                  simp [sameB] at hsame
                  exact hsame (Option.some.inj his)
                · exact HM.out ((mem_take_iff _ _ _).2 ⟨i, by omega, his⟩)
              clear hsame
              have hsame : sameB s r = false := HF.out
              go_wp2
              go_quiet (fail)
              go_wp2
              exact ⟨⟨j + 1, by omega, by go_num, HN.out, _, rfl⟩, by simp [intOf]; omega⟩
            · have HI : Hid (c = 6) := by
                show c = 6
                simp [sameB] at hsame
                subst hsame
                exact HC.out.symm.trans (polTo_stay zs (k + 1) n 6 (by decide) (polTo_same zs k s HS.out HP.out HO.out ((mem_take_iff _ _ _).2 ⟨j, hjk, HS2.out⟩)) (by omega))
              go_wp2
              go_quiet (fail)
              go_wp2
              go_ret
              exact ⟨by rw [HI.out]; rfl, by first | exact bdN hnx1 _ | exact bdN (bdN hnx1 _) _⟩
          · have hjn : j = k := by omega
            subst hjn
            have HN : Hid (polTo zs (j + 1) = 0) := polTo_good zs j r HS.out HP.out HO.out HM.out
            go_wp2
            exact ⟨⟨j + 1, by omega, by go_num, HN.out, by first | exact hnx1 | exact bdN hnx1 _⟩, by simp [intOf]; omega⟩
      · have E : Hid (c = ruleCode r) := (HC.out.symm.trans (polTo_stay zs (k + 1) n _ hcode (polTo_bad zs k r HS.out HP.out hcode) (by omega)))
        obtain ⟨d, hd⟩ : ∃ d, d = ruleCode r := ⟨_, rfl⟩
        rw [← hd] at hcode E ⊢
        clear hd
        have hne : (d != 0) = true := by simpa using hcode
        go_wp2
        go_ret
        exact ⟨by rw [E.out]; rfl, hnx1⟩
    · have hkn : k = n := by omega
      subst hkn
      have E : Hid (c = 0) := HC.out.symm.trans HP.out
      go_wp2
      go_ret
      exact ⟨by rw [E.out]; rfl, hnx⟩

theorem l2Fault_c (a : Option Addr) (n cap : Nat) (zs : List RuleI) (w : World) (hn : n ≤ 1048576) (h : RulesIn w a n zs) :
    Calls Tryz.prog 71 #[.slice a n cap] w fun e w' => e = .returned (.int .i64 (polCode zs)) ∧ Below w.heap.size w w' := by
  have hz := h.1
  by_cases h16 : 16 < n
  · have e : polCode zs = 2 := by simp [polCode, hz, h16]
    rw [e]
    exact l2Fault_many a n cap w hn h16
  · have e : polCode zs = polTo zs n := by simp [polCode, hz, h16]
    rw [e]
    exact l2Fault_few a n cap zs _ w (by omega) h rfl

end Go.Proofs.YtnfolmjdicfobaaGreatDoor

namespace Go.Proofs.YtnfolmjdicfobaaGreatDoor
open Go.RowKit
set_option linter.unusedVariables false
set_option linter.unusedSimpArgs false
attribute [local go_sem ↓] rule_eql

set_option maxHeartbeats 1000000 in
theorem slIndex_c (a : Option Addr) (n cap : Nat) (zs : List RuleI) (r : RuleI) (w : World) (hn : n ≤ 1048576) (h : RulesIn w a n zs) :
    Calls Tryz.prog 151 #[.slice a n cap, .agg #[.int .i64 r.k, .int .i64 r.ho, .int .i64 r.hn, .int .i64 r.w, .int .i64 r.oo, .int .i64 r.on, .int .i64 r.to, .int .i64 r.tn]] w fun e w' => (∃ i : Int, e = .returned (.int .i64 i) ∧ ((0 ≤ i ∧ r ∈ zs) ∨ (i = -1 ∧ ¬ r ∈ zs))) ∧ Below w.heap.size w w' := by
  have H : Hid (RulesIn w a n zs) := h
  have hz : Hid (zs.length = n) := h.1
  clear h
  have hn' : (n : Int) ≤ 1048576 := by omega
  have HB : Hid (RuleAt (w.alloc (.cells #[.int .i64 r.k, .int .i64 r.ho, .int .i64 r.hn, .int .i64 r.w, .int .i64 r.oo, .int .i64 r.on, .int .i64 r.to, .int .i64 r.tn] 81)) w.heap.size 0 r) := RuleAt.new w r _
  go_enter Tryz.func151, Tryz.ntmps151
  go_wp2
  go_loopw [8] (fun i wr => ∃ k : Nat, k ≤ n ∧ i = .int .i64 (k : Int) ∧ ¬ r ∈ zs.take k ∧ ∃ m, wr = (w.alloc (.cells #[.int .i64 r.k, .int .i64 r.ho, .int .i64 r.hn, .int .i64 r.w, .int .i64 r.oo, .int .i64 r.on, .int .i64 r.to, .int .i64 r.tn] 81)).drewN m) (fun i _ => n - (intOf i).toNat)
  case atStart => exact ⟨0, Nat.zero_le _, rfl, by simp, 0, rfl⟩
  case round =>
    obtain ⟨k, hk, rfl, hm, m, rfl⟩ := hrel
    have HM : Hid (¬ r ∈ zs.take k) := hm
    clear hm
    by_cases hlt : k < n
    · obtain ⟨b, off, s, rfl, hs, hr⟩ := H.out.at hlt
      have HS : Hid (zs[k]? = some s) := hs
      clear hs
      have hb : b < w.heap.size := World.block_lt_of_cell? w ⟨b, off + k * 8, none⟩ hr.1
      obtain ⟨h0, h1, h2, h3, h4, h5, h6, h7⟩ := hr
      obtain ⟨b0, b1, b2, b3, b4, b5, b6, b7⟩ := HB.out
      simp only [Nat.zero_add] at b0 b1 b2 b3 b4 b5 b6 b7
      have hlt' : (k : Int) < (n : Int) := by omega
      cases hsame : sameB r s
      · have HF : Hid (sameB r s = false) := hsame
        have HN : Hid (¬ r ∈ zs.take (k + 1)) := by
          show ¬ r ∈ zs.take (k + 1)
          rw [mem_take_iff]
          rintro ⟨j, hj, hjs⟩
          by_cases e : j = k
          · subst e
            rw [HS.out] at hjs
            simp [sameB] at hsame
            exact hsame (Option.some.inj hjs).symm
          · exact HM.out ((mem_take_iff _ _ _).2 ⟨j, by omega, hjs⟩)
        clear hsame
        have hsame : sameB r s = false := HF.out
        go_wp2
        go_quiet (fail)
        go_wp2
        exact ⟨⟨k + 1, by omega, by go_num, HN.out, _, rfl⟩, by simp [intOf]; omega⟩
      · have HI : Hid (r ∈ zs) := by
          show r ∈ zs
          simp [sameB] at hsame
          subst hsame
          exact List.mem_of_getElem? HS.out
        go_wp2
        go_quiet (fail)
        go_wp2
        go_ret
        exact ⟨⟨_, rfl, Or.inl ⟨by omega, HI.out⟩⟩, by first | exact bdN ((Below.refl _ _).alloc (Nat.le_refl _) _) _ | exact bdN (bdN ((Below.refl _ _).alloc (Nat.le_refl _) _) _) _⟩
    · have hkn : k = n := by omega
      subst hkn
      have HN : Hid (¬ r ∈ zs) := by
        have := HM.out
        rw [List.take_of_length_le (by rw [hz.out]; exact Nat.le_refl _)] at this
        exact this
      go_wp2
      go_ret
      exact ⟨⟨_, rfl, Or.inr ⟨rfl, HN.out⟩⟩, bdN (by go_grown) _⟩

set_option maxHeartbeats 400000 in
theorem slContains_c (a : Option Addr) (n cap : Nat) (zs : List RuleI) (r : RuleI) (w : World) (hn : n ≤ 1048576) (h : RulesIn w a n zs) :
    Calls Tryz.prog 122 #[.slice a n cap, .agg #[.int .i64 r.k, .int .i64 r.ho, .int .i64 r.hn, .int .i64 r.w, .int .i64 r.oo, .int .i64 r.on, .int .i64 r.to, .int .i64 r.tn]] w fun e w' => e = .returned (.bool (decide (r ∈ zs))) ∧ Below w.heap.size w w' := by
  have H : Hid (RulesIn (w.alloc (.cells #[.int .i64 r.k, .int .i64 r.ho, .int .i64 r.hn, .int .i64 r.w, .int .i64 r.oo, .int .i64 r.on, .int .i64 r.to, .int .i64 r.tn] 81)) a n zs) := h.below ((Below.refl _ _).alloc (Nat.le_refl _) _)
  clear h
  have HB : Hid (RuleAt (w.alloc (.cells #[.int .i64 r.k, .int .i64 r.ho, .int .i64 r.hn, .int .i64 r.w, .int .i64 r.oo, .int .i64 r.on, .int .i64 r.to, .int .i64 r.tn] 81)) w.heap.size 0 r) := RuleAt.new w r _
  obtain ⟨b0, b1, b2, b3, b4, b5, b6, b7⟩ := HB.out
  simp only [Nat.zero_add] at b0 b1 b2 b3 b4 b5 b6 b7
  go_enter Tryz.func122, Tryz.ntmps122
  go_wp2_with fail
  refine (slIndex_c a n cap zs r _ hn H.out).mono ?_
  rintro e w1 ⟨⟨i, rfl, hi⟩, hb1⟩
  have HX : Hid (decide (0 ≤ i) = decide (r ∈ zs)) := by
    show decide (0 ≤ i) = decide (r ∈ zs)
    rcases hi with ⟨h1, h2⟩ | ⟨rfl, h2⟩
    · simp [h1, h2]
    · simp [h2]
  clear hi b0 b1 b2 b3 b4 b5 b6 b7
  go_wp2
  go_ret
  exact ⟨by rw [HX.out]; rfl, below_new hb1⟩

end Go.Proofs.YtnfolmjdicfobaaGreatDoor

namespace Go.Proofs.YtnfolmjdicfobaaGreatDoor
open Go.RowKit
set_option linter.unusedVariables false
set_option linter.unusedSimpArgs false

set_option maxHeartbeats 1000000 in
theorem polFault_many (a : Option Addr) (n cap : Nat) (w : World) (hn : n ≤ 1048576) (h16 : 16 < n) :
    Calls Tryz.prog 86 #[.slice a n cap] w fun e w' => e = .returned (.int .i64 2) ∧ Below w.heap.size w w' := by
  have h' : (16 : Int) < (n : Int) := by omega
  go_enter Tryz.func86, Tryz.ntmps86
  go_wp2
  go_ret
  exact ⟨rfl, Below.refl _ _⟩

set_option maxHeartbeats 2000000 in
theorem polFault_few (a : Option Addr) (n cap : Nat) (zs : List RuleI) (c : Int) (w : World) (h16 : n ≤ 16) (hcap : n ≤ cap) (hcm : cap ≤ maxLen) (h : RulesIn w a n zs) (hc : polTo zs n = c) :
    Calls Tryz.prog 86 #[.slice a n cap] w fun e w' => e = .returned (.int .i64 c) ∧ Below w.heap.size w w' := by
  have H : Hid (RulesIn w a n zs) := h
  have hz : Hid (zs.length = n) := h.1
  have HC : Hid (polTo zs n = c) := hc
  clear h hc
  have h' : ¬ ((16 : Int) < (n : Int)) := by omega
  go_enter Tryz.func86, Tryz.ntmps86
  go_wp2
  go_loopw [11] (fun i wr => ∃ k : Nat, k ≤ n ∧ i = .int .i64 (k : Int) ∧ polTo zs k = 0 ∧ Below w.heap.size w wr) (fun i _ => n - (intOf i).toNat)
  case atStart => exact ⟨0, Nat.zero_le _, rfl, rfl, Below.refl _ _⟩
  case round =>
    obtain ⟨k, hk, rfl, hp, hnx⟩ := hrel
    have HP : Hid (polTo zs k = 0) := hp
    clear hp
    by_cases hlt : k < n
    · obtain ⟨b, off, r, rfl, hs, hr⟩ := H.out.at hlt
      have HS : Hid (zs[k]? = some r) := hs
      clear hs
      obtain ⟨h0, h1, h2, h3, h4, h5, h6, h7⟩ := hr.below hnx
      clear hr
      have hlt' : (k : Int) < (n : Int) := by omega
      go_wp2_with fail
      refine (implRuleFault_c r _).mono ?_
      rintro e w1 ⟨rfl, hb1⟩
      have hz1 := hb1.size
      simp only [World.size_alloc] at hz1
      have hnx1 : Below w.heap.size w w1 := hnx.trans ((below_new hb1).mono hnx.size)
      have hlt1 : wr.heap.size < w1.heap.size := by omega
      have hR : Hid (RuleAt w1 wr.heap.size 0 r) := (RuleAt.new wr r _).below hb1
      clear h0 h1 h2 h3 h4 h5 h6 h7 hb1
      by_cases hcode : ruleCode r = 0
      · rw [hcode]
        have HO : Hid (ruleCode r = 0) := hcode
        clear hcode
        have HX : Hid (RulesIn w1 (some ⟨b, off, none⟩) k (zs.take k)) := (H.out.cut hk).below hnx1
        have hkc : (k : Int) ≤ (cap : Int) := by omega
        have hk0 : (0 : Int) ≤ (k : Int) := by omega
        obtain ⟨h0, h1, h2, h3, h4, h5, h6, h7⟩ := hR.out
        simp only [Nat.zero_add] at h0 h1 h2 h3 h4 h5 h6 h7
        obtain ⟨t, ht⟩ : ∃ t, t = decide (r ∈ zs.take k) := ⟨_, rfl⟩
        have HC2 : Hid (∀ w2 : World, (∀ b o, b < w1.heap.size → w2.cell? ⟨b, o, none⟩ = w1.cell? ⟨b, o, none⟩) ∧ Below w1.heap.size w1 w2 → Calls Tryz.prog 122 #[.slice (some ⟨b, off, none⟩) k cap, .agg #[.int .i64 r.k, .int .i64 r.ho, .int .i64 r.hn, .int .i64 r.w, .int .i64 r.oo, .int .i64 r.on, .int .i64 r.to, .int .i64 r.tn]] w2 fun e w' => e = .returned (.bool t) ∧ Below w2.heap.size w2 w') := fun w2 hb => by rw [ht]; exact slContains_c _ _ _ _ r w2 (by omega) (HX.out.below hb.2)
        have HT : Hid (t = decide (r ∈ zs.take k)) := ht
        clear ht
        cases t
        · have HN : Hid (polTo zs (k + 1) = 0) := polTo_good zs k r HS.out HP.out HO.out (by simpa using HT.out)
          go_wp2
          go_region_held3 (fun w' => (∀ b o, b < w1.heap.size → w'.cell? ⟨b, o, none⟩ = w1.cell? ⟨b, o, none⟩) ∧ Below w1.heap.size w1 w') (first | exact hS | exact kp_drew _)
            (first | (go_at_call 122; refine (HC2.out _ (by assumption)).mono ?_; rintro e w' ⟨rfl, hb2⟩; have hS := kp_step (by assumption) hb2))
          go_wp2
          exact ⟨⟨k + 1, by omega, by go_num, HN.out, hnx1.trans (hS.2.mono hnx1.size)⟩, by simp [intOf]; omega⟩
        · have HI : Hid (c = 6) := HC.out.symm.trans (polTo_stay zs (k + 1) n 6 (by decide) (polTo_same zs k r HS.out HP.out HO.out (by simpa using HT.out)) (by omega))
          go_wp2
          go_region_held3 (fun w' => (∀ b o, b < w1.heap.size → w'.cell? ⟨b, o, none⟩ = w1.cell? ⟨b, o, none⟩) ∧ Below w1.heap.size w1 w') (first | exact hS | exact kp_drew _)
            (first | (go_at_call 122; refine (HC2.out _ (by assumption)).mono ?_; rintro e w' ⟨rfl, hb2⟩; have hS := kp_step (by assumption) hb2))
          go_wp2
          go_ret
          exact ⟨by rw [HI.out]; rfl, hnx1.trans (hS.2.mono hnx1.size)⟩
      · have E : Hid (c = ruleCode r) := (HC.out.symm.trans (polTo_stay zs (k + 1) n _ hcode (polTo_bad zs k r HS.out HP.out hcode) (by omega)))
        obtain ⟨d, hd⟩ : ∃ d, d = ruleCode r := ⟨_, rfl⟩
        rw [← hd] at hcode E ⊢
        clear hd
        have hne : (d != 0) = true := by simpa using hcode
        go_wp2
        go_ret
        exact ⟨by rw [E.out]; rfl, hnx1⟩
    · have hkn : k = n := by omega
      subst hkn
      have E : Hid (c = 0) := HC.out.symm.trans HP.out
      go_wp2
      go_ret
      exact ⟨by rw [E.out]; rfl, hnx⟩

theorem implPolicyFault_c (a : Option Addr) (n cap : Nat) (zs : List RuleI) (w : World) (hn : n ≤ 1048576) (hcap : n ≤ cap) (hcm : cap ≤ maxLen) (h : RulesIn w a n zs) :
    Calls Tryz.prog 86 #[.slice a n cap] w fun e w' => e = .returned (.int .i64 (polCode zs)) ∧ Below w.heap.size w w' := by
  have hz := h.1
  by_cases h16 : 16 < n
  · have e : polCode zs = 2 := by simp [polCode, hz, h16]
    rw [e]
    exact polFault_many a n cap w hn h16
  · have e : polCode zs = polTo zs n := by simp [polCode, hz, h16]
    rw [e]
    exact polFault_few a n cap zs _ w (by omega) hcap hcm h rfl

end Go.Proofs.YtnfolmjdicfobaaGreatDoor

namespace Go.Proofs.YtnfolmjdicfobaaGreatDoor
open Go.RowKit
set_option linter.unusedVariables false
set_option linter.unusedSimpArgs false

/-- The code of the first forms. -/
def fmTo (pss : List (List PartI)) : Nat → Int
  | 0 => 0
  | k + 1 => if fmTo pss k ≠ 0 then fmTo pss k else match pss[k]? with
    | none => 0
    | some x => ptCode x

def fmCode (pss : List (List PartI)) : Int := if 4 < pss.length then 2 else fmTo pss pss.length

theorem fmTo_stay (zs : List (List PartI)) (k m : Nat) (c : Int) (hc : c ≠ 0) (h : fmTo zs k = c) (hm : k ≤ m) : fmTo zs m = c := by
  induction m with
  | zero => obtain rfl : k = 0 := by omega
            exact h
  | succ m ih =>
    by_cases e : k = m + 1
    · subst e; exact h
    · have := ih (by omega)
      simp only [fmTo, this]
      rw [if_pos hc]

theorem fmTo_next {zs : List (List PartI)} {k : Nat} {x : List PartI} (hk : zs[k]? = some x) (h0 : fmTo zs k = 0) : fmTo zs (k + 1) = ptCode x := by
  simp [fmTo, h0, hk]

theorem partsL_at {fs : List FormI} {k : Nat} {x : FormI} (h : fs[k]? = some x) : (partsL fs)[k]? = some x.ps := by
  unfold partsL
  rw [List.getElem?_map, h]
  rfl

theorem partsL_len (fs : List FormI) : (partsL fs).length = fs.length := by unfold partsL; simp

/-- What ConfigFault tells. -/
def cfCode (e f : Int) (zs : List RuleI) (pss : List (List PartI)) (cs : List Int) : Int := if inR e 1 9 = false then 3 else if inR f 1 2 = false then 3 else orJ (polCode zs) (orJ (fmCode pss) (clCode cs))

theorem cf_zero {e f : Int} {zs : List RuleI} {pss : List (List PartI)} {cs : List Int} (h : cfCode e f zs pss cs = 0) : inR e 1 9 = true ∧ inR f 1 2 = true ∧ polCode zs = 0 ∧ fmCode pss = 0 ∧ clCode cs = 0 := by
  unfold cfCode at h
  split at h
  · cases h
  · split at h
    · cases h
    · rename_i q1 q2
      unfold orJ at h
      split at h
      · split at h
        · exact ⟨by simpa using q1, by simpa using q2, by assumption, by assumption, h⟩
        · exact absurd h (by assumption)
      · exact absurd h (by assumption)

theorem fm_zero {pss : List (List PartI)} (h : fmCode pss = 0) : pss.length ≤ 4 ∧ ∀ (k : Nat) (x : List PartI), pss[k]? = some x → ptCode x = 0 := by
  unfold fmCode at h
  split at h
  · cases h
  · refine ⟨by omega, fun k x e => ?_⟩
    have hk : k < pss.length := by
      by_cases q : k < pss.length
      · exact q
      · rw [List.getElem?_eq_none (by omega)] at e; cases e
    have key : ∀ j, j ≤ pss.length → fmTo pss j = 0 := fun j hj => by
      by_cases q : fmTo pss j = 0
      · exact q
      · have := fmTo_stay pss j pss.length _ q rfl hj
        rw [this] at h
        exact absurd h q
    have h1 := key (k + 1) (by omega)
    rw [fmTo_next e (key k (by omega))] at h1
    exact h1

set_option maxHeartbeats 400000 in
theorem or364_c (g : Nat) (c d f : Int) (w : World) (h0 : w.cell? ⟨g, 0, none⟩ = some (.int .i64 c)) (h1 : w.cell? ⟨g, 1, none⟩ = some (.int .i64 d)) (h2 : w.cell? ⟨g, 2, none⟩ = some (.int .i64 f)) :
    Calls Tryz.prog 85 #[.slice (some ⟨g, 0, none⟩) 3 3] w fun e w' => e = .returned (.int .i64 (orJ c (orJ d f))) ∧ w = w' := by
  go_enter Tryz.func85, Tryz.ntmps85
  go_wp2
  go_loop [8] (fun i => ∃ k : Nat, k ≤ 3 ∧ i = .int .i64 (k : Int) ∧ (1 ≤ k → c = 0) ∧ (2 ≤ k → d = 0) ∧ (3 ≤ k → f = 0)) (fun i => 3 - (intOf i).toNat)
  case atStart => exact ⟨0, by omega, rfl, fun h => by omega, fun h => by omega, fun h => by omega⟩
  case round =>
    obtain ⟨k, hk, rfl, hc, hd, hf⟩ := hrel
    have hk' : k = 0 ∨ k = 1 ∨ k = 2 ∨ k = 3 := by omega
    rcases hk' with rfl | rfl | rfl | rfl
    · clear hc hd hf
      by_cases e : c = 0
      · have b : (c != 0) = false := by simp [e]
        have HE : Hid (c = 0) := e
        clear e
        go_wp2
        exact ⟨⟨1, by omega, by go_num, fun _ => HE.out, fun h => by omega, fun h => by omega⟩, by simp [intOf]⟩
      · have b : (c != 0) = true := by simp [e]
        go_wp2
        go_ret
        exact ⟨by simp [orJ, e], rfl⟩
    · have HC : Hid (c = 0) := hc (by omega)
      clear hc hd hf
      by_cases e : d = 0
      · have b : (d != 0) = false := by simp [e]
        have HE : Hid (d = 0) := e
        clear e
        go_wp2
        exact ⟨⟨2, by omega, by go_num, fun _ => HC.out, fun _ => HE.out, fun h => by omega⟩, by simp [intOf]⟩
      · have b : (d != 0) = true := by simp [e]
        go_wp2
        go_ret
        exact ⟨by simp [orJ, HC.out, e], rfl⟩
    · have HC : Hid (c = 0) := hc (by omega)
      have HD : Hid (d = 0) := hd (by omega)
      clear hc hd hf
      by_cases e : f = 0
      · have b : (f != 0) = false := by simp [e]
        have HE : Hid (f = 0) := e
        clear e
        go_wp2
        exact ⟨⟨3, by omega, by go_num, fun _ => HC.out, fun _ => HD.out, fun _ => HE.out⟩, by simp [intOf]⟩
      · have b : (f != 0) = true := by simp [e]
        go_wp2
        go_ret
        exact ⟨by simp [orJ, HC.out, HD.out], rfl⟩
    · have HC : Hid (c = 0) := hc (by omega)
      have HD : Hid (d = 0) := hd (by omega)
      have HF : Hid (f = 0) := hf (by omega)
      clear hc hd hf
      go_wp2
      go_ret
      exact ⟨by simp [orJ, HC.out, HD.out, HF.out], rfl⟩

/-- Three cells of each of two locks stand. -/
def Six (w : World) (b : Nat) (x y : LkI) : Prop := (w.cell? ⟨b, 0, none⟩ = some (.int .i64 x.e) ∧ w.cell? ⟨b, 1, none⟩ = some (.int .i64 x.c) ∧ w.cell? ⟨b, 2, none⟩ = some (.int .i64 x.p)) ∧ (w.cell? ⟨b + 1, 0, none⟩ = some (.int .i64 y.e) ∧ w.cell? ⟨b + 1, 1, none⟩ = some (.int .i64 y.c) ∧ w.cell? ⟨b + 1, 2, none⟩ = some (.int .i64 y.p))

theorem kpC_new {W w : World} (h : (∀ b o, b < W.heap.size → w.cell? ⟨b, o, none⟩ = W.cell? ⟨b, o, none⟩) ∧ Below W.heap.size W w) (o : Obj) : (∀ b i, b < W.heap.size → (w.alloc o).cell? ⟨b, i, none⟩ = W.cell? ⟨b, i, none⟩) ∧ Below W.heap.size W (w.alloc o) :=
  kp_step h ((Below.refl _ _).alloc (Nat.le_refl _) _)

set_option maxHeartbeats 400000 in
theorem iBad_c (v : Int) (w : World) : Calls Tryz.prog 84 #[.int .i64 v] w fun e w' => e = .returned (.bool (inR v 1 2)) ∧ w = w' := by
  unfold inR
  cases h0 : decide (1 ≤ v)
  · go_enter Tryz.func84, Tryz.ntmps84
    go_wp2
    go_ret
    exact ⟨by simp, rfl⟩
  · cases h1 : decide (v ≤ 2)
    all_goals
      go_enter Tryz.func84, Tryz.ntmps84
      go_wp2
      go_ret
      exact ⟨by simp, rfl⟩

set_option maxHeartbeats 400000 in
theorem l6F_c (v : Int) (w : World) : Calls Tryz.prog 70 #[.int .i64 v] w fun e w' => e = .returned (.bool (inR v 1 2)) ∧ w = w' := by
  go_enter Tryz.func70, Tryz.ntmps70
  go_wp2_with (go_at_call 80; refine (cin_c _ _ _ _).mono ?_; rintro e w' ⟨rfl, rfl⟩)
  go_ret
  exact ⟨rfl, rfl⟩

set_option maxHeartbeats 1000000 in
theorem formsFault_c (a : Option Addr) (n cap : Nat) (fs : List FormI) (w : World) (hn : n ≤ 1048576) (hle : FormsLe 1048576 fs) (h : FormsIn w a n fs) :
    Calls Tryz.prog 87 #[.slice a n cap] w fun e w' => e = .returned (.int .i64 (fmCode (partsL fs))) ∧ Below w.heap.size w w' := by
  have H : Hid (FormsIn w a n fs) := h
  have HZ : Hid ((partsL fs).length = n) := by show (partsL fs).length = n; rw [partsL_len]; exact h.1
  have HLE : Hid (FormsLe 1048576 fs) := hle
  clear h hle
  by_cases h4 : 4 < n
  · have HC : Hid (fmCode (partsL fs) = 2) := by show fmCode (partsL fs) = 2; unfold fmCode; rw [if_pos (by rw [HZ.out]; exact h4)]
    have h4' : (4 : Int) < (n : Int) := by omega
    go_enter Tryz.func87, Tryz.ntmps87
    go_wp2
    go_ret
    exact ⟨by rw [HC.out]; rfl, Below.refl _ _⟩
  · have HC : Hid (fmCode (partsL fs) = fmTo (partsL fs) n) := by show fmCode (partsL fs) = fmTo (partsL fs) n; unfold fmCode; rw [if_neg (by rw [HZ.out]; exact h4), HZ.out]
    have h4' : (n : Int) ≤ 4 := by omega
    rw [HC.out]
    go_enter Tryz.func87, Tryz.ntmps87
    go_wp2
    go_loopw [11] (fun i wr => ∃ k : Nat, k ≤ n ∧ i = .int .i64 (k : Int) ∧ fmTo (partsL fs) k = 0 ∧ Below w.heap.size w wr) (fun i _ => n - (intOf i).toNat)
    case atStart => exact ⟨0, Nat.zero_le _, rfl, rfl, Below.refl _ _⟩
    case round =>
      obtain ⟨k, hk, rfl, hz, hnx⟩ := hrel
      have HK : Hid (fmTo (partsL fs) k = 0) := hz
      clear hz
      by_cases hlt : k < n
      · obtain ⟨b, off, x, rfl, hs, hr⟩ := H.out.at hlt
        have HS : Hid ((partsL fs)[k]? = some x.ps) := partsL_at hs
        have hx : x.n ≤ 1048576 := HLE.out k x hs
        have hb : b < w.heap.size := hr.lt
        have hc := (hr.below hnx).1
        have HP : Hid (PartsIn wr x.a x.n x.ps) := (hr.below hnx).2
        clear hs hr
        have hlt' : (k : Int) < (n : Int) := by omega
        have hA : Below wr.heap.size wr (wr.alloc (.cells #[.slice x.a x.n x.cap] 42)) := (Below.refl _ _).alloc (Nat.le_refl _) _
        obtain ⟨q, hq⟩ : ∃ q, ptCode x.ps = q := ⟨_, rfl⟩
        go_wp2_with fail
        refine (implPartsFault_c x.a x.n x.cap x.ps _ (by unfold maxLen; omega) (HP.out.below hA)).mono ?_
        rintro e w1 ⟨rfl, hb1⟩
        rw [hq]
        have hb01 : Below w.heap.size w w1 := hnx.trans ((hA.trans (hb1.mono hA.size)).mono hnx.size)
        have HQ : Hid (fmTo (partsL fs) (k + 1) = q) := by show fmTo (partsL fs) (k + 1) = q; rw [fmTo_next HS.out HK.out]; exact hq
        clear hc hq hA hb1
        by_cases q0 : q = 0
        · have qb : (q != 0) = false := by simp [q0]
          have HQ0 : Hid (q = 0) := q0
          clear q0
          go_wp2
          exact ⟨⟨k + 1, by omega, by go_num, by rw [HQ.out]; exact HQ0.out, hb01⟩, by simp [intOf]; omega⟩
        · have qb : (q != 0) = true := by simp [q0]
          have HE : Hid (fmTo (partsL fs) n = q) := fmTo_stay _ _ _ _ q0 HQ.out (by omega)
          go_wp2
          go_ret
          exact ⟨by rw [HE.out]; rfl, hb01⟩
      · have hkn : k = n := by omega
        subst hkn
        go_wp2
        go_ret
        exact ⟨by rw [HK.out]; rfl, hnx⟩

set_option maxHeartbeats 400000 in
theorem classFault_c (a : Option Addr) (n cap : Nat) (zs : List Int) (w : World) (h : IntIn w a n zs) :
    Calls Tryz.prog 88 #[.slice a n cap] w fun e w' => e = .returned (.int .i64 (clCode zs)) ∧ w = w' := by
  have HI : Hid (IntIn w a n zs) := h
  clear h
  go_enter Tryz.func88, Tryz.ntmps88
  go_wp2_with (go_at_call 123; refine (implClassesFault_c _ _ _ zs _ HI.out).mono ?_; rintro e w' ⟨rfl, rfl⟩)
  go_ret
  exact ⟨rfl, rfl⟩

set_option maxHeartbeats 400000 in
theorem epochOf_c (c : ConfI) (w : World) : Calls Tryz.prog 37 #[.agg #[.int .i64 c.e, .int .i64 c.f, .slice c.ra c.rn c.rc, .slice c.fa c.fn c.fc, .slice c.ca c.cn c.cc]] w fun e w' => e = .returned (.agg #[.slice c.ca c.cn c.cc, .int .i64 c.e, .int .i64 c.f, .slice c.ra c.rn c.rc, .slice c.fa c.fn c.fc]) ∧ Below w.heap.size w w' := by
  go_enter Tryz.func37, Tryz.ntmps37
  go_wp2
  go_returns
  exact ⟨rfl, by go_grown⟩

set_option maxRecDepth 100000 in
set_option maxHeartbeats 2000000 in
theorem epochFault_c (c : ConfI) (w : World) (hle : ConfLe 1048576 c) (hrc : c.rn ≤ c.rc) (hrm : c.rc ≤ maxLen) (h : ConfIn w c) :
    Calls Tryz.prog 42 #[.agg #[.slice c.ca c.cn c.cc, .int .i64 c.e, .int .i64 c.f, .slice c.ra c.rn c.rc, .slice c.fa c.fn c.fc]] w fun e w' => e = .returned (.int .i64 (cfCode c.e c.f c.zs (partsL c.fs) c.cs)) ∧ Below w.heap.size w w' := by
  obtain ⟨t1, h1⟩ : ∃ t, inR c.e 1 9 = t := ⟨_, rfl⟩
  obtain ⟨t2, h2⟩ : ∃ t, inR c.f 1 2 = t := ⟨_, rfl⟩
  have H1 : Hid (inR c.e 1 9 = t1) := h1
  have H2 : Hid (inR c.f 1 2 = t2) := h2
  cases t1
  · have HV : Hid (cfCode c.e c.f c.zs (partsL c.fs) c.cs = 3) := by show cfCode _ _ _ _ _ = 3; unfold cfCode; rw [if_pos h1]
    clear h1 h2 h
    go_enter Tryz.func42, Tryz.ntmps42
    go_wp2_with (first | (go_at_call 83; refine (iEpoch_c _ _).mono ?_; rintro e w' ⟨rfl, rfl⟩; rw [H1.out]))
    go_ret
    exact ⟨by rw [HV.out]; rfl, by go_grown⟩
  · cases t2
    · have HV : Hid (cfCode c.e c.f c.zs (partsL c.fs) c.cs = 3) := by show cfCode _ _ _ _ _ = 3; unfold cfCode; rw [if_neg (by simp [h1]), if_pos h2]
      clear h1 h2 h
      go_enter Tryz.func42, Tryz.ntmps42
      go_wp2_with (first | (go_at_call 83; refine (iEpoch_c _ _).mono ?_; rintro e w' ⟨rfl, rfl⟩; rw [H1.out]) | (go_at_call 84; refine (iBad_c _ _).mono ?_; rintro e w' ⟨rfl, rfl⟩; rw [H2.out]))
      go_ret
      exact ⟨by rw [HV.out]; rfl, by go_grown⟩
    · have HV : Hid (cfCode c.e c.f c.zs (partsL c.fs) c.cs = orJ (polCode c.zs) (orJ (fmCode (partsL c.fs)) (clCode c.cs))) := by show cfCode _ _ _ _ _ = _; unfold cfCode; rw [if_neg (by simp [h1]), if_neg (by simp [h2])]
      rw [HV.out]
      obtain ⟨W, hW⟩ : ∃ W, W = w.alloc (.cells #[.slice c.ca c.cn c.cc, .int .i64 c.e, .int .i64 c.f, .slice c.ra c.rn c.rc, .slice c.fa c.fn c.fc] 71) := ⟨_, rfl⟩
      have hs : W.heap.size = w.heap.size + 1 := by rw [hW]; simp
      have B0 : Below w.heap.size w W := by rw [hW]; exact (Below.refl _ _).alloc (Nat.le_refl _) _
      have c0 : W.cell? ⟨w.heap.size, 0, none⟩ = some (.slice c.ca c.cn c.cc) := by rw [hW]; simp
      have c3 : W.cell? ⟨w.heap.size, 3, none⟩ = some (.slice c.ra c.rn c.rc) := by rw [hW]; simp
      have c4 : W.cell? ⟨w.heap.size, 4, none⟩ = some (.slice c.fa c.fn c.fc) := by rw [hW]; simp
      have HP : Hid (∀ w2 : World, (∀ b o, b < W.heap.size → w2.cell? ⟨b, o, none⟩ = W.cell? ⟨b, o, none⟩) ∧ Below W.heap.size W w2 → Calls Tryz.prog 86 #[.slice c.ra c.rn c.rc] w2 fun e w' => e = .returned (.int .i64 (polCode c.zs)) ∧ Below w2.heap.size w2 w') := fun w2 q => implPolicyFault_c c.ra c.rn c.rc c.zs w2 hle.rules hrc hrm (h.rules.below (B0.trans (q.2.mono (by omega))))
      have HF : Hid (∀ w2 : World, (∀ b o, b < W.heap.size → w2.cell? ⟨b, o, none⟩ = W.cell? ⟨b, o, none⟩) ∧ Below W.heap.size W w2 → Calls Tryz.prog 87 #[.slice c.fa c.fn c.fc] w2 fun e w' => e = .returned (.int .i64 (fmCode (partsL c.fs))) ∧ Below w2.heap.size w2 w') := fun w2 q => formsFault_c c.fa c.fn c.fc c.fs w2 hle.forms hle.parts (h.forms.below (B0.trans (q.2.mono (by omega))))
      have HK : Hid (∀ w2 : World, (∀ b o, b < W.heap.size → w2.cell? ⟨b, o, none⟩ = W.cell? ⟨b, o, none⟩) ∧ Below W.heap.size W w2 → Calls Tryz.prog 88 #[.slice c.ca c.cn c.cc] w2 fun e w' => e = .returned (.int .i64 (clCode c.cs)) ∧ Below w2.heap.size w2 w') := fun w2 q => (classFault_c c.ca c.cn c.cc c.cs w2 (h.classes.below (B0.trans (q.2.mono (by omega))))).mono fun e w' hh => ⟨hh.1, hh.2 ▸ Below.refl _ _⟩
      clear h hle h1 h2
      generalize polCode c.zs = p at HP ⊢
      generalize fmCode (partsL c.fs) = q at HF ⊢
      generalize clCode c.cs = r at HK ⊢
      go_enter Tryz.func42, Tryz.ntmps42
      go_wp2_with (first | (go_at_call 83; refine (iEpoch_c _ _).mono ?_; rintro e w' ⟨rfl, rfl⟩; rw [H1.out]) | (go_at_call 84; refine (iBad_c _ _).mono ?_; rintro e w' ⟨rfl, rfl⟩; rw [H2.out]))
      rw [← hW]
      clear hW
      go_region_held3 (fun w' => (∀ b o, b < W.heap.size → w'.cell? ⟨b, o, none⟩ = W.cell? ⟨b, o, none⟩) ∧ Below W.heap.size W w') (first | exact hS | exact kp_drew _ | exact kpC_new (by assumption) _)
        (first | (go_at_call 86; refine (HP.out _ (by assumption)).mono ?_; rintro e w' ⟨rfl, hb2⟩; have hS := kp_step (by assumption) hb2) | (go_at_call 87; refine (HF.out _ (by assumption)).mono ?_; rintro e w' ⟨rfl, hb2⟩; have hS := kp_step (by assumption) hb2) | (go_at_call 88; refine (HK.out _ (by assumption)).mono ?_; rintro e w' ⟨rfl, hb2⟩; have hS := kp_step (by assumption) hb2) | (go_at_call 85; refine (or364_c _ p q r _ ?_ ?_ ?_).mono ?_; (· simp [go_sem]); (· simp [go_sem]); (· simp [go_sem]); rintro e w' ⟨rfl, rfl⟩))
      all_goals
        have hS3 := kpC_new hS (.cells #[.int .i64 p, .int .i64 q, .int .i64 r] 2)
        go_wp2
        go_ret
        exact ⟨rfl, B0.trans (hS3.2.mono (by omega))⟩

set_option maxRecDepth 20000 in
set_option maxHeartbeats 1000000 in
theorem implConfigFault_c (c : ConfI) (w : World) (hle : ConfLe 1048576 c) (hrc : c.rn ≤ c.rc) (hrm : c.rc ≤ maxLen) (h : ConfIn w c) :
    Calls Tryz.prog 12 #[.agg #[.int .i64 c.e, .int .i64 c.f, .slice c.ra c.rn c.rc, .slice c.fa c.fn c.fc, .slice c.ca c.cn c.cc]] w fun e w' => e = .returned (.int .i64 (cfCode c.e c.f c.zs (partsL c.fs) c.cs)) ∧ Below w.heap.size w w' := by
  have H : Hid (ConfIn w c) := h
  have HLE : Hid (ConfLe 1048576 c) := hle
  clear h hle
  have hA : Below w.heap.size w (w.alloc (.cells #[.int .i64 c.e, .int .i64 c.f, .slice c.ra c.rn c.rc, .slice c.fa c.fn c.fc, .slice c.ca c.cn c.cc] 28)) := (Below.refl _ _).alloc (Nat.le_refl _) _
  obtain ⟨v, hv⟩ : ∃ v, cfCode c.e c.f c.zs (partsL c.fs) c.cs = v := ⟨_, rfl⟩
  rw [hv]
  have HF : Hid (∀ w2 : World, Below w.heap.size w w2 → Calls Tryz.prog 42 #[.agg #[.slice c.ca c.cn c.cc, .int .i64 c.e, .int .i64 c.f, .slice c.ra c.rn c.rc, .slice c.fa c.fn c.fc]] w2 fun e w' => e = .returned (.int .i64 v) ∧ Below w2.heap.size w2 w') := fun w2 q => by rw [← hv]; exact epochFault_c c w2 HLE.out hrc hrm (H.out.below q)
  clear hv
  go_enter Tryz.func12, Tryz.ntmps12
  go_wp2_with fail
  refine (epochOf_c c _).mono ?_
  rintro e w1 ⟨rfl, hb1⟩
  have hB1 : Below w.heap.size w w1 := hA.trans (hb1.mono hA.size)
  clear hA hb1
  go_wp2_with fail
  refine (HF.out _ hB1).mono ?_
  rintro e w2 ⟨rfl, hb2⟩
  have hB2 : Below w.heap.size w w2 := hB1.trans (hb2.mono hB1.size)
  clear hb2 hB1
  go_wp2
  go_ret
  exact ⟨rfl, hB2⟩

set_option maxRecDepth 20000 in
set_option maxHeartbeats 2000000 in
theorem l6Fault_c (g : Nat) (c : ConfI) (w : World) (hle : ConfLe 1048576 c) (hk : ConfAt w g c) (h : ConfIn w c) :
    Calls Tryz.prog 32 #[.pointer (some ⟨g, 0, none⟩)] w fun e w' => e = .returned (.int .i64 (cfCode c.e c.f c.zs (partsL c.fs) c.cs)) ∧ Below w.heap.size w w' := by
  obtain ⟨t1, h1⟩ : ∃ t, inR c.e 1 9 = t := ⟨_, rfl⟩
  obtain ⟨t2, h2⟩ : ∃ t, inR c.f 1 2 = t := ⟨_, rfl⟩
  have H1 : Hid (inR c.e 1 9 = t1) := h1
  have H2 : Hid (inR c.f 1 2 = t2) := h2
  have hg : g < w.heap.size := hk.lt
  have HK : Hid (ConfAt w g c) := hk
  obtain ⟨k0, k1, k2, k3, k4⟩ := hk
  cases t1
  · have HV : Hid (cfCode c.e c.f c.zs (partsL c.fs) c.cs = 3) := by show cfCode _ _ _ _ _ = 3; unfold cfCode; rw [if_pos h1]
    clear h1 h2 h
    go_enter Tryz.func32, Tryz.ntmps32
    go_wp2_with (first | (go_at_call 69; refine (sEpoch_c _ _).mono ?_; rintro e w' ⟨rfl, rfl⟩; rw [H1.out]))
    go_ret
    exact ⟨by rw [HV.out]; rfl, by go_grown⟩
  · cases t2
    · have HV : Hid (cfCode c.e c.f c.zs (partsL c.fs) c.cs = 3) := by show cfCode _ _ _ _ _ = 3; unfold cfCode; rw [if_neg (by simp [h1]), if_pos h2]
      clear h1 h2 h
      go_enter Tryz.func32, Tryz.ntmps32
      go_wp2_with (first | (go_at_call 69; refine (sEpoch_c _ _).mono ?_; rintro e w' ⟨rfl, rfl⟩; rw [H1.out]) | (go_at_call 70; refine (l6F_c _ _).mono ?_; rintro e w' ⟨rfl, rfl⟩; rw [H2.out]))
      go_ret
      exact ⟨by rw [HV.out]; rfl, by go_grown⟩
    · have HV : Hid (cfCode c.e c.f c.zs (partsL c.fs) c.cs = orJ (polCode c.zs) (orJ (fmCode (partsL c.fs)) (clCode c.cs))) := by show cfCode _ _ _ _ _ = _; unfold cfCode; rw [if_neg (by simp [h1]), if_neg (by simp [h2])]
      rw [HV.out]
      have HLE : Hid (ConfLe 1048576 c) := hle
      have H : Hid (ConfIn w c) := h
      clear h1 h2 h hle
      obtain ⟨p, hp⟩ : ∃ p, polCode c.zs = p := ⟨_, rfl⟩
      obtain ⟨r, hr⟩ : ∃ r, clCode c.cs = r := ⟨_, rfl⟩
      have HP : Hid (Calls Tryz.prog 71 #[.slice c.ra c.rn c.rc] w fun e w' => e = .returned (.int .i64 p) ∧ Below w.heap.size w w') := by rw [← hp]; exact l2Fault_c c.ra c.rn c.rc c.zs w HLE.out.rules H.out.rules
      have HR : Hid (∀ w2 : World, Below w.heap.size w w2 → Calls Tryz.prog 72 #[.slice c.ca c.cn c.cc] w2 fun e w' => e = .returned (.int .i64 r) ∧ w2 = w') := fun w2 q => by rw [← hr]; exact l5Classes_c c.ca c.cn c.cc c.cs w2 (H.out.classes.below q)
      rw [hp, hr]
      clear hp hr
      have HZ : Hid ((partsL c.fs).length = c.fn) := by show (partsL c.fs).length = c.fn; rw [partsL_len]; exact H.out.forms.1
      have hfn : (c.fn : Int) ≤ 1048576 := by have := HLE.out.forms; omega
      go_enter Tryz.func32, Tryz.ntmps32
      go_wp2_with (first | (go_at_call 69; refine (sEpoch_c _ _).mono ?_; rintro e w' ⟨rfl, rfl⟩; rw [H1.out]) | (go_at_call 70; refine (l6F_c _ _).mono ?_; rintro e w' ⟨rfl, rfl⟩; rw [H2.out]) | fail)
      refine HP.out.mono ?_
      rintro e w1 ⟨rfl, hb1⟩
      obtain ⟨d0, d1, d2, d3, d4⟩ := HK.out.below hb1
      have hg1 : g < w1.heap.size := by have := hb1.size; omega
      clear k0 k1 k2 k3 k4 d0 d1 d2
      by_cases p0 : p = 0
      · have pb : (p != 0) = false := by simp [p0]
        have HPO : Hid (∀ x, orJ p x = x) := fun x => by simp [orJ, p0]
        clear p0
        by_cases h4 : 4 < c.fn
        · have HC : Hid (fmCode (partsL c.fs) = 2) := by show fmCode (partsL c.fs) = 2; unfold fmCode; rw [if_pos (by rw [HZ.out]; exact h4)]
          have h4' : (4 : Int) < (c.fn : Int) := by omega
          go_wp2
          go_ret
          exact ⟨by rw [HPO.out, HC.out]; rfl, hb1⟩
        · have HC : Hid (fmCode (partsL c.fs) = fmTo (partsL c.fs) c.fn) := by show fmCode (partsL c.fs) = fmTo (partsL c.fs) c.fn; unfold fmCode; rw [if_neg (by rw [HZ.out]; exact h4), HZ.out]
          have h4' : (c.fn : Int) ≤ 4 := by omega
          go_wp2
          go_loopw [4] (fun i wr => ∃ k : Nat, k ≤ c.fn ∧ i = .int .i64 (k : Int) ∧ fmTo (partsL c.fs) k = 0 ∧ Below w.heap.size w wr) (fun i _ => c.fn - (intOf i).toNat)
          case atStart => exact ⟨0, Nat.zero_le _, rfl, rfl, hb1⟩
          case round =>
            obtain ⟨k, hk, rfl, hz, hnx⟩ := hrel
            have HK0 : Hid (fmTo (partsL c.fs) k = 0) := hz
            obtain ⟨m0, m1, m2, m3, m4⟩ := HK.out.below hnx
            have hgr : g < wr.heap.size := by have := hnx.size; omega
            clear hz d3 d4 m0 m1 m2
            by_cases hlt : k < c.fn
            · obtain ⟨b, off, x, hfa, hs, hr⟩ := H.out.forms.at hlt
              have HS : Hid ((partsL c.fs)[k]? = some x.ps) := partsL_at hs
              have hx : x.n ≤ 1048576 := HLE.out.parts k x hs
              have hb : b < w.heap.size := hr.lt
              have hc := (hr.below hnx).1
              have HPI : Hid (PartsIn wr x.a x.n x.ps) := (hr.below hnx).2
              rw [hfa] at m3
              have hbr : b < wr.heap.size := by have := hnx.size; omega
              clear hs hr hfa
              have hlt' : (k : Int) < (c.fn : Int) := by omega
              obtain ⟨q, hq⟩ : ∃ q, ptCode x.ps = q := ⟨_, rfl⟩
              go_wp2_with fail
              refine (l4Fault_c x.a x.n x.cap x.ps _ (by unfold maxLen; omega) HPI.out).mono ?_
              rintro e w2 ⟨rfl, hb2⟩
              rw [hq]
              have hb02 : Below w.heap.size w w2 := hnx.trans (hb2.mono hnx.size)
              have HQ : Hid (fmTo (partsL c.fs) (k + 1) = q) := by show fmTo (partsL c.fs) (k + 1) = q; rw [fmTo_next HS.out HK0.out]; exact hq
              clear hc hq hb2 m3 m4
              by_cases q0 : q = 0
              · have qb : (q != 0) = false := by simp [q0]
                have HQ0 : Hid (q = 0) := q0
                clear q0
                go_wp2
                exact ⟨⟨k + 1, by omega, by go_num, by rw [HQ.out]; exact HQ0.out, hb02⟩, by simp [intOf]; omega⟩
              · have qb : (q != 0) = true := by simp [q0]
                have HE : Hid (orJ (fmCode (partsL c.fs)) r = q) := by
                  show orJ _ _ = _
                  rw [HC.out, fmTo_stay _ _ c.fn _ q0 HQ.out (by omega)]
                  simp [orJ, q0]
                go_wp2
                go_ret
                exact ⟨by rw [HPO.out, HE.out]; rfl, hb02⟩
            · have hkn : k = c.fn := by omega
              have HE : Hid (orJ (fmCode (partsL c.fs)) r = r) := by
                show orJ _ _ = _
                rw [HC.out, ← hkn, HK0.out]
                simp [orJ]
              have hlt' : ¬ ((k : Int) < (c.fn : Int)) := by omega
              clear hkn
              go_wp2_with fail
              refine (HR.out _ hnx).mono ?_
              rintro e w2 ⟨rfl, rfl⟩
              go_wp2
              go_ret
              exact ⟨by rw [HPO.out, HE.out]; rfl, hnx⟩
      · have pb : (p != 0) = true := by simp [p0]
        have HPO : Hid (∀ x, orJ p x = p) := fun x => by simp [orJ, p0]
        clear p0
        go_wp2
        go_ret
        exact ⟨by rw [HPO.out]; rfl, hb1⟩

set_option maxRecDepth 20000 in
set_option maxHeartbeats 1000000 in
theorem specConfigFault_c (c : ConfI) (w : World) (hle : ConfLe 1048576 c) (h : ConfIn w c) :
    Calls Tryz.prog 13 #[.agg #[.int .i64 c.e, .int .i64 c.f, .slice c.ra c.rn c.rc, .slice c.fa c.fn c.fc, .slice c.ca c.cn c.cc]] w fun e w' => e = .returned (.int .i64 (cfCode c.e c.f c.zs (partsL c.fs) c.cs)) ∧ Below w.heap.size w w' := by
  have hA : Below w.heap.size w (w.alloc (.cells #[.int .i64 c.e, .int .i64 c.f, .slice c.ra c.rn c.rc, .slice c.fa c.fn c.fc, .slice c.ca c.cn c.cc] 28)) := (Below.refl _ _).alloc (Nat.le_refl _) _
  have HC : Hid (Calls Tryz.prog 32 #[.pointer (some ⟨w.heap.size, 0, none⟩)] (w.alloc (.cells #[.int .i64 c.e, .int .i64 c.f, .slice c.ra c.rn c.rc, .slice c.fa c.fn c.fc, .slice c.ca c.cn c.cc] 28)) fun e w' => e = .returned (.int .i64 (cfCode c.e c.f c.zs (partsL c.fs) c.cs)) ∧ Below (w.alloc (.cells #[.int .i64 c.e, .int .i64 c.f, .slice c.ra c.rn c.rc, .slice c.fa c.fn c.fc, .slice c.ca c.cn c.cc] 28)).heap.size (w.alloc (.cells #[.int .i64 c.e, .int .i64 c.f, .slice c.ra c.rn c.rc, .slice c.fa c.fn c.fc, .slice c.ca c.cn c.cc] 28)) w') := l6Fault_c w.heap.size c _ hle (ConfAt.new w c _) (h.below hA)
  clear h hle
  generalize cfCode c.e c.f c.zs (partsL c.fs) c.cs = v at HC ⊢
  go_enter Tryz.func13, Tryz.ntmps13
  go_wp2_with fail
  refine HC.out.mono ?_
  rintro e w1 ⟨rfl, hb1⟩
  have hB1 : Below w.heap.size w w1 := hA.trans (hb1.mono hA.size)
  clear hA hb1
  go_wp2
  go_ret
  exact ⟨rfl, hB1⟩

end Go.Proofs.YtnfolmjdicfobaaGreatDoor
