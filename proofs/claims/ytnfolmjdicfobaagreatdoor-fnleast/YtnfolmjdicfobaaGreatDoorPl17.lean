/-
  CONTRACT of impl.RuleFault.
  Conditions: none.
  CONTRACT: impl.PolicyFault.
  Conditions: each contract bears its own.
  CONTRACT: impl.RolesIn, what it gathers.
  Conditions: each contract bears its own.
  CONTRACTS: slices.Index and slices.Contains over roles; impl.leansOn.
  Conditions: each contract bears its own.
-/
import Derived.Test.YtnfolmjdicfobaaGreatDoorPl16
import Derived.Test.YtnfolmjdicfobaaGreatDoorPl04
import Derived.Deep.RegionHeld3
import Derived.Test.YtnfolmjdicfobaaGreatDoorPl15
import Derived.Laws.AppendOwnNone
import Derived.Test.YtnfolmjdicfobaaGreatDoorPl07
import Derived.Deep.RegionWith
namespace Go.Proofs.YtnfolmjdicfobaaGreatDoor
open Go.RowKit
set_option linter.unusedVariables false
set_option linter.unusedSimpArgs false

set_option maxHeartbeats 2000000 in
theorem ruleFault_in (r : RuleI) (t : TypeId) (v : Value) (w : World) (hk : 1 ≤ r.k ∧ r.k ≤ 4)
    (HO : Hid (∀ w : World, Calls Tryz.prog 118 #[.agg #[.int .i64 r.k, .int .i64 r.ho, .int .i64 r.hn, .int .i64 r.w, .int .i64 r.oo, .int .i64 r.on, .int .i64 r.to, .int .i64 r.tn]] w fun e w' => e = .returned (.iface t v) ∧ Below w.heap.size w w'))
    (HF : Hid (∀ w : World, Calls Tryz.prog 148 #[.iface t v] w fun e w' => e = .returned (.int .i64 (if hasB r = true then 0 else 3)) ∧ Below w.heap.size w w')) :
    Calls Tryz.prog 116 #[.agg #[.int .i64 r.k, .int .i64 r.ho, .int .i64 r.hn, .int .i64 r.w, .int .i64 r.oo, .int .i64 r.on, .int .i64 r.to, .int .i64 r.tn]] w fun e w' => e = .returned (.int .i64 (ruleCode r)) ∧ Below w.heap.size w w' := by
  have hX : Hid (RuleAt (w.alloc (Obj.cells #[.int .i64 r.k, .int .i64 r.ho, .int .i64 r.hn, .int .i64 r.w, .int .i64 r.oo, .int .i64 r.on, .int .i64 r.to, .int .i64 r.tn] 81)) w.heap.size 0 r) := RuleAt.new w r _
  cases hr : roleB r.ho r.hn
  · have E : Hid (ruleCode r = 3) := by show ruleCode r = 3; simp [ruleCode, hk, hr]
    have hc : roleCode r.ho r.hn = 3 := by simp [roleCode, hr]
    have hb : Below (w.alloc (Obj.cells #[.int .i64 r.k, .int .i64 r.ho, .int .i64 r.hn, .int .i64 r.w, .int .i64 r.oo, .int .i64 r.on, .int .i64 r.to, .int .i64 r.tn] 81)).heap.size (w.alloc (Obj.cells #[.int .i64 r.k, .int .i64 r.ho, .int .i64 r.hn, .int .i64 r.w, .int .i64 r.oo, .int .i64 r.on, .int .i64 r.to, .int .i64 r.tn] 81)) (w.alloc (Obj.cells #[.int .i64 r.k, .int .i64 r.ho, .int .i64 r.hn, .int .i64 r.w, .int .i64 r.oo, .int .i64 r.on, .int .i64 r.to, .int .i64 r.tn] 81)) := Below.refl _ _
    obtain ⟨h0, h1, h2, h3, h4, h5, h6, h7⟩ := hX.out
    simp only [Nat.zero_add] at h0 h1 h2 h3 h4 h5 h6 h7
    go_enter Tryz.func116, Tryz.ntmps116
    go_wp2_with (first | (go_at_call 118; refine (HO.out _).mono ?_; rintro e w1 ⟨rfl, hb1⟩; replace hb := hb.trans (hb1.mono hb.size); clear h0 h1 h2 h3 h4 h5 h6 h7 hb1; obtain ⟨h0, h1, h2, h3, h4, h5, h6, h7⟩ := hX.out.below hb; simp only [Nat.zero_add] at h0 h1 h2 h3 h4 h5 h6 h7) | (go_at_call 105; refine (implRoleFault_c _ _ _).mono ?_; rintro e w1 ⟨rfl, hb1⟩; replace hb := hb.trans (hb1.mono hb.size); clear h0 h1 h2 h3 h4 h5 h6 h7 hb1; obtain ⟨h0, h1, h2, h3, h4, h5, h6, h7⟩ := hX.out.below hb; simp only [Nat.zero_add] at h0 h1 h2 h3 h4 h5 h6 h7; rw [hc]))
    go_ret
    exact ⟨by rw [E.out]; rfl, below_new hb⟩
  · have hc : roleCode r.ho r.hn = 0 := by simp [roleCode, hr]
    cases hbr : bareB r
    · have E : Hid (ruleCode r = 1) := by show ruleCode r = 1; simp [ruleCode, hk, hr, hbr]
      have hb : Below (w.alloc (Obj.cells #[.int .i64 r.k, .int .i64 r.ho, .int .i64 r.hn, .int .i64 r.w, .int .i64 r.oo, .int .i64 r.on, .int .i64 r.to, .int .i64 r.tn] 81)).heap.size (w.alloc (Obj.cells #[.int .i64 r.k, .int .i64 r.ho, .int .i64 r.hn, .int .i64 r.w, .int .i64 r.oo, .int .i64 r.on, .int .i64 r.to, .int .i64 r.tn] 81)) (w.alloc (Obj.cells #[.int .i64 r.k, .int .i64 r.ho, .int .i64 r.hn, .int .i64 r.w, .int .i64 r.oo, .int .i64 r.on, .int .i64 r.to, .int .i64 r.tn] 81)) := Below.refl _ _
      obtain ⟨h0, h1, h2, h3, h4, h5, h6, h7⟩ := hX.out
      simp only [Nat.zero_add] at h0 h1 h2 h3 h4 h5 h6 h7
      go_enter Tryz.func116, Tryz.ntmps116
      go_wp2_with (first | (go_at_call 118; refine (HO.out _).mono ?_; rintro e w1 ⟨rfl, hb1⟩; replace hb := hb.trans (hb1.mono hb.size); clear h0 h1 h2 h3 h4 h5 h6 h7 hb1; obtain ⟨h0, h1, h2, h3, h4, h5, h6, h7⟩ := hX.out.below hb; simp only [Nat.zero_add] at h0 h1 h2 h3 h4 h5 h6 h7) | (go_at_call 105; refine (implRoleFault_c _ _ _).mono ?_; rintro e w1 ⟨rfl, hb1⟩; replace hb := hb.trans (hb1.mono hb.size); clear h0 h1 h2 h3 h4 h5 h6 h7 hb1; obtain ⟨h0, h1, h2, h3, h4, h5, h6, h7⟩ := hX.out.below hb; simp only [Nat.zero_add] at h0 h1 h2 h3 h4 h5 h6 h7; rw [hc]) | (go_at_call 147; refine (hasStray_c r hk _).mono ?_; rintro e w1 ⟨rfl, hb1⟩; replace hb := hb.trans (hb1.mono hb.size); clear h0 h1 h2 h3 h4 h5 h6 h7 hb1; obtain ⟨h0, h1, h2, h3, h4, h5, h6, h7⟩ := hX.out.below hb; simp only [Nat.zero_add] at h0 h1 h2 h3 h4 h5 h6 h7; rw [hbr]))
      go_ret
      exact ⟨by rw [E.out]; rfl, below_new hb⟩
    · have E : Hid (ruleCode r = if hasB r = true then 0 else 3) := by show ruleCode r = if hasB r = true then 0 else 3; simp [ruleCode, hk, hr, hbr]; cases hasB r <;> rfl
      obtain ⟨c, hcc⟩ : ∃ c : Int, c = if hasB r = true then 0 else 3 := ⟨_, rfl⟩
      rw [← hcc] at HF E
      clear hcc
      have hb : Below (w.alloc (Obj.cells #[.int .i64 r.k, .int .i64 r.ho, .int .i64 r.hn, .int .i64 r.w, .int .i64 r.oo, .int .i64 r.on, .int .i64 r.to, .int .i64 r.tn] 81)).heap.size (w.alloc (Obj.cells #[.int .i64 r.k, .int .i64 r.ho, .int .i64 r.hn, .int .i64 r.w, .int .i64 r.oo, .int .i64 r.on, .int .i64 r.to, .int .i64 r.tn] 81)) (w.alloc (Obj.cells #[.int .i64 r.k, .int .i64 r.ho, .int .i64 r.hn, .int .i64 r.w, .int .i64 r.oo, .int .i64 r.on, .int .i64 r.to, .int .i64 r.tn] 81)) := Below.refl _ _
      obtain ⟨h0, h1, h2, h3, h4, h5, h6, h7⟩ := hX.out
      simp only [Nat.zero_add] at h0 h1 h2 h3 h4 h5 h6 h7
      go_enter Tryz.func116, Tryz.ntmps116
      go_wp2_with (first | (go_at_call 118; refine (HO.out _).mono ?_; rintro e w1 ⟨rfl, hb1⟩; replace hb := hb.trans (hb1.mono hb.size); clear h0 h1 h2 h3 h4 h5 h6 h7 hb1; obtain ⟨h0, h1, h2, h3, h4, h5, h6, h7⟩ := hX.out.below hb; simp only [Nat.zero_add] at h0 h1 h2 h3 h4 h5 h6 h7) | (go_at_call 105; refine (implRoleFault_c _ _ _).mono ?_; rintro e w1 ⟨rfl, hb1⟩; replace hb := hb.trans (hb1.mono hb.size); clear h0 h1 h2 h3 h4 h5 h6 h7 hb1; obtain ⟨h0, h1, h2, h3, h4, h5, h6, h7⟩ := hX.out.below hb; simp only [Nat.zero_add] at h0 h1 h2 h3 h4 h5 h6 h7; rw [hc]) | (go_at_call 147; refine (hasStray_c r hk _).mono ?_; rintro e w1 ⟨rfl, hb1⟩; replace hb := hb.trans (hb1.mono hb.size); clear h0 h1 h2 h3 h4 h5 h6 h7 hb1; obtain ⟨h0, h1, h2, h3, h4, h5, h6, h7⟩ := hX.out.below hb; simp only [Nat.zero_add] at h0 h1 h2 h3 h4 h5 h6 h7; rw [hbr]) | (go_at_call 148; refine (HF.out _).mono ?_; rintro e w1 ⟨rfl, hb1⟩; replace hb := hb.trans (hb1.mono hb.size); clear h0 h1 h2 h3 h4 h5 h6 h7 hb1; obtain ⟨h0, h1, h2, h3, h4, h5, h6, h7⟩ := hX.out.below hb; simp only [Nat.zero_add] at h0 h1 h2 h3 h4 h5 h6 h7))
      go_ret
      exact ⟨by rw [E.out]; rfl, below_new hb⟩

theorem implRuleFault_c (r : RuleI) (w : World) :
    Calls Tryz.prog 116 #[.agg #[.int .i64 r.k, .int .i64 r.ho, .int .i64 r.hn, .int .i64 r.w, .int .i64 r.oo, .int .i64 r.on, .int .i64 r.to, .int .i64 r.tn]] w fun e w' =>
      e = .returned (.int .i64 (ruleCode r)) ∧ Below w.heap.size w w' := by
  by_cases hk : 1 ≤ r.k ∧ r.k ≤ 4
  · have hk' : r.k = 1 ∨ r.k = 2 ∨ r.k = 3 ∨ r.k = 4 := by omega
    rcases hk' with e | e | e | e
    · have e2 : hasB r = prinB r.w := by simp [hasB, e]
      exact ruleFault_in r _ _ w hk (bodyOf_1 r e) (fun w => by rw [e2]; exact bodyFault_1 r.w w)
    · have e2 : hasB r = roleB r.oo r.on := by simp [hasB, e]
      exact ruleFault_in r _ _ w hk (bodyOf_2 r e) (fun w => by rw [e2]; exact bodyFault_2 r.oo r.on w)
    · have e2 : hasB r = (roleB r.oo r.on && nameB r.tn) := by simp [hasB, e]
      exact ruleFault_in r _ _ w hk (bodyOf_3 r e) (fun w => by rw [e2]; exact bodyFault_3 r.oo r.on r.tn w)
    · have e2 : hasB r = (roleB r.oo r.on && roleB r.to r.tn) := by simp [hasB, e]
      exact ruleFault_in r _ _ w hk (bodyOf_4 r e) (fun w => by rw [e2]; exact bodyFault_4 r.oo r.on r.to r.tn w)
  · have E : Hid (ruleCode r = 1) := by show ruleCode r = 1; simp [ruleCode, hk]
    go_enter Tryz.func116, Tryz.ntmps116
    go_wp2_with (first | (go_at_call 118; refine (bodyOf_0 r hk _).mono ?_; rintro e w1 ⟨rfl, hb1⟩))
    go_ret
    exact ⟨by rw [E.out]; rfl, below_new hb1⟩

end Go.Proofs.YtnfolmjdicfobaaGreatDoor

namespace Go.Proofs.YtnfolmjdicfobaaGreatDoor
open Go.RowKit
set_option linter.unusedVariables false
set_option linter.unusedSimpArgs false

set_option maxHeartbeats 1000000 in
theorem polFault_many (a : Option Addr) (n cap : Nat) (w : World) (hn : n ≤ 1048576) (h16 : 16 < n) :
    Calls Tryz.prog 86 #[.slice a n cap] w fun e w' => e = .returned (.int .i64 2) ∧ Below w.heap.size w w' := by
  have h' : (16 : Int) < (n : Int) := by omega
  go_enter Tryz.func86, Tryz.ntmps86
  go_wp2
  go_ret
  exact ⟨rfl, Below.refl _ _⟩

set_option maxHeartbeats 2000000 in
theorem polFault_few (a : Option Addr) (n cap : Nat) (zs : List RuleI) (c : Int) (w : World) (h16 : n ≤ 16) (hcap : n ≤ cap) (hcm : cap ≤ maxLen) (h : RulesIn w a n zs) (hc : polTo zs n = c) :
    Calls Tryz.prog 86 #[.slice a n cap] w fun e w' => e = .returned (.int .i64 c) ∧ Below w.heap.size w w' := by
  have H : Hid (RulesIn w a n zs) := h
  have hz : Hid (zs.length = n) := h.1
  have HC : Hid (polTo zs n = c) := hc
  clear h hc
  have h' : ¬ ((16 : Int) < (n : Int)) := by omega
  go_enter Tryz.func86, Tryz.ntmps86
  go_wp2
  go_loopw [11] (fun i wr => ∃ k : Nat, k ≤ n ∧ i = .int .i64 (k : Int) ∧ polTo zs k = 0 ∧ Below w.heap.size w wr) (fun i _ => n - (intOf i).toNat)
  case atStart => exact ⟨0, Nat.zero_le _, rfl, rfl, Below.refl _ _⟩
  case round =>
    obtain ⟨k, hk, rfl, hp, hnx⟩ := hrel
    have HP : Hid (polTo zs k = 0) := hp
    clear hp
    by_cases hlt : k < n
    · obtain ⟨b, off, r, rfl, hs, hr⟩ := H.out.at hlt
      have HS : Hid (zs[k]? = some r) := hs
      clear hs
      obtain ⟨h0, h1, h2, h3, h4, h5, h6, h7⟩ := hr.below hnx
      clear hr
      have hlt' : (k : Int) < (n : Int) := by omega
      go_wp2_with fail
      refine (implRuleFault_c r _).mono ?_
      rintro e w1 ⟨rfl, hb1⟩
      have hz1 := hb1.size
      simp only [World.size_alloc] at hz1
      have hnx1 : Below w.heap.size w w1 := hnx.trans ((below_new hb1).mono hnx.size)
      have hlt1 : wr.heap.size < w1.heap.size := by omega
      have hR : Hid (RuleAt w1 wr.heap.size 0 r) := (RuleAt.new wr r _).below hb1
      clear h0 h1 h2 h3 h4 h5 h6 h7 hb1
      by_cases hcode : ruleCode r = 0
      · rw [hcode]
        have HO : Hid (ruleCode r = 0) := hcode
        clear hcode
        have HX : Hid (RulesIn w1 (some ⟨b, off, none⟩) k (zs.take k)) := (H.out.cut hk).below hnx1
        have hkc : (k : Int) ≤ (cap : Int) := by omega
        have hk0 : (0 : Int) ≤ (k : Int) := by omega
        obtain ⟨h0, h1, h2, h3, h4, h5, h6, h7⟩ := hR.out
        simp only [Nat.zero_add] at h0 h1 h2 h3 h4 h5 h6 h7
        obtain ⟨t, ht⟩ : ∃ t, t = decide (r ∈ zs.take k) := ⟨_, rfl⟩
        have HC2 : Hid (∀ w2 : World, (∀ b o, b < w1.heap.size → w2.cell? ⟨b, o, none⟩ = w1.cell? ⟨b, o, none⟩) ∧ Below w1.heap.size w1 w2 → Calls Tryz.prog 122 #[.slice (some ⟨b, off, none⟩) k cap, .agg #[.int .i64 r.k, .int .i64 r.ho, .int .i64 r.hn, .int .i64 r.w, .int .i64 r.oo, .int .i64 r.on, .int .i64 r.to, .int .i64 r.tn]] w2 fun e w' => e = .returned (.bool t) ∧ Below w2.heap.size w2 w') := fun w2 hb => by rw [ht]; exact slContains_c _ _ _ _ r w2 (by omega) (HX.out.below hb.2)
        have HT : Hid (t = decide (r ∈ zs.take k)) := ht
        clear ht
        cases t
        · have HN : Hid (polTo zs (k + 1) = 0) := polTo_good zs k r HS.out HP.out HO.out (by simpa using HT.out)
          go_wp2
          go_region_held3 (fun w' => (∀ b o, b < w1.heap.size → w'.cell? ⟨b, o, none⟩ = w1.cell? ⟨b, o, none⟩) ∧ Below w1.heap.size w1 w') (first | exact hS | exact kp_drew _)
            (first | (go_at_call 122; refine (HC2.out _ (by assumption)).mono ?_; rintro e w' ⟨rfl, hb2⟩; have hS := kp_step (by assumption) hb2))
          go_wp2
          exact ⟨⟨k + 1, by omega, by go_num, HN.out, hnx1.trans (hS.2.mono hnx1.size)⟩, by simp [intOf]; omega⟩
        · have HI : Hid (c = 6) := HC.out.symm.trans (polTo_stay zs (k + 1) n 6 (by decide) (polTo_same zs k r HS.out HP.out HO.out (by simpa using HT.out)) (by omega))
          go_wp2
          go_region_held3 (fun w' => (∀ b o, b < w1.heap.size → w'.cell? ⟨b, o, none⟩ = w1.cell? ⟨b, o, none⟩) ∧ Below w1.heap.size w1 w') (first | exact hS | exact kp_drew _)
            (first | (go_at_call 122; refine (HC2.out _ (by assumption)).mono ?_; rintro e w' ⟨rfl, hb2⟩; have hS := kp_step (by assumption) hb2))
          go_wp2
          go_ret
          exact ⟨by rw [HI.out]; rfl, hnx1.trans (hS.2.mono hnx1.size)⟩
      · have E : Hid (c = ruleCode r) := (HC.out.symm.trans (polTo_stay zs (k + 1) n _ hcode (polTo_bad zs k r HS.out HP.out hcode) (by omega)))
        obtain ⟨d, hd⟩ : ∃ d, d = ruleCode r := ⟨_, rfl⟩
        rw [← hd] at hcode E ⊢
        clear hd
        have hne : (d != 0) = true := by simpa using hcode
        go_wp2
        go_ret
        exact ⟨by rw [E.out]; rfl, hnx1⟩
    · have hkn : k = n := by omega
      subst hkn
      have E : Hid (c = 0) := HC.out.symm.trans HP.out
      go_wp2
      go_ret
      exact ⟨by rw [E.out]; rfl, hnx⟩

theorem implPolicyFault_c (a : Option Addr) (n cap : Nat) (zs : List RuleI) (w : World) (hn : n ≤ 1048576) (hcap : n ≤ cap) (hcm : cap ≤ maxLen) (h : RulesIn w a n zs) :
    Calls Tryz.prog 86 #[.slice a n cap] w fun e w' => e = .returned (.int .i64 (polCode zs)) ∧ Below w.heap.size w w' := by
  have hz := h.1
  by_cases h16 : 16 < n
  · have e : polCode zs = 2 := by simp [polCode, hz, h16]
    rw [e]
    exact polFault_many a n cap w hn h16
  · have e : polCode zs = polTo zs n := by simp [polCode, hz, h16]
    rw [e]
    exact polFault_few a n cap zs _ w (by omega) hcap hcm h rfl

end Go.Proofs.YtnfolmjdicfobaaGreatDoor

namespace Go.Proofs.YtnfolmjdicfobaaGreatDoor
open Go.RowKit
set_option linter.unusedVariables false
set_option linter.unusedSimpArgs false

theorem polTo_zero {zs : List RuleI} {n : Nat} (h : polTo zs n = 0) : ∀ j r, j < n → zs[j]? = some r → ruleCode r = 0 := by
  induction n with
  | zero => intro j r hj; omega
  | succ n ih =>
    intro j r hj hr
    have h0 : polTo zs n = 0 := by
      by_cases q : polTo zs n = 0
      · exact q
      · have := polTo_stay zs n (n + 1) _ q rfl (by omega); rw [this] at h; exact absurd h q
    by_cases e : j = n
    · subst e
      by_cases q : ruleCode r = 0
      · exact q
      · have := polTo_bad zs j r hr h0 q; rw [this] at h; exact absurd h q
    · exact ih h0 j r (by omega) hr

theorem kinds_of {zs : List RuleI} {n : Nat} (h : polTo zs n = 0) {j : Nat} {r : RuleI} (hj : j < n) (hr : zs[j]? = some r) : r.k = 1 ∨ r.k = 2 ∨ r.k = 3 ∨ r.k = 4 := by
  have h0 := polTo_zero h j r hj hr
  unfold ruleCode at h0
  split at h0
  · simp at h0
  · rename_i q
    simp at q
    omega

/-- What a body's roles answers: a new slice that holds them. -/
def GivesNew (f : Nat) (v : Value) (xs : List RoI) : Prop := ∀ w : World, Calls Tryz.prog f #[v] w fun e w' => ∃ g : Nat, e = .returned (.slice (some ⟨g, 0, none⟩) xs.length xs.length) ∧ (∀ j u, (flat2 xs)[j]? = some u → w'.cell? ((⟨g, 0, none⟩ : Addr).add j) = some u) ∧ Below w.heap.size w w'

set_option maxHeartbeats 400000 in
theorem roles_1 (x : Int) (w : World) : Calls Tryz.prog 192 #[.agg #[.int .i64 x]] w fun e w' => e = .returned (.slice none 0 0) ∧ Below w.heap.size w w' := by
  go_enter Tryz.func192, Tryz.ntmps192
  go_wp2
  go_ret
  exact ⟨rfl, by go_grown⟩

theorem news_1 {w' : World} {g : Nat} {o n : Int} (h0 : w'.cell? ⟨g, 0, none⟩ = some (.int .i64 o)) (h1 : w'.cell? ⟨g, 1, none⟩ = some (.int .i64 n)) : ∀ j u, (flat2 [(o, n)])[j]? = some u → w'.cell? ((⟨g, 0, none⟩ : Addr).add j) = some u := by
  intro j u hj
  rw [Go.WideShapes.add_plain, Nat.zero_add]
  match j, hj with
  | 0, hj => simp [flat2] at hj; subst hj; exact h0
  | 1, hj => simp [flat2] at hj; subst hj; exact h1

theorem news_2 {w' : World} {g : Nat} {o n p m : Int} (h0 : w'.cell? ⟨g, 0, none⟩ = some (.int .i64 o)) (h1 : w'.cell? ⟨g, 1, none⟩ = some (.int .i64 n)) (h2 : w'.cell? ⟨g, 2, none⟩ = some (.int .i64 p)) (h3 : w'.cell? ⟨g, 3, none⟩ = some (.int .i64 m)) : ∀ j u, (flat2 [(o, n), (p, m)])[j]? = some u → w'.cell? ((⟨g, 0, none⟩ : Addr).add j) = some u := by
  intro j u hj
  rw [Go.WideShapes.add_plain, Nat.zero_add]
  match j, hj with
  | 0, hj => simp [flat2] at hj; subst hj; exact h0
  | 1, hj => simp [flat2] at hj; subst hj; exact h1
  | 2, hj => simp [flat2] at hj; subst hj; exact h2
  | 3, hj => simp [flat2] at hj; subst hj; exact h3

set_option maxHeartbeats 400000 in
theorem roles_2 (o n : Int) : GivesNew 193 (.agg #[.int .i64 o, .int .i64 n]) [(o, n)] := by
  intro w
  go_enter Tryz.func193, Tryz.ntmps193
  go_wp2
  go_ret
  exact ⟨_, rfl, news_1 (by simp) (by simp), by go_grown⟩

set_option maxHeartbeats 400000 in
theorem roles_3 (o n d : Int) : GivesNew 194 (.agg #[.int .i64 o, .int .i64 n, .int .i64 d]) [(o, n)] := by
  intro w
  go_enter Tryz.func194, Tryz.ntmps194
  go_wp2
  go_ret
  exact ⟨_, rfl, news_1 (by simp) (by simp), by go_grown⟩

set_option maxHeartbeats 400000 in
theorem roles_4 (o n p m : Int) : GivesNew 195 (.agg #[.int .i64 o, .int .i64 n, .int .i64 p, .int .i64 m]) [(o, n), (p, m)] := by
  intro w
  go_enter Tryz.func195, Tryz.ntmps195
  go_wp2
  try go_quiet (fail)
  go_wp2
  go_ret
  first
    | exact ⟨_, rfl, news_2 (by simp) (by simp) (by simp) (by simp), by go_grown⟩
    | exact ⟨_, rfl, news_2 (by simp [go_sem]) (by simp [go_sem]) (by simp [go_sem]) (by simp [go_sem]), bdN (by go_grown) _⟩

end Go.Proofs.YtnfolmjdicfobaaGreatDoor

namespace Go.Proofs.YtnfolmjdicfobaaGreatDoor
open Go.RowKit
set_option linter.unusedVariables false
set_option linter.unusedSimpArgs false

/-- Roles in memory. -/
def RosIn (w : World) (a : Option Addr) (n : Nat) (xs : List RoI) : Prop := xs.length = n ∧ (0 < n → ∃ b off, a = some ⟨b, off, none⟩ ∧ ∀ k r, xs[k]? = some r → w.cell? ⟨b, off + k * 2, none⟩ = some (.int .i64 r.1) ∧ w.cell? ⟨b, off + k * 2 + 1, none⟩ = some (.int .i64 r.2))

theorem RosIn.below {w w' : World} {a : Option Addr} {n : Nat} {xs : List RoI} (h : RosIn w a n xs) (hb : Below w.heap.size w w') : RosIn w' a n xs := by
  refine ⟨h.1, fun hn => ?_⟩
  obtain ⟨b, off, e, k⟩ := h.2 hn
  refine ⟨b, off, e, fun j r hr => ?_⟩
  obtain ⟨h1, h2⟩ := k j r hr
  exact ⟨(hb.cell (p := ⟨b, off + j * 2, none⟩) (World.block_lt_of_cell? w ⟨b, off + j * 2, none⟩ h1)).trans h1, (hb.cell (p := ⟨b, off + j * 2 + 1, none⟩) (World.block_lt_of_cell? w ⟨b, off + j * 2 + 1, none⟩ h2)).trans h2⟩

theorem rosIn_of {w : World} {g : Nat} {xs : List RoI} (h : ∀ j u, (flat2 xs)[j]? = some u → w.cell? ((⟨g, 0, none⟩ : Addr).add j) = some u) : RosIn w (some ⟨g, 0, none⟩) xs.length xs := by
  refine ⟨rfl, fun _ => ⟨g, 0, rfl, fun k r hr => ?_⟩⟩
  have h1 := h _ _ (flat2_fst xs k r hr)
  have h2 := h _ _ (flat2_snd xs k r hr)
  rw [Go.WideShapes.add_plain] at h1 h2
  rw [Nat.zero_add] at h1 h2 ⊢
  exact ⟨h1, h2⟩

theorem mem_takeR (zs : List RoI) (k : Nat) (r : RoI) : r ∈ zs.take k ↔ ∃ j, j < k ∧ zs[j]? = some r := by
  rw [List.mem_iff_getElem?]
  constructor
  · rintro ⟨j, hj⟩
    rw [List.getElem?_take] at hj
    by_cases h : j < k
    · rw [if_pos h] at hj; exact ⟨j, h, hj⟩
    · rw [if_neg h] at hj; cases hj
  · rintro ⟨j, h, hj⟩
    exact ⟨j, by rw [List.getElem?_take, if_pos h]; exact hj⟩

attribute [local go_sem ↓] ro_eql

set_option maxHeartbeats 1000000 in
theorem slIndexR_c (a : Option Addr) (n cap : Nat) (zs : List RoI) (r : RoI) (w : World) (hn : n ≤ 1048576) (h : RosIn w a n zs) :
    Calls Tryz.prog 166 #[.slice a n cap, .agg #[.int .i64 r.1, .int .i64 r.2]] w fun e w' => (∃ i : Int, e = .returned (.int .i64 i) ∧ ((0 ≤ i ∧ r ∈ zs) ∨ (i = -1 ∧ ¬ r ∈ zs))) ∧ Below w.heap.size w w' := by
  have H : Hid (RosIn w a n zs) := h
  have hz : Hid (zs.length = n) := h.1
  clear h
  have hn' : (n : Int) ≤ 1048576 := by omega
  go_enter Tryz.func166, Tryz.ntmps166
  go_wp2
  go_loopw [8] (fun i wr => ∃ k : Nat, k ≤ n ∧ i = .int .i64 (k : Int) ∧ ¬ r ∈ zs.take k ∧ ∃ m, wr = (w.alloc (.cells #[.int .i64 r.1, .int .i64 r.2] 79)).drewN m) (fun i _ => n - (intOf i).toNat)
  case atStart => exact ⟨0, Nat.zero_le _, rfl, by simp, 0, rfl⟩
  case round =>
    obtain ⟨k, hk, rfl, hm, m, rfl⟩ := hrel
    have HM : Hid (¬ r ∈ zs.take k) := hm
    clear hm
    by_cases hlt : k < n
    · obtain ⟨b, off, rfl, hcells⟩ := H.out.2 (by omega)
      obtain ⟨s, hs⟩ : ∃ s, zs[k]? = some s := ⟨_, List.getElem?_eq_getElem (by rw [hz.out]; exact hlt)⟩
      obtain ⟨h0, h1⟩ := hcells k s hs
      have HS : Hid (zs[k]? = some s) := hs
      clear hs hcells
      have hb : b < w.heap.size := World.block_lt_of_cell? w ⟨b, off + k * 2, none⟩ h0
      have b0 : (w.alloc (.cells #[.int .i64 r.1, .int .i64 r.2] 79)).cell? ⟨w.heap.size, 0, none⟩ = some (.int .i64 r.1) := by simp
      have b1 : (w.alloc (.cells #[.int .i64 r.1, .int .i64 r.2] 79)).cell? ⟨w.heap.size, 1, none⟩ = some (.int .i64 r.2) := by simp
      have hlt' : (k : Int) < (n : Int) := by omega
      cases hsame : eqRo r s
      · have HN : Hid (¬ r ∈ zs.take (k + 1)) := by
          show ¬ r ∈ zs.take (k + 1)
          rw [mem_takeR]
          rintro ⟨j, hj, hjs⟩
          by_cases e : j = k
          · subst e
            rw [HS.out] at hjs
            have := (eqRo_iff r s).2 (Option.some.inj hjs).symm
            rw [hsame] at this; cases this
          · exact HM.out ((mem_takeR _ _ _).2 ⟨j, by omega, hjs⟩)
        go_wp2
        go_quiet (fail)
        go_wp2
        exact ⟨⟨k + 1, by omega, by go_num, HN.out, _, rfl⟩, by simp [intOf]; omega⟩
      · have HI : Hid (r ∈ zs) := by
          show r ∈ zs
          rw [(eqRo_iff r s).1 hsame]
          exact List.mem_of_getElem? HS.out
        go_wp2
        go_quiet (fail)
        go_wp2
        go_ret
        exact ⟨⟨_, rfl, Or.inl ⟨by omega, HI.out⟩⟩, by first | exact bdN ((Below.refl _ _).alloc (Nat.le_refl _) _) _ | exact bdN (bdN ((Below.refl _ _).alloc (Nat.le_refl _) _) _) _⟩
    · have hkn : k = n := by omega
      subst hkn
      have HN : Hid (¬ r ∈ zs) := by
        have := HM.out
        rw [List.take_of_length_le (by rw [hz.out]; exact Nat.le_refl _)] at this
        exact this
      go_wp2
      go_ret
      exact ⟨⟨_, rfl, Or.inr ⟨rfl, HN.out⟩⟩, bdN (by go_grown) _⟩

set_option maxHeartbeats 400000 in
theorem slContainsR_c (a : Option Addr) (n cap : Nat) (zs : List RoI) (r : RoI) (w : World) (hn : n ≤ 1048576) (h : RosIn w a n zs) :
    Calls Tryz.prog 153 #[.slice a n cap, .agg #[.int .i64 r.1, .int .i64 r.2]] w fun e w' => e = .returned (.bool (decide (r ∈ zs))) ∧ Below w.heap.size w w' := by
  have H : Hid (RosIn (w.alloc (.cells #[.int .i64 r.1, .int .i64 r.2] 79)) a n zs) := h.below ((Below.refl _ _).alloc (Nat.le_refl _) _)
  clear h
  go_enter Tryz.func153, Tryz.ntmps153
  go_wp2_with fail
  refine (slIndexR_c a n cap zs r _ hn H.out).mono ?_
  rintro e w1 ⟨⟨i, rfl, hi⟩, hb1⟩
  have HX : Hid (decide (0 ≤ i) = decide (r ∈ zs)) := by
    show decide (0 ≤ i) = decide (r ∈ zs)
    rcases hi with ⟨h1, h2⟩ | ⟨rfl, h2⟩
    · simp [h1, h2]
    · simp [h2]
  clear hi
  go_wp2
  go_ret
  exact ⟨by rw [HX.out]; rfl, below_new hb1⟩

attribute [local go_sem] ta11 ta12 ta13 ta14 ta21 ta22 ta23 ta24 ta31 ta32 ta33 ta34 ta41 ta42 ta43 ta44

/-- Two boxes ahead of a call that leaves them. -/
theorem boxes2 {w w1 : World} {o1 : Obj} {h0 h1 : Value} {t : TypeId} (hb : Below ((w.alloc o1).alloc (.cells #[h0, h1] t)).heap.size ((w.alloc o1).alloc (.cells #[h0, h1] t)) w1) :
    w1.cell? ⟨w.heap.size + 1, 0, none⟩ = some h0 ∧ w1.cell? ⟨w.heap.size + 1, 1, none⟩ = some h1 ∧ w.heap.size + 2 ≤ w1.heap.size ∧ Below w.heap.size w w1 := by
  have hz := hb.size
  simp only [World.size_alloc] at hz
  refine ⟨(hb.cell (p := ⟨w.heap.size + 1, 0, none⟩) (by simp)).trans (by simp), (hb.cell (p := ⟨w.heap.size + 1, 1, none⟩) (by simp)).trans (by simp), hz, below_new (below_new hb)⟩

theorem boxes3 {w w1 : World} {h0 h1 : Value} {b : Nat} (o : Obj) (c0 : w1.cell? ⟨b, 0, none⟩ = some h0) (c1 : w1.cell? ⟨b, 1, none⟩ = some h1) (hz : b < w1.heap.size) (hb : Below w.heap.size w w1) :
    ∃ W, w1.alloc o = W ∧ W.cell? ⟨b, 0, none⟩ = some h0 ∧ W.cell? ⟨b, 1, none⟩ = some h1 ∧ b < W.heap.size ∧ Below w.heap.size w W := by
  have hA : Below w1.heap.size w1 (w1.alloc o) := (Below.refl _ _).alloc (Nat.le_refl _) _
  exact ⟨_, rfl, (hA.cell (p := ⟨b, 0, none⟩) hz).trans c0, (hA.cell (p := ⟨b, 1, none⟩) hz).trans c1, Nat.lt_of_lt_of_le hz hA.size, hb.alloc hb.size _⟩

set_option maxRecDepth 100000 in
set_option maxHeartbeats 1000000 in
theorem leans_1 (r : RuleI) (h : RoI) (w : World) (e1 : r.k = 1) :
    Calls Tryz.prog 127 #[.agg #[.int .i64 r.k, .int .i64 r.ho, .int .i64 r.hn, .int .i64 r.w, .int .i64 r.oo, .int .i64 r.on, .int .i64 r.to, .int .i64 r.tn], .agg #[.int .i64 h.1, .int .i64 h.2]] w fun e w' => e = .returned (.bool (leansB r h)) ∧ Below w.heap.size w w' := by
  obtain ⟨t, ht⟩ : ∃ t, leansB r h = t := ⟨_, rfl⟩
  have HT : Hid (decide (h ∈ ([] : List RoI)) = t) := by rw [← ht]; show _ = leansB r h; simp [leansB, bodyR, e1]
  rw [ht]
  have E1 : Hid (r.k = 1) := e1
  clear e1 ht
  go_enter Tryz.func127, Tryz.ntmps127
  go_wp2_with (first | (go_at_call 118; refine (bodyOf_1 r E1.out _).mono ?_; rintro e w1 ⟨rfl, hb0⟩; obtain ⟨c0, c1, hz, hb⟩ := boxes2 hb0; clear hb0) | go_in)
  obtain ⟨W, hW, p0, p1, hzW, hbW⟩ := boxes3 (.cells #[.int .i64 0, .int .i64 0, .int .i64 0] 204) c0 c1 (by omega) hb
  rw [hW]
  clear hW c0 c1 hz hb
  go_region_with (first
    | (go_at_call 192; refine (roles_1 _ _).mono ?_; rintro e w2 ⟨rfl, hb2⟩; have q0 : w2.cell? ⟨w.heap.size + 1, 0, none⟩ = some (.int .i64 h.1) := (hb2.cell (p := ⟨w.heap.size + 1, 0, none⟩) hzW).trans p0; have q1 : w2.cell? ⟨w.heap.size + 1, 1, none⟩ = some (.int .i64 h.2) := (hb2.cell (p := ⟨w.heap.size + 1, 1, none⟩) hzW).trans p1)
    | (go_at_call 153; refine (slContainsR_c none 0 0 [] h _ (by omega) ⟨rfl, fun q => by omega⟩).mono ?_; rintro e w3 ⟨he3, hb3⟩; rw [HT.out] at he3; subst he3))
  all_goals go_wp2
  all_goals go_ret
  all_goals exact ⟨rfl, (hbW.drew.trans (hb2.mono hbW.size)).trans (hb3.mono (Nat.le_trans hbW.size hb2.size))⟩

set_option maxRecDepth 100000 in
set_option maxHeartbeats 1000000 in
theorem leans_2 (r : RuleI) (h : RoI) (w : World) (e1 : r.k = 2) :
    Calls Tryz.prog 127 #[.agg #[.int .i64 r.k, .int .i64 r.ho, .int .i64 r.hn, .int .i64 r.w, .int .i64 r.oo, .int .i64 r.on, .int .i64 r.to, .int .i64 r.tn], .agg #[.int .i64 h.1, .int .i64 h.2]] w fun e w' => e = .returned (.bool (leansB r h)) ∧ Below w.heap.size w w' := by
  obtain ⟨t, ht⟩ : ∃ t, leansB r h = t := ⟨_, rfl⟩
  have HT : Hid (decide (h ∈ [(r.oo, r.on)]) = t) := by rw [← ht]; show _ = leansB r h; simp [leansB, bodyR, e1]
  rw [ht]
  have E1 : Hid (r.k = 2) := e1
  clear e1 ht
  go_enter Tryz.func127, Tryz.ntmps127
  go_wp2_with (first | (go_at_call 118; refine (bodyOf_2 r E1.out _).mono ?_; rintro e w1 ⟨rfl, hb0⟩; obtain ⟨c0, c1, hz, hb⟩ := boxes2 hb0; clear hb0) | go_in)
  obtain ⟨W, hW, p0, p1, hzW, hbW⟩ := boxes3 (.cells #[.int .i64 0, .int .i64 0, .int .i64 0] 204) c0 c1 (by omega) hb
  rw [hW]
  clear hW c0 c1 hz hb
  go_region_with (first
    | (go_at_call 193; refine (roles_2 _ _ _).mono ?_; rintro e w2 ⟨g, rfl, hc2, hb2⟩; have HC2 : Hid (RosIn w2 (some ⟨g, 0, none⟩) ([(r.oo, r.on)]).length ([(r.oo, r.on)])) := rosIn_of hc2; clear hc2; have q0 : w2.cell? ⟨w.heap.size + 1, 0, none⟩ = some (.int .i64 h.1) := (hb2.cell (p := ⟨w.heap.size + 1, 0, none⟩) hzW).trans p0; have q1 : w2.cell? ⟨w.heap.size + 1, 1, none⟩ = some (.int .i64 h.2) := (hb2.cell (p := ⟨w.heap.size + 1, 1, none⟩) hzW).trans p1)
    | (go_at_call 153; refine (slContainsR_c _ _ _ [(r.oo, r.on)] h _ (by simp) HC2.out).mono ?_; rintro e w3 ⟨he3, hb3⟩; rw [HT.out] at he3; subst he3))
  all_goals go_wp2
  all_goals go_ret
  all_goals exact ⟨rfl, (hbW.drew.trans (hb2.mono hbW.size)).trans (hb3.mono (Nat.le_trans hbW.size hb2.size))⟩

set_option maxRecDepth 100000 in
set_option maxHeartbeats 1000000 in
theorem leans_3 (r : RuleI) (h : RoI) (w : World) (e1 : r.k = 3) (e3 : r.tn ≠ h.2) :
    Calls Tryz.prog 127 #[.agg #[.int .i64 r.k, .int .i64 r.ho, .int .i64 r.hn, .int .i64 r.w, .int .i64 r.oo, .int .i64 r.on, .int .i64 r.to, .int .i64 r.tn], .agg #[.int .i64 h.1, .int .i64 h.2]] w fun e w' => e = .returned (.bool (leansB r h)) ∧ Below w.heap.size w w' := by
  obtain ⟨t, ht⟩ : ∃ t, leansB r h = t := ⟨_, rfl⟩
  have HT : Hid (decide (h ∈ [(r.oo, r.on)]) = t) := by rw [← ht]; show _ = leansB r h; simp [leansB, bodyR, e1, e3]
  rw [ht]
  have b3 : (r.tn == h.2) = false := by simp [e3]
  have E1 : Hid (r.k = 3) := e1
  clear e1 ht e3
  go_enter Tryz.func127, Tryz.ntmps127
  go_wp2_with (first | (go_at_call 118; refine (bodyOf_3 r E1.out _).mono ?_; rintro e w1 ⟨rfl, hb0⟩; obtain ⟨c0, c1, hz, hb⟩ := boxes2 hb0; clear hb0; have hlt1 : w.heap.size + 1 < w1.heap.size := by omega) | go_in)
  obtain ⟨W, hW, p0, p1, hzW, hbW⟩ := boxes3 (.cells #[.int .i64 r.oo, .int .i64 r.on, .int .i64 r.tn] 204) c0 c1 (by omega) hb
  rw [hW]
  clear hW c0 c1 hz hb hlt1
  go_region_with (first
    | (go_at_call 194; refine (roles_3 _ _ _ _).mono ?_; rintro e w2 ⟨g, rfl, hc2, hb2⟩; have HC2 : Hid (RosIn w2 (some ⟨g, 0, none⟩) ([(r.oo, r.on)]).length ([(r.oo, r.on)])) := rosIn_of hc2; clear hc2; have q0 : w2.cell? ⟨w.heap.size + 1, 0, none⟩ = some (.int .i64 h.1) := (hb2.cell (p := ⟨w.heap.size + 1, 0, none⟩) hzW).trans p0; have q1 : w2.cell? ⟨w.heap.size + 1, 1, none⟩ = some (.int .i64 h.2) := (hb2.cell (p := ⟨w.heap.size + 1, 1, none⟩) hzW).trans p1)
    | (go_at_call 153; refine (slContainsR_c _ _ _ [(r.oo, r.on)] h _ (by simp) HC2.out).mono ?_; rintro e w3 ⟨he3, hb3⟩; rw [HT.out] at he3; subst he3))
  all_goals go_wp2
  all_goals go_ret
  all_goals exact ⟨rfl, (hbW.drew.trans (hb2.mono hbW.size)).trans (hb3.mono (Nat.le_trans hbW.size hb2.size))⟩

set_option maxRecDepth 100000 in
set_option maxHeartbeats 1000000 in
theorem leans_4 (r : RuleI) (h : RoI) (w : World) (e1 : r.k = 4) :
    Calls Tryz.prog 127 #[.agg #[.int .i64 r.k, .int .i64 r.ho, .int .i64 r.hn, .int .i64 r.w, .int .i64 r.oo, .int .i64 r.on, .int .i64 r.to, .int .i64 r.tn], .agg #[.int .i64 h.1, .int .i64 h.2]] w fun e w' => e = .returned (.bool (leansB r h)) ∧ Below w.heap.size w w' := by
  obtain ⟨t, ht⟩ : ∃ t, leansB r h = t := ⟨_, rfl⟩
  have HT : Hid (decide (h ∈ [(r.oo, r.on), (r.to, r.tn)]) = t) := by rw [← ht]; show _ = leansB r h; simp [leansB, bodyR, e1]
  rw [ht]
  have E1 : Hid (r.k = 4) := e1
  clear e1 ht
  go_enter Tryz.func127, Tryz.ntmps127
  go_wp2_with (first | (go_at_call 118; refine (bodyOf_4 r E1.out _).mono ?_; rintro e w1 ⟨rfl, hb0⟩; obtain ⟨c0, c1, hz, hb⟩ := boxes2 hb0; clear hb0) | go_in)
  obtain ⟨W, hW, p0, p1, hzW, hbW⟩ := boxes3 (.cells #[.int .i64 0, .int .i64 0, .int .i64 0] 204) c0 c1 (by omega) hb
  rw [hW]
  clear hW c0 c1 hz hb
  go_region_with (first
    | (go_at_call 195; refine (roles_4 _ _ _ _ _).mono ?_; rintro e w2 ⟨g, rfl, hc2, hb2⟩; have HC2 : Hid (RosIn w2 (some ⟨g, 0, none⟩) ([(r.oo, r.on), (r.to, r.tn)]).length ([(r.oo, r.on), (r.to, r.tn)])) := rosIn_of hc2; clear hc2; have q0 : w2.cell? ⟨w.heap.size + 1, 0, none⟩ = some (.int .i64 h.1) := (hb2.cell (p := ⟨w.heap.size + 1, 0, none⟩) hzW).trans p0; have q1 : w2.cell? ⟨w.heap.size + 1, 1, none⟩ = some (.int .i64 h.2) := (hb2.cell (p := ⟨w.heap.size + 1, 1, none⟩) hzW).trans p1)
    | (go_at_call 153; refine (slContainsR_c _ _ _ [(r.oo, r.on), (r.to, r.tn)] h _ (by simp) HC2.out).mono ?_; rintro e w3 ⟨he3, hb3⟩; rw [HT.out] at he3; subst he3))
  all_goals go_wp2
  all_goals go_ret
  all_goals exact ⟨rfl, (hbW.drew.trans (hb2.mono hbW.size)).trans (hb3.mono (Nat.le_trans hbW.size hb2.size))⟩

set_option maxRecDepth 100000 in
set_option maxHeartbeats 1000000 in
theorem leans_3t (r : RuleI) (h : RoI) (w : World) (e1 : r.k = 3) (e3 : r.tn = h.2) :
    Calls Tryz.prog 127 #[.agg #[.int .i64 r.k, .int .i64 r.ho, .int .i64 r.hn, .int .i64 r.w, .int .i64 r.oo, .int .i64 r.on, .int .i64 r.to, .int .i64 r.tn], .agg #[.int .i64 h.1, .int .i64 h.2]] w fun e w' => e = .returned (.bool (leansB r h)) ∧ Below w.heap.size w w' := by
  have E : leansB r h = true := by simp [leansB, e1, e3]
  rw [E]
  have b3 : (r.tn == h.2) = true := by simp [e3]
  have E1 : Hid (r.k = 3) := e1
  clear e1 E e3
  go_enter Tryz.func127, Tryz.ntmps127
  go_wp2_with (first | (go_at_call 118; refine (bodyOf_3 r E1.out _).mono ?_; rintro e w1 ⟨rfl, hb0⟩; obtain ⟨c0, c1, hz, hb⟩ := boxes2 hb0; clear hb0; have hlt1 : w.heap.size + 1 < w1.heap.size := by omega) | go_in)
  go_ret
  exact ⟨rfl, hb.alloc hb.size _⟩

theorem leansOn_c (r : RuleI) (h : RoI) (w : World) (hk : 1 ≤ r.k ∧ r.k ≤ 4) :
    Calls Tryz.prog 127 #[.agg #[.int .i64 r.k, .int .i64 r.ho, .int .i64 r.hn, .int .i64 r.w, .int .i64 r.oo, .int .i64 r.on, .int .i64 r.to, .int .i64 r.tn], .agg #[.int .i64 h.1, .int .i64 h.2]] w fun e w' => e = .returned (.bool (leansB r h)) ∧ Below w.heap.size w w' := by
  have h4 : r.k = 1 ∨ r.k = 2 ∨ r.k = 3 ∨ r.k = 4 := by omega
  rcases h4 with e | e | e | e
  · exact leans_1 r h w e
  · exact leans_2 r h w e
  · by_cases q : r.tn = h.2
    · exact leans_3t r h w e q
    · exact leans_3 r h w e q
  · exact leans_4 r h w e

end Go.Proofs.YtnfolmjdicfobaaGreatDoor
