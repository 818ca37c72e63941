/-
  CONTRACT of impl.RuleFault.
  Conditions: none.
  CONTRACT: impl.PolicyFault.
  Conditions: each contract bears its own.
  CONTRACT: impl.RolesIn, what it gathers.
  Conditions: each contract bears its own.
  CONTRACTS: slices.Index and slices.Contains over roles; impl.leansOn.
  Conditions: each contract bears its own.
-/
import Derived.Test.YtdooocjjohdpjaaPg16
import Derived.Test.YtdooocjjohdpjaaPg04
import Derived.Deep.RegionHeld3
import Derived.Test.YtdooocjjohdpjaaPg15
import Derived.Laws.AppendOwnNone
import Derived.Test.YtdooocjjohdpjaaPg07
import Derived.Deep.RegionWith
namespace Go.Proofs.Ytdooocjjohdpjaa
open Go.RowKit
set_option linter.unusedVariables false
set_option linter.unusedSimpArgs false

set_option maxHeartbeats 2000000 in
theorem ruleFault_in (r : RuleI) (t : TypeId) (v : Value) (w : World) (hk : 1 ≤ r.k ∧ r.k ≤ 4)
    (HO : Hid (∀ w : World, Calls Try.prog 71 #[.agg #[.int .i64 r.k, .int .i64 r.ho, .int .i64 r.hn, .int .i64 r.w, .int .i64 r.oo, .int .i64 r.on, .int .i64 r.to, .int .i64 r.tn]] w fun e w' => e = .returned (.iface t v) ∧ Below w.heap.size w w'))
    (HF : Hid (∀ w : World, Calls Try.prog 122 #[.iface t v] w fun e w' => e = .returned (.int .i64 (if hasB r = true then 0 else 3)) ∧ Below w.heap.size w w')) :
    Calls Try.prog 69 #[.agg #[.int .i64 r.k, .int .i64 r.ho, .int .i64 r.hn, .int .i64 r.w, .int .i64 r.oo, .int .i64 r.on, .int .i64 r.to, .int .i64 r.tn]] w fun e w' => e = .returned (.int .i64 (ruleCode r)) ∧ Below w.heap.size w w' := by
  have hX : Hid (RuleAt (w.alloc (Obj.cells #[.int .i64 r.k, .int .i64 r.ho, .int .i64 r.hn, .int .i64 r.w, .int .i64 r.oo, .int .i64 r.on, .int .i64 r.to, .int .i64 r.tn] 100)) w.heap.size 0 r) := RuleAt.new w r _
  cases hr : roleB r.ho r.hn
  · have E : Hid (ruleCode r = 3) := by show ruleCode r = 3; simp [ruleCode, hk, hr]
    have hc : roleCode r.ho r.hn = 3 := by simp [roleCode, hr]
    have hb : Below (w.alloc (Obj.cells #[.int .i64 r.k, .int .i64 r.ho, .int .i64 r.hn, .int .i64 r.w, .int .i64 r.oo, .int .i64 r.on, .int .i64 r.to, .int .i64 r.tn] 100)).heap.size (w.alloc (Obj.cells #[.int .i64 r.k, .int .i64 r.ho, .int .i64 r.hn, .int .i64 r.w, .int .i64 r.oo, .int .i64 r.on, .int .i64 r.to, .int .i64 r.tn] 100)) (w.alloc (Obj.cells #[.int .i64 r.k, .int .i64 r.ho, .int .i64 r.hn, .int .i64 r.w, .int .i64 r.oo, .int .i64 r.on, .int .i64 r.to, .int .i64 r.tn] 100)) := Below.refl _ _
    obtain ⟨h0, h1, h2, h3, h4, h5, h6, h7⟩ := hX.out
    simp only [Nat.zero_add] at h0 h1 h2 h3 h4 h5 h6 h7
    go_enter Try.func69, Try.ntmps69
    go_wp2_with (first | (go_at_call 71; refine (HO.out _).mono ?_; rintro e w1 ⟨rfl, hb1⟩; replace hb := hb.trans (hb1.mono hb.size); clear h0 h1 h2 h3 h4 h5 h6 h7 hb1; obtain ⟨h0, h1, h2, h3, h4, h5, h6, h7⟩ := hX.out.below hb; simp only [Nat.zero_add] at h0 h1 h2 h3 h4 h5 h6 h7) | (go_at_call 63; refine (implRoleFault_c _ _ _).mono ?_; rintro e w1 ⟨rfl, hb1⟩; replace hb := hb.trans (hb1.mono hb.size); clear h0 h1 h2 h3 h4 h5 h6 h7 hb1; obtain ⟨h0, h1, h2, h3, h4, h5, h6, h7⟩ := hX.out.below hb; simp only [Nat.zero_add] at h0 h1 h2 h3 h4 h5 h6 h7; rw [hc]))
    go_ret
    exact ⟨by rw [E.out]; rfl, below_new hb⟩
  · have hc : roleCode r.ho r.hn = 0 := by simp [roleCode, hr]
    cases hbr : bareB r
    · have E : Hid (ruleCode r = 1) := by show ruleCode r = 1; simp [ruleCode, hk, hr, hbr]
      have hb : Below (w.alloc (Obj.cells #[.int .i64 r.k, .int .i64 r.ho, .int .i64 r.hn, .int .i64 r.w, .int .i64 r.oo, .int .i64 r.on, .int .i64 r.to, .int .i64 r.tn] 100)).heap.size (w.alloc (Obj.cells #[.int .i64 r.k, .int .i64 r.ho, .int .i64 r.hn, .int .i64 r.w, .int .i64 r.oo, .int .i64 r.on, .int .i64 r.to, .int .i64 r.tn] 100)) (w.alloc (Obj.cells #[.int .i64 r.k, .int .i64 r.ho, .int .i64 r.hn, .int .i64 r.w, .int .i64 r.oo, .int .i64 r.on, .int .i64 r.to, .int .i64 r.tn] 100)) := Below.refl _ _
      obtain ⟨h0, h1, h2, h3, h4, h5, h6, h7⟩ := hX.out
      simp only [Nat.zero_add] at h0 h1 h2 h3 h4 h5 h6 h7
      go_enter Try.func69, Try.ntmps69
      go_wp2_with (first | (go_at_call 71; refine (HO.out _).mono ?_; rintro e w1 ⟨rfl, hb1⟩; replace hb := hb.trans (hb1.mono hb.size); clear h0 h1 h2 h3 h4 h5 h6 h7 hb1; obtain ⟨h0, h1, h2, h3, h4, h5, h6, h7⟩ := hX.out.below hb; simp only [Nat.zero_add] at h0 h1 h2 h3 h4 h5 h6 h7) | (go_at_call 63; refine (implRoleFault_c _ _ _).mono ?_; rintro e w1 ⟨rfl, hb1⟩; replace hb := hb.trans (hb1.mono hb.size); clear h0 h1 h2 h3 h4 h5 h6 h7 hb1; obtain ⟨h0, h1, h2, h3, h4, h5, h6, h7⟩ := hX.out.below hb; simp only [Nat.zero_add] at h0 h1 h2 h3 h4 h5 h6 h7; rw [hc]) | (go_at_call 121; refine (hasStray_c r hk _).mono ?_; rintro e w1 ⟨rfl, hb1⟩; replace hb := hb.trans (hb1.mono hb.size); clear h0 h1 h2 h3 h4 h5 h6 h7 hb1; obtain ⟨h0, h1, h2, h3, h4, h5, h6, h7⟩ := hX.out.below hb; simp only [Nat.zero_add] at h0 h1 h2 h3 h4 h5 h6 h7; rw [hbr]))
      go_ret
      exact ⟨by rw [E.out]; rfl, below_new hb⟩
    · have E : Hid (ruleCode r = if hasB r = true then 0 else 3) := by show ruleCode r = if hasB r = true then 0 else 3; simp [ruleCode, hk, hr, hbr]; cases hasB r <;> rfl
      obtain ⟨c, hcc⟩ : ∃ c : Int, c = if hasB r = true then 0 else 3 := ⟨_, rfl⟩
      rw [← hcc] at HF E
      clear hcc
      have hb : Below (w.alloc (Obj.cells #[.int .i64 r.k, .int .i64 r.ho, .int .i64 r.hn, .int .i64 r.w, .int .i64 r.oo, .int .i64 r.on, .int .i64 r.to, .int .i64 r.tn] 100)).heap.size (w.alloc (Obj.cells #[.int .i64 r.k, .int .i64 r.ho, .int .i64 r.hn, .int .i64 r.w, .int .i64 r.oo, .int .i64 r.on, .int .i64 r.to, .int .i64 r.tn] 100)) (w.alloc (Obj.cells #[.int .i64 r.k, .int .i64 r.ho, .int .i64 r.hn, .int .i64 r.w, .int .i64 r.oo, .int .i64 r.on, .int .i64 r.to, .int .i64 r.tn] 100)) := Below.refl _ _
      obtain ⟨h0, h1, h2, h3, h4, h5, h6, h7⟩ := hX.out
      simp only [Nat.zero_add] at h0 h1 h2 h3 h4 h5 h6 h7
      go_enter Try.func69, Try.ntmps69
      go_wp2_with (first | (go_at_call 71; refine (HO.out _).mono ?_; rintro e w1 ⟨rfl, hb1⟩; replace hb := hb.trans (hb1.mono hb.size); clear h0 h1 h2 h3 h4 h5 h6 h7 hb1; obtain ⟨h0, h1, h2, h3, h4, h5, h6, h7⟩ := hX.out.below hb; simp only [Nat.zero_add] at h0 h1 h2 h3 h4 h5 h6 h7) | (go_at_call 63; refine (implRoleFault_c _ _ _).mono ?_; rintro e w1 ⟨rfl, hb1⟩; replace hb := hb.trans (hb1.mono hb.size); clear h0 h1 h2 h3 h4 h5 h6 h7 hb1; obtain ⟨h0, h1, h2, h3, h4, h5, h6, h7⟩ := hX.out.below hb; simp only [Nat.zero_add] at h0 h1 h2 h3 h4 h5 h6 h7; rw [hc]) | (go_at_call 121; refine (hasStray_c r hk _).mono ?_; rintro e w1 ⟨rfl, hb1⟩; replace hb := hb.trans (hb1.mono hb.size); clear h0 h1 h2 h3 h4 h5 h6 h7 hb1; obtain ⟨h0, h1, h2, h3, h4, h5, h6, h7⟩ := hX.out.below hb; simp only [Nat.zero_add] at h0 h1 h2 h3 h4 h5 h6 h7; rw [hbr]) | (go_at_call 122; refine (HF.out _).mono ?_; rintro e w1 ⟨rfl, hb1⟩; replace hb := hb.trans (hb1.mono hb.size); clear h0 h1 h2 h3 h4 h5 h6 h7 hb1; obtain ⟨h0, h1, h2, h3, h4, h5, h6, h7⟩ := hX.out.below hb; simp only [Nat.zero_add] at h0 h1 h2 h3 h4 h5 h6 h7))
      go_ret
      exact ⟨by rw [E.out]; rfl, below_new hb⟩

theorem implRuleFault_c (r : RuleI) (w : World) :
    Calls Try.prog 69 #[.agg #[.int .i64 r.k, .int .i64 r.ho, .int .i64 r.hn, .int .i64 r.w, .int .i64 r.oo, .int .i64 r.on, .int .i64 r.to, .int .i64 r.tn]] w fun e w' =>
      e = .returned (.int .i64 (ruleCode r)) ∧ Below w.heap.size w w' := by
  by_cases hk : 1 ≤ r.k ∧ r.k ≤ 4
  · have hk' : r.k = 1 ∨ r.k = 2 ∨ r.k = 3 ∨ r.k = 4 := by omega
    rcases hk' with e | e | e | e
    · have e2 : hasB r = prinB r.w := by simp [hasB, e]
      exact ruleFault_in r _ _ w hk (bodyOf_1 r e) (fun w => by rw [e2]; exact bodyFault_1 r.w w)
    · have e2 : hasB r = roleB r.oo r.on := by simp [hasB, e]
      exact ruleFault_in r _ _ w hk (bodyOf_2 r e) (fun w => by rw [e2]; exact bodyFault_2 r.oo r.on w)
    · have e2 : hasB r = (roleB r.oo r.on && nameB r.tn) := by simp [hasB, e]
      exact ruleFault_in r _ _ w hk (bodyOf_3 r e) (fun w => by rw [e2]; exact bodyFault_3 r.oo r.on r.tn w)
    · have e2 : hasB r = (roleB r.oo r.on && roleB r.to r.tn) := by simp [hasB, e]
      exact ruleFault_in r _ _ w hk (bodyOf_4 r e) (fun w => by rw [e2]; exact bodyFault_4 r.oo r.on r.to r.tn w)
  · have E : Hid (ruleCode r = 1) := by show ruleCode r = 1; simp [ruleCode, hk]
    go_enter Try.func69, Try.ntmps69
    go_wp2_with (first | (go_at_call 71; refine (bodyOf_0 r hk _).mono ?_; rintro e w1 ⟨rfl, hb1⟩))
    go_ret
    exact ⟨by rw [E.out]; rfl, below_new hb1⟩

end Go.Proofs.Ytdooocjjohdpjaa

namespace Go.Proofs.Ytdooocjjohdpjaa
open Go.RowKit
set_option linter.unusedVariables false
set_option linter.unusedSimpArgs false

set_option maxHeartbeats 1000000 in
theorem polFault_many (a : Option Addr) (n cap : Nat) (w : World) (hn : n ≤ 1048576) (h16 : 16 < n) :
    Calls Try.prog 23 #[.slice a n cap] w fun e w' => e = .returned (.int .i64 2) ∧ Below w.heap.size w w' := by
  have h' : (16 : Int) < (n : Int) := by omega
  go_enter Try.func23, Try.ntmps23
  go_wp2
  go_ret
  exact ⟨rfl, Below.refl _ _⟩

set_option maxHeartbeats 2000000 in
theorem polFault_few (a : Option Addr) (n cap : Nat) (zs : List RuleI) (c : Int) (w : World) (h16 : n ≤ 16) (hcap : n ≤ cap) (hcm : cap ≤ maxLen) (h : RulesIn w a n zs) (hc : polTo zs n = c) :
    Calls Try.prog 23 #[.slice a n cap] w fun e w' => e = .returned (.int .i64 c) ∧ Below w.heap.size w w' := by
  have H : Hid (RulesIn w a n zs) := h
  have hz : Hid (zs.length = n) := h.1
  have HC : Hid (polTo zs n = c) := hc
  clear h hc
  have h' : ¬ ((16 : Int) < (n : Int)) := by omega
  go_enter Try.func23, Try.ntmps23
  go_wp2
  go_loopw [11] (fun i wr => ∃ k : Nat, k ≤ n ∧ i = .int .i64 (k : Int) ∧ polTo zs k = 0 ∧ Below w.heap.size w wr) (fun i _ => n - (intOf i).toNat)
  case atStart => exact ⟨0, Nat.zero_le _, rfl, rfl, Below.refl _ _⟩
  case round =>
    obtain ⟨k, hk, rfl, hp, hnx⟩ := hrel
    have HP : Hid (polTo zs k = 0) := hp
    clear hp
    by_cases hlt : k < n
    · obtain ⟨b, off, r, rfl, hs, hr⟩ := H.out.at hlt
      have HS : Hid (zs[k]? = some r) := hs
      clear hs
      obtain ⟨h0, h1, h2, h3, h4, h5, h6, h7⟩ := hr.below hnx
      clear hr
      have hlt' : (k : Int) < (n : Int) := by omega
      go_wp2_with fail
      refine (implRuleFault_c r _).mono ?_
      rintro e w1 ⟨rfl, hb1⟩
      have hz1 := hb1.size
      simp only [World.size_alloc] at hz1
      have hnx1 : Below w.heap.size w w1 := hnx.trans ((below_new hb1).mono hnx.size)
      have hlt1 : wr.heap.size < w1.heap.size := by omega
      have hR : Hid (RuleAt w1 wr.heap.size 0 r) := (RuleAt.new wr r _).below hb1
      clear h0 h1 h2 h3 h4 h5 h6 h7 hb1
      by_cases hcode : ruleCode r = 0
      · rw [hcode]
        have HO : Hid (ruleCode r = 0) := hcode
        clear hcode
        have HX : Hid (RulesIn w1 (some ⟨b, off, none⟩) k (zs.take k)) := (H.out.cut hk).below hnx1
        have hkc : (k : Int) ≤ (cap : Int) := by omega
        have hk0 : (0 : Int) ≤ (k : Int) := by omega
        obtain ⟨h0, h1, h2, h3, h4, h5, h6, h7⟩ := hR.out
        simp only [Nat.zero_add] at h0 h1 h2 h3 h4 h5 h6 h7
        obtain ⟨t, ht⟩ : ∃ t, t = decide (r ∈ zs.take k) := ⟨_, rfl⟩
        have HC2 : Hid (∀ w2 : World, (∀ b o, b < w1.heap.size → w2.cell? ⟨b, o, none⟩ = w1.cell? ⟨b, o, none⟩) ∧ Below w1.heap.size w1 w2 → Calls Try.prog 70 #[.slice (some ⟨b, off, none⟩) k cap, .agg #[.int .i64 r.k, .int .i64 r.ho, .int .i64 r.hn, .int .i64 r.w, .int .i64 r.oo, .int .i64 r.on, .int .i64 r.to, .int .i64 r.tn]] w2 fun e w' => e = .returned (.bool t) ∧ Below w2.heap.size w2 w') := fun w2 hb => by rw [ht]; exact slContains_c _ _ _ _ r w2 (by omega) (HX.out.below hb.2)
        have HT : Hid (t = decide (r ∈ zs.take k)) := ht
        clear ht
        cases t
        · have HN : Hid (polTo zs (k + 1) = 0) := polTo_good zs k r HS.out HP.out HO.out (by simpa using HT.out)
          go_wp2
          go_region_held3 (fun w' => (∀ b o, b < w1.heap.size → w'.cell? ⟨b, o, none⟩ = w1.cell? ⟨b, o, none⟩) ∧ Below w1.heap.size w1 w') (first | exact hS | exact kp_drew _)
            (first | (go_at_call 70; refine (HC2.out _ (by assumption)).mono ?_; rintro e w' ⟨rfl, hb2⟩; have hS := kp_step (by assumption) hb2))
          go_wp2
          exact ⟨⟨k + 1, by omega, by go_num, HN.out, hnx1.trans (hS.2.mono hnx1.size)⟩, by simp [intOf]; omega⟩
        · have HI : Hid (c = 6) := HC.out.symm.trans (polTo_stay zs (k + 1) n 6 (by decide) (polTo_same zs k r HS.out HP.out HO.out (by simpa using HT.out)) (by omega))
          go_wp2
          go_region_held3 (fun w' => (∀ b o, b < w1.heap.size → w'.cell? ⟨b, o, none⟩ = w1.cell? ⟨b, o, none⟩) ∧ Below w1.heap.size w1 w') (first | exact hS | exact kp_drew _)
            (first | (go_at_call 70; refine (HC2.out _ (by assumption)).mono ?_; rintro e w' ⟨rfl, hb2⟩; have hS := kp_step (by assumption) hb2))
          go_wp2
          go_ret
          exact ⟨by rw [HI.out]; rfl, hnx1.trans (hS.2.mono hnx1.size)⟩
      · have E : Hid (c = ruleCode r) := (HC.out.symm.trans (polTo_stay zs (k + 1) n _ hcode (polTo_bad zs k r HS.out HP.out hcode) (by omega)))
        obtain ⟨d, hd⟩ : ∃ d, d = ruleCode r := ⟨_, rfl⟩
        rw [← hd] at hcode E ⊢
        clear hd
        have hne : (d != 0) = true := by simpa using hcode
        go_wp2
        go_ret
        exact ⟨by rw [E.out]; rfl, hnx1⟩
    · have hkn : k = n := by omega
      subst hkn
      have E : Hid (c = 0) := HC.out.symm.trans HP.out
      go_wp2
      go_ret
      exact ⟨by rw [E.out]; rfl, hnx⟩

theorem implPolicyFault_c (a : Option Addr) (n cap : Nat) (zs : List RuleI) (w : World) (hn : n ≤ 1048576) (hcap : n ≤ cap) (hcm : cap ≤ maxLen) (h : RulesIn w a n zs) :
    Calls Try.prog 23 #[.slice a n cap] w fun e w' => e = .returned (.int .i64 (polCode zs)) ∧ Below w.heap.size w w' := by
  have hz := h.1
  by_cases h16 : 16 < n
  · have e : polCode zs = 2 := by simp [polCode, hz, h16]
    rw [e]
    exact polFault_many a n cap w hn h16
  · have e : polCode zs = polTo zs n := by simp [polCode, hz, h16]
    rw [e]
    exact polFault_few a n cap zs _ w (by omega) hcap hcm h rfl

end Go.Proofs.Ytdooocjjohdpjaa

namespace Go.Proofs.Ytdooocjjohdpjaa
open Go.RowKit
set_option linter.unusedVariables false
set_option linter.unusedSimpArgs false

theorem polTo_zero {zs : List RuleI} {n : Nat} (h : polTo zs n = 0) : ∀ j r, j < n → zs[j]? = some r → ruleCode r = 0 := by
  induction n with
  | zero => intro j r hj; omega
  | succ n ih =>
    intro j r hj hr
    have h0 : polTo zs n = 0 := by
      by_cases q : polTo zs n = 0
      · exact q
      · have := polTo_stay zs n (n + 1) _ q rfl (by omega); rw [this] at h; exact absurd h q
    by_cases e : j = n
    · subst e
      by_cases q : ruleCode r = 0
      · exact q
      · have := polTo_bad zs j r hr h0 q; rw [this] at h; exact absurd h q
    · exact ih h0 j r (by omega) hr

theorem kinds_of {zs : List RuleI} {n : Nat} (h : polTo zs n = 0) {j : Nat} {r : RuleI} (hj : j < n) (hr : zs[j]? = some r) : r.k = 1 ∨ r.k = 2 ∨ r.k = 3 ∨ r.k = 4 := by
  have h0 := polTo_zero h j r hj hr
  unfold ruleCode at h0
  split at h0
  · simp at h0
  · rename_i q
    simp at q
    omega

/-- What a body's roles answers: a new slice that holds them. -/
def GivesNew (f : Nat) (v : Value) (xs : List RoI) : Prop := ∀ w : World, Calls Try.prog f #[v] w fun e w' => ∃ g : Nat, e = .returned (.slice (some ⟨g, 0, none⟩) xs.length xs.length) ∧ (∀ j u, (flat2 xs)[j]? = some u → w'.cell? ((⟨g, 0, none⟩ : Addr).add j) = some u) ∧ Below w.heap.size w w'

set_option maxHeartbeats 400000 in
theorem roles_1 (x : Int) (w : World) : Calls Try.prog 191 #[.agg #[.int .i64 x]] w fun e w' => e = .returned (.slice none 0 0) ∧ Below w.heap.size w w' := by
  go_enter Try.func191, Try.ntmps191
  go_wp2
  go_ret
  exact ⟨rfl, by go_grown⟩

theorem news_1 {w' : World} {g : Nat} {o n : Int} (h0 : w'.cell? ⟨g, 0, none⟩ = some (.int .i64 o)) (h1 : w'.cell? ⟨g, 1, none⟩ = some (.int .i64 n)) : ∀ j u, (flat2 [(o, n)])[j]? = some u → w'.cell? ((⟨g, 0, none⟩ : Addr).add j) = some u := by
  intro j u hj
  rw [Go.WideShapes.add_plain, Nat.zero_add]
  match j, hj with
  | 0, hj => simp [flat2] at hj; subst hj; exact h0
  | 1, hj => simp [flat2] at hj; subst hj; exact h1

theorem news_2 {w' : World} {g : Nat} {o n p m : Int} (h0 : w'.cell? ⟨g, 0, none⟩ = some (.int .i64 o)) (h1 : w'.cell? ⟨g, 1, none⟩ = some (.int .i64 n)) (h2 : w'.cell? ⟨g, 2, none⟩ = some (.int .i64 p)) (h3 : w'.cell? ⟨g, 3, none⟩ = some (.int .i64 m)) : ∀ j u, (flat2 [(o, n), (p, m)])[j]? = some u → w'.cell? ((⟨g, 0, none⟩ : Addr).add j) = some u := by
  intro j u hj
  rw [Go.WideShapes.add_plain, Nat.zero_add]
  match j, hj with
  | 0, hj => simp [flat2] at hj; subst hj; exact h0
  | 1, hj => simp [flat2] at hj; subst hj; exact h1
  | 2, hj => simp [flat2] at hj; subst hj; exact h2
  | 3, hj => simp [flat2] at hj; subst hj; exact h3

set_option maxHeartbeats 400000 in
theorem roles_2 (o n : Int) : GivesNew 192 (.agg #[.int .i64 o, .int .i64 n]) [(o, n)] := by
  intro w
  go_enter Try.func192, Try.ntmps192
  go_wp2
  go_ret
  exact ⟨_, rfl, news_1 (by simp) (by simp), by go_grown⟩

set_option maxHeartbeats 400000 in
theorem roles_3 (o n d : Int) : GivesNew 193 (.agg #[.int .i64 o, .int .i64 n, .int .i64 d]) [(o, n)] := by
  intro w
  go_enter Try.func193, Try.ntmps193
  go_wp2
  go_ret
  exact ⟨_, rfl, news_1 (by simp) (by simp), by go_grown⟩

set_option maxHeartbeats 400000 in
theorem roles_4 (o n p m : Int) : GivesNew 194 (.agg #[.int .i64 o, .int .i64 n, .int .i64 p, .int .i64 m]) [(o, n), (p, m)] := by
  intro w
  go_enter Try.func194, Try.ntmps194
  go_wp2
  try go_quiet (fail)
  go_wp2
  go_ret
  first
    | exact ⟨_, rfl, news_2 (by simp) (by simp) (by simp) (by simp), by go_grown⟩
    | exact ⟨_, rfl, news_2 (by simp [go_sem]) (by simp [go_sem]) (by simp [go_sem]) (by simp [go_sem]), bdN (by go_grown) _⟩

/-- What SortFunc does to a row of roles. -/
def Sorts : Prop := ∀ (g cap B : Nat) (xs : List RoI) (w : World), Owns2 w B (.slice (some ⟨g, 0, none⟩) xs.length cap) xs → xs.length ≤ 1000 → Calls Try.prog 72 #[.slice (some ⟨g, 0, none⟩) xs.length cap, .func (.func 65) #[] #[]] w fun e w' =>
  e = .returned (.tuple #[]) ∧ ∃ ys : List RoI, ys.length = xs.length ∧ SameM ys xs ∧ ys.Pairwise (fun a b => ltR b a = false) ∧ Owns2 w' B (.slice (some ⟨g, 0, none⟩) xs.length cap) ys ∧ Below B w w'

/-- What Compact does to a row of roles that does not fall. -/
def Compacts : Prop := ∀ (g cap B : Nat) (xs : List RoI) (w : World), Owns2 w B (.slice (some ⟨g, 0, none⟩) xs.length cap) xs → xs.length ≤ 1000 → xs.Pairwise (fun a b => ltR b a = false) → Calls Try.prog 73 #[.slice (some ⟨g, 0, none⟩) xs.length cap] w fun e w' =>
  ∃ ys : List RoI, e = .returned (.slice (some ⟨g, 0, none⟩) ys.length cap) ∧ SS ys ∧ SameM ys xs ∧ Owns2 w' B (.slice (some ⟨g, 0, none⟩) ys.length cap) ys ∧ Below B w w'

set_option maxRecDepth 20000 in
set_option maxHeartbeats 1000000 in
theorem implRoles_ok (a : Option Addr) (n cap : Nat) (zs : List RuleI) (w : World) (hcap : n ≤ cap) (hcm : cap ≤ maxLen) (h : RulesIn w a n zs) (hc : polCode zs = 0) (hp : 0 < n) (HSo : Hid Sorts) (HCo : Hid Compacts) :
    Calls Try.prog 25 #[.slice a n cap] w fun e w' => ∃ (ys : List RoI) (a' : Option Addr) (cap' : Nat), SS ys ∧ SameM ys (rawTo zs n) ∧ e = .returned (.agg #[.int .i64 0, .slice a' ys.length cap']) ∧ Owns2 w' w.heap.size (.slice a' ys.length cap') ys ∧ Below w.heap.size w w' := by
  have hn : n ≤ 16 := by
    have := h.1
    unfold polCode at hc
    split at hc
    · simp at hc
    · omega
  have HPT : Hid (polTo zs n = 0) := by
    have := h.1
    unfold polCode at hc
    rw [if_neg (by omega), this] at hc
    exact hc
  obtain ⟨i0, hi, hz0, hz1, hz2⟩ := info_parts Try.info35
  have H : Hid (RulesIn (w.alloc (.cells #[.int .i64 0, .slice none 0 0] 47)) a n zs) := h.below ((Below.refl _ _).alloc (Nat.le_refl _) _)
  have HC : Hid (polCode zs = 0) := hc
  clear h hc
  have hn' : (n : Int) ≤ 16 := by omega
  go_enter Try.func25, Try.ntmps25
  go_wp2_with fail
  refine (implPolicyFault_c a n cap zs _ (by omega) hcap hcm H.out).mono ?_
  rintro e w1 ⟨rfl, hb1⟩
  rw [HC.out]
  have HX : Hid (RulesIn w1 a n zs) := H.out.below hb1
  have B1 : Hid (Below (w.heap.size + 1) (w.alloc (.cells #[.int .i64 0, .slice none 0 0] 47)) w1) := by have h0 := hb1; simp only [World.size_alloc] at h0; exact h0
  have hz1' : w.heap.size + 1 ≤ w1.heap.size := by have := hb1.size; simp only [World.size_alloc] at this; exact this
  clear hb1 H
  go_wp2
  go_loopw [4, 15] (fun s i wr => ∃ (k : Nat) (v : Value), k ≤ n ∧ i = .int .i64 (k : Int) ∧ v = s ∧ Owns2 wr w1.heap.size v (rawTo zs k) ∧ Below w1.heap.size w1 wr) (fun _ i _ => n - (intOf i).toNat)
  case atStart => exact ⟨0, _, Nat.zero_le _, rfl, rfl, World.ownsRow_nil _ _ _ _, Below.refl _ _⟩
  case round =>
    obtain ⟨k, v, hk, rfl, rfl, hown, hnx⟩ := hrel
    have hlen := rawTo_len zs k
    by_cases hlt : k < n
    · obtain ⟨b, off, r, rfl, hs, hr⟩ := HX.out.at hlt
      have HN : Hid (rawTo zs (k + 1) = rawTo zs k ++ rawR r) := rawTo_succ hs
      have HK : Hid (r.k = 1 ∨ r.k = 2 ∨ r.k = 3 ∨ r.k = 4) := kinds_of HPT.out hlt hs
      have hr1 := hr.below hnx
      obtain ⟨h0, h1, h2, h3, h4, h5, h6, h7⟩ := hr1
      clear hs hr
      have hlt' : (k : Int) < (n : Int) := by omega
      have HO : Hid (wr.ownsRow w1.heap.size 35 2 v (rawTo zs k).length (flat2 (rawTo zs k))) := hown
      have HX2 : Hid (Below w1.heap.size w1 wr) := hnx
      have hzr := hnx.size
      clear hown hnx
      go_wp2_with (first
        | (at_builtin; refine wpList_append_own _ rfl _ _ 45 rfl w1.heap.size 35 i0 (.agg #[.int .i64 0, .int .i64 0]) 2 16 Try.underlying45 hi hz0 hz1 hz2 rfl (by decide) v (rawTo zs k).length (flat2 (rawTo zs k)) rfl ((HO.out.alloc _).alloc _) ⟨wr.heap.size + 1, 0, none⟩ 1 1 [.int .i64 r.ho, .int .i64 r.hn] rfl rfl (fun j u hj => by match j, hj with | 0, hj => simp at hj; subst hj; simp [Addr.add] | 1, hj => simp at hj; subst hj; simp [Addr.add]) (fun u hu => by simp at hu; rcases hu with rfl | rfl <;> rfl) (by unfold maxLen; omega) (by omega) (by simp; omega) ?_)
        | fail)
      intro v2 w2 hown2 hgrow2 hnil2
      have hzz : wr.heap.size + 1 + 1 ≤ w2.heap.size := by have := hgrow2.size; simp at this; omega
      have hvb : some wr.heap.size ≠ v.ownBlock := fun e => by have := (HO.out.lt _ e.symm).2; omega
      have RB : Hid (RuleAt w2 wr.heap.size 0 r) := by
        have hx : ∀ (o : Nat) (u : Value), ((wr.alloc (.cells #[.int .i64 r.k, .int .i64 r.ho, .int .i64 r.hn, .int .i64 r.w, .int .i64 r.oo, .int .i64 r.on, .int .i64 r.to, .int .i64 r.tn] 100)).alloc (.cells #[.int .i64 r.ho, .int .i64 r.hn] 35)).cell? ⟨wr.heap.size, o, none⟩ = some u → w2.cell? ⟨wr.heap.size, o, none⟩ = some u := fun o u e => hgrow2.cell e hvb
        exact ⟨hx _ _ (by simp), hx _ _ (by simp), hx _ _ (by simp), hx _ _ (by simp), hx _ _ (by simp), hx _ _ (by simp), hx _ _ (by simp), hx _ _ (by simp)⟩
      have BX : Hid (Below w1.heap.size w1 w2) := ((HX2.out.alloc (by omega) _).alloc (by simp; omega) _).grown hgrow2 (by simp; omega) (fun q e => (HO.out.lt q e).1)
      have O2 : Hid (w2.ownsRow w1.heap.size 35 2 v2 ((rawTo zs k).length + 1) (flat2 (rawTo zs k) ++ [.int .i64 r.ho, .int .i64 r.hn])) := hown2
      clear hown2 hgrow2 hnil2 HO HX2 h0 h1 h2 h3 h4 h5 h6 h7
      obtain ⟨h0, h1, h2, h3, h4, h5, h6, h7⟩ := RB.out
      simp only [Nat.zero_add] at h0 h1 h2 h3 h4 h5 h6 h7
      rcases HK.out with k1 | k2 | k3 | k4
      · have HE : Hid (rawR r = [(r.ho, r.hn)]) := by show rawR r = _; simp [rawR, bodyR, k1]
        have HB : Hid (∀ w : World, Calls Try.prog 71 #[.agg #[.int .i64 r.k, .int .i64 r.ho, .int .i64 r.hn, .int .i64 r.w, .int .i64 r.oo, .int .i64 r.on, .int .i64 r.to, .int .i64 r.tn]] w fun e w' => e = .returned (.iface 161 (.agg #[.int .i64 r.w])) ∧ Below w.heap.size w w') := bodyOf_1 r k1
        clear k1
        go_wp2_with fail
        refine (HB.out _).mono ?_
        rintro e w3 ⟨rfl, hb3⟩
        go_wp2_with fail
        refine (roles_1 _ _).mono ?_
        rintro e w4 ⟨rfl, hb4⟩
        have hb34 : Below w2.heap.size w2 w4 := hb3.trans (hb4.mono hb3.size)
        have O4 : Hid (w4.ownsRow w1.heap.size 35 2 v2 ((rawTo zs k).length + 1) (flat2 (rawTo zs k) ++ [.int .i64 r.ho, .int .i64 r.hn])) := O2.out.kept (row := none) ⟨hb34.os, hb34.tape, hb34.output, hb34.size, fun k hk _ => hb34.block k hk⟩ (by cases v2.ownBlock <;> simp)
        have B4 : Hid (Below w1.heap.size w1 w4) := BX.out.trans (hb34.mono BX.out.size)
        have O5 : Hid (Owns2 w4 w1.heap.size v2 (rawTo zs (k + 1))) := by
          show World.ownsRow _ _ _ _ _ _ _
          rw [HN.out, HE.out, flat2_append, List.length_append]
          simpa [flat2] using O4.out
        clear hb3 hb4 hb34 O2 BX RB h0 h1 h2 h3 h4 h5 h6 h7
        go_wp2_with (first
          | (at_builtin; refine wpList_append_own_none rfl _ _ 45 rfl w1.heap.size 35 i0 2 Try.underlying45 hi v2 ((rawTo zs k).length + 1) (flat2 (rawTo zs k) ++ [.int .i64 r.ho, .int .i64 r.hn]) rfl O4.out rfl ?_)
          | fail)
        all_goals clear O4
        all_goals go_wp2
        exact ⟨⟨k + 1, _, by omega, by go_num, rfl, O5.out, B4.out⟩, by simp [intOf]; omega⟩
      · have HE : Hid (rawR r = (r.ho, r.hn) :: [(r.oo, r.on)]) := by show rawR r = _; simp [rawR, bodyR, k2]
        have HB : Hid (∀ w : World, Calls Try.prog 71 #[.agg #[.int .i64 r.k, .int .i64 r.ho, .int .i64 r.hn, .int .i64 r.w, .int .i64 r.oo, .int .i64 r.on, .int .i64 r.to, .int .i64 r.tn]] w fun e w' => e = .returned (.iface 163 (.agg #[.int .i64 r.oo, .int .i64 r.on])) ∧ Below w.heap.size w w') := bodyOf_2 r k2
        clear k2
        go_wp2_with fail
        refine (HB.out _).mono ?_
        rintro e w3 ⟨rfl, hb3⟩
        go_wp2_with fail
        refine (roles_2 r.oo r.on _).mono ?_
        rintro e w4 ⟨g4, rfl, hnw, hb4⟩
        have hb34 : Below w2.heap.size w2 w4 := hb3.trans (hb4.mono hb3.size)
        have O4 : Hid (w4.ownsRow w1.heap.size 35 2 v2 ((rawTo zs k).length + 1) (flat2 (rawTo zs k) ++ [.int .i64 r.ho, .int .i64 r.hn])) := O2.out.kept (row := none) ⟨hb34.os, hb34.tape, hb34.output, hb34.size, fun k hk _ => hb34.block k hk⟩ (by cases v2.ownBlock <;> simp)
        have B4 : Hid (Below w1.heap.size w1 w4) := BX.out.trans (hb34.mono BX.out.size)
        have hz4 : w1.heap.size ≤ w4.heap.size := B4.out.size
        have HNW : Hid (∀ j u, (flat2 [(r.oo, r.on)])[j]? = some u → w4.cell? ((⟨g4, 0, none⟩ : Addr).add j) = some u) := hnw
        clear hb3 hb4 hb34 O2 hnw BX RB h0 h1 h2 h3 h4 h5 h6 h7
        go_wp2_with (first
          | (at_builtin; refine wpList_append_own _ rfl _ _ 45 rfl w1.heap.size 35 i0 (.agg #[.int .i64 0, .int .i64 0]) 2 16 Try.underlying45 hi hz0 hz1 hz2 rfl (by decide) v2 ((rawTo zs k).length + 1) (flat2 (rawTo zs k) ++ [.int .i64 r.ho, .int .i64 r.hn]) rfl O4.out ⟨g4, 0, none⟩ 1 1 (flat2 [(r.oo, r.on)]) rfl rfl HNW.out (flat2_one _) (by unfold maxLen; omega) (by omega) (by omega) ?_)
          | fail)
        intro v5 w5 hown5 hgrow5 hnil5
        have O5 : Hid (Owns2 w5 w1.heap.size v5 (rawTo zs (k + 1))) := by
          show World.ownsRow _ _ _ _ _ _ _
          rw [HN.out, HE.out, flat2_append, List.length_append]
          simpa [flat2, Nat.add_assoc] using hown5
        have B5 : Hid (Below w1.heap.size w1 w5) := B4.out.grown hgrow5 (by omega) (fun q e => (O4.out.lt q e).1)
        clear hown5 hgrow5 hnil5 O4 B4 HNW
        go_wp2
        exact ⟨⟨k + 1, _, by omega, by go_num, rfl, O5.out, B5.out⟩, by simp [intOf]; omega⟩
      · have HE : Hid (rawR r = (r.ho, r.hn) :: [(r.oo, r.on)]) := by show rawR r = _; simp [rawR, bodyR, k3]
        have HB : Hid (∀ w : World, Calls Try.prog 71 #[.agg #[.int .i64 r.k, .int .i64 r.ho, .int .i64 r.hn, .int .i64 r.w, .int .i64 r.oo, .int .i64 r.on, .int .i64 r.to, .int .i64 r.tn]] w fun e w' => e = .returned (.iface 165 (.agg #[.int .i64 r.oo, .int .i64 r.on, .int .i64 r.tn])) ∧ Below w.heap.size w w') := bodyOf_3 r k3
        clear k3
        go_wp2_with fail
        refine (HB.out _).mono ?_
        rintro e w3 ⟨rfl, hb3⟩
        go_wp2_with fail
        refine (roles_3 r.oo r.on r.tn _).mono ?_
        rintro e w4 ⟨g4, rfl, hnw, hb4⟩
        have hb34 : Below w2.heap.size w2 w4 := hb3.trans (hb4.mono hb3.size)
        have O4 : Hid (w4.ownsRow w1.heap.size 35 2 v2 ((rawTo zs k).length + 1) (flat2 (rawTo zs k) ++ [.int .i64 r.ho, .int .i64 r.hn])) := O2.out.kept (row := none) ⟨hb34.os, hb34.tape, hb34.output, hb34.size, fun k hk _ => hb34.block k hk⟩ (by cases v2.ownBlock <;> simp)
        have B4 : Hid (Below w1.heap.size w1 w4) := BX.out.trans (hb34.mono BX.out.size)
        have hz4 : w1.heap.size ≤ w4.heap.size := B4.out.size
        have HNW : Hid (∀ j u, (flat2 [(r.oo, r.on)])[j]? = some u → w4.cell? ((⟨g4, 0, none⟩ : Addr).add j) = some u) := hnw
        clear hb3 hb4 hb34 O2 hnw BX RB h0 h1 h2 h3 h4 h5 h6 h7
        go_wp2_with (first
          | (at_builtin; refine wpList_append_own _ rfl _ _ 45 rfl w1.heap.size 35 i0 (.agg #[.int .i64 0, .int .i64 0]) 2 16 Try.underlying45 hi hz0 hz1 hz2 rfl (by decide) v2 ((rawTo zs k).length + 1) (flat2 (rawTo zs k) ++ [.int .i64 r.ho, .int .i64 r.hn]) rfl O4.out ⟨g4, 0, none⟩ 1 1 (flat2 [(r.oo, r.on)]) rfl rfl HNW.out (flat2_one _) (by unfold maxLen; omega) (by omega) (by omega) ?_)
          | fail)
        intro v5 w5 hown5 hgrow5 hnil5
        have O5 : Hid (Owns2 w5 w1.heap.size v5 (rawTo zs (k + 1))) := by
          show World.ownsRow _ _ _ _ _ _ _
          rw [HN.out, HE.out, flat2_append, List.length_append]
          simpa [flat2, Nat.add_assoc] using hown5
        have B5 : Hid (Below w1.heap.size w1 w5) := B4.out.grown hgrow5 (by omega) (fun q e => (O4.out.lt q e).1)
        clear hown5 hgrow5 hnil5 O4 B4 HNW
        go_wp2
        exact ⟨⟨k + 1, _, by omega, by go_num, rfl, O5.out, B5.out⟩, by simp [intOf]; omega⟩
      · have HE : Hid (rawR r = (r.ho, r.hn) :: [(r.oo, r.on), (r.to, r.tn)]) := by show rawR r = _; simp [rawR, bodyR, k4]
        have HB : Hid (∀ w : World, Calls Try.prog 71 #[.agg #[.int .i64 r.k, .int .i64 r.ho, .int .i64 r.hn, .int .i64 r.w, .int .i64 r.oo, .int .i64 r.on, .int .i64 r.to, .int .i64 r.tn]] w fun e w' => e = .returned (.iface 167 (.agg #[.int .i64 r.oo, .int .i64 r.on, .int .i64 r.to, .int .i64 r.tn])) ∧ Below w.heap.size w w') := bodyOf_4 r k4
        clear k4
        go_wp2_with fail
        refine (HB.out _).mono ?_
        rintro e w3 ⟨rfl, hb3⟩
        go_wp2_with fail
        refine (roles_4 r.oo r.on r.to r.tn _).mono ?_
        rintro e w4 ⟨g4, rfl, hnw, hb4⟩
        have hb34 : Below w2.heap.size w2 w4 := hb3.trans (hb4.mono hb3.size)
        have O4 : Hid (w4.ownsRow w1.heap.size 35 2 v2 ((rawTo zs k).length + 1) (flat2 (rawTo zs k) ++ [.int .i64 r.ho, .int .i64 r.hn])) := O2.out.kept (row := none) ⟨hb34.os, hb34.tape, hb34.output, hb34.size, fun k hk _ => hb34.block k hk⟩ (by cases v2.ownBlock <;> simp)
        have B4 : Hid (Below w1.heap.size w1 w4) := BX.out.trans (hb34.mono BX.out.size)
        have hz4 : w1.heap.size ≤ w4.heap.size := B4.out.size
        have HNW : Hid (∀ j u, (flat2 [(r.oo, r.on), (r.to, r.tn)])[j]? = some u → w4.cell? ((⟨g4, 0, none⟩ : Addr).add j) = some u) := hnw
        clear hb3 hb4 hb34 O2 hnw BX RB h0 h1 h2 h3 h4 h5 h6 h7
        go_wp2_with (first
          | (at_builtin; refine wpList_append_own _ rfl _ _ 45 rfl w1.heap.size 35 i0 (.agg #[.int .i64 0, .int .i64 0]) 2 16 Try.underlying45 hi hz0 hz1 hz2 rfl (by decide) v2 ((rawTo zs k).length + 1) (flat2 (rawTo zs k) ++ [.int .i64 r.ho, .int .i64 r.hn]) rfl O4.out ⟨g4, 0, none⟩ 2 2 (flat2 [(r.oo, r.on), (r.to, r.tn)]) rfl rfl HNW.out (flat2_one _) (by unfold maxLen; omega) (by omega) (by omega) ?_)
          | fail)
        intro v5 w5 hown5 hgrow5 hnil5
        have O5 : Hid (Owns2 w5 w1.heap.size v5 (rawTo zs (k + 1))) := by
          show World.ownsRow _ _ _ _ _ _ _
          rw [HN.out, HE.out, flat2_append, List.length_append]
          simpa [flat2, Nat.add_assoc] using hown5
        have B5 : Hid (Below w1.heap.size w1 w5) := B4.out.grown hgrow5 (by omega) (fun q e => (O4.out.lt q e).1)
        clear hown5 hgrow5 hnil5 O4 B4 HNW
        go_wp2
        exact ⟨⟨k + 1, _, by omega, by go_num, rfl, O5.out, B5.out⟩, by simp [intOf]; omega⟩
    · have hkn : k = n := by omega
      subst hkn
      have hpos : 0 < (rawTo zs k).length := by
        obtain ⟨j, hj⟩ : ∃ j, k = j + 1 := ⟨k - 1, by omega⟩
        obtain ⟨b, off, r, _, hs, _⟩ := HX.out.at (show j < k by omega)
        rw [hj, rawTo_succ hs]
        simp [rawR]
        omega
      obtain ⟨g, cap2, rfl⟩ : ∃ g cap2, v = .slice (some ⟨g, 0, none⟩) (rawTo zs k).length cap2 := by
        rcases hown.shape with ⟨_, h2⟩ | ⟨g, cap2, h1, _⟩
        · rw [h2] at hpos; simp at hpos
        · exact ⟨g, cap2, h1⟩
      have HO : Hid (Owns2 wr w1.heap.size (.slice (some ⟨g, 0, none⟩) (rawTo zs k).length cap2) (rawTo zs k)) := hown
      have HX2 : Hid (Below w1.heap.size w1 wr) := hnx
      clear hown hnx
      have hln : (rawTo zs k).length ≤ 1000 := by omega
      obtain ⟨xs, hxs⟩ : ∃ xs, xs = rawTo zs k := ⟨_, rfl⟩
      have HXS : Hid (xs = rawTo zs k) := hxs
      rw [← hxs] at HO hln hpos ⊢
      clear hxs hlen
      go_wp2_with fail
      refine (HSo.out g cap2 w1.heap.size xs wr HO.out hln).mono ?_
      rintro e w3 ⟨rfl, ys, hyl, hym, hys, hyo, hb3⟩
      have HY : Hid (ys.length = xs.length ∧ SameM ys xs ∧ ys.Pairwise (fun a b => ltR b a = false) ∧ Owns2 w3 w1.heap.size (.slice (some ⟨g, 0, none⟩) ys.length cap2) ys ∧ Below w1.heap.size w1 w3) := ⟨hyl, hym, hys, by rw [hyl]; exact hyo, HX2.out.trans hb3⟩
      rw [← hyl] at hln ⊢
      clear hyl hym hys hyo hb3 HO HX2 hpos
      go_wp2_with fail
      refine (HCo.out g cap2 w1.heap.size ys w3 HY.out.2.2.2.1 hln HY.out.2.2.1).mono ?_
      rintro e w4 ⟨us, rfl, hss, hsm, huo, hb4⟩
      have B4 : Below w1.heap.size w1 w4 := HY.out.2.2.2.2.trans hb4
      have hz4 := B4.size
      have B0 : Below (w.heap.size + 1) (w.alloc (.cells #[.int .i64 0, .slice none 0 0] 47)) w4 := B1.out.trans (B4.mono hz1')
      have hBx : Below w.heap.size w w4 := ((Below.refl _ _).alloc (Nat.le_refl _) _).trans (B0.mono (by omega))
      have hw : w.heap.size < w4.heap.size := by omega
      have c0 : w4.cell? ⟨w.heap.size, 0, none⟩ = some (.int .i64 0) := (B0.cell (p := ⟨w.heap.size, 0, none⟩) (by simp)).trans (by simp)
      have c1 : w4.cell? ⟨w.heap.size, 1, none⟩ = some (.slice none 0 0) := (B0.cell (p := ⟨w.heap.size, 1, none⟩) (by simp)).trans (by simp)
      have f0 : w4.frozen? ⟨w.heap.size, 0, none⟩ = false := (B0.frozen (p := ⟨w.heap.size, 0, none⟩) (by simp)).trans (by simp [go_sem])
      have f1 : w4.frozen? ⟨w.heap.size, 1, none⟩ = false := (B0.frozen (p := ⟨w.heap.size, 1, none⟩) (by simp)).trans (by simp [go_sem])
      have HF : Hid (SS us ∧ SameM us ys ∧ Owns2 w4 w1.heap.size (.slice (some ⟨g, 0, none⟩) us.length cap2) us) := ⟨hss, hsm, huo⟩
      clear hss hsm huo hb4 B4 B0
      go_wp2
      refine bodyPost_ret (v := .agg #[.int .i64 0, .slice (some ⟨g, 0, none⟩) us.length cap2]) (by simp [results, Try.results25, go_sem, c0, c1, hw]) rfl ⟨us, some ⟨g, 0, none⟩, cap2, HF.out.1, fun x => ?_, rfl, ?_, ?_⟩
      · rw [HF.out.2.1 x, HY.out.2.1 x, HXS.out]
      · have h6 : Owns2 w4 (w.heap.size + 1) (.slice (some ⟨g, 0, none⟩) us.length cap2) us := owns_lower HF.out.2.2 (by omega)
        have h7 := ownsRow_setCell_below (ownsRow_setCell_below h6 (a := ⟨w.heap.size, 0, none⟩) (by simp) (.int .i64 0)) (a := ⟨w.heap.size, 1, none⟩) (by simp) (.slice (some ⟨g, 0, none⟩) us.length cap2)
        exact owns_lower h7 (by omega)
      · exact hBx |>.setCell (Nat.le_refl _) _ |>.setCell (Nat.le_refl _) _

end Go.Proofs.Ytdooocjjohdpjaa

namespace Go.Proofs.Ytdooocjjohdpjaa
open Go.RowKit
set_option linter.unusedVariables false
set_option linter.unusedSimpArgs false

/-- Roles in memory. -/
def RosIn (w : World) (a : Option Addr) (n : Nat) (xs : List RoI) : Prop := xs.length = n ∧ (0 < n → ∃ b off, a = some ⟨b, off, none⟩ ∧ ∀ k r, xs[k]? = some r → w.cell? ⟨b, off + k * 2, none⟩ = some (.int .i64 r.1) ∧ w.cell? ⟨b, off + k * 2 + 1, none⟩ = some (.int .i64 r.2))

theorem RosIn.below {w w' : World} {a : Option Addr} {n : Nat} {xs : List RoI} (h : RosIn w a n xs) (hb : Below w.heap.size w w') : RosIn w' a n xs := by
  refine ⟨h.1, fun hn => ?_⟩
  obtain ⟨b, off, e, k⟩ := h.2 hn
  refine ⟨b, off, e, fun j r hr => ?_⟩
  obtain ⟨h1, h2⟩ := k j r hr
  exact ⟨(hb.cell (p := ⟨b, off + j * 2, none⟩) (World.block_lt_of_cell? w ⟨b, off + j * 2, none⟩ h1)).trans h1, (hb.cell (p := ⟨b, off + j * 2 + 1, none⟩) (World.block_lt_of_cell? w ⟨b, off + j * 2 + 1, none⟩ h2)).trans h2⟩

theorem rosIn_of {w : World} {g : Nat} {xs : List RoI} (h : ∀ j u, (flat2 xs)[j]? = some u → w.cell? ((⟨g, 0, none⟩ : Addr).add j) = some u) : RosIn w (some ⟨g, 0, none⟩) xs.length xs := by
  refine ⟨rfl, fun _ => ⟨g, 0, rfl, fun k r hr => ?_⟩⟩
  have h1 := h _ _ (flat2_fst xs k r hr)
  have h2 := h _ _ (flat2_snd xs k r hr)
  rw [Go.WideShapes.add_plain] at h1 h2
  rw [Nat.zero_add] at h1 h2 ⊢
  exact ⟨h1, h2⟩

theorem mem_takeR (zs : List RoI) (k : Nat) (r : RoI) : r ∈ zs.take k ↔ ∃ j, j < k ∧ zs[j]? = some r := by
  rw [List.mem_iff_getElem?]
  constructor
  · rintro ⟨j, hj⟩
    rw [List.getElem?_take] at hj
    by_cases h : j < k
    · rw [if_pos h] at hj; exact ⟨j, h, hj⟩
    · rw [if_neg h] at hj; cases hj
  · rintro ⟨j, h, hj⟩
    exact ⟨j, by rw [List.getElem?_take, if_pos h]; exact hj⟩

attribute [local go_sem ↓] ro_eql

set_option maxHeartbeats 1000000 in
theorem slIndexR_c (a : Option Addr) (n cap : Nat) (zs : List RoI) (r : RoI) (w : World) (hn : n ≤ 1048576) (h : RosIn w a n zs) :
    Calls Try.prog 164 #[.slice a n cap, .agg #[.int .i64 r.1, .int .i64 r.2]] w fun e w' => (∃ i : Int, e = .returned (.int .i64 i) ∧ ((0 ≤ i ∧ r ∈ zs) ∨ (i = -1 ∧ ¬ r ∈ zs))) ∧ Below w.heap.size w w' := by
  have H : Hid (RosIn w a n zs) := h
  have hz : Hid (zs.length = n) := h.1
  clear h
  have hn' : (n : Int) ≤ 1048576 := by omega
  go_enter Try.func164, Try.ntmps164
  go_wp2
  go_loopw [8] (fun i wr => ∃ k : Nat, k ≤ n ∧ i = .int .i64 (k : Int) ∧ ¬ r ∈ zs.take k ∧ ∃ m, wr = (w.alloc (.cells #[.int .i64 r.1, .int .i64 r.2] 35)).drewN m) (fun i _ => n - (intOf i).toNat)
  case atStart => exact ⟨0, Nat.zero_le _, rfl, by simp, 0, rfl⟩
  case round =>
    obtain ⟨k, hk, rfl, hm, m, rfl⟩ := hrel
    have HM : Hid (¬ r ∈ zs.take k) := hm
    clear hm
    by_cases hlt : k < n
    · obtain ⟨b, off, rfl, hcells⟩ := H.out.2 (by omega)
      obtain ⟨s, hs⟩ : ∃ s, zs[k]? = some s := ⟨_, List.getElem?_eq_getElem (by rw [hz.out]; exact hlt)⟩
      obtain ⟨h0, h1⟩ := hcells k s hs
      have HS : Hid (zs[k]? = some s) := hs
      clear hs hcells
      have hb : b < w.heap.size := World.block_lt_of_cell? w ⟨b, off + k * 2, none⟩ h0
      have b0 : (w.alloc (.cells #[.int .i64 r.1, .int .i64 r.2] 35)).cell? ⟨w.heap.size, 0, none⟩ = some (.int .i64 r.1) := by simp
      have b1 : (w.alloc (.cells #[.int .i64 r.1, .int .i64 r.2] 35)).cell? ⟨w.heap.size, 1, none⟩ = some (.int .i64 r.2) := by simp
      have hlt' : (k : Int) < (n : Int) := by omega
      cases hsame : eqRo r s
      · have HN : Hid (¬ r ∈ zs.take (k + 1)) := by
          show ¬ r ∈ zs.take (k + 1)
          rw [mem_takeR]
          rintro ⟨j, hj, hjs⟩
          by_cases e : j = k
          · subst e
            rw [HS.out] at hjs
            have := (eqRo_iff r s).2 (Option.some.inj hjs).symm
            rw [hsame] at this; cases this
          · exact HM.out ((mem_takeR _ _ _).2 ⟨j, by omega, hjs⟩)
        go_wp2
        go_quiet (fail)
        go_wp2
        exact ⟨⟨k + 1, by omega, by go_num, HN.out, _, rfl⟩, by simp [intOf]; omega⟩
      · have HI : Hid (r ∈ zs) := by
          show r ∈ zs
          rw [(eqRo_iff r s).1 hsame]
          exact List.mem_of_getElem? HS.out
        go_wp2
        go_quiet (fail)
        go_wp2
        go_ret
        exact ⟨⟨_, rfl, Or.inl ⟨by omega, HI.out⟩⟩, by first | exact bdN ((Below.refl _ _).alloc (Nat.le_refl _) _) _ | exact bdN (bdN ((Below.refl _ _).alloc (Nat.le_refl _) _) _) _⟩
    · have hkn : k = n := by omega
      subst hkn
      have HN : Hid (¬ r ∈ zs) := by
        have := HM.out
        rw [List.take_of_length_le (by rw [hz.out]; exact Nat.le_refl _)] at this
        exact this
      go_wp2
      go_ret
      exact ⟨⟨_, rfl, Or.inr ⟨rfl, HN.out⟩⟩, bdN (by go_grown) _⟩

set_option maxHeartbeats 400000 in
theorem slContainsR_c (a : Option Addr) (n cap : Nat) (zs : List RoI) (r : RoI) (w : World) (hn : n ≤ 1048576) (h : RosIn w a n zs) :
    Calls Try.prog 143 #[.slice a n cap, .agg #[.int .i64 r.1, .int .i64 r.2]] w fun e w' => e = .returned (.bool (decide (r ∈ zs))) ∧ Below w.heap.size w w' := by
  have H : Hid (RosIn (w.alloc (.cells #[.int .i64 r.1, .int .i64 r.2] 35)) a n zs) := h.below ((Below.refl _ _).alloc (Nat.le_refl _) _)
  clear h
  go_enter Try.func143, Try.ntmps143
  go_wp2_with fail
  refine (slIndexR_c a n cap zs r _ hn H.out).mono ?_
  rintro e w1 ⟨⟨i, rfl, hi⟩, hb1⟩
  have HX : Hid (decide (0 ≤ i) = decide (r ∈ zs)) := by
    show decide (0 ≤ i) = decide (r ∈ zs)
    rcases hi with ⟨h1, h2⟩ | ⟨rfl, h2⟩
    · simp [h1, h2]
    · simp [h2]
  clear hi
  go_wp2
  go_ret
  exact ⟨by rw [HX.out]; rfl, below_new hb1⟩

attribute [local go_sem] ta11 ta12 ta13 ta14 ta21 ta22 ta23 ta24 ta31 ta32 ta33 ta34 ta41 ta42 ta43 ta44

/-- Two boxes ahead of a call that leaves them. -/
theorem boxes2 {w w1 : World} {o1 : Obj} {h0 h1 : Value} {t : TypeId} (hb : Below ((w.alloc o1).alloc (.cells #[h0, h1] t)).heap.size ((w.alloc o1).alloc (.cells #[h0, h1] t)) w1) :
    w1.cell? ⟨w.heap.size + 1, 0, none⟩ = some h0 ∧ w1.cell? ⟨w.heap.size + 1, 1, none⟩ = some h1 ∧ w.heap.size + 2 ≤ w1.heap.size ∧ Below w.heap.size w w1 := by
  have hz := hb.size
  simp only [World.size_alloc] at hz
  refine ⟨(hb.cell (p := ⟨w.heap.size + 1, 0, none⟩) (by simp)).trans (by simp), (hb.cell (p := ⟨w.heap.size + 1, 1, none⟩) (by simp)).trans (by simp), hz, below_new (below_new hb)⟩

theorem boxes3 {w w1 : World} {h0 h1 : Value} {b : Nat} (o : Obj) (c0 : w1.cell? ⟨b, 0, none⟩ = some h0) (c1 : w1.cell? ⟨b, 1, none⟩ = some h1) (hz : b < w1.heap.size) (hb : Below w.heap.size w w1) :
    ∃ W, w1.alloc o = W ∧ W.cell? ⟨b, 0, none⟩ = some h0 ∧ W.cell? ⟨b, 1, none⟩ = some h1 ∧ b < W.heap.size ∧ Below w.heap.size w W := by
  have hA : Below w1.heap.size w1 (w1.alloc o) := (Below.refl _ _).alloc (Nat.le_refl _) _
  exact ⟨_, rfl, (hA.cell (p := ⟨b, 0, none⟩) hz).trans c0, (hA.cell (p := ⟨b, 1, none⟩) hz).trans c1, Nat.lt_of_lt_of_le hz hA.size, hb.alloc hb.size _⟩

set_option maxRecDepth 100000 in
set_option maxHeartbeats 1000000 in
theorem leans_1 (r : RuleI) (h : RoI) (w : World) (e1 : r.k = 1) :
    Calls Try.prog 108 #[.agg #[.int .i64 r.k, .int .i64 r.ho, .int .i64 r.hn, .int .i64 r.w, .int .i64 r.oo, .int .i64 r.on, .int .i64 r.to, .int .i64 r.tn], .agg #[.int .i64 h.1, .int .i64 h.2]] w fun e w' => e = .returned (.bool (leansB r h)) ∧ Below w.heap.size w w' := by
  obtain ⟨t, ht⟩ : ∃ t, leansB r h = t := ⟨_, rfl⟩
  have HT : Hid (decide (h ∈ ([] : List RoI)) = t) := by rw [← ht]; show _ = leansB r h; simp [leansB, bodyR, e1]
  rw [ht]
  have E1 : Hid (r.k = 1) := e1
  clear e1 ht
  go_enter Try.func108, Try.ntmps108
  go_wp2_with (first | (go_at_call 71; refine (bodyOf_1 r E1.out _).mono ?_; rintro e w1 ⟨rfl, hb0⟩; obtain ⟨c0, c1, hz, hb⟩ := boxes2 hb0; clear hb0) | go_in)
  obtain ⟨W, hW, p0, p1, hzW, hbW⟩ := boxes3 (.cells #[.int .i64 0, .int .i64 0, .int .i64 0] 165) c0 c1 (by omega) hb
  rw [hW]
  clear hW c0 c1 hz hb
  go_region_with (first
    | (go_at_call 191; refine (roles_1 _ _).mono ?_; rintro e w2 ⟨rfl, hb2⟩; have q0 : w2.cell? ⟨w.heap.size + 1, 0, none⟩ = some (.int .i64 h.1) := (hb2.cell (p := ⟨w.heap.size + 1, 0, none⟩) hzW).trans p0; have q1 : w2.cell? ⟨w.heap.size + 1, 1, none⟩ = some (.int .i64 h.2) := (hb2.cell (p := ⟨w.heap.size + 1, 1, none⟩) hzW).trans p1)
    | (go_at_call 143; refine (slContainsR_c none 0 0 [] h _ (by omega) ⟨rfl, fun q => by omega⟩).mono ?_; rintro e w3 ⟨he3, hb3⟩; rw [HT.out] at he3; subst he3))
  all_goals go_wp2
  all_goals go_ret
  all_goals exact ⟨rfl, (hbW.drew.trans (hb2.mono hbW.size)).trans (hb3.mono (Nat.le_trans hbW.size hb2.size))⟩

set_option maxRecDepth 100000 in
set_option maxHeartbeats 1000000 in
theorem leans_2 (r : RuleI) (h : RoI) (w : World) (e1 : r.k = 2) :
    Calls Try.prog 108 #[.agg #[.int .i64 r.k, .int .i64 r.ho, .int .i64 r.hn, .int .i64 r.w, .int .i64 r.oo, .int .i64 r.on, .int .i64 r.to, .int .i64 r.tn], .agg #[.int .i64 h.1, .int .i64 h.2]] w fun e w' => e = .returned (.bool (leansB r h)) ∧ Below w.heap.size w w' := by
  obtain ⟨t, ht⟩ : ∃ t, leansB r h = t := ⟨_, rfl⟩
  have HT : Hid (decide (h ∈ [(r.oo, r.on)]) = t) := by rw [← ht]; show _ = leansB r h; simp [leansB, bodyR, e1]
  rw [ht]
  have E1 : Hid (r.k = 2) := e1
  clear e1 ht
  go_enter Try.func108, Try.ntmps108
  go_wp2_with (first | (go_at_call 71; refine (bodyOf_2 r E1.out _).mono ?_; rintro e w1 ⟨rfl, hb0⟩; obtain ⟨c0, c1, hz, hb⟩ := boxes2 hb0; clear hb0) | go_in)
  obtain ⟨W, hW, p0, p1, hzW, hbW⟩ := boxes3 (.cells #[.int .i64 0, .int .i64 0, .int .i64 0] 165) c0 c1 (by omega) hb
  rw [hW]
  clear hW c0 c1 hz hb
  go_region_with (first
    | (go_at_call 192; refine (roles_2 _ _ _).mono ?_; rintro e w2 ⟨g, rfl, hc2, hb2⟩; have HC2 : Hid (RosIn w2 (some ⟨g, 0, none⟩) ([(r.oo, r.on)]).length ([(r.oo, r.on)])) := rosIn_of hc2; clear hc2; have q0 : w2.cell? ⟨w.heap.size + 1, 0, none⟩ = some (.int .i64 h.1) := (hb2.cell (p := ⟨w.heap.size + 1, 0, none⟩) hzW).trans p0; have q1 : w2.cell? ⟨w.heap.size + 1, 1, none⟩ = some (.int .i64 h.2) := (hb2.cell (p := ⟨w.heap.size + 1, 1, none⟩) hzW).trans p1)
    | (go_at_call 143; refine (slContainsR_c _ _ _ [(r.oo, r.on)] h _ (by simp) HC2.out).mono ?_; rintro e w3 ⟨he3, hb3⟩; rw [HT.out] at he3; subst he3))
  all_goals go_wp2
  all_goals go_ret
  all_goals exact ⟨rfl, (hbW.drew.trans (hb2.mono hbW.size)).trans (hb3.mono (Nat.le_trans hbW.size hb2.size))⟩

set_option maxRecDepth 100000 in
set_option maxHeartbeats 1000000 in
theorem leans_3 (r : RuleI) (h : RoI) (w : World) (e1 : r.k = 3) (e3 : r.tn ≠ h.2) :
    Calls Try.prog 108 #[.agg #[.int .i64 r.k, .int .i64 r.ho, .int .i64 r.hn, .int .i64 r.w, .int .i64 r.oo, .int .i64 r.on, .int .i64 r.to, .int .i64 r.tn], .agg #[.int .i64 h.1, .int .i64 h.2]] w fun e w' => e = .returned (.bool (leansB r h)) ∧ Below w.heap.size w w' := by
  obtain ⟨t, ht⟩ : ∃ t, leansB r h = t := ⟨_, rfl⟩
  have HT : Hid (decide (h ∈ [(r.oo, r.on)]) = t) := by rw [← ht]; show _ = leansB r h; simp [leansB, bodyR, e1, e3]
  rw [ht]
  have b3 : (r.tn == h.2) = false := by simp [e3]
  have E1 : Hid (r.k = 3) := e1
  clear e1 ht e3
  go_enter Try.func108, Try.ntmps108
  go_wp2_with (first | (go_at_call 71; refine (bodyOf_3 r E1.out _).mono ?_; rintro e w1 ⟨rfl, hb0⟩; obtain ⟨c0, c1, hz, hb⟩ := boxes2 hb0; clear hb0; have hlt1 : w.heap.size + 1 < w1.heap.size := by omega) | go_in)
  obtain ⟨W, hW, p0, p1, hzW, hbW⟩ := boxes3 (.cells #[.int .i64 r.oo, .int .i64 r.on, .int .i64 r.tn] 165) c0 c1 (by omega) hb
  rw [hW]
  clear hW c0 c1 hz hb hlt1
  go_region_with (first
    | (go_at_call 193; refine (roles_3 _ _ _ _).mono ?_; rintro e w2 ⟨g, rfl, hc2, hb2⟩; have HC2 : Hid (RosIn w2 (some ⟨g, 0, none⟩) ([(r.oo, r.on)]).length ([(r.oo, r.on)])) := rosIn_of hc2; clear hc2; have q0 : w2.cell? ⟨w.heap.size + 1, 0, none⟩ = some (.int .i64 h.1) := (hb2.cell (p := ⟨w.heap.size + 1, 0, none⟩) hzW).trans p0; have q1 : w2.cell? ⟨w.heap.size + 1, 1, none⟩ = some (.int .i64 h.2) := (hb2.cell (p := ⟨w.heap.size + 1, 1, none⟩) hzW).trans p1)
    | (go_at_call 143; refine (slContainsR_c _ _ _ [(r.oo, r.on)] h _ (by simp) HC2.out).mono ?_; rintro e w3 ⟨he3, hb3⟩; rw [HT.out] at he3; subst he3))
  all_goals go_wp2
  all_goals go_ret
  all_goals exact ⟨rfl, (hbW.drew.trans (hb2.mono hbW.size)).trans (hb3.mono (Nat.le_trans hbW.size hb2.size))⟩

set_option maxRecDepth 100000 in
set_option maxHeartbeats 1000000 in
theorem leans_4 (r : RuleI) (h : RoI) (w : World) (e1 : r.k = 4) :
    Calls Try.prog 108 #[.agg #[.int .i64 r.k, .int .i64 r.ho, .int .i64 r.hn, .int .i64 r.w, .int .i64 r.oo, .int .i64 r.on, .int .i64 r.to, .int .i64 r.tn], .agg #[.int .i64 h.1, .int .i64 h.2]] w fun e w' => e = .returned (.bool (leansB r h)) ∧ Below w.heap.size w w' := by
  obtain ⟨t, ht⟩ : ∃ t, leansB r h = t := ⟨_, rfl⟩
  have HT : Hid (decide (h ∈ [(r.oo, r.on), (r.to, r.tn)]) = t) := by rw [← ht]; show _ = leansB r h; simp [leansB, bodyR, e1]
  rw [ht]
  have E1 : Hid (r.k = 4) := e1
  clear e1 ht
  go_enter Try.func108, Try.ntmps108
  go_wp2_with (first | (go_at_call 71; refine (bodyOf_4 r E1.out _).mono ?_; rintro e w1 ⟨rfl, hb0⟩; obtain ⟨c0, c1, hz, hb⟩ := boxes2 hb0; clear hb0) | go_in)
  obtain ⟨W, hW, p0, p1, hzW, hbW⟩ := boxes3 (.cells #[.int .i64 0, .int .i64 0, .int .i64 0] 165) c0 c1 (by omega) hb
  rw [hW]
  clear hW c0 c1 hz hb
  go_region_with (first
    | (go_at_call 194; refine (roles_4 _ _ _ _ _).mono ?_; rintro e w2 ⟨g, rfl, hc2, hb2⟩; have HC2 : Hid (RosIn w2 (some ⟨g, 0, none⟩) ([(r.oo, r.on), (r.to, r.tn)]).length ([(r.oo, r.on), (r.to, r.tn)])) := rosIn_of hc2; clear hc2; have q0 : w2.cell? ⟨w.heap.size + 1, 0, none⟩ = some (.int .i64 h.1) := (hb2.cell (p := ⟨w.heap.size + 1, 0, none⟩) hzW).trans p0; have q1 : w2.cell? ⟨w.heap.size + 1, 1, none⟩ = some (.int .i64 h.2) := (hb2.cell (p := ⟨w.heap.size + 1, 1, none⟩) hzW).trans p1)
    | (go_at_call 143; refine (slContainsR_c _ _ _ [(r.oo, r.on), (r.to, r.tn)] h _ (by simp) HC2.out).mono ?_; rintro e w3 ⟨he3, hb3⟩; rw [HT.out] at he3; subst he3))
  all_goals go_wp2
  all_goals go_ret
  all_goals exact ⟨rfl, (hbW.drew.trans (hb2.mono hbW.size)).trans (hb3.mono (Nat.le_trans hbW.size hb2.size))⟩

set_option maxRecDepth 100000 in
set_option maxHeartbeats 1000000 in
theorem leans_3t (r : RuleI) (h : RoI) (w : World) (e1 : r.k = 3) (e3 : r.tn = h.2) :
    Calls Try.prog 108 #[.agg #[.int .i64 r.k, .int .i64 r.ho, .int .i64 r.hn, .int .i64 r.w, .int .i64 r.oo, .int .i64 r.on, .int .i64 r.to, .int .i64 r.tn], .agg #[.int .i64 h.1, .int .i64 h.2]] w fun e w' => e = .returned (.bool (leansB r h)) ∧ Below w.heap.size w w' := by
  have E : leansB r h = true := by simp [leansB, e1, e3]
  rw [E]
  have b3 : (r.tn == h.2) = true := by simp [e3]
  have E1 : Hid (r.k = 3) := e1
  clear e1 E e3
  go_enter Try.func108, Try.ntmps108
  go_wp2_with (first | (go_at_call 71; refine (bodyOf_3 r E1.out _).mono ?_; rintro e w1 ⟨rfl, hb0⟩; obtain ⟨c0, c1, hz, hb⟩ := boxes2 hb0; clear hb0; have hlt1 : w.heap.size + 1 < w1.heap.size := by omega) | go_in)
  go_ret
  exact ⟨rfl, hb.alloc hb.size _⟩

theorem leansOn_c (r : RuleI) (h : RoI) (w : World) (hk : 1 ≤ r.k ∧ r.k ≤ 4) :
    Calls Try.prog 108 #[.agg #[.int .i64 r.k, .int .i64 r.ho, .int .i64 r.hn, .int .i64 r.w, .int .i64 r.oo, .int .i64 r.on, .int .i64 r.to, .int .i64 r.tn], .agg #[.int .i64 h.1, .int .i64 h.2]] w fun e w' => e = .returned (.bool (leansB r h)) ∧ Below w.heap.size w w' := by
  have h4 : r.k = 1 ∨ r.k = 2 ∨ r.k = 3 ∨ r.k = 4 := by omega
  rcases h4 with e | e | e | e
  · exact leans_1 r h w e
  · exact leans_2 r h w e
  · by_cases q : r.tn = h.2
    · exact leans_3t r h w e q
    · exact leans_3 r h w e q
  · exact leans_4 r h w e

end Go.Proofs.Ytdooocjjohdpjaa
