/-
  PLAIN WORDS for FnGrants: what stays at a step has all that follows. No Go text is walked here.
  Conditions: each fact bears its own.
  THE LAW laws.FnWidens.
  Conditions: each contract bears its own.
-/
import Derived.Test.YtdooocjjohdpjaaPg06
import Derived.Test.YtdooocjjohdpjaaPg09
import Derived.Test.YtdooocjjohdpjaaPg18
import Derived.Test.YtdooocjjohdpjaaPg19
import Derived.Test.YtdooocjjohdpjaaPg13
import Derived.Test.YtdooocjjohdpjaaPg17
import Derived.Deep.CutBlock
namespace Go.Proofs.Ytdooocjjohdpjaa
open Go.RowKit
set_option linter.unusedVariables false
set_option linter.unusedSimpArgs false

theorem allG_still {zs : List RuleI} (hz : ∀ z ∈ zs, okR z) {G : List GrI} (h : AllG zs G) : stepG zs G = G := by
  obtain ⟨n, _, e⟩ := it_ends hz
  have := allG_unique h (allG_it hz e)
  rw [this, e]

theorem closed_has {zs : List RuleI} (hz : ∀ z ∈ zs, okR z) {gs G : List GrI} (hg : SG gs) (hs : stepG zs gs = gs) (h : AllG zs G) {r : RoI} {p : Int} (h0 : 1 ≤ p) (h1 : p ≤ 8) (q : hasI (ofG G r) p = true) : hasI (ofG gs r) p = true := by
  refine has_least (m := fun r p => hasI (ofG gs r) p = true) hz (fun z hzz p hp g => ?_) h0 ((h.al r p h0 h1).1 q)
  have := (has_step hz hg (z.ho, z.hn) p).2 (.inr ⟨z, hzz, rfl, (byF_has (ofG_set hg) (hz z hzz) hp).2 g⟩)
  rw [hs] at this
  exact this

theorem closed_and {zs : List RuleI} (hz : ∀ z ∈ zs, okR z) {gs G : List GrI} (hg : SG gs) (hs : stepG zs gs = gs) (h : AllG zs G) (r : RoI) : andI (ofG gs r) (ofG G r) = ofG G r := by
  refine set_ext (and_set (ofG_set hg r) (ofG_set h.sg r)) (ofG_set h.sg r) (fun p h0 h1 => ?_)
  rw [hasI_and (ofG_set hg r) (ofG_set h.sg r) p]
  cases q : hasI (ofG G r) p
  · rw [Bool.and_false]
  · rw [closed_has hz hg hs h h0 h1 q]; rfl

end Go.Proofs.Ytdooocjjohdpjaa

namespace Go.Proofs.Ytdooocjjohdpjaa
open Go.RowKit
set_option linter.unusedVariables false
set_option linter.unusedSimpArgs false

theorem polTo_iff {zs : List RuleI} : ∀ k, k ≤ zs.length → (polTo zs k = 0 ↔ ∀ j z, j < k → zs[j]? = some z → ruleCode z = 0 ∧ ¬ z ∈ zs.take j)
  | 0, _ => ⟨fun _ j z hj => by omega, fun _ => rfl⟩
  | k + 1, hk => by
    have ih := polTo_iff (zs := zs) k (by omega)
    have hx : zs[k]? = some zs[k] := List.getElem?_eq_getElem (by omega)
    constructor
    · intro h
      have h0 : polTo zs k = 0 := by
        by_cases q : polTo zs k = 0
        · exact q
        · exact absurd (polTo_stay zs k (k + 1) _ q rfl (by omega)) (by rw [h]; exact fun e => q e.symm)
      intro j z hj hz
      by_cases e : j = k
      · subst e
        rw [hx] at hz
        cases hz
        by_cases hr : ruleCode zs[j] = 0
        · refine ⟨hr, fun hm => ?_⟩
          rw [polTo_same zs j _ hx h0 hr hm] at h
          cases h
        · rw [polTo_bad zs j _ hx h0 hr] at h
          exact absurd h hr
      · exact ih.1 h0 j z (by omega) hz
    · intro h
      have h0 := ih.2 (fun j z hj hz => h j z (by omega) hz)
      obtain ⟨h1, h2⟩ := h k _ (by omega) hx
      exact polTo_good zs k _ hx h0 h1 h2

theorem pol_tail {zs : List RuleI} (h : polCode zs = 0) : polCode zs.tail = 0 := by
  have hl := (pol_ok h).1
  have h0 : polTo zs zs.length = 0 := by
    unfold polCode at h
    rwa [if_neg (by omega)] at h
  have hall := (polTo_iff zs.length (Nat.le_refl _)).1 h0
  unfold polCode
  rw [if_neg (by rw [List.length_tail]; omega)]
  refine (polTo_iff _ (Nat.le_refl _)).2 (fun j z hj hz => ?_)
  rw [List.length_tail] at hj
  have hz' : zs[j + 1]? = some z := by rw [List.getElem?_tail] at hz; exact hz
  obtain ⟨h1, h2⟩ := hall (j + 1) z (by omega) hz'
  refine ⟨h1, fun hm => h2 ?_⟩
  obtain ⟨i, hi, hiz⟩ := (mem_take_iff zs.tail j z).1 hm
  exact (mem_take_iff zs (j + 1) z).2 ⟨i + 1, by omega, by rw [List.getElem?_tail] at hiz; exact hiz⟩

/-- With fewer rules nobody has more. -/
theorem sub_wid {zs ts : List RuleI} (hz : ∀ z ∈ zs, okR z) (hsub : ∀ z ∈ ts, z ∈ zs) {G T : List GrI} (hG : AllG zs G) (hT : AllG ts T) : Wid (ofG T) (ofG G) := by
  intro r
  have key : ∀ p, 1 ≤ p → p ≤ 8 → hasI (ofG T r) p = true → hasI (ofG G r) p = true := by
    intro p h0 h1 q
    refine has_least (m := fun r p => hasI (ofG G r) p = true) (fun z hzz => hz z (hsub z hzz)) (fun z hzz p hp g => ?_) h0 ((hT.al r p h0 h1).1 q)
    have := (has_step hz hG.sg (z.ho, z.hn) p).2 (.inr ⟨z, hsub z hzz, rfl, (byF_has (ofG_set hG.sg) (hz z (hsub z hzz)) hp).2 g⟩)
    rw [allG_still hz hG] at this
    exact this
  refine set_ext (or_set (ofG_set hG.sg r) (ofG_set hT.sg r)) (ofG_set hG.sg r) (fun p h0 h1 => ?_)
  rw [hasI_or (ofG_set hG.sg r) (ofG_set hT.sg r) p]
  cases q : hasI (ofG T r) p
  · rw [Bool.or_false]
  · rw [key p h0 h1 q]; rfl

theorem canon_pos {zs : List RuleI} {n : Nat} (hl : zs.length = n) (hn : 0 < n) : 0 < (canon (rawTo zs n)).length := by
  have hm : ∃ x, x ∈ rawTo zs n := by
    obtain ⟨z, hz⟩ : ∃ z, zs[0]? = some z := ⟨_, List.getElem?_eq_getElem (by omega)⟩
    exact ⟨(z.ho, z.hn), List.mem_flatMap.2 ⟨z, (mem_take_iff zs n z).2 ⟨0, hn, hz⟩, by simp [rawR]⟩⟩
  obtain ⟨x, hx⟩ := hm
  have := ((canon_facts (rawTo zs n)).2 x).2 hx
  exact List.length_pos_of_mem this

theorem fldRR1 (x : Int) (a : Option Addr) (n c : Nat) (w : World) : (Instr.field 47 (.agg #[.int .i64 x, .slice a n c]) 1).run Try.prog w = .ok (.slice a n c) w := by kernel_rfl

attribute [local go_sem ↓] fldRR1

abbrev KW (W W' : World) : Prop := (∀ b o, b < W.heap.size → W'.cell? ⟨b, o, none⟩ = W.cell? ⟨b, o, none⟩) ∧ Below W.heap.size W W'

/-- What stands of the two that were drawn. -/
structure FW (w : World) (g n : Nat) (zs : List RuleI) (b : Addr) (m : Nat) (ys : List RuleI) (W : World) : Prop where
  bl : Below w.heap.size w W
  ra : RulesIn W (some ⟨g, 0, none⟩) n zs
  rb : RulesIn W (some b) m ys

theorem FW.below {w : World} {g n : Nat} {zs : List RuleI} {b : Addr} {m : Nat} {ys : List RuleI} {W W' : World} (h : FW w g n zs b m ys W) (hb : Below W.heap.size W W') : FW w g n zs b m ys W' :=
  ⟨h.bl.trans (hb.mono h.bl.size), h.ra.below hb, h.rb.below hb⟩

theorem widens_any (zs ys : List RuleI) (a b : Option Addr) (n c m c' : Nat) (hn : n ≤ 1048576) (hm : m ≤ 1048576) (hc : n ≤ c) (hcm : c ≤ maxLen) (hc' : m ≤ c') (hcm' : c' ≤ maxLen) : ∃ t : Bool,
    (∀ w : World, RulesIn w a n zs → RulesIn w b m ys → GivesW 21 a n c b m c' t w) ∧ (∀ w : World, RulesIn w a n zs → RulesIn w b m ys → GivesW 22 a n c b m c' t w) := by
  by_cases h1 : polCode zs = 0 ∧ polCode ys = 0
  · obtain ⟨ga, hga⟩ := all_some zs h1.1
    obtain ⟨gb, hgb⟩ := all_some ys h1.2
    haveI := Classical.propDecidable (Wid (ofG ga) (ofG gb))
    have ht : decide (Wid (ofG ga) (ofG gb)) = true ↔ Wid (ofG ga) (ofG gb) := decide_eq_true_iff
    exact ⟨decide (Wid (ofG ga) (ofG gb)), fun w h h' => implWidens_ok _ _ _ _ _ _ _ _ ga gb _ _ hc hcm hc' hcm' h h' h1.1 h1.2 hga hgb ht, fun w h h' => specWidens_ok _ _ _ _ _ _ _ _ ga gb _ _ h h' h1.1 h1.2 hga hgb ht⟩
  · have hor : orC (polCode zs) (polCode ys) ≠ 0 := by
      unfold orC
      split
      · rename_i q
        exact fun e => h1 ⟨q, e⟩
      · assumption
    exact ⟨false, fun w h h' => implWidens_bad _ _ _ _ _ _ _ _ _ hn hm hc hcm hc' hcm' h h' hor, fun w h h' => specWidens_bad _ _ _ _ _ _ _ _ _ hn hm h h' h1⟩

set_option maxRecDepth 100000 in
set_option maxHeartbeats 4000000 in
theorem widens_inner (a : Option Addr) (len cap : Nat) (bs : List Int) (w : World) (hl : len ≤ 1048576) (hc : CodeIn w a len bs) :
    Calls Try.prog 4 #[.slice a len cap] w fun e w' => e = .returned (.bool true) ∧ Below w.heap.size w w' := by
  have hl' : (len : Int) ≤ 1048576 := by omega
  have HCO : Hid (CodeIn w a len bs) := hc
  clear hc
  go_enter Try.func4, Try.ntmps4
  go_wp2_with (first | (go_at_call 11; go_in) | fail)
  refine (drawWidens_c a len cap bs _ HCO.out hl).mono ?_
  rintro e w1 ⟨g, n, c, b, m, c', zs, ys, rfl, ⟨hn, hnc, hcm⟩, ⟨hm, hmc, hcm'⟩, hra, hrb, hb1⟩
  have F1 : Hid (FW w g n zs b m ys w1) := ⟨hb1, hra, hrb⟩
  have hz : Hid (zs.length = n) := hra.1
  have hn' : (n : Int) ≤ 17 := by omega
  obtain ⟨t, hwi, hws⟩ := widens_any zs ys (some ⟨g, 0, none⟩) (some b) n c m c' (by omega) (by omega) hnc hcm hmc hcm'
  have HWI : Hid (∀ w : World, RulesIn w (some ⟨g, 0, none⟩) n zs → RulesIn w (some b) m ys → GivesW 21 (some ⟨g, 0, none⟩) n c (some b) m c' t w) := hwi
  have HWS : Hid (∀ w : World, RulesIn w (some ⟨g, 0, none⟩) n zs → RulesIn w (some b) m ys → GivesW 22 (some ⟨g, 0, none⟩) n c (some b) m c' t w) := hws
  clear HCO hra hrb hb1 hwi hws
  go_wp2_with fail
  refine (HWI.out _ F1.out.ra F1.out.rb).mono ?_
  rintro e w2 ⟨rfl, hb2⟩
  have F2 : Hid (FW w g n zs b m ys w2) := F1.out.below hb2
  clear hb2 F1
  go_wp2_with fail
  refine (HWS.out _ F2.out.ra F2.out.rb).mono ?_
  rintro e w3 ⟨rfl, hb3⟩
  have F3 : Hid (FW w g n zs b m ys w3) := F2.out.below hb3
  clear hb3 F2 HWI HWS
  obtain ⟨cd, hcd⟩ : ∃ cd, polCode zs = cd := ⟨_, rfl⟩
  have HCD : Hid (polCode zs = cd) := hcd
  clear hcd
  have htt : (t != t) = false := by cases t <;> rfl
  go_wp2_with fail
  refine (implPolicyFault_c (some ⟨g, 0, none⟩) n c zs _ (by omega) hnc hcm F3.out.ra).mono ?_
  rintro e w4 ⟨rfl, hb4⟩
  rw [HCD.out]
  have F4 : Hid (FW w g n zs b m ys w4) := F3.out.below hb4
  clear hb4 F3
  by_cases hbad : cd ≠ 0 ∨ n = 0
  · have go : ∀ (hg : (cd != 0) = true ∨ ((cd != 0) = false ∧ n = 0)), True := fun _ => trivial
    by_cases c0 : cd = 0
    · have hn0 : n = 0 := by
        rcases hbad with h | h
        · exact absurd c0 h
        · exact h
      have hn0' : ((n : Int) == 0) = true := by simp [hn0]
      subst c0
      clear hbad hn0 go
      go_wp2_with fail
      refine (implPolicyFault_c (some ⟨g, 0, none⟩) n c zs _ (by omega) hnc hcm F4.out.ra).mono ?_
      rintro e w5 ⟨rfl, hb5⟩
      rw [HCD.out]
      have F5 : Hid (FW w g n zs b m ys w5) := F4.out.below hb5
      clear hb5 F4
      go_wp2_with fail
      refine (specPolicyFault_c (some ⟨g, 0, none⟩) n c zs _ (by omega) F5.out.ra).mono ?_
      rintro e w6 ⟨rfl, hb6⟩
      rw [HCD.out]
      go_wp2
      go_ret
      exact ⟨rfl, F5.out.bl.trans (hb6.mono F5.out.bl.size)⟩
    · have cb : (cd != 0) = true := by simp [c0]
      have ce : (cd == cd) = true := by simp
      clear hbad c0 go
      go_wp2_with fail
      refine (implPolicyFault_c (some ⟨g, 0, none⟩) n c zs _ (by omega) hnc hcm F4.out.ra).mono ?_
      rintro e w5 ⟨rfl, hb5⟩
      rw [HCD.out]
      have F5 : Hid (FW w g n zs b m ys w5) := F4.out.below hb5
      clear hb5 F4
      go_wp2_with fail
      refine (specPolicyFault_c (some ⟨g, 0, none⟩) n c zs _ (by omega) F5.out.ra).mono ?_
      rintro e w6 ⟨rfl, hb6⟩
      rw [HCD.out]
      go_wp2
      go_ret
      exact ⟨by simp, F5.out.bl.trans (hb6.mono F5.out.bl.size)⟩
  · have c0 : cd = 0 := by
      by_cases q : cd = 0
      · exact q
      · exact absurd (.inl q) hbad
    have hn0 : 0 < n := by
      by_cases q : n = 0
      · exact absurd (.inr q) hbad
      · omega
    subst c0
    have hn0b : ((n : Int) == 0) = false := by simp; omega
    have hn1' : (1 : Int) ≤ (n : Int) := by omega
    have hc1' : (1 : Int) ≤ (c : Int) := by omega
    have hnc' : (n : Int) ≤ (c : Int) := by omega
    obtain ⟨L, hL⟩ : ∃ L, (canon (rawTo zs n)).length = L := ⟨_, rfl⟩
    have hL0 : 0 < L := by rw [← hL]; exact canon_pos hz.out hn0
    have hL1 : L ≤ 1000000 := by
      rw [← hL]
      have h1 := canon_len (rawTo zs n)
      have h2 : (rawTo zs n).length ≤ 1000000 := by have := rawTo_len zs n; omega
      omega
    have hL0' : (0 : Int) < (L : Int) := by omega
    have hL1' : (L : Int) ≤ 1000000 := by omega
    have HRI : Hid (∀ w : World, RulesIn w (some ⟨g, 0, none⟩) n zs → Calls Try.prog 25 #[.slice (some ⟨g, 0, none⟩) n c] w fun e w' => ∃ (a' : Option Addr) (cap' : Nat), e = .returned (.agg #[.int .i64 0, .slice a' L cap']) ∧ Below w.heap.size w w') := fun w h => by
      refine (implRolesIn_g (some ⟨g, 0, none⟩) n c zs w hnc hcm h HCD.out).mono ?_
      rintro e w' ⟨a', cap', he, _, hb⟩
      rw [hL] at he
      exact ⟨a', cap', he, hb⟩
    have HRS : Hid (∀ w : World, RulesIn w (some ⟨g, 0, none⟩) n zs → Calls Try.prog 26 #[.slice (some ⟨g, 0, none⟩) n c] w fun e w' => ∃ (a' : Option Addr) (cap' : Nat), e = .returned (.agg #[.int .i64 0, .slice a' L cap']) ∧ Below w.heap.size w w') := fun w h => by
      refine (specRolesIn_g (some ⟨g, 0, none⟩) n c zs w h HCD.out).mono ?_
      rintro e w' ⟨a', cap', he, _, hb⟩
      rw [hL] at he
      exact ⟨a', cap', he, hb⟩
    have HLW : Hid (∀ (w : World) (o cl : Nat), n - 1 ≤ cl → cl ≤ maxLen → RulesIn w (some ⟨g, o, none⟩) (n - 1) zs.tail → RulesIn w (some ⟨g, 0, none⟩) n zs → GivesW 21 (some ⟨g, o, none⟩) (n - 1) cl (some ⟨g, 0, none⟩) n c true w) := fun w o cl h1 h2 h3 h4 => by
      obtain ⟨G, hG⟩ := all_some zs HCD.out
      obtain ⟨T, hT⟩ := all_some zs.tail (pol_tail HCD.out)
      exact implWidens_ok _ _ _ _ _ _ _ _ T G true _ h1 h2 hnc hcm h3 h4 (pol_tail HCD.out) HCD.out hT hG ⟨fun _ => sub_wid (fun z hzz => ((pol_ok HCD.out).2 z hzz).1) (fun z hzz => List.mem_of_mem_tail hzz) hG hT, fun _ => rfl⟩
    clear hbad hL
    go_wp2_with fail
    refine (HRI.out _ F4.out.ra).mono ?_
    rintro e w5 ⟨a5, cap5, rfl, hb5⟩
    have A5 : Below w5.heap.size w5 (w5.alloc (.cells #[.int .i64 0, .slice a5 L cap5] 47)) := (Below.refl _ _).alloc (Nat.le_refl _) _
    have F5 : Hid (FW w g n zs b m ys (w5.alloc (.cells #[.int .i64 0, .slice a5 L cap5] 47))) := (F4.out.below hb5).below A5
    have X5 : Hid (Box2 (w5.alloc (.cells #[.int .i64 0, .slice a5 L cap5] 47)) w5.heap.size (.int .i64 0) (.slice a5 L cap5)) := Box2.new _ _ _ _
    clear hb5 A5 F4
    go_upto_region 10 with fail
    generalize w5.alloc (.cells #[.int .i64 0, .slice a5 L cap5] 47) = w6 at F5 X5 ⊢
    obtain ⟨x0, x1⟩ := X5.out
    have hlx := X5.out.lt
    have HR1 : Hid (∀ w' : World, KW w6 w' → Calls Try.prog 26 #[.slice (some ⟨g, 0, none⟩) n c] w' fun e w'' => ∃ (a' : Option Addr) (cap' : Nat), e = .returned (.agg #[.int .i64 0, .slice a' L cap']) ∧ Below w'.heap.size w' w'') := fun w' q => HRS.out _ (F5.out.ra.below q.2)
    have HBL : Hid (Below w.heap.size w w6) := F5.out.bl
    have HRT : Hid (RulesIn w6 (some ⟨g, 8, none⟩) (n - 1) zs.tail) := rules_tail F5.out.ra hn0
    have HRA : Hid (RulesIn w6 (some ⟨g, 0, none⟩) n zs) := F5.out.ra
    clear HRI HRS F5 X5
    go_upto_region 11 with fail
    obtain ⟨o, ho, HRO⟩ : ∃ o, (if c = 1 then some (⟨g, 0, none⟩ : Addr) else some ⟨g, 8, none⟩) = some ⟨g, o, none⟩ ∧ Hid (RulesIn w6 (some ⟨g, o, none⟩) (n - 1) zs.tail) := by
      by_cases q : c = 1
      · exact ⟨0, by rw [if_pos q], ⟨by rw [List.length_tail, hz.out], fun h => by omega⟩⟩
      · exact ⟨8, by rw [if_neg q], HRT.out⟩
    rw [ho]
    have HW1 : Hid (∀ w' : World, KW w6 w' → GivesW 21 (some ⟨g, o, none⟩) (n - 1) (c - 1) (some ⟨g, 0, none⟩) n c true w') := fun w' q => HLW.out w' o (c - 1) (by omega) (by omega) (HRO.out.below q.2) (HRA.out.below q.2)
    clear ho HLW
    go_region_with (first | (go_at_call 21; refine (HW1.out _ (by first | exact hS | exact kp_drew _)).mono ?_; rintro e wA ⟨rfl, hbA⟩; have hS : KW w6 wA := kp_step (by first | exact hS | exact kp_drew _) hbA; have xA := (hS.1 _ 0 hlx).trans x0; have yA := (hS.1 _ 1 hlx).trans x1) | (go_at_call 26; refine (HR1.out _ (by first | exact hS | exact kp_drew _)).mono ?_; rintro e wB ⟨_, _, rfl, hbB⟩; have hS : KW w6 wB := kp_step (by first | exact hS | exact kp_drew _) hbB; have xB := (hS.1 _ 0 hlx).trans x0; have yB := (hS.1 _ 1 hlx).trans x1))
    all_goals go_wp2
    all_goals go_ret
    all_goals exact ⟨rfl, HBL.out.trans (hS.2.mono HBL.out.size)⟩

end Go.Proofs.Ytdooocjjohdpjaa
