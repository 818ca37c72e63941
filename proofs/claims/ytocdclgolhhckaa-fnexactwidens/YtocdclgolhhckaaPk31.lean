/-
  CONTRACTS: spec.Widens; what both programs' Widens answers.
  Conditions: each contract bears its own.
-/
import Derived.Test.YtocdclgolhhckaaPk28
import Derived.Deep.RegionHeld3
namespace Go.Proofs.Ytocdclgolhhckaa
open Go.RowKit Go.Maps
set_option linter.unusedVariables false
set_option linter.unusedSimpArgs false

set_option maxRecDepth 100000 in
set_option maxHeartbeats 2000000 in
theorem specWidens_bad (a : Option Addr) (n cap : Nat) (zs : List RuleI) (a' : Option Addr) (m cap' : Nat) (ys : List RuleI) (w : World) (hn : n ≤ 1048576) (hm : m ≤ 1048576) (h : RulesIn w a n zs) (h' : RulesIn w a' m ys) (hc : ¬ (polCode zs = 0 ∧ polCode ys = 0)) : GivesW 51 a n cap a' m cap' false w := by
  have HP : Hid (∀ w2 : World, Below w.heap.size w w2 → Calls Try.prog 53 #[.slice a n cap] w2 fun e w' => e = .returned (.int .i64 (polCode zs)) ∧ Below w2.heap.size w2 w') := fun w2 q => l2Fault_c a n cap zs w2 hn (h.below q)
  have HQ : Hid (∀ w2 : World, Below w.heap.size w w2 → Calls Try.prog 53 #[.slice a' m cap'] w2 fun e w' => e = .returned (.int .i64 (polCode ys)) ∧ Below w2.heap.size w2 w') := fun w2 q => l2Fault_c a' m cap' ys w2 hm (h'.below q)
  clear h h'
  generalize polCode zs = p at HP hc
  generalize polCode ys = q at HQ hc
  unfold GivesW
  by_cases hp : p = 0
  · have hq : (q != 0) = true := by simp; omega
    have hpb : (p != 0) = false := by simp [hp]
    clear hp hc
    go_enter Try.func51, Try.ntmps51
    go_wp2_with fail
    refine (HP.out _ (Below.refl _ _)).mono ?_
    rintro e w1 ⟨rfl, hb1⟩
    go_wp2_with fail
    refine (HQ.out _ hb1).mono ?_
    rintro e w2 ⟨rfl, hb2⟩
    go_wp2_with fail
    go_ret
    exact ⟨rfl, hb1.trans (hb2.mono hb1.size)⟩
  · have hpb : (p != 0) = true := by simp [hp]
    clear hp hc
    go_enter Try.func51, Try.ntmps51
    go_wp2_with fail
    refine (HP.out _ (Below.refl _ _)).mono ?_
    rintro e w1 ⟨rfl, hb1⟩
    go_wp2_with fail
    go_ret
    exact ⟨rfl, hb1⟩

set_option maxRecDepth 100000 in
set_option maxHeartbeats 4000000 in
theorem specWidens_ok (a : Option Addr) (n cap : Nat) (zs : List RuleI) (a' : Option Addr) (m cap' : Nat) (ys : List RuleI) (ga gb : List GrI) (t : Bool) (w : World) (h : RulesIn w a n zs) (h' : RulesIn w a' m ys) (hc : polCode zs = 0) (hc' : polCode ys = 0) (hga : AllG zs ga) (hgb : AllG ys gb) (ht : t = true ↔ Wid (ofG ga) (ofG gb)) : GivesW 51 a n cap a' m cap' t w := by
  have hn := pol_n16 h.1 hc
  have hm := pol_n16 h'.1 hc'
  have HP : Hid (∀ w2 : World, Below w.heap.size w w2 → Calls Try.prog 53 #[.slice a n cap] w2 fun e w' => e = .returned (.int .i64 0) ∧ Below w2.heap.size w2 w') := fun w2 q => by have := l2Fault_c a n cap zs w2 (by omega) (h.below q); rwa [hc] at this
  have HQ : Hid (∀ w2 : World, Below w.heap.size w w2 → Calls Try.prog 53 #[.slice a' m cap'] w2 fun e w' => e = .returned (.int .i64 0) ∧ Below w2.heap.size w2 w') := fun w2 q => by have := l2Fault_c a' m cap' ys w2 (by omega) (h'.below q); rwa [hc'] at this
  have HSA : Hid (∀ w2 : World, Below w.heap.size w w2 → Calls Try.prog 56 #[.slice a n cap] w2 fun e w' => ∃ g l cap', e = .returned (.slice (some ⟨g, 0, none⟩) l cap') ∧ GrIn w' (some ⟨g, 0, none⟩) l ga ∧ l ≤ 40 ∧ Below w2.heap.size w2 w') := fun w2 q => l3AllW_c a n cap zs ga w2 (h.below q) hc hga
  have HSB : Hid (∀ w2 : World, Below w.heap.size w w2 → Calls Try.prog 56 #[.slice a' m cap'] w2 fun e w' => ∃ g l cap', e = .returned (.slice (some ⟨g, 0, none⟩) l cap') ∧ GrIn w' (some ⟨g, 0, none⟩) l gb ∧ l ≤ 40 ∧ Below w2.heap.size w2 w') := fun w2 q => l3AllW_c a' m cap' ys gb w2 (h'.below q) hc' hgb
  have HW : Hid (t = true ↔ ∀ x ∈ ga, andI x.2 (ofG gb x.1) = x.2) := ht.trans (wid_iff hga.sg hgb.sg)
  clear h h' hc hc' hga hgb ht
  unfold GivesW
  go_enter Try.func51, Try.ntmps51
  go_wp2_with fail
  refine (HP.out _ (Below.refl _ _)).mono ?_
  rintro e w1 ⟨rfl, hb1⟩
  go_wp2_with fail
  refine (HQ.out _ hb1).mono ?_
  rintro e w2 ⟨rfl, hb2'⟩
  have hb2 : Below w.heap.size w w2 := hb1.trans (hb2'.mono hb1.size)
  clear hb1 hb2'
  go_wp2_with fail
  refine (HSA.out _ hb2).mono ?_
  rintro e w3 ⟨gx, lx, cx, rfl, hgx, hlx, hb3'⟩
  have hb3 : Below w.heap.size w w3 := hb2.trans (hb3'.mono hb2.size)
  have HX : Hid (GrIn w3 (some ⟨gx, 0, none⟩) lx ga) := hgx
  clear hgx hb2 hb3'
  go_wp2_with fail
  refine (HSB.out _ hb3).mono ?_
  rintro e w4 ⟨gy, ly, cy, rfl, hgy, hly, hb4'⟩
  have hb4 : Below w.heap.size w w4 := hb3.trans (hb4'.mono hb3.size)
  have HX4 : Hid (GrIn w4 (some ⟨gx, 0, none⟩) lx ga) := HX.out.below hb4'
  have HY4 : Hid (GrIn w4 (some ⟨gy, 0, none⟩) ly gb) := hgy
  clear hgy hb3 hb4' HX
  have hlx' : (lx : Int) ≤ 40 := by omega
  go_wp2_with fail
  go_loopw [7] (fun i wr => ∃ k : Nat, k ≤ lx ∧ i = .int .i64 (k : Int) ∧ Hid (∀ j x, j < k → ga[j]? = some x → andI x.2 (ofG gb x.1) = x.2) ∧ Below w4.heap.size w4 wr) (fun i _ => lx - (intOf i).toNat)
  case atStart => exact ⟨0, Nat.zero_le _, rfl, fun j x hj => by omega, Below.refl _ _⟩
  case round =>
    obtain ⟨k, hk, rfl, HJ, hnx⟩ := hrel
    have hbr : Below w.heap.size w wr := hb4.trans (hnx.mono hb4.size)
    by_cases hlt : k < lx
    · obtain ⟨b, off, x, e, hx, hga, hbl⟩ := HX4.out.at hlt
      cases e
      have HXk : Hid (ga[k]? = some x) := hx
      obtain ⟨g0, g1, g2⟩ := hga.below hnx hbl
      have hbw : gx < wr.heap.size := Nat.lt_of_lt_of_le hbl hnx.size
      simp only [Nat.zero_add] at g0 g1 g2
      clear hx hga
      have hlt' : (k : Int) < (lx : Int) := by omega
      obtain ⟨d, hd⟩ : ∃ d, d = ofG gb x.1 := ⟨_, rfl⟩
      have HOf : Hid (∀ w2 : World, (∀ b o, b < wr.heap.size → w2.cell? ⟨b, o, none⟩ = wr.cell? ⟨b, o, none⟩) ∧ Below wr.heap.size wr w2 → Calls Try.prog 55 #[.slice (some ⟨gy, 0, none⟩) ly cy, .agg #[.int .i64 x.1.1, .int .i64 x.1.2]] w2 fun e w' => e = .returned (.int .i64 d) ∧ Below w2.heap.size w2 w') := fun w2 q => by
        rw [hd]; exact l3Of_c _ _ _ _ _ _ ((HY4.out.below hnx).below q.2) (by omega)
      obtain ⟨y, hy⟩ : ∃ y, bits .and .i64 x.2 d = y := ⟨_, rfl⟩
      have HY : Hid (andI x.2 (ofG gb x.1) = y) := by rw [← hd]; exact hy
      clear hd
      by_cases hye : y = x.2
      · have hyb : (y != x.2) = false := by simp [hye]
        have HJ2 : Hid (∀ j x, j < k + 1 → ga[j]? = some x → andI x.2 (ofG gb x.1) = x.2) := fun j x' hj hx' => by
          by_cases ej : j = k
          · subst ej; rw [HXk.out] at hx'; cases hx'; rw [HY.out, hye]
          · exact HJ.out j x' (by omega) hx'
        clear hye
        go_wp2_with fail
        go_region_held3 (fun w' => (∀ b o, b < wr.heap.size → w'.cell? ⟨b, o, none⟩ = wr.cell? ⟨b, o, none⟩) ∧ Below wr.heap.size wr w') (first | exact hS | exact kp_drew _)
          (first | (go_at_call 55; refine (HOf.out _ (by assumption)).mono ?_; rintro e w' ⟨rfl, hb1⟩; have hS := kp_step (by assumption) hb1))
        go_wp2_with fail
        exact ⟨⟨k + 1, by omega, by go_num, HJ2, hnx.trans (hS.2.mono hnx.size)⟩, by simp [intOf]; omega⟩
      · have hyb : (y != x.2) = true := by simp [hye]
        have HT : Hid (t = false) := by
          have : ¬ t = true := fun q => hye (by rw [← HY.out]; exact HW.out.1 q x (List.mem_of_getElem? HXk.out))
          cases t
          · trivial
          · exact absurd rfl this
        clear hye
        go_wp2_with fail
        go_region_held3 (fun w' => (∀ b o, b < wr.heap.size → w'.cell? ⟨b, o, none⟩ = wr.cell? ⟨b, o, none⟩) ∧ Below wr.heap.size wr w') (first | exact hS | exact kp_drew _)
          (first | (go_at_call 55; refine (HOf.out _ (by assumption)).mono ?_; rintro e w' ⟨rfl, hb1⟩; have hS := kp_step (by assumption) hb1))
        go_wp2_with fail
        go_ret
        exact ⟨by rw [HT.out]; rfl, hbr.trans (hS.2.mono hbr.size)⟩
    · have hke : k = lx := by omega
      subst hke
      have HT : Hid (t = true) := HW.out.2 (fun x hx => by
        obtain ⟨j, hj⟩ := List.mem_iff_getElem?.1 hx
        have hjl : j < k := by
          by_cases q : j < ga.length
          · have := HX4.out.1; omega
          · rw [List.getElem?_eq_none (by omega)] at hj; cases hj
        exact HJ.out j x hjl hj)
      go_wp2_with fail
      go_ret
      exact ⟨by rw [HT.out]; rfl, hbr⟩

theorem widens_both (zs ys : List RuleI) (n m : Nat) (hn : n ≤ 1048576) (hm : m ≤ 1048576) (hz : zs.length = n) (hy : ys.length = m) : ∃ t : Bool,
    (∀ (g k : Nat) (w : World), RulesAt w g 0 zs → RulesAt w k 0 ys → GivesW 51 (some ⟨g, 0, none⟩) n n (some ⟨k, 0, none⟩) m m t w) ∧
    (∀ (g k : Nat) (w : World), RulesAt w g 0 zs → RulesAt w k 0 ys → GivesW 52 (some ⟨g, 0, none⟩) n n (some ⟨k, 0, none⟩) m m t w) := by
  have hmx : n ≤ maxLen := by unfold maxLen; omega
  have hmy : m ≤ maxLen := by unfold maxLen; omega
  by_cases h1 : polCode zs = 0 ∧ polCode ys = 0
  · obtain ⟨ga, hga⟩ := all_some zs h1.1
    obtain ⟨gb, hgb⟩ := all_some ys h1.2
    haveI := Classical.propDecidable (Wid (ofG ga) (ofG gb))
    have ht : decide (Wid (ofG ga) (ofG gb)) = true ↔ Wid (ofG ga) (ofG gb) := decide_eq_true_iff
    exact ⟨decide (Wid (ofG ga) (ofG gb)), fun g k w h h' => specWidens_ok _ _ _ _ _ _ _ _ ga gb _ _ (RulesIn.of hz h) (RulesIn.of hy h') h1.1 h1.2 hga hgb ht, fun g k w h h' => implWidens_ok _ _ _ _ _ _ _ _ ga gb _ _ (Nat.le_refl _) hmx (Nat.le_refl _) hmy (RulesIn.of hz h) (RulesIn.of hy h') h1.1 h1.2 hga hgb ht⟩
  · have hor : orC (polCode zs) (polCode ys) ≠ 0 := by
      unfold orC
      split
      · rename_i q
        exact fun e => h1 ⟨q, e⟩
      · assumption
    exact ⟨false, fun g k w h h' => specWidens_bad _ _ _ _ _ _ _ _ _ hn hm (RulesIn.of hz h) (RulesIn.of hy h') h1, fun g k w h h' => implWidens_bad _ _ _ _ _ _ _ _ _ hn hm (Nat.le_refl _) hmx (Nat.le_refl _) hmy (RulesIn.of hz h) (RulesIn.of hy h') hor⟩

end Go.Proofs.Ytocdclgolhhckaa
