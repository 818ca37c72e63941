/-
  CONTRACTS: Widens of both programs.
  Conditions: each contract bears its own.
-/
import Derived.Test.YtnmidppiakdanaaMo0
import Derived.Test.YtnmidppiakdanaaPf4
import Derived.BigQuiet
import Derived.Deep.QuietTactic
namespace Go.Proofs.Ytnmidppiakdanaa
open Go.RowKit Go.Maps
set_option linter.unusedVariables false
set_option linter.unusedSimpArgs false

theorem settleW_c (a : Option Addr) (n cap : Nat) (zs : List RuleI) (gs : List GrI) (w : World) (h : RulesIn w a n zs) (hc : polCode zs = 0) (hg : AllG zs gs) :
    Calls Try.prog 59 #[.slice a n cap] w fun e w' => ∃ b, e = .returned (.map (some b)) ∧ GM w' b (ofG gs) ∧ w.heap.size ≤ b ∧ Below w.heap.size w w' := by
  refine (settle_c a n cap zs w h (pol_n16 h.1 hc) hc).mono ?_
  rintro e w' ⟨b, f, rfl, hG, hWk, hb, hb2⟩
  obtain ⟨gs', h1, h2⟩ := gm_list hG
  have := allG_unique (work_end (fun z hz => ((pol_ok hc).2 z hz).1) hWk h1 h2) hg
  exact ⟨b, rfl, by rw [← this, h2]; exact hG, hb, hb2⟩

theorem l3AllW_c (a : Option Addr) (n cap : Nat) (zs : List RuleI) (gs : List GrI) (w : World) (h : RulesIn w a n zs) (hc : polCode zs = 0) (hg : AllG zs gs) :
    Calls Try.prog 65 #[.slice a n cap] w fun e w' => ∃ g l cap', e = .returned (.slice (some ⟨g, 0, none⟩) l cap') ∧ GrIn w' (some ⟨g, 0, none⟩) l gs ∧ l ≤ 40 ∧ Below w.heap.size w w' := by
  refine (l3All_c a n cap zs w h (by have := pol_n16 h.1 hc; omega) (pol_ok hc).2).mono ?_
  rintro e w' ⟨g, l, cap', gs', rfl, h1, h2, h3, h4, hb⟩
  obtain rfl := allG_unique h2 hg
  exact ⟨g, l, cap', rfl, h4.read h1, by have := sg_len hg.sg; omega, hb⟩

/-- Who has what by the one has it by the other. -/
def Wid (fa fb : RoI → Int) : Prop := ∀ r, orI (fb r) (fa r) = fb r

theorem and_or {s t : Int} (hs : setB s) (ht : setB t) : andI s t = s ↔ orI t s = t := by
  have hand := and_set hs ht
  have hor := or_set ht hs
  constructor
  · intro h
    refine set_ext hor ht (fun p h0 h1 => ?_)
    rw [hasI_or ht hs]
    have := congrArg (fun q => hasI q p) h
    simp only [hasI_and hs ht] at this
    cases e1 : hasI s p <;> cases e2 : hasI t p <;> simp [e1, e2] at this ⊢
  · intro h
    refine set_ext hand hs (fun p h0 h1 => ?_)
    rw [hasI_and hs ht]
    have := congrArg (fun q => hasI q p) h
    simp only [hasI_or ht hs] at this
    cases e1 : hasI s p <;> cases e2 : hasI t p <;> simp [e1, e2] at this ⊢

theorem wid_iff {ga gb : List GrI} (ha : SG ga) (hb : SG gb) : Wid (ofG ga) (ofG gb) ↔ ∀ x ∈ ga, andI x.2 (ofG gb x.1) = x.2 := by
  constructor
  · intro h x hx
    have := h x.1
    rw [ofG_mem ha hx] at this
    exact (and_or (by have := ha.st x hx; exact ⟨by omega, by omega⟩) (ofG_set hb _)).2 this
  · intro h r
    by_cases e : ofG ga r = 0
    · rw [e]
      refine set_ext (or_set (ofG_set hb r) ⟨by omega, by omega⟩) (ofG_set hb r) (fun p _ _ => ?_)
      rw [hasI_or (ofG_set hb r) ⟨by omega, by omega⟩, hasI_zero]; simp
    · have := h _ (ofG_some e)
      exact (and_or (ofG_set ha r) (ofG_set hb r)).1 this

theorem GM.kept {w w' : World} {b q : Nat} {f : RoI → Int} (h : GM w b f) (hg : w.grownBy w' (some q)) (hne : b ≠ q) : GM w' b f := gm_heap h (hg.block b h.lt (by simp [hne]))

def GivesW (f : Nat) (a : Option Addr) (n cap : Nat) (a' : Option Addr) (m cap' : Nat) (t : Bool) (w : World) : Prop := Calls Try.prog f #[.slice a n cap, .slice a' m cap'] w fun e w' => e = .returned (.bool t) ∧ Below w.heap.size w w'

set_option maxRecDepth 100000 in
set_option maxHeartbeats 2000000 in
theorem implWidens_bad (a : Option Addr) (n cap : Nat) (zs : List RuleI) (a' : Option Addr) (m cap' : Nat) (ys : List RuleI) (w : World) (hn : n ≤ 1048576) (hm : m ≤ 1048576) (hcap : n ≤ cap) (hcm : cap ≤ maxLen) (hcap' : m ≤ cap') (hcm' : cap' ≤ maxLen) (h : RulesIn w a n zs) (h' : RulesIn w a' m ys) (hc : orC (polCode zs) (polCode ys) ≠ 0) : GivesW 22 a n cap a' m cap' false w := by
  have HP : Hid (∀ w2 : World, Below w.heap.size w w2 → Calls Try.prog 24 #[.slice a n cap] w2 fun e w' => e = .returned (.int .i64 (polCode zs)) ∧ Below w2.heap.size w2 w') := fun w2 q => implPolicyFault_c a n cap zs w2 hn hcap hcm (h.below q)
  have HQ : Hid (∀ w2 : World, Below w.heap.size w w2 → Calls Try.prog 24 #[.slice a' m cap'] w2 fun e w' => e = .returned (.int .i64 (polCode ys)) ∧ Below w2.heap.size w2 w') := fun w2 q => implPolicyFault_c a' m cap' ys w2 hm hcap' hcm' (h'.below q)
  generalize polCode zs = p at HP hc
  generalize polCode ys = q at HQ hc
  have hcn : (orC p q != 0) = true := by simpa using hc
  clear h h' hc
  unfold GivesW
  go_enter Try.func22, Try.ntmps22
  go_wp2_with fail
  refine (HP.out _ (Below.refl _ _)).mono ?_
  rintro e w1 ⟨rfl, hb1⟩
  go_wp2_with fail
  refine (HQ.out _ hb1).mono ?_
  rintro e w2 ⟨rfl, hb2'⟩
  have hb2 : Below w.heap.size w w2 := hb1.trans (hb2'.mono hb1.size)
  have hb3 : Below w.heap.size w (w2.alloc (.cells #[.int .i64 p, .int .i64 q] 2)) := hb2.alloc hb2.size _
  go_wp2_with (first | (go_at_call 61; refine (or64_c _ p q _ ?_ ?_).mono ?_; (· simp [go_sem]); (· simp [go_sem]); rintro e w' ⟨rfl, rfl⟩) | fail)
  go_ret
  exact ⟨rfl, hb3⟩

set_option maxRecDepth 100000 in
set_option maxHeartbeats 4000000 in
theorem implWidens_ok (a : Option Addr) (n cap : Nat) (zs : List RuleI) (a' : Option Addr) (m cap' : Nat) (ys : List RuleI) (ga gb : List GrI) (t : Bool) (w : World) (hcap : n ≤ cap) (hcm : cap ≤ maxLen) (hcap' : m ≤ cap') (hcm' : cap' ≤ maxLen) (h : RulesIn w a n zs) (h' : RulesIn w a' m ys) (hc : polCode zs = 0) (hc' : polCode ys = 0) (hga : AllG zs ga) (hgb : AllG ys gb) (ht : t = true ↔ Wid (ofG ga) (ofG gb)) : GivesW 22 a n cap a' m cap' t w := by
  have hn := pol_n16 h.1 hc
  have hm := pol_n16 h'.1 hc'
  have HP : Hid (∀ w2 : World, Below w.heap.size w w2 → Calls Try.prog 24 #[.slice a n cap] w2 fun e w' => e = .returned (.int .i64 0) ∧ Below w2.heap.size w2 w') := fun w2 q => by have := implPolicyFault_c a n cap zs w2 (by omega) hcap hcm (h.below q); rwa [hc] at this
  have HQ : Hid (∀ w2 : World, Below w.heap.size w w2 → Calls Try.prog 24 #[.slice a' m cap'] w2 fun e w' => e = .returned (.int .i64 0) ∧ Below w2.heap.size w2 w') := fun w2 q => by have := implPolicyFault_c a' m cap' ys w2 (by omega) hcap' hcm' (h'.below q); rwa [hc'] at this
  obtain ⟨fa, hfa⟩ : ∃ fa, fa = ofG ga := ⟨_, rfl⟩
  obtain ⟨fb, hfb⟩ : ∃ fb, fb = ofG gb := ⟨_, rfl⟩
  have HSA : Hid (∀ w2 : World, Below w.heap.size w w2 → Calls Try.prog 59 #[.slice a n cap] w2 fun e w' => ∃ b, e = .returned (.map (some b)) ∧ GM w' b fa ∧ w2.heap.size ≤ b ∧ Below w2.heap.size w2 w') := fun w2 q => by rw [hfa]; exact settleW_c a n cap zs ga w2 (h.below q) hc hga
  have HSB : Hid (∀ w2 : World, Below w.heap.size w w2 → Calls Try.prog 59 #[.slice a' m cap'] w2 fun e w' => ∃ b, e = .returned (.map (some b)) ∧ GM w' b fb ∧ w2.heap.size ≤ b ∧ Below w2.heap.size w2 w') := fun w2 q => by rw [hfb]; exact settleW_c a' m cap' ys gb w2 (h'.below q) hc' hgb
  rw [← hfa, ← hfb] at ht
  have HW : Hid (t = true ↔ Wid fa fb) := ht
  clear h h' hc hc' hga hgb ht hfa hfb
  unfold GivesW
  go_enter Try.func22, Try.ntmps22
  go_wp2_with fail
  refine (HP.out _ (Below.refl _ _)).mono ?_
  rintro e w1 ⟨rfl, hb1⟩
  go_wp2_with fail
  refine (HQ.out _ hb1).mono ?_
  rintro e w2 ⟨rfl, hb2'⟩
  have hb2 : Below w.heap.size w w2 := hb1.trans (hb2'.mono hb1.size)
  have hb3 : Below w.heap.size w (w2.alloc (.cells #[.int .i64 0, .int .i64 0] 2)) := hb2.alloc hb2.size _
  have ho0 : orC 0 0 = 0 := rfl
  clear hb1 hb2' hb2
  go_wp2_with (first | (go_at_call 61; refine (or64_c _ 0 0 _ ?_ ?_).mono ?_; (· simp [go_sem]); (· simp [go_sem]); rintro e w' ⟨rfl, rfl⟩; rw [ho0]) | fail)
  generalize w2.alloc (.cells #[.int .i64 0, .int .i64 0] 2) = w3 at hb3 ⊢
  refine (HSB.out _ hb3).mono ?_
  rintro e w4 ⟨bb, rfl, hG4, hgb4, hb4'⟩
  have hb4 : Below w.heap.size w w4 := hb3.trans (hb4'.mono hb3.size)
  have HGb : Hid (GM w4 bb fb) := hG4
  have hbb := hG4.lt
  clear hG4 hgb4 hb4' hb3
  go_wp2_with fail
  refine (HSA.out _ hb4).mono ?_
  rintro e w5 ⟨ba, rfl, hG5, hga5, hb5'⟩
  have hb5 : Below w.heap.size w w5 := hb4.trans (hb5'.mono hb4.size)
  have HGb5 : Hid (GM w5 bb fb) := HGb.out.below hbb hb5'
  have hbb5 : bb < w5.heap.size := Nat.lt_of_lt_of_le hbb hb5'.size
  obtain ⟨hfa, D1, n1, ho1, hv1⟩ := hG5
  have HVA : Hid (FN fa ∧ View D1 fa) := ⟨hfa, hv1⟩
  clear hb5' hb4 HGb hbb hga5 hfa hv1
  go_wp2_with (first
    | (at_range; refine wpList_range_own _ rfl _ 92 rfl 35 102 mp_keyed mp_map elU ba n1 _ rfl ho1 ?_; intro w0 hrg0 hg0 hs0)
    | fail)
  go_frame
  go_loopw [20] (fun _ wr => ∃ (left : Lit → Bool) (cnt : Nat), wr.ranges Try.prog 35 elU ba w5.heap.size n1 D1 left cnt ∧ GM wr bb fb ∧ Below w.heap.size w wr ∧ Hid (∀ r, roW r → left (keyL r) = false → orI (fb r) (fa r) = fb r))
    (fun _ wr => wr.rangeLeft ba w5.heap.size)
  case atStart =>
    refine ⟨_, _, hrg0, ?_, hb5.grown hg0 hb5.size (fun k e => by cases e), ?_⟩
    · exact gm_heap HGb5.out (hg0.block bb hbb5 (by simp))
    · intro r hr hl
      rw [HVA.out.2.has r hr] at hl
      have : fa r = 0 := by
        by_cases q : fa r = 0
        · exact q
        · rw [decide_eq_true q] at hl; cases hl
      rw [this]
      have hs := HGb5.out.fn.st r
      refine set_ext (or_set hs ⟨by omega, by omega⟩) hs (fun p _ _ => ?_)
      rw [hasI_or hs ⟨by omega, by omega⟩, hasI_zero]; simp
  case round =>
    obtain ⟨left, cnt, hrg, hGb, hbw, HL⟩ := hrel
    have HGr : Hid (GM wr bb fb) := hGb
    clear hGb
    go_wp2_with (first
      | (at_next; refine wpList_next_ranges _ rfl _ rfl 35 mp_keyed elU roV (Value.int .u8) (fun key kl hk => by obtain ⟨r, _, hr, _⟩ := key_inv hk; exact ⟨r, hr⟩) (fun v y hv => by obtain ⟨c, rfl, _⟩ := plainElem_int_inv mp_set hv; exact ⟨c, rfl⟩) ba w5.heap.size n1 _ _ _ rfl hrg ?_ ?_)
      | fail)
    · intro _ hl0
      have HT : Hid (t = true) := HW.out.2 (fun r => by
        by_cases q : fa r = 0
        · rw [q]
          have hs := HGr.out.fn.st r
          refine set_ext (or_set hs ⟨by omega, by omega⟩) hs (fun p _ _ => ?_)
          rw [hasI_or hs ⟨by omega, by omega⟩, hasI_zero]; simp
        · exact HL.out r (roW_of (HVA.out.1.ro r q)) (hl0 _))
      go_wp2
      go_ret
      exact ⟨by rw [HT.out]; rfl, hbw⟩
    · intro o nm c kl yd yp w1' cnt1 hkey hlx hv hat hrg1 hlt hg1 hs1 hen
      obtain ⟨r, hr, ex, rfl⟩ := key_inv hkey
      obtain rfl : (o, nm) = r := by simp at ex; exact Prod.ext ex.1 ex.2
      obtain ⟨c', ec, ez, hwc⟩ := plainElem_int_inv mp_set hv
      cases ec
      obtain ⟨rfl, rfl⟩ : yd = .lit (.int .u8 c) ∧ yp = [] := by cases ez; exact ⟨rfl, rfl⟩
      simp only [roV] at hen
      have hca : c = fa (o, nm) := by
        have h1 := HVA.out.2.at' (o, nm) hr
        rw [hat] at h1
        cases h1; rfl
      have hcs : setB c := by rw [hca]; exact HVA.out.1.st _
      have hG1 : GM w1' bb fb := HGr.out.kept hg1 (by have := HGb5.out.lt; omega)
      have hlk : ∀ X : World, Below w1'.heap.size w1' X → (Instr.lookup 92 (.map (some bb)) (.agg #[.int .i64 o, .int .i64 nm]) false).run Try.prog X = .ok (.int .u8 (fb (o, nm))) X := fun X hX => gm_look (hG1.below hG1.lt hX) (r := (o, nm)) hr
      have hlk1 := hlk _ ((Below.refl _ _).alloc (Nat.le_refl _) (.cells #[.int .i64 o, .int .i64 nm] 35))
      have hbw1 : Below w.heap.size w w1' := hbw.grown hg1 hbw.size (fun k e => by cases e; exact hb5.size)
      have HR2 : Hid ((w1'.alloc (.cells #[.int .i64 o, .int .i64 nm] 35)).ranges Try.prog 35 elU ba w5.heap.size n1 D1 (fun z => left z && !z.sameKey (keyL (o, nm))) cnt1) := hrg1.alloc _
      have HG2 : Hid (GM (w1'.alloc (.cells #[.int .i64 o, .int .i64 nm] 35)) bb fb) := hG1.below hG1.lt ((Below.refl _ _).alloc (Nat.le_refl _) _)
      have HB2 : Hid (Below w.heap.size w (w1'.alloc (.cells #[.int .i64 o, .int .i64 nm] 35))) := hbw1.alloc hbw1.size _
      have HM : Hid (wr.rangeLeft ba w5.heap.size = cnt ∧ cnt1 < cnt) := ⟨hrg.left_eq, hlt⟩
      obtain ⟨d, hd⟩ : ∃ d, d = fb (o, nm) := ⟨_, rfl⟩
      have hds : setB d := by rw [hd]; exact hG1.fn.st _
      have hnot := u8_not c d hcs hds
      rw [← hd] at hlk1
      have HCD : Hid (c = fa (o, nm) ∧ d = fb (o, nm)) := ⟨hca, hd⟩
      obtain ⟨y, hy⟩ : ∃ y, bits .andNot .u8 c d = y := ⟨_, rfl⟩
      rw [hy] at hnot
      have HNY : Hid (y = 0 ↔ orI d c = d) := hnot.2.2
      clear hkey hlx hv hat hrg hrg1 hlt hg1 hs1 ez hwc hca hG1 hlk hd hnot hbw hbw1 hcs hds HGr
      by_cases hy0 : y = 0
      · have hyb : (y != 0) = false := by simp [hy0]
        have HE : Hid (orI (fb (o, nm)) (fa (o, nm)) = fb (o, nm)) := by
          have := HNY.out.1 hy0
          rw [HCD.out.1, HCD.out.2] at this; exact this
        clear hy0
        go_wp2_with fail
        refine ⟨⟨_, cnt1, HR2.out, HG2.out, HB2.out, fun r hrr hl => ?_⟩, by rw [HR2.out.left_eq, HM.out.1]; exact HM.out.2⟩
        by_cases e : r = (o, nm)
        · rw [e]; exact HE.out
        · refine HL.out r hrr ?_
          have hs : (keyL r).sameKey (keyL (o, nm)) = false := sameKey_ne (fun q => e (keyL_inj hrr hr q))
          simpa [hs] using hl
      · have hyb : (y != 0) = true := by simp [hy0]
        have HT : Hid (t = false) := by
          have hnw : ¬ Wid fa fb := fun q => by
            have := q (o, nm)
            rw [← HCD.out.1, ← HCD.out.2] at this
            exact hy0 (HNY.out.2 this)
          have : ¬ t = true := fun q => hnw (HW.out.1 q)
          cases t
          · trivial
          · exact absurd rfl this
        clear hy0
        go_wp2_with fail
        go_ret
        exact ⟨by rw [HT.out]; rfl, HB2.out⟩

end Go.Proofs.Ytnmidppiakdanaa
