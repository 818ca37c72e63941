/-
  CONTRACTS: impl.proofOf, out of what maps.Equal answers.
  Conditions: each contract bears its own.
  CONTRACT: maps.Equal over two maps of grants.
  Conditions: each contract bears its own.
  CONTRACTS: Widens of both programs.
  Conditions: each contract bears its own.
  CONTRACTS: spec.Widens; what both programs' Widens answers.
  Conditions: each contract bears its own.
-/
import Derived.Test.YtdooocjjohdpjaaPg17
import Derived.Test.YtdooocjjohdpjaaPg14
import Derived.Lib.SlMapEqual
import Derived.WalkKit
import Derived.Maps.RangeWalk
import Derived.Laws.IdiomRangeMap
import Derived.BigQuiet
import Derived.Deep.QuietTactic
import Derived.Deep.RegionHeld3
namespace Go.Proofs.Ytdooocjjohdpjaa
open Go.RowKit
set_option linter.unusedVariables false
set_option linter.unusedSimpArgs false
attribute [local go_sem ↓] ro_eql

theorem hit_here {zs : List RuleI} {f : RoI → Int} {r : RoI} {p : Int} : ∀ (k : Nat) (z : RuleI), zs[k]? = some z → (∀ j y, j < k → zs[j]? = some y → hitB f r p y = false) → hitB f r p z = true → ∀ i : Int, hitAt f r p zs i = i + k := by
  induction zs with
  | nil => intro k z h; simp at h
  | cons y ys ih =>
    intro k z h hb ht i
    show (if hitB f r p y = true then i else hitAt f r p ys (i + 1)) = _
    cases k with
    | zero =>
      simp at h
      subst h
      rw [if_pos ht]; simp
    | succ k =>
      rw [if_neg (by rw [hb 0 y (by omega) (by simp)]; simp), ih k z (by simpa using h) (fun j x hj hx => hb (j + 1) x (by omega) (by simpa using hx)) ht]
      simp; omega

theorem none_all {zs : List RuleI} {f : RoI → Int} {r : RoI} {p : Int} {n : Nat} (hn : zs.length = n) (h : ∀ j y, j < n → zs[j]? = some y → hitB f r p y = false) : noneHit zs f r p := by
  intro z hz
  obtain ⟨j, hj⟩ := List.mem_iff_getElem?.1 hz
  have : j < n := by
    by_cases q : j < zs.length
    · omega
    · rw [List.getElem?_eq_none (by omega)] at hj; cases hj
  exact h j z this hj

end Go.Proofs.Ytdooocjjohdpjaa

namespace Go.Proofs.Ytdooocjjohdpjaa
open Go.RowKit Go.Maps
set_option linter.unusedVariables false
set_option linter.unusedSimpArgs false

/-- The entries of a map of grants: one for each role that somebody has. -/
theorem own_es {w : World} {b n : Nat} {D : DataW Unit} {f : RoI → Int} (hf : FN f) (ho : w.ownsMap Try.prog 35 elU b n D) (hv : View D f) : ∃ es : List (Lit × DataW Unit), D = .map es ∧ es.Pairwise (fun p q => p.1 ≠ q.1) ∧ (∀ p ∈ es, WideAt.IsKeyLit p.1) ∧ (∀ p ∈ es, ∃ r, f r ≠ 0 ∧ p = (keyL r, .lit (.int .u8 (f r)))) ∧ (∀ r, f r ≠ 0 → (keyL r, (.lit (.int .u8 (f r)) : DataW Unit)) ∈ es) := by
  obtain ⟨es', hD', hne, hks⟩ := ho.entries mp_keyed
  obtain ⟨es, clock, hb, F, hs, hD⟩ := ho
  have hkeys : ∀ p ∈ es', ∃ r, roW r ∧ p.1 = keyL r := by
    intro p hp
    have hp' : p ∈ es.toList.map (WideElems.rg Try.prog 35 elU) := by
      rw [hD] at hD'
      have := (DataW.map.inj hD').symm
      rw [this] at hp
      exact mem_sorted.1 hp
    obtain ⟨v, hvv⟩ := fit_keys F p hp'
    obtain ⟨r, hr, _, e⟩ := key_inv hvv
    exact ⟨r, hr, e⟩
  clear hb F hs hD
  have hval : ∀ p ∈ es', ∀ r, roW r → p.1 = keyL r → p.2 = .lit (.int .u8 (f r)) := by
    intro p hp r hr e
    have h1 := WideAt.atKey_mem (.lit (.int .u8 0)) (hks p hp) hne (show (p.1, p.2) ∈ es' from hp)
    have h2 := hv.at' r hr
    rw [hD', ← e] at h2
    rw [← h1]
    exact h2
  refine ⟨es', hD', hne, hks, fun p hp => ?_, fun r hr => ?_⟩
  · obtain ⟨r, hr, e⟩ := hkeys p hp
    refine ⟨r, ?_, Prod.ext e (hval p hp r hr e)⟩
    have h1 := hv.has r hr
    rw [hD', has_eq] at h1
    have : (es'.any fun p => p.1.sameKey (keyL r)) = true := List.any_eq_true.2 ⟨p, hp, by rw [e]; exact WideAt.sameKey_self (keyL_key r)⟩
    rw [this] at h1
    exact of_decide_eq_true h1.symm
  · have hw := roW_of (hf.ro r hr)
    have h1 := hv.has r hw
    rw [hD', has_eq, show decide (f r ≠ 0) = true from decide_eq_true hr] at h1
    obtain ⟨p, hp, hsk⟩ := List.any_eq_true.1 h1
    have e : p.1 = keyL r := WideAt.sameKey_eq hsk
    have := hval p hp r hw e
    rw [← e, ← this]
    exact hp

def eqd8 : DataW Unit → DataW Unit → Bool
  | .lit (.int .u8 a), .lit (.int .u8 b) => decide (a = b)
  | _, _ => false

theorem equal_iff {w w' : World} {b1 b2 n1 n2 : Nat} {D1 D2 : DataW Unit} {f1 f2 : RoI → Int} (hf1 : FN f1) (hf2 : FN f2) (h1 : w.ownsMap Try.prog 35 elU b1 n1 D1) (h2 : w'.ownsMap Try.prog 35 elU b2 n2 D2) (hv1 : View D1 f1) (hv2 : View D2 f2) : Lib.equalFuncD eqd8 D1 D2 = true ↔ f1 = f2 := by
  obtain ⟨es1, rfl, hap1, hk1, hm1, hc1⟩ := own_es hf1 h1 hv1
  obtain ⟨es2, rfl, hap2, hk2, hm2, hc2⟩ := own_es hf2 h2 hv2
  have hn1 : (es1.map Prod.fst).Nodup := List.pairwise_map.2 hap1
  have hn2 : (es2.map Prod.fst).Nodup := List.pairwise_map.2 hap2
  have good : ∀ r, f1 r ≠ 0 → (Lib.goodD eqd8 (.map es2) (keyL r, .lit (.int .u8 (f1 r))) = true ↔ f2 r = f1 r) := by
    intro r hr
    have hw := roW_of (hf1.ro r hr)
    unfold Lib.goodD
    rw [hv2.has r hw]
    by_cases e : f2 r = 0
    · rw [show decide (f2 r ≠ 0) = false by simp [e]]
      simp
      intro q; rw [q] at e; exact hr e
    · rw [show decide (f2 r ≠ 0) = true from decide_eq_true e]
      rw [atKey_indep (z := .nil) (z' := .lit (.int .u8 0)) (by rw [hv2.has r hw]; exact decide_eq_true e), hv2.at' r hw]
      simp [eqd8, eq_comm]
  unfold Lib.equalFuncD
  rw [Bool.and_eq_true, decide_eq_true_iff, size_eq, size_eq, List.all_eq_true]
  constructor
  · rintro ⟨hs, hall⟩
    have h12 : ∀ r, f1 r ≠ 0 → f2 r = f1 r := fun r hr => (good r hr).1 (hall _ (hc1 r hr))
    funext r
    by_cases h : f1 r = 0
    · by_cases e : f2 r = 0
      · rw [h, e]
      · exfalso
        have hnd : (keyL r :: es1.map Prod.fst).Nodup := by
          refine List.nodup_cons.2 ⟨fun q => ?_, hn1⟩
          obtain ⟨p, hp, ep⟩ := List.mem_map.1 q
          obtain ⟨r', hr', rfl⟩ := hm1 p hp
          have := keyL_inj (roW_of (hf1.ro r' hr')) (roW_of (hf2.ro r e)) ep
          rw [this] at hr'
          exact hr' h
        have := @nodup_len Lit (fun _ _ => Classical.propDecidable _) (keyL r :: es1.map Prod.fst) (es2.map Prod.fst) hnd (fun x hx => by
          rcases List.mem_cons.1 hx with rfl | hx
          · exact List.mem_map.2 ⟨_, hc2 r e, rfl⟩
          · obtain ⟨p, hp, rfl⟩ := List.mem_map.1 hx
            obtain ⟨r', hr', rfl⟩ := hm1 p hp
            exact List.mem_map.2 ⟨_, hc2 r' (by rw [h12 r' hr']; exact hr'), rfl⟩)
        simp at this
        omega
    · exact (h12 r h).symm
  · rintro rfl
    refine ⟨Nat.le_antisymm ?_ ?_, fun p hp => ?_⟩
    · have := @nodup_len Lit (fun _ _ => Classical.propDecidable _) (es1.map Prod.fst) (es2.map Prod.fst) hn1 (fun x hx => by
        obtain ⟨p, hp, rfl⟩ := List.mem_map.1 hx
        obtain ⟨r', hr', rfl⟩ := hm1 p hp
        exact List.mem_map.2 ⟨_, hc2 r' hr', rfl⟩)
      simpa using this
    · have := @nodup_len Lit (fun _ _ => Classical.propDecidable _) (es2.map Prod.fst) (es1.map Prod.fst) hn2 (fun x hx => by
        obtain ⟨p, hp, rfl⟩ := List.mem_map.1 hx
        obtain ⟨r', hr', rfl⟩ := hm2 p hp
        exact List.mem_map.2 ⟨_, hc1 r' hr', rfl⟩)
      simpa using this
    · obtain ⟨r, hr, rfl⟩ := hm1 p hp
      exact (good r hr).2 rfl

end Go.Proofs.Ytdooocjjohdpjaa

namespace Go.Proofs.Ytdooocjjohdpjaa
open Go.RowKit Go.Maps
set_option linter.unusedVariables false
set_option linter.unusedSimpArgs false

theorem settleW_c (a : Option Addr) (n cap : Nat) (zs : List RuleI) (gs : List GrI) (w : World) (h : RulesIn w a n zs) (hc : polCode zs = 0) (hg : AllG zs gs) :
    Calls Try.prog 54 #[.slice a n cap] w fun e w' => ∃ b, e = .returned (.map (some b)) ∧ GM w' b (ofG gs) ∧ w.heap.size ≤ b ∧ Below w.heap.size w w' := by
  refine (settle_c a n cap zs w h (pol_n16 h.1 hc) hc).mono ?_
  rintro e w' ⟨b, f, rfl, hG, hWk, hb, hb2⟩
  obtain ⟨gs', h1, h2⟩ := gm_list hG
  have := allG_unique (work_end (fun z hz => ((pol_ok hc).2 z hz).1) hWk h1 h2) hg
  exact ⟨b, rfl, by rw [← this, h2]; exact hG, hb, hb2⟩

theorem l3AllW_c (a : Option Addr) (n cap : Nat) (zs : List RuleI) (gs : List GrI) (w : World) (h : RulesIn w a n zs) (hc : polCode zs = 0) (hg : AllG zs gs) :
    Calls Try.prog 60 #[.slice a n cap] w fun e w' => ∃ g l cap', e = .returned (.slice (some ⟨g, 0, none⟩) l cap') ∧ GrIn w' (some ⟨g, 0, none⟩) l gs ∧ l ≤ 40 ∧ Below w.heap.size w w' := by
  refine (l3All_c a n cap zs w h (by have := pol_n16 h.1 hc; omega) (pol_ok hc).2).mono ?_
  rintro e w' ⟨g, l, cap', gs', rfl, h1, h2, h3, h4, hb⟩
  obtain rfl := allG_unique h2 hg
  exact ⟨g, l, cap', rfl, h4.read h1, by have := sg_len hg.sg; omega, hb⟩

/-- Who has what by the one has it by the other. -/
def Wid (fa fb : RoI → Int) : Prop := ∀ r, orI (fb r) (fa r) = fb r

theorem and_or {s t : Int} (hs : setB s) (ht : setB t) : andI s t = s ↔ orI t s = t := by
  have hand := and_set hs ht
  have hor := or_set ht hs
  constructor
  · intro h
    refine set_ext hor ht (fun p h0 h1 => ?_)
    rw [hasI_or ht hs]
    have := congrArg (fun q => hasI q p) h
    simp only [hasI_and hs ht] at this
    cases e1 : hasI s p <;> cases e2 : hasI t p <;> simp [e1, e2] at this ⊢
  · intro h
    refine set_ext hand hs (fun p h0 h1 => ?_)
    rw [hasI_and hs ht]
    have := congrArg (fun q => hasI q p) h
    simp only [hasI_or ht hs] at this
    cases e1 : hasI s p <;> cases e2 : hasI t p <;> simp [e1, e2] at this ⊢

theorem wid_iff {ga gb : List GrI} (ha : SG ga) (hb : SG gb) : Wid (ofG ga) (ofG gb) ↔ ∀ x ∈ ga, andI x.2 (ofG gb x.1) = x.2 := by
  constructor
  · intro h x hx
    have := h x.1
    rw [ofG_mem ha hx] at this
    exact (and_or (by have := ha.st x hx; exact ⟨by omega, by omega⟩) (ofG_set hb _)).2 this
  · intro h r
    by_cases e : ofG ga r = 0
    · rw [e]
      refine set_ext (or_set (ofG_set hb r) ⟨by omega, by omega⟩) (ofG_set hb r) (fun p _ _ => ?_)
      rw [hasI_or (ofG_set hb r) ⟨by omega, by omega⟩, hasI_zero]; simp
    · have := h _ (ofG_some e)
      exact (and_or (ofG_set ha r) (ofG_set hb r)).1 this

theorem GM.kept {w w' : World} {b q : Nat} {f : RoI → Int} (h : GM w b f) (hg : w.grownBy w' (some q)) (hne : b ≠ q) : GM w' b f := gm_heap h (hg.block b h.lt (by simp [hne]))

def GivesW (f : Nat) (a : Option Addr) (n cap : Nat) (a' : Option Addr) (m cap' : Nat) (t : Bool) (w : World) : Prop := Calls Try.prog f #[.slice a n cap, .slice a' m cap'] w fun e w' => e = .returned (.bool t) ∧ Below w.heap.size w w'

set_option maxRecDepth 100000 in
set_option maxHeartbeats 2000000 in
theorem implWidens_bad (a : Option Addr) (n cap : Nat) (zs : List RuleI) (a' : Option Addr) (m cap' : Nat) (ys : List RuleI) (w : World) (hn : n ≤ 1048576) (hm : m ≤ 1048576) (hcap : n ≤ cap) (hcm : cap ≤ maxLen) (hcap' : m ≤ cap') (hcm' : cap' ≤ maxLen) (h : RulesIn w a n zs) (h' : RulesIn w a' m ys) (hc : orC (polCode zs) (polCode ys) ≠ 0) : GivesW 21 a n cap a' m cap' false w := by
  have HP : Hid (∀ w2 : World, Below w.heap.size w w2 → Calls Try.prog 23 #[.slice a n cap] w2 fun e w' => e = .returned (.int .i64 (polCode zs)) ∧ Below w2.heap.size w2 w') := fun w2 q => implPolicyFault_c a n cap zs w2 hn hcap hcm (h.below q)
  have HQ : Hid (∀ w2 : World, Below w.heap.size w w2 → Calls Try.prog 23 #[.slice a' m cap'] w2 fun e w' => e = .returned (.int .i64 (polCode ys)) ∧ Below w2.heap.size w2 w') := fun w2 q => implPolicyFault_c a' m cap' ys w2 hm hcap' hcm' (h'.below q)
  generalize polCode zs = p at HP hc
  generalize polCode ys = q at HQ hc
  have hcn : (orC p q != 0) = true := by simpa using hc
  clear h h' hc
  unfold GivesW
  go_enter Try.func21, Try.ntmps21
  go_wp2_with fail
  refine (HP.out _ (Below.refl _ _)).mono ?_
  rintro e w1 ⟨rfl, hb1⟩
  go_wp2_with fail
  refine (HQ.out _ hb1).mono ?_
  rintro e w2 ⟨rfl, hb2'⟩
  have hb2 : Below w.heap.size w w2 := hb1.trans (hb2'.mono hb1.size)
  have hb3 : Below w.heap.size w (w2.alloc (.cells #[.int .i64 p, .int .i64 q] 2)) := hb2.alloc hb2.size _
  go_wp2_with (first | (go_at_call 56; refine (or64_c _ p q _ ?_ ?_).mono ?_; (· simp [go_sem]); (· simp [go_sem]); rintro e w' ⟨rfl, rfl⟩) | fail)
  go_ret
  exact ⟨rfl, hb3⟩

set_option maxRecDepth 100000 in
set_option maxHeartbeats 4000000 in
theorem implWidens_ok (a : Option Addr) (n cap : Nat) (zs : List RuleI) (a' : Option Addr) (m cap' : Nat) (ys : List RuleI) (ga gb : List GrI) (t : Bool) (w : World) (hcap : n ≤ cap) (hcm : cap ≤ maxLen) (hcap' : m ≤ cap') (hcm' : cap' ≤ maxLen) (h : RulesIn w a n zs) (h' : RulesIn w a' m ys) (hc : polCode zs = 0) (hc' : polCode ys = 0) (hga : AllG zs ga) (hgb : AllG ys gb) (ht : t = true ↔ Wid (ofG ga) (ofG gb)) : GivesW 21 a n cap a' m cap' t w := by
  have hn := pol_n16 h.1 hc
  have hm := pol_n16 h'.1 hc'
  have HP : Hid (∀ w2 : World, Below w.heap.size w w2 → Calls Try.prog 23 #[.slice a n cap] w2 fun e w' => e = .returned (.int .i64 0) ∧ Below w2.heap.size w2 w') := fun w2 q => by have := implPolicyFault_c a n cap zs w2 (by omega) hcap hcm (h.below q); rwa [hc] at this
  have HQ : Hid (∀ w2 : World, Below w.heap.size w w2 → Calls Try.prog 23 #[.slice a' m cap'] w2 fun e w' => e = .returned (.int .i64 0) ∧ Below w2.heap.size w2 w') := fun w2 q => by have := implPolicyFault_c a' m cap' ys w2 (by omega) hcap' hcm' (h'.below q); rwa [hc'] at this
  obtain ⟨fa, hfa⟩ : ∃ fa, fa = ofG ga := ⟨_, rfl⟩
  obtain ⟨fb, hfb⟩ : ∃ fb, fb = ofG gb := ⟨_, rfl⟩
  have HSA : Hid (∀ w2 : World, Below w.heap.size w w2 → Calls Try.prog 54 #[.slice a n cap] w2 fun e w' => ∃ b, e = .returned (.map (some b)) ∧ GM w' b fa ∧ w2.heap.size ≤ b ∧ Below w2.heap.size w2 w') := fun w2 q => by rw [hfa]; exact settleW_c a n cap zs ga w2 (h.below q) hc hga
  have HSB : Hid (∀ w2 : World, Below w.heap.size w w2 → Calls Try.prog 54 #[.slice a' m cap'] w2 fun e w' => ∃ b, e = .returned (.map (some b)) ∧ GM w' b fb ∧ w2.heap.size ≤ b ∧ Below w2.heap.size w2 w') := fun w2 q => by rw [hfb]; exact settleW_c a' m cap' ys gb w2 (h'.below q) hc' hgb
  rw [← hfa, ← hfb] at ht
  have HW : Hid (t = true ↔ Wid fa fb) := ht
  clear h h' hc hc' hga hgb ht hfa hfb
  unfold GivesW
  go_enter Try.func21, Try.ntmps21
  go_wp2_with fail
  refine (HP.out _ (Below.refl _ _)).mono ?_
  rintro e w1 ⟨rfl, hb1⟩
  go_wp2_with fail
  refine (HQ.out _ hb1).mono ?_
  rintro e w2 ⟨rfl, hb2'⟩
  have hb2 : Below w.heap.size w w2 := hb1.trans (hb2'.mono hb1.size)
  have hb3 : Below w.heap.size w (w2.alloc (.cells #[.int .i64 0, .int .i64 0] 2)) := hb2.alloc hb2.size _
  have ho0 : orC 0 0 = 0 := rfl
  clear hb1 hb2' hb2
  go_wp2_with (first | (go_at_call 56; refine (or64_c _ 0 0 _ ?_ ?_).mono ?_; (· simp [go_sem]); (· simp [go_sem]); rintro e w' ⟨rfl, rfl⟩; rw [ho0]) | fail)
  generalize w2.alloc (.cells #[.int .i64 0, .int .i64 0] 2) = w3 at hb3 ⊢
  refine (HSB.out _ hb3).mono ?_
  rintro e w4 ⟨bb, rfl, hG4, hgb4, hb4'⟩
  have hb4 : Below w.heap.size w w4 := hb3.trans (hb4'.mono hb3.size)
  have HGb : Hid (GM w4 bb fb) := hG4
  have hbb := hG4.lt
  clear hG4 hgb4 hb4' hb3
  go_wp2_with fail
  refine (HSA.out _ hb4).mono ?_
  rintro e w5 ⟨ba, rfl, hG5, hga5, hb5'⟩
  have hb5 : Below w.heap.size w w5 := hb4.trans (hb5'.mono hb4.size)
  have HGb5 : Hid (GM w5 bb fb) := HGb.out.below hbb hb5'
  have hbb5 : bb < w5.heap.size := Nat.lt_of_lt_of_le hbb hb5'.size
  obtain ⟨hfa, D1, n1, ho1, hv1⟩ := hG5
  have HVA : Hid (FN fa ∧ View D1 fa) := ⟨hfa, hv1⟩
  clear hb5' hb4 HGb hbb hga5 hfa hv1
  go_wp2_with (first
    | (at_range; refine wpList_range_own _ rfl _ 87 rfl 35 97 mp_keyed mp_map elU ba n1 _ rfl ho1 ?_; intro w0 hrg0 hg0 hs0)
    | fail)
  go_frame
  go_loopw [20] (fun _ wr => ∃ (left : Lit → Bool) (cnt : Nat), wr.ranges Try.prog 35 elU ba w5.heap.size n1 D1 left cnt ∧ GM wr bb fb ∧ Below w.heap.size w wr ∧ Hid (∀ r, roW r → left (keyL r) = false → orI (fb r) (fa r) = fb r))
    (fun _ wr => wr.rangeLeft ba w5.heap.size)
  case atStart =>
    refine ⟨_, _, hrg0, ?_, hb5.grown hg0 hb5.size (fun k e => by cases e), ?_⟩
    · exact gm_heap HGb5.out (hg0.block bb hbb5 (by simp))
    · intro r hr hl
      rw [HVA.out.2.has r hr] at hl
      have : fa r = 0 := by
        by_cases q : fa r = 0
        · exact q
        · rw [decide_eq_true q] at hl; cases hl
      rw [this]
      have hs := HGb5.out.fn.st r
      refine set_ext (or_set hs ⟨by omega, by omega⟩) hs (fun p _ _ => ?_)
      rw [hasI_or hs ⟨by omega, by omega⟩, hasI_zero]; simp
  case round =>
    obtain ⟨left, cnt, hrg, hGb, hbw, HL⟩ := hrel
    have HGr : Hid (GM wr bb fb) := hGb
    clear hGb
    go_wp2_with (first
      | (at_next; refine wpList_next_ranges _ rfl _ rfl 35 mp_keyed elU roV (Value.int .u8) (fun key kl hk => by obtain ⟨r, _, hr, _⟩ := key_inv hk; exact ⟨r, hr⟩) (fun v y hv => by obtain ⟨c, rfl, _⟩ := plainElem_int_inv mp_set hv; exact ⟨c, rfl⟩) ba w5.heap.size n1 _ _ _ rfl hrg ?_ ?_)
      | fail)
    · intro _ hl0
      have HT : Hid (t = true) := HW.out.2 (fun r => by
        by_cases q : fa r = 0
        · rw [q]
          have hs := HGr.out.fn.st r
          refine set_ext (or_set hs ⟨by omega, by omega⟩) hs (fun p _ _ => ?_)
          rw [hasI_or hs ⟨by omega, by omega⟩, hasI_zero]; simp
        · exact HL.out r (roW_of (HVA.out.1.ro r q)) (hl0 _))
      go_wp2
      go_ret
      exact ⟨by rw [HT.out]; rfl, hbw⟩
    · intro o nm c kl yd yp w1' cnt1 hkey hlx hv hat hrg1 hlt hg1 hs1 hen
      obtain ⟨r, hr, ex, rfl⟩ := key_inv hkey
      obtain rfl : (o, nm) = r := by simp at ex; exact Prod.ext ex.1 ex.2
      obtain ⟨c', ec, ez, hwc⟩ := plainElem_int_inv mp_set hv
      cases ec
      obtain ⟨rfl, rfl⟩ : yd = .lit (.int .u8 c) ∧ yp = [] := by cases ez; exact ⟨rfl, rfl⟩
      simp only [roV] at hen
      have hca : c = fa (o, nm) := by
        have h1 := HVA.out.2.at' (o, nm) hr
        rw [hat] at h1
        cases h1; rfl
      have hcs : setB c := by rw [hca]; exact HVA.out.1.st _
      have hG1 : GM w1' bb fb := HGr.out.kept hg1 (by have := HGb5.out.lt; omega)
      have hlk : ∀ X : World, Below w1'.heap.size w1' X → (Instr.lookup 87 (.map (some bb)) (.agg #[.int .i64 o, .int .i64 nm]) false).run Try.prog X = .ok (.int .u8 (fb (o, nm))) X := fun X hX => gm_look (hG1.below hG1.lt hX) (r := (o, nm)) hr
      have hlk1 := hlk _ ((Below.refl _ _).alloc (Nat.le_refl _) (.cells #[.int .i64 o, .int .i64 nm] 35))
      have hbw1 : Below w.heap.size w w1' := hbw.grown hg1 hbw.size (fun k e => by cases e; exact hb5.size)
      have HR2 : Hid ((w1'.alloc (.cells #[.int .i64 o, .int .i64 nm] 35)).ranges Try.prog 35 elU ba w5.heap.size n1 D1 (fun z => left z && !z.sameKey (keyL (o, nm))) cnt1) := hrg1.alloc _
      have HG2 : Hid (GM (w1'.alloc (.cells #[.int .i64 o, .int .i64 nm] 35)) bb fb) := hG1.below hG1.lt ((Below.refl _ _).alloc (Nat.le_refl _) _)
      have HB2 : Hid (Below w.heap.size w (w1'.alloc (.cells #[.int .i64 o, .int .i64 nm] 35))) := hbw1.alloc hbw1.size _
      have HM : Hid (wr.rangeLeft ba w5.heap.size = cnt ∧ cnt1 < cnt) := ⟨hrg.left_eq, hlt⟩
      obtain ⟨d, hd⟩ : ∃ d, d = fb (o, nm) := ⟨_, rfl⟩
      have hds : setB d := by rw [hd]; exact hG1.fn.st _
      have hnot := u8_not c d hcs hds
      rw [← hd] at hlk1
      have HCD : Hid (c = fa (o, nm) ∧ d = fb (o, nm)) := ⟨hca, hd⟩
      obtain ⟨y, hy⟩ : ∃ y, bits .andNot .u8 c d = y := ⟨_, rfl⟩
      rw [hy] at hnot
      have HNY : Hid (y = 0 ↔ orI d c = d) := hnot.2.2
      clear hkey hlx hv hat hrg hrg1 hlt hg1 hs1 ez hwc hca hG1 hlk hd hnot hbw hbw1 hcs hds HGr
      by_cases hy0 : y = 0
      · have hyb : (y != 0) = false := by simp [hy0]
        have HE : Hid (orI (fb (o, nm)) (fa (o, nm)) = fb (o, nm)) := by
          have := HNY.out.1 hy0
          rw [HCD.out.1, HCD.out.2] at this; exact this
        clear hy0
        go_wp2_with fail
        refine ⟨⟨_, cnt1, HR2.out, HG2.out, HB2.out, fun r hrr hl => ?_⟩, by rw [HR2.out.left_eq, HM.out.1]; exact HM.out.2⟩
        by_cases e : r = (o, nm)
        · rw [e]; exact HE.out
        · refine HL.out r hrr ?_
          have hs : (keyL r).sameKey (keyL (o, nm)) = false := sameKey_ne (fun q => e (keyL_inj hrr hr q))
          simpa [hs] using hl
      · have hyb : (y != 0) = true := by simp [hy0]
        have HT : Hid (t = false) := by
          have hnw : ¬ Wid fa fb := fun q => by
            have := q (o, nm)
            rw [← HCD.out.1, ← HCD.out.2] at this
            exact hy0 (HNY.out.2 this)
          have : ¬ t = true := fun q => hnw (HW.out.1 q)
          cases t
          · trivial
          · exact absurd rfl this
        clear hy0
        go_wp2_with fail
        go_ret
        exact ⟨by rw [HT.out]; rfl, HB2.out⟩

end Go.Proofs.Ytdooocjjohdpjaa

namespace Go.Proofs.Ytdooocjjohdpjaa
open Go.RowKit Go.Maps
set_option linter.unusedVariables false
set_option linter.unusedSimpArgs false

set_option maxRecDepth 100000 in
set_option maxHeartbeats 2000000 in
theorem specWidens_bad (a : Option Addr) (n cap : Nat) (zs : List RuleI) (a' : Option Addr) (m cap' : Nat) (ys : List RuleI) (w : World) (hn : n ≤ 1048576) (hm : m ≤ 1048576) (h : RulesIn w a n zs) (h' : RulesIn w a' m ys) (hc : ¬ (polCode zs = 0 ∧ polCode ys = 0)) : GivesW 22 a n cap a' m cap' false w := by
  have HP : Hid (∀ w2 : World, Below w.heap.size w w2 → Calls Try.prog 59 #[.slice a n cap] w2 fun e w' => e = .returned (.int .i64 (polCode zs)) ∧ Below w2.heap.size w2 w') := fun w2 q => l2Fault_c a n cap zs w2 hn (h.below q)
  have HQ : Hid (∀ w2 : World, Below w.heap.size w w2 → Calls Try.prog 59 #[.slice a' m cap'] w2 fun e w' => e = .returned (.int .i64 (polCode ys)) ∧ Below w2.heap.size w2 w') := fun w2 q => l2Fault_c a' m cap' ys w2 hm (h'.below q)
  clear h h'
  generalize polCode zs = p at HP hc
  generalize polCode ys = q at HQ hc
  unfold GivesW
  by_cases hp : p = 0
  · have hq : (q != 0) = true := by simp; omega
    have hpb : (p != 0) = false := by simp [hp]
    clear hp hc
    go_enter Try.func22, Try.ntmps22
    go_wp2_with fail
    refine (HP.out _ (Below.refl _ _)).mono ?_
    rintro e w1 ⟨rfl, hb1⟩
    go_wp2_with fail
    refine (HQ.out _ hb1).mono ?_
    rintro e w2 ⟨rfl, hb2⟩
    go_wp2_with fail
    go_ret
    exact ⟨rfl, hb1.trans (hb2.mono hb1.size)⟩
  · have hpb : (p != 0) = true := by simp [hp]
    clear hp hc
    go_enter Try.func22, Try.ntmps22
    go_wp2_with fail
    refine (HP.out _ (Below.refl _ _)).mono ?_
    rintro e w1 ⟨rfl, hb1⟩
    go_wp2_with fail
    go_ret
    exact ⟨rfl, hb1⟩

set_option maxRecDepth 100000 in
set_option maxHeartbeats 4000000 in
theorem specWidens_ok (a : Option Addr) (n cap : Nat) (zs : List RuleI) (a' : Option Addr) (m cap' : Nat) (ys : List RuleI) (ga gb : List GrI) (t : Bool) (w : World) (h : RulesIn w a n zs) (h' : RulesIn w a' m ys) (hc : polCode zs = 0) (hc' : polCode ys = 0) (hga : AllG zs ga) (hgb : AllG ys gb) (ht : t = true ↔ Wid (ofG ga) (ofG gb)) : GivesW 22 a n cap a' m cap' t w := by
  have hn := pol_n16 h.1 hc
  have hm := pol_n16 h'.1 hc'
  have HP : Hid (∀ w2 : World, Below w.heap.size w w2 → Calls Try.prog 59 #[.slice a n cap] w2 fun e w' => e = .returned (.int .i64 0) ∧ Below w2.heap.size w2 w') := fun w2 q => by have := l2Fault_c a n cap zs w2 (by omega) (h.below q); rwa [hc] at this
  have HQ : Hid (∀ w2 : World, Below w.heap.size w w2 → Calls Try.prog 59 #[.slice a' m cap'] w2 fun e w' => e = .returned (.int .i64 0) ∧ Below w2.heap.size w2 w') := fun w2 q => by have := l2Fault_c a' m cap' ys w2 (by omega) (h'.below q); rwa [hc'] at this
  have HSA : Hid (∀ w2 : World, Below w.heap.size w w2 → Calls Try.prog 60 #[.slice a n cap] w2 fun e w' => ∃ g l cap', e = .returned (.slice (some ⟨g, 0, none⟩) l cap') ∧ GrIn w' (some ⟨g, 0, none⟩) l ga ∧ l ≤ 40 ∧ Below w2.heap.size w2 w') := fun w2 q => l3AllW_c a n cap zs ga w2 (h.below q) hc hga
  have HSB : Hid (∀ w2 : World, Below w.heap.size w w2 → Calls Try.prog 60 #[.slice a' m cap'] w2 fun e w' => ∃ g l cap', e = .returned (.slice (some ⟨g, 0, none⟩) l cap') ∧ GrIn w' (some ⟨g, 0, none⟩) l gb ∧ l ≤ 40 ∧ Below w2.heap.size w2 w') := fun w2 q => l3AllW_c a' m cap' ys gb w2 (h'.below q) hc' hgb
  have HW : Hid (t = true ↔ ∀ x ∈ ga, andI x.2 (ofG gb x.1) = x.2) := ht.trans (wid_iff hga.sg hgb.sg)
  clear h h' hc hc' hga hgb ht
  unfold GivesW
  go_enter Try.func22, Try.ntmps22
  go_wp2_with fail
  refine (HP.out _ (Below.refl _ _)).mono ?_
  rintro e w1 ⟨rfl, hb1⟩
  go_wp2_with fail
  refine (HQ.out _ hb1).mono ?_
  rintro e w2 ⟨rfl, hb2'⟩
  have hb2 : Below w.heap.size w w2 := hb1.trans (hb2'.mono hb1.size)
  clear hb1 hb2'
  go_wp2_with fail
  refine (HSA.out _ hb2).mono ?_
  rintro e w3 ⟨gx, lx, cx, rfl, hgx, hlx, hb3'⟩
  have hb3 : Below w.heap.size w w3 := hb2.trans (hb3'.mono hb2.size)
  have HX : Hid (GrIn w3 (some ⟨gx, 0, none⟩) lx ga) := hgx
  clear hgx hb2 hb3'
  go_wp2_with fail
  refine (HSB.out _ hb3).mono ?_
  rintro e w4 ⟨gy, ly, cy, rfl, hgy, hly, hb4'⟩
  have hb4 : Below w.heap.size w w4 := hb3.trans (hb4'.mono hb3.size)
  have HX4 : Hid (GrIn w4 (some ⟨gx, 0, none⟩) lx ga) := HX.out.below hb4'
  have HY4 : Hid (GrIn w4 (some ⟨gy, 0, none⟩) ly gb) := hgy
  clear hgy hb3 hb4' HX
  have hlx' : (lx : Int) ≤ 40 := by omega
  go_wp2_with fail
  go_loopw [7] (fun i wr => ∃ k : Nat, k ≤ lx ∧ i = .int .i64 (k : Int) ∧ Hid (∀ j x, j < k → ga[j]? = some x → andI x.2 (ofG gb x.1) = x.2) ∧ Below w4.heap.size w4 wr) (fun i _ => lx - (intOf i).toNat)
  case atStart => exact ⟨0, Nat.zero_le _, rfl, fun j x hj => by omega, Below.refl _ _⟩
  case round =>
    obtain ⟨k, hk, rfl, HJ, hnx⟩ := hrel
    have hbr : Below w.heap.size w wr := hb4.trans (hnx.mono hb4.size)
    by_cases hlt : k < lx
    · obtain ⟨b, off, x, e, hx, hga, hbl⟩ := HX4.out.at hlt
      cases e
      have HXk : Hid (ga[k]? = some x) := hx
      obtain ⟨g0, g1, g2⟩ := hga.below hnx hbl
      have hbw : gx < wr.heap.size := Nat.lt_of_lt_of_le hbl hnx.size
      simp only [Nat.zero_add] at g0 g1 g2
      clear hx hga
      have hlt' : (k : Int) < (lx : Int) := by omega
      obtain ⟨d, hd⟩ : ∃ d, d = ofG gb x.1 := ⟨_, rfl⟩
      have HOf : Hid (∀ w2 : World, (∀ b o, b < wr.heap.size → w2.cell? ⟨b, o, none⟩ = wr.cell? ⟨b, o, none⟩) ∧ Below wr.heap.size wr w2 → Calls Try.prog 68 #[.slice (some ⟨gy, 0, none⟩) ly cy, .agg #[.int .i64 x.1.1, .int .i64 x.1.2]] w2 fun e w' => e = .returned (.int .i64 d) ∧ Below w2.heap.size w2 w') := fun w2 q => by
        rw [hd]; exact l3Of_c _ _ _ _ _ _ ((HY4.out.below hnx).below q.2) (by omega)
      obtain ⟨y, hy⟩ : ∃ y, bits .and .i64 x.2 d = y := ⟨_, rfl⟩
      have HY : Hid (andI x.2 (ofG gb x.1) = y) := by rw [← hd]; exact hy
      clear hd
      by_cases hye : y = x.2
      · have hyb : (y != x.2) = false := by simp [hye]
        have HJ2 : Hid (∀ j x, j < k + 1 → ga[j]? = some x → andI x.2 (ofG gb x.1) = x.2) := fun j x' hj hx' => by
          by_cases ej : j = k
          · subst ej; rw [HXk.out] at hx'; cases hx'; rw [HY.out, hye]
          · exact HJ.out j x' (by omega) hx'
        clear hye
        go_wp2_with fail
        go_region_held3 (fun w' => (∀ b o, b < wr.heap.size → w'.cell? ⟨b, o, none⟩ = wr.cell? ⟨b, o, none⟩) ∧ Below wr.heap.size wr w') (first | exact hS | exact kp_drew _)
          (first | (go_at_call 68; refine (HOf.out _ (by assumption)).mono ?_; rintro e w' ⟨rfl, hb1⟩; have hS := kp_step (by assumption) hb1))
        go_wp2_with fail
        exact ⟨⟨k + 1, by omega, by go_num, HJ2, hnx.trans (hS.2.mono hnx.size)⟩, by simp [intOf]; omega⟩
      · have hyb : (y != x.2) = true := by simp [hye]
        have HT : Hid (t = false) := by
          have : ¬ t = true := fun q => hye (by rw [← HY.out]; exact HW.out.1 q x (List.mem_of_getElem? HXk.out))
          cases t
          · trivial
          · exact absurd rfl this
        clear hye
        go_wp2_with fail
        go_region_held3 (fun w' => (∀ b o, b < wr.heap.size → w'.cell? ⟨b, o, none⟩ = wr.cell? ⟨b, o, none⟩) ∧ Below wr.heap.size wr w') (first | exact hS | exact kp_drew _)
          (first | (go_at_call 68; refine (HOf.out _ (by assumption)).mono ?_; rintro e w' ⟨rfl, hb1⟩; have hS := kp_step (by assumption) hb1))
        go_wp2_with fail
        go_ret
        exact ⟨by rw [HT.out]; rfl, hbr.trans (hS.2.mono hbr.size)⟩
    · have hke : k = lx := by omega
      subst hke
      have HT : Hid (t = true) := HW.out.2 (fun x hx => by
        obtain ⟨j, hj⟩ := List.mem_iff_getElem?.1 hx
        have hjl : j < k := by
          by_cases q : j < ga.length
          · have := HX4.out.1; omega
          · rw [List.getElem?_eq_none (by omega)] at hj; cases hj
        exact HJ.out j x hjl hj)
      go_wp2_with fail
      go_ret
      exact ⟨by rw [HT.out]; rfl, hbr⟩

theorem widens_both (zs ys : List RuleI) (n m : Nat) (hn : n ≤ 1048576) (hm : m ≤ 1048576) (hz : zs.length = n) (hy : ys.length = m) : ∃ t : Bool,
    (∀ (g k : Nat) (w : World), RulesAt w g 0 zs → RulesAt w k 0 ys → GivesW 22 (some ⟨g, 0, none⟩) n n (some ⟨k, 0, none⟩) m m t w) ∧
    (∀ (g k : Nat) (w : World), RulesAt w g 0 zs → RulesAt w k 0 ys → GivesW 21 (some ⟨g, 0, none⟩) n n (some ⟨k, 0, none⟩) m m t w) := by
  have hmx : n ≤ maxLen := by unfold maxLen; omega
  have hmy : m ≤ maxLen := by unfold maxLen; omega
  by_cases h1 : polCode zs = 0 ∧ polCode ys = 0
  · obtain ⟨ga, hga⟩ := all_some zs h1.1
    obtain ⟨gb, hgb⟩ := all_some ys h1.2
    haveI := Classical.propDecidable (Wid (ofG ga) (ofG gb))
    have ht : decide (Wid (ofG ga) (ofG gb)) = true ↔ Wid (ofG ga) (ofG gb) := decide_eq_true_iff
    exact ⟨decide (Wid (ofG ga) (ofG gb)), fun g k w h h' => specWidens_ok _ _ _ _ _ _ _ _ ga gb _ _ (RulesIn.of hz h) (RulesIn.of hy h') h1.1 h1.2 hga hgb ht, fun g k w h h' => implWidens_ok _ _ _ _ _ _ _ _ ga gb _ _ (Nat.le_refl _) hmx (Nat.le_refl _) hmy (RulesIn.of hz h) (RulesIn.of hy h') h1.1 h1.2 hga hgb ht⟩
  · have hor : orC (polCode zs) (polCode ys) ≠ 0 := by
      unfold orC
      split
      · rename_i q
        exact fun e => h1 ⟨q, e⟩
      · assumption
    exact ⟨false, fun g k w h h' => specWidens_bad _ _ _ _ _ _ _ _ _ hn hm (RulesIn.of hz h) (RulesIn.of hy h') h1, fun g k w h h' => implWidens_bad _ _ _ _ _ _ _ _ _ hn hm (Nat.le_refl _) hmx (Nat.le_refl _) hmy (RulesIn.of hz h) (RulesIn.of hy h') hor⟩

end Go.Proofs.Ytdooocjjohdpjaa
