/-
  CONTRACTS: impl.proofOf, out of what maps.Equal answers.
  Conditions: each contract bears its own.
  CONTRACT: maps.Equal over two maps of grants.
  Conditions: each contract bears its own.
  CONTRACTS: Widens of both programs.
  Conditions: each contract bears its own.
-/
import Derived.Test.YtnfolmjdicfobaaPk24
import Derived.Test.YtnfolmjdicfobaaPk20
import Derived.Lib.SlMapEqual
import Derived.WalkKit
import Derived.Maps.RangeWalk
import Derived.Laws.IdiomRangeMap
import Derived.Test.YtnfolmjdicfobaaPk23
import Derived.BigQuiet
import Derived.Deep.QuietTactic
namespace Go.Proofs.Ytnfolmjdicfobaa
open Go.RowKit
set_option linter.unusedVariables false
set_option linter.unusedSimpArgs false
attribute [local go_sem ↓] ro_eql

theorem hit_here {zs : List RuleI} {f : RoI → Int} {r : RoI} {p : Int} : ∀ (k : Nat) (z : RuleI), zs[k]? = some z → (∀ j y, j < k → zs[j]? = some y → hitB f r p y = false) → hitB f r p z = true → ∀ i : Int, hitAt f r p zs i = i + k := by
  induction zs with
  | nil => intro k z h; simp at h
  | cons y ys ih =>
    intro k z h hb ht i
    show (if hitB f r p y = true then i else hitAt f r p ys (i + 1)) = _
    cases k with
    | zero =>
      simp at h
      subst h
      rw [if_pos ht]; simp
    | succ k =>
      rw [if_neg (by rw [hb 0 y (by omega) (by simp)]; simp), ih k z (by simpa using h) (fun j x hj hx => hb (j + 1) x (by omega) (by simpa using hx)) ht]
      simp; omega

theorem none_all {zs : List RuleI} {f : RoI → Int} {r : RoI} {p : Int} {n : Nat} (hn : zs.length = n) (h : ∀ j y, j < n → zs[j]? = some y → hitB f r p y = false) : noneHit zs f r p := by
  intro z hz
  obtain ⟨j, hj⟩ := List.mem_iff_getElem?.1 hz
  have : j < n := by
    by_cases q : j < zs.length
    · omega
    · rw [List.getElem?_eq_none (by omega)] at hj; cases hj
  exact h j z this hj

end Go.Proofs.Ytnfolmjdicfobaa

namespace Go.Proofs.Ytnfolmjdicfobaa
open Go.RowKit Go.Maps
set_option linter.unusedVariables false
set_option linter.unusedSimpArgs false

/-- The entries of a map of grants: one for each role that somebody has. -/
theorem own_es {w : World} {b n : Nat} {D : DataW Unit} {f : RoI → Int} (hf : FN f) (ho : w.ownsMap Try.prog 76 elU b n D) (hv : View D f) : ∃ es : List (Lit × DataW Unit), D = .map es ∧ es.Pairwise (fun p q => p.1 ≠ q.1) ∧ (∀ p ∈ es, WideAt.IsKeyLit p.1) ∧ (∀ p ∈ es, ∃ r, f r ≠ 0 ∧ p = (keyL r, .lit (.int .u8 (f r)))) ∧ (∀ r, f r ≠ 0 → (keyL r, (.lit (.int .u8 (f r)) : DataW Unit)) ∈ es) := by
  obtain ⟨es', hD', hne, hks⟩ := ho.entries mp_keyed
  obtain ⟨es, clock, hb, F, hs, hD⟩ := ho
  have hkeys : ∀ p ∈ es', ∃ r, roW r ∧ p.1 = keyL r := by
    intro p hp
    have hp' : p ∈ es.toList.map (WideElems.rg Try.prog 76 elU) := by
      rw [hD] at hD'
      have := (DataW.map.inj hD').symm
      rw [this] at hp
      exact mem_sorted.1 hp
    obtain ⟨v, hvv⟩ := fit_keys F p hp'
    obtain ⟨r, hr, _, e⟩ := key_inv hvv
    exact ⟨r, hr, e⟩
  clear hb F hs hD
  have hval : ∀ p ∈ es', ∀ r, roW r → p.1 = keyL r → p.2 = .lit (.int .u8 (f r)) := by
    intro p hp r hr e
    have h1 := WideAt.atKey_mem (.lit (.int .u8 0)) (hks p hp) hne (show (p.1, p.2) ∈ es' from hp)
    have h2 := hv.at' r hr
    rw [hD', ← e] at h2
    rw [← h1]
    exact h2
  refine ⟨es', hD', hne, hks, fun p hp => ?_, fun r hr => ?_⟩
  · obtain ⟨r, hr, e⟩ := hkeys p hp
    refine ⟨r, ?_, Prod.ext e (hval p hp r hr e)⟩
    have h1 := hv.has r hr
    rw [hD', has_eq] at h1
    have : (es'.any fun p => p.1.sameKey (keyL r)) = true := List.any_eq_true.2 ⟨p, hp, by rw [e]; exact WideAt.sameKey_self (keyL_key r)⟩
    rw [this] at h1
    exact of_decide_eq_true h1.symm
  · have hw := roW_of (hf.ro r hr)
    have h1 := hv.has r hw
    rw [hD', has_eq, show decide (f r ≠ 0) = true from decide_eq_true hr] at h1
    obtain ⟨p, hp, hsk⟩ := List.any_eq_true.1 h1
    have e : p.1 = keyL r := WideAt.sameKey_eq hsk
    have := hval p hp r hw e
    rw [← e, ← this]
    exact hp

def eqd8 : DataW Unit → DataW Unit → Bool
  | .lit (.int .u8 a), .lit (.int .u8 b) => decide (a = b)
  | _, _ => false

theorem equal_iff {w w' : World} {b1 b2 n1 n2 : Nat} {D1 D2 : DataW Unit} {f1 f2 : RoI → Int} (hf1 : FN f1) (hf2 : FN f2) (h1 : w.ownsMap Try.prog 76 elU b1 n1 D1) (h2 : w'.ownsMap Try.prog 76 elU b2 n2 D2) (hv1 : View D1 f1) (hv2 : View D2 f2) : Lib.equalFuncD eqd8 D1 D2 = true ↔ f1 = f2 := by
  obtain ⟨es1, rfl, hap1, hk1, hm1, hc1⟩ := own_es hf1 h1 hv1
  obtain ⟨es2, rfl, hap2, hk2, hm2, hc2⟩ := own_es hf2 h2 hv2
  have hn1 : (es1.map Prod.fst).Nodup := List.pairwise_map.2 hap1
  have hn2 : (es2.map Prod.fst).Nodup := List.pairwise_map.2 hap2
  have good : ∀ r, f1 r ≠ 0 → (Lib.goodD eqd8 (.map es2) (keyL r, .lit (.int .u8 (f1 r))) = true ↔ f2 r = f1 r) := by
    intro r hr
    have hw := roW_of (hf1.ro r hr)
    unfold Lib.goodD
    rw [hv2.has r hw]
    by_cases e : f2 r = 0
    · rw [show decide (f2 r ≠ 0) = false by simp [e]]
      simp
      intro q; rw [q] at e; exact hr e
    · rw [show decide (f2 r ≠ 0) = true from decide_eq_true e]
      rw [atKey_indep (z := .nil) (z' := .lit (.int .u8 0)) (by rw [hv2.has r hw]; exact decide_eq_true e), hv2.at' r hw]
      simp [eqd8, eq_comm]
  unfold Lib.equalFuncD
  rw [Bool.and_eq_true, decide_eq_true_iff, size_eq, size_eq, List.all_eq_true]
  constructor
  · rintro ⟨hs, hall⟩
    have h12 : ∀ r, f1 r ≠ 0 → f2 r = f1 r := fun r hr => (good r hr).1 (hall _ (hc1 r hr))
    funext r
    by_cases h : f1 r = 0
    · by_cases e : f2 r = 0
      · rw [h, e]
      · exfalso
        have hnd : (keyL r :: es1.map Prod.fst).Nodup := by
          refine List.nodup_cons.2 ⟨fun q => ?_, hn1⟩
          obtain ⟨p, hp, ep⟩ := List.mem_map.1 q
          obtain ⟨r', hr', rfl⟩ := hm1 p hp
          have := keyL_inj (roW_of (hf1.ro r' hr')) (roW_of (hf2.ro r e)) ep
          rw [this] at hr'
          exact hr' h
        have := @nodup_len Lit (fun _ _ => Classical.propDecidable _) (keyL r :: es1.map Prod.fst) (es2.map Prod.fst) hnd (fun x hx => by
          rcases List.mem_cons.1 hx with rfl | hx
          · exact List.mem_map.2 ⟨_, hc2 r e, rfl⟩
          · obtain ⟨p, hp, rfl⟩ := List.mem_map.1 hx
            obtain ⟨r', hr', rfl⟩ := hm1 p hp
            exact List.mem_map.2 ⟨_, hc2 r' (by rw [h12 r' hr']; exact hr'), rfl⟩)
        simp at this
        omega
    · exact (h12 r h).symm
  · rintro rfl
    refine ⟨Nat.le_antisymm ?_ ?_, fun p hp => ?_⟩
    · have := @nodup_len Lit (fun _ _ => Classical.propDecidable _) (es1.map Prod.fst) (es2.map Prod.fst) hn1 (fun x hx => by
        obtain ⟨p, hp, rfl⟩ := List.mem_map.1 hx
        obtain ⟨r', hr', rfl⟩ := hm1 p hp
        exact List.mem_map.2 ⟨_, hc2 r' hr', rfl⟩)
      simpa using this
    · have := @nodup_len Lit (fun _ _ => Classical.propDecidable _) (es2.map Prod.fst) (es1.map Prod.fst) hn2 (fun x hx => by
        obtain ⟨p, hp, rfl⟩ := List.mem_map.1 hx
        obtain ⟨r', hr', rfl⟩ := hm2 p hp
        exact List.mem_map.2 ⟨_, hc1 r' hr', rfl⟩)
      simpa using this
    · obtain ⟨r, hr, rfl⟩ := hm1 p hp
      exact (good r hr).2 rfl

end Go.Proofs.Ytnfolmjdicfobaa

namespace Go.Proofs.Ytnfolmjdicfobaa
open Go.RowKit Go.Maps
set_option linter.unusedVariables false
set_option linter.unusedSimpArgs false

theorem settleW_c (a : Option Addr) (n cap : Nat) (zs : List RuleI) (gs : List GrI) (w : World) (h : RulesIn w a n zs) (hc : polCode zs = 0) (hg : AllG zs gs) :
    Calls Try.prog 80 #[.slice a n cap] w fun e w' => ∃ b, e = .returned (.map (some b)) ∧ GM w' b (ofG gs) ∧ w.heap.size ≤ b ∧ Below w.heap.size w w' := by
  refine (settle_c a n cap zs w h (pol_n16 h.1 hc) hc).mono ?_
  rintro e w' ⟨b, f, rfl, hG, hWk, hb, hb2⟩
  obtain ⟨gs', h1, h2⟩ := gm_list hG
  have := allG_unique (work_end (fun z hz => ((pol_ok hc).2 z hz).1) hWk h1 h2) hg
  exact ⟨b, rfl, by rw [← this, h2]; exact hG, hb, hb2⟩

theorem l3AllW_c (a : Option Addr) (n cap : Nat) (zs : List RuleI) (gs : List GrI) (w : World) (h : RulesIn w a n zs) (hc : polCode zs = 0) (hg : AllG zs gs) :
    Calls Try.prog 76 #[.slice a n cap] w fun e w' => ∃ g l cap', e = .returned (.slice (some ⟨g, 0, none⟩) l cap') ∧ GrIn w' (some ⟨g, 0, none⟩) l gs ∧ l ≤ 40 ∧ Below w.heap.size w w' := by
  refine (l3All_c a n cap zs w h (by have := pol_n16 h.1 hc; omega) (pol_ok hc).2).mono ?_
  rintro e w' ⟨g, l, cap', gs', rfl, h1, h2, h3, h4, hb⟩
  obtain rfl := allG_unique h2 hg
  exact ⟨g, l, cap', rfl, h4.read h1, by have := sg_len hg.sg; omega, hb⟩

/-- Who has what by the one has it by the other. -/
def Wid (fa fb : RoI → Int) : Prop := ∀ r, orI (fb r) (fa r) = fb r

theorem and_or {s t : Int} (hs : setB s) (ht : setB t) : andI s t = s ↔ orI t s = t := by
  have hand := and_set hs ht
  have hor := or_set ht hs
  constructor
  · intro h
    refine set_ext hor ht (fun p h0 h1 => ?_)
    rw [hasI_or ht hs]
    have := congrArg (fun q => hasI q p) h
    simp only [hasI_and hs ht] at this
    cases e1 : hasI s p <;> cases e2 : hasI t p <;> simp [e1, e2] at this ⊢
  · intro h
    refine set_ext hand hs (fun p h0 h1 => ?_)
    rw [hasI_and hs ht]
    have := congrArg (fun q => hasI q p) h
    simp only [hasI_or ht hs] at this
    cases e1 : hasI s p <;> cases e2 : hasI t p <;> simp [e1, e2] at this ⊢

theorem wid_iff {ga gb : List GrI} (ha : SG ga) (hb : SG gb) : Wid (ofG ga) (ofG gb) ↔ ∀ x ∈ ga, andI x.2 (ofG gb x.1) = x.2 := by
  constructor
  · intro h x hx
    have := h x.1
    rw [ofG_mem ha hx] at this
    exact (and_or (by have := ha.st x hx; exact ⟨by omega, by omega⟩) (ofG_set hb _)).2 this
  · intro h r
    by_cases e : ofG ga r = 0
    · rw [e]
      refine set_ext (or_set (ofG_set hb r) ⟨by omega, by omega⟩) (ofG_set hb r) (fun p _ _ => ?_)
      rw [hasI_or (ofG_set hb r) ⟨by omega, by omega⟩, hasI_zero]; simp
    · have := h _ (ofG_some e)
      exact (and_or (ofG_set ha r) (ofG_set hb r)).1 this

theorem GM.kept {w w' : World} {b q : Nat} {f : RoI → Int} (h : GM w b f) (hg : w.grownBy w' (some q)) (hne : b ≠ q) : GM w' b f := gm_heap h (hg.block b h.lt (by simp [hne]))

def GivesW (f : Nat) (a : Option Addr) (n cap : Nat) (a' : Option Addr) (m cap' : Nat) (t : Bool) (w : World) : Prop := Calls Try.prog f #[.slice a n cap, .slice a' m cap'] w fun e w' => e = .returned (.bool t) ∧ Below w.heap.size w w'

end Go.Proofs.Ytnfolmjdicfobaa
