/-
  CONTRACT: maps.Equal over two maps of grants.
  Conditions: each contract bears its own.
-/
import Derived.Test.YtnmidppiakdanaaPf3
import Derived.Lib.SlMapEqual
import Derived.WalkKit
import Derived.Maps.RangeWalk
import Derived.Laws.IdiomRangeMap
namespace Go.Proofs.Ytnmidppiakdanaa
open Go.RowKit Go.Maps
set_option linter.unusedVariables false
set_option linter.unusedSimpArgs false

/-- The entries of a map of grants: one for each role that somebody has. -/
theorem own_es {w : World} {b n : Nat} {D : DataW Unit} {f : RoI → Int} (hf : FN f) (ho : w.ownsMap Try.prog 35 elU b n D) (hv : View D f) : ∃ es : List (Lit × DataW Unit), D = .map es ∧ es.Pairwise (fun p q => p.1 ≠ q.1) ∧ (∀ p ∈ es, WideAt.IsKeyLit p.1) ∧ (∀ p ∈ es, ∃ r, f r ≠ 0 ∧ p = (keyL r, .lit (.int .u8 (f r)))) ∧ (∀ r, f r ≠ 0 → (keyL r, (.lit (.int .u8 (f r)) : DataW Unit)) ∈ es) := by
  obtain ⟨es', hD', hne, hks⟩ := ho.entries mp_keyed
  obtain ⟨es, clock, hb, F, hs, hD⟩ := ho
  have hkeys : ∀ p ∈ es', ∃ r, roW r ∧ p.1 = keyL r := by
    intro p hp
    have hp' : p ∈ es.toList.map (WideElems.rg Try.prog 35 elU) := by
      rw [hD] at hD'
      have := (DataW.map.inj hD').symm
      rw [this] at hp
      exact mem_sorted.1 hp
    obtain ⟨v, hvv⟩ := fit_keys F p hp'
    obtain ⟨r, hr, _, e⟩ := key_inv hvv
    exact ⟨r, hr, e⟩
  clear hb F hs hD
  have hval : ∀ p ∈ es', ∀ r, roW r → p.1 = keyL r → p.2 = .lit (.int .u8 (f r)) := by
    intro p hp r hr e
    have h1 := WideAt.atKey_mem (.lit (.int .u8 0)) (hks p hp) hne (show (p.1, p.2) ∈ es' from hp)
    have h2 := hv.at' r hr
    rw [hD', ← e] at h2
    rw [← h1]
    exact h2
  refine ⟨es', hD', hne, hks, fun p hp => ?_, fun r hr => ?_⟩
  · obtain ⟨r, hr, e⟩ := hkeys p hp
    refine ⟨r, ?_, Prod.ext e (hval p hp r hr e)⟩
    have h1 := hv.has r hr
    rw [hD', has_eq] at h1
    have : (es'.any fun p => p.1.sameKey (keyL r)) = true := List.any_eq_true.2 ⟨p, hp, by rw [e]; exact WideAt.sameKey_self (keyL_key r)⟩
    rw [this] at h1
    exact of_decide_eq_true h1.symm
  · have hw := roW_of (hf.ro r hr)
    have h1 := hv.has r hw
    rw [hD', has_eq, show decide (f r ≠ 0) = true from decide_eq_true hr] at h1
    obtain ⟨p, hp, hsk⟩ := List.any_eq_true.1 h1
    have e : p.1 = keyL r := WideAt.sameKey_eq hsk
    have := hval p hp r hw e
    rw [← e, ← this]
    exact hp

def eqd8 : DataW Unit → DataW Unit → Bool
  | .lit (.int .u8 a), .lit (.int .u8 b) => decide (a = b)
  | _, _ => false

theorem equal_iff {w w' : World} {b1 b2 n1 n2 : Nat} {D1 D2 : DataW Unit} {f1 f2 : RoI → Int} (hf1 : FN f1) (hf2 : FN f2) (h1 : w.ownsMap Try.prog 35 elU b1 n1 D1) (h2 : w'.ownsMap Try.prog 35 elU b2 n2 D2) (hv1 : View D1 f1) (hv2 : View D2 f2) : Lib.equalFuncD eqd8 D1 D2 = true ↔ f1 = f2 := by
  obtain ⟨es1, rfl, hap1, hk1, hm1, hc1⟩ := own_es hf1 h1 hv1
  obtain ⟨es2, rfl, hap2, hk2, hm2, hc2⟩ := own_es hf2 h2 hv2
  have hn1 : (es1.map Prod.fst).Nodup := List.pairwise_map.2 hap1
  have hn2 : (es2.map Prod.fst).Nodup := List.pairwise_map.2 hap2
  have good : ∀ r, f1 r ≠ 0 → (Lib.goodD eqd8 (.map es2) (keyL r, .lit (.int .u8 (f1 r))) = true ↔ f2 r = f1 r) := by
    intro r hr
    have hw := roW_of (hf1.ro r hr)
    unfold Lib.goodD
    rw [hv2.has r hw]
    by_cases e : f2 r = 0
    · rw [show decide (f2 r ≠ 0) = false by simp [e]]
      simp
      intro q; rw [q] at e; exact hr e
    · rw [show decide (f2 r ≠ 0) = true from decide_eq_true e]
      rw [atKey_indep (z := .nil) (z' := .lit (.int .u8 0)) (by rw [hv2.has r hw]; exact decide_eq_true e), hv2.at' r hw]
      simp [eqd8, eq_comm]
  unfold Lib.equalFuncD
  rw [Bool.and_eq_true, decide_eq_true_iff, size_eq, size_eq, List.all_eq_true]
  constructor
  · rintro ⟨hs, hall⟩
    have h12 : ∀ r, f1 r ≠ 0 → f2 r = f1 r := fun r hr => (good r hr).1 (hall _ (hc1 r hr))
    funext r
    by_cases h : f1 r = 0
    · by_cases e : f2 r = 0
      · rw [h, e]
      · exfalso
        have hnd : (keyL r :: es1.map Prod.fst).Nodup := by
          refine List.nodup_cons.2 ⟨fun q => ?_, hn1⟩
          obtain ⟨p, hp, ep⟩ := List.mem_map.1 q
          obtain ⟨r', hr', rfl⟩ := hm1 p hp
          have := keyL_inj (roW_of (hf1.ro r' hr')) (roW_of (hf2.ro r e)) ep
          rw [this] at hr'
          exact hr' h
        have := @nodup_len Lit (fun _ _ => Classical.propDecidable _) (keyL r :: es1.map Prod.fst) (es2.map Prod.fst) hnd (fun x hx => by
          rcases List.mem_cons.1 hx with rfl | hx
          · exact List.mem_map.2 ⟨_, hc2 r e, rfl⟩
          · obtain ⟨p, hp, rfl⟩ := List.mem_map.1 hx
            obtain ⟨r', hr', rfl⟩ := hm1 p hp
            exact List.mem_map.2 ⟨_, hc2 r' (by rw [h12 r' hr']; exact hr'), rfl⟩)
        simp at this
        omega
    · exact (h12 r h).symm
  · rintro rfl
    refine ⟨Nat.le_antisymm ?_ ?_, fun p hp => ?_⟩
    · have := @nodup_len Lit (fun _ _ => Classical.propDecidable _) (es1.map Prod.fst) (es2.map Prod.fst) hn1 (fun x hx => by
        obtain ⟨p, hp, rfl⟩ := List.mem_map.1 hx
        obtain ⟨r', hr', rfl⟩ := hm1 p hp
        exact List.mem_map.2 ⟨_, hc2 r' hr', rfl⟩)
      simpa using this
    · have := @nodup_len Lit (fun _ _ => Classical.propDecidable _) (es2.map Prod.fst) (es1.map Prod.fst) hn2 (fun x hx => by
        obtain ⟨p, hp, rfl⟩ := List.mem_map.1 hx
        obtain ⟨r', hr', rfl⟩ := hm2 p hp
        exact List.mem_map.2 ⟨_, hc1 r' hr', rfl⟩)
      simpa using this
    · obtain ⟨r, hr, rfl⟩ := hm1 p hp
      exact (good r hr).2 rfl

set_option maxHeartbeats 4000000 in
set_option maxRecDepth 100000 in
theorem eqMaps_c : EqMaps := by
  intro b1 b2 f1 f2 w h1 h2 t ht
  obtain ⟨hf1, D1, n1, ho1, hv1⟩ := h1
  obtain ⟨hf2, D2, n2, ho2, hv2⟩ := h2
  have hres : Lib.equalFuncD eqd8 D1 D2 = t := by
    rw [Bool.eq_iff_iff, ht]; exact equal_iff hf1 hf2 ho1 ho2 hv1 hv2
  have l1 := fun ty => ho1.len (t := 92) mp_map ty
  have l2 := fun ty => ho2.len (t := 92) mp_map ty
  obtain ⟨es1, rfl, hap, hkeys⟩ := ho1.entries mp_keyed
  have hb2 := ho2.lt
  have RES : Hid (Lib.equalFuncD eqd8 (.map es1) D2 = t) := hres
  have HAP : Hid (es1.Pairwise (fun p q => p.1 ≠ q.1) ∧ ∀ p ∈ es1, WideAt.IsKeyLit p.1) := ⟨hap, hkeys⟩
  have HV2 : Hid (View D2 f2) := hv2
  clear hres ht hv1 hv2 hf1 hf2 hap hkeys
  by_cases hsz : Maps.size (.map es1 : DataW Unit) = Maps.size D2
  · go_enter Try.func136, Try.ntmps136
    go_wp2_with (first
      | (at_range; refine wpList_range_own _ rfl _ 92 rfl 35 102 mp_keyed mp_map elU b1 n1 _ rfl ho1 ?_; intro w0 hrg0 hg0 hs0)
      | go_in)
    go_frame
    go_loopw [16] (fun _ wr => ∃ (left : Lit → Bool) (cnt : Nat), wr.ranges Try.prog 35 elU b1 w.heap.size n1 (.map es1) left cnt ∧ wr.ownsMap Try.prog 35 elU b2 n2 D2 ∧ w.grownBy wr none ∧ Hid (GoodAt eqd8 es1 D2 left))
      (fun _ wr => wr.rangeLeft b1 w.heap.size)
    case atStart => exact ⟨_, _, hrg0, ho2.kept hg0 (by simp), hg0, good_start HAP.out.2 D2⟩
    case round =>
      obtain ⟨left, cnt, hrg, h2r, hgw, G⟩ := hrel
      go_wp2_with (first
        | (at_next; refine wpList_next_ranges _ rfl _ rfl 35 mp_keyed elU roV (Value.int .u8) (fun key kl hk => by obtain ⟨r, _, hr, _⟩ := key_inv hk; exact ⟨r, hr⟩) (fun v y hv => by obtain ⟨c, rfl, _⟩ := plainElem_int_inv mp_set hv; exact ⟨c, rfl⟩) b1 w.heap.size n1 _ _ _ rfl hrg ?_ ?_)
        | go_in)
      · intro _ hl0
        go_wp2
        go_ret
        exact ⟨by rw [← RES.out, all_good G.out hl0 hsz]; rfl, (Below.refl _ _).grown hgw (Nat.le_refl _) (fun k e => by cases e)⟩
      · intro o nm c kl yd yp w1 cnt1 hkey hlx hv hat hrg1 hlt hg1 hs1 hen
        obtain ⟨r, hr, ex, rfl⟩ := key_inv hkey
        obtain rfl : (o, nm) = r := by simp at ex; exact Prod.ext ex.1 ex.2
        obtain ⟨c', ec, ez, hwc⟩ := plainElem_int_inv mp_set hv
        cases ec
        obtain ⟨rfl, rfl⟩ : yd = .lit (.int .u8 c) ∧ yp = [] := by cases ez; exact ⟨rfl, rfl⟩
        simp only [roV] at hen
        have hgw1 : w.grownBy w1 none := hgw.andThen hg1 (fun j hj => by cases hj; exact Or.inl (Nat.le_refl _))
        have h2w1 := h2r.kept hg1 (fun e => by have := Option.some.inj e; omega)
        have hgw2 : w.grownBy (w1.alloc (.cells #[.int .i64 o, .int .i64 nm] 35)) none := hgw1.andThen (World.grownBy_alloc _ _ none) (fun j hj => by cases hj)
        have h2w2 : (w1.alloc (.cells #[.int .i64 o, .int .i64 nm] 35)).ownsMap Try.prog 35 elU b2 n2 D2 := h2w1.kept (World.grownBy_alloc _ _ none) (by simp)
        have hrg2 := hrg1.alloc (.cells #[.int .i64 o, .int .i64 nm] 35)
        have HAT : Hid (∀ zd, (DataW.map es1).atKey (keyL (o, nm)) zd = .lit (.int .u8 c)) := hat
        have HM : Hid (wr.rangeLeft b1 w.heap.size = cnt ∧ cnt1 < cnt) := ⟨hrg.left_eq, hlt⟩
        have HR2 : Hid ((w1.alloc (.cells #[.int .i64 o, .int .i64 nm] 35)).ranges Try.prog 35 elU b1 w.heap.size n1 (.map es1) (fun z => left z && !z.sameKey (keyL (o, nm))) cnt1) := hrg2
        have HG2 : Hid (w.grownBy (w1.alloc (.cells #[.int .i64 o, .int .i64 nm] 35)) none) := hgw2
        clear hat hv ez hwc hg1 hgw hgw1 hgw2 hrg hrg1 hrg2 h2r h2w1 hs1 hlx
        cases hh : Maps.has D2 (keyL (o, nm))
        · have hbad : Lib.goodD eqd8 D2 (keyL (o, nm), .lit (.int .u8 c)) = false := by unfold Lib.goodD; rw [hh]; rfl
          go_wp2_with (first
            | (at_lookup; refine wpList_lookup_own_ok_int _ rfl _ _ 92 rfl 35 102 .u8 mp_keyed mp_map mp_set (mp_zero _) b2 n2 D2 rfl h2w2 _ (keyL (o, nm)) rfl (key_of hr) ?_; intro c2 hc2 hwc2; rw [hh]; go_frame)
            | go_in)
          go_ret
          exact ⟨by rw [← RES.out, bad_false HAP.out.1 HAP.out.2 HAT.out hbad]; rfl, (Below.refl _ _).grown HG2.out (Nat.le_refl _) (fun k e => by cases e)⟩
        · obtain ⟨d, hd⟩ : ∃ d, f2 (o, nm) = d := ⟨_, rfl⟩
          have HD2 : Hid (D2.atKey (keyL (o, nm)) (.lit (.int .u8 0)) = .lit (.int .u8 d)) := by rw [← hd]; exact HV2.out.at' _ hr
          have HGD : Hid (Lib.goodD eqd8 D2 (keyL (o, nm), .lit (.int .u8 c)) = decide (c = d)) := by
            unfold Lib.goodD; rw [hh, atKey_indep hh .nil (.lit (.int .u8 0)), HD2.out]; rfl
          clear hd
          by_cases he : c = d
          · have hb : (c != d) = false := by simp [he]
            have HGO : Hid (Lib.goodD eqd8 D2 (keyL (o, nm), .lit (.int .u8 c)) = true) := by rw [HGD.out]; exact decide_eq_true he
            clear he
            go_wp2_with (first
              | (at_lookup; refine wpList_lookup_own_ok_int _ rfl _ _ 92 rfl 35 102 .u8 mp_keyed mp_map mp_set (mp_zero _) b2 n2 D2 rfl h2w2 _ (keyL (o, nm)) rfl (key_of hr) ?_; intro c2 hc2 hwc2; obtain rfl : d = c2 := (by have := HD2.out.symm.trans hc2; cases this; rfl); clear hc2; rw [hh]; go_frame)
              | go_in)
            refine ⟨⟨_, cnt1, HR2.out, h2w2, HG2.out, good_step HAP.out.1 HAP.out.2 HAT.out G.out HGO.out⟩, ?_⟩
            rw [HR2.out.left_eq, HM.out.1]; exact HM.out.2
          · have hb : (c != d) = true := by simp [he]
            have HBD : Hid (Lib.goodD eqd8 D2 (keyL (o, nm), .lit (.int .u8 c)) = false) := by rw [HGD.out]; exact decide_eq_false he
            clear he
            go_wp2_with (first
              | (at_lookup; refine wpList_lookup_own_ok_int _ rfl _ _ 92 rfl 35 102 .u8 mp_keyed mp_map mp_set (mp_zero _) b2 n2 D2 rfl h2w2 _ (keyL (o, nm)) rfl (key_of hr) ?_; intro c2 hc2 hwc2; obtain rfl : d = c2 := (by have := HD2.out.symm.trans hc2; cases this; rfl); clear hc2; rw [hh]; go_frame)
              | go_in)
            go_ret
            exact ⟨by rw [← RES.out, bad_false HAP.out.1 HAP.out.2 HAT.out HBD.out]; rfl, (Below.refl _ _).grown HG2.out (Nat.le_refl _) (fun k e => by cases e)⟩
  · have hne : ¬ ((Maps.size (.map es1 : DataW Unit) : Int) = (Maps.size D2 : Int)) := fun e => hsz (by exact_mod_cast e)
    go_enter Try.func136, Try.ntmps136
    go_wp2
    go_ret
    exact ⟨by rw [← RES.out, sizes_false hsz]; rfl, Below.refl _ _⟩

end Go.Proofs.Ytnmidppiakdanaa
