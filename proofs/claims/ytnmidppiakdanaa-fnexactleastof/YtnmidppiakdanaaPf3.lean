/-
  CONTRACTS: impl.proofOf, out of what maps.Equal answers.
  Conditions: each contract bears its own.
-/
import Derived.Test.YtnmidppiakdanaaPf1
import Derived.Test.YtnmidppiakdanaaMp8
namespace Go.Proofs.Ytnmidppiakdanaa
open Go.RowKit
set_option linter.unusedVariables false
set_option linter.unusedSimpArgs false
attribute [local go_sem ↓] ro_eql

/-- maps.Equal over two maps by roles. -/
def EqMaps : Prop := ∀ (b1 b2 : Nat) (f1 f2 : RoI → Int) (w : World), GM w b1 f1 → GM w b2 f2 → ∀ t : Bool, (t = true ↔ f1 = f2) → Calls Try.prog 136 #[.map (some b1), .map (some b2)] w fun e w' => e = .returned (.bool t) ∧ Below w.heap.size w w'

theorem hit_here {zs : List RuleI} {f : RoI → Int} {r : RoI} {p : Int} : ∀ (k : Nat) (z : RuleI), zs[k]? = some z → (∀ j y, j < k → zs[j]? = some y → hitB f r p y = false) → hitB f r p z = true → ∀ i : Int, hitAt f r p zs i = i + k := by
  induction zs with
  | nil => intro k z h; simp at h
  | cons y ys ih =>
    intro k z h hb ht i
    show (if hitB f r p y = true then i else hitAt f r p ys (i + 1)) = _
    cases k with
    | zero =>
      simp at h
      subst h
      rw [if_pos ht]; simp
    | succ k =>
      rw [if_neg (by rw [hb 0 y (by omega) (by simp)]; simp), ih k z (by simpa using h) (fun j x hj hx => hb (j + 1) x (by omega) (by simpa using hx)) ht]
      simp; omega

theorem none_all {zs : List RuleI} {f : RoI → Int} {r : RoI} {p : Int} {n : Nat} (hn : zs.length = n) (h : ∀ j y, j < n → zs[j]? = some y → hitB f r p y = false) : noneHit zs f r p := by
  intro z hz
  obtain ⟨j, hj⟩ := List.mem_iff_getElem?.1 hz
  have : j < n := by
    by_cases q : j < zs.length
    · omega
    · rw [List.getElem?_eq_none (by omega)] at hj; cases hj
  exact h j z this hj

set_option maxRecDepth 100000 in
set_option maxHeartbeats 4000000 in
theorem proofOf_c (HQ : Hid EqMaps) (a : Option Addr) (n cap : Nat) (zs : List RuleI) (r : RoI) (p d : Int) (ls : List Int) (w : World) (h : RulesIn w a n zs) (hn : n ≤ 16) (hz : ∀ z ∈ zs, ruleCode z = 0) (hp0 : 1 ≤ p) (hp1 : p ≤ 8)
    (HA : Hid (∀ k : Nat, (∀ j, j < k → noneHit zs (ofG (itG zs j)) r p) → (∀ x : Int, ¬ noneHit zs (ofG (itG zs k)) r p → hitAt (ofG (itG zs k)) r p zs 0 = x → d = 0 ∧ ls = [(k : Int) + 1, x]) ∧ (noneHit zs (ofG (itG zs k)) r p → stepG zs (itG zs k) = itG zs k → d = 4 ∧ ls = []))) :
    Calls Try.prog 92 #[.slice a n cap, .agg #[.int .i64 r.1, .int .i64 r.2], .int .u8 (bitI p)] w fun e w' => ∃ (a' : Option Addr) (cap' : Nat), e = .returned (.agg #[.int .i64 d, .slice a' ls.length cap']) ∧ w'.ownsRow w.heap.size 2 1 (.slice a' ls.length cap') ls.length (ls.map (Value.int .i64)) ∧ Below w.heap.size w w' := by
  obtain ⟨W, hW⟩ : ∃ W, W = ((w.alloc (.cells #[.int .i64 r.1, .int .i64 r.2] 35)).alloc (.cells #[.int .i64 0, .slice none 0 0] 64)).alloc (.map #[] 0) := ⟨_, rfl⟩
  have hs : W.heap.size = w.heap.size + 3 := by rw [hW]; simp
  have B0 : Below w.heap.size w W := by rw [hW]; exact (((Below.refl _ _).alloc (Nat.le_refl _) _).alloc (by simp) _).alloc (by simp; omega) _
  have hG0 : GM W (w.heap.size + 2) zeroF := by
    have := gm_made ((w.alloc (.cells #[.int .i64 r.1, .int .i64 r.2] 35)).alloc (.cells #[.int .i64 0, .slice none 0 0] 64))
    simp only [World.size_alloc] at this
    rw [hW]
    exact this
  have hmk : (Instr.makeMap 92 none).run Try.prog ((w.alloc (.cells #[.int .i64 r.1, .int .i64 r.2] 35)).alloc (.cells #[.int .i64 0, .slice none 0 0] 64)) = .ok (.map (some (w.heap.size + 2))) W := by
    rw [hW]
    have := run_makeMap (P := Try.prog) 92 ((w.alloc (.cells #[.int .i64 r.1, .int .i64 r.2] 35)).alloc (.cells #[.int .i64 0, .slice none 0 0] 64))
    simp only [World.size_alloc] at this
    exact this
  have hBm : Below ((w.alloc (.cells #[.int .i64 r.1, .int .i64 r.2] 35)).alloc (.cells #[.int .i64 0, .slice none 0 0] 64)).heap.size ((w.alloc (.cells #[.int .i64 r.1, .int .i64 r.2] 35)).alloc (.cells #[.int .i64 0, .slice none 0 0] 64)) W := by rw [hW]; exact (Below.refl _ _).alloc (Nat.le_refl _) _
  have r0 : W.cell? ⟨w.heap.size, 0, none⟩ = some (.int .i64 r.1) := (hBm.cell (p := ⟨w.heap.size, 0, none⟩) (by simp; omega)).trans (by simp)
  have r1 : W.cell? ⟨w.heap.size, 1, none⟩ = some (.int .i64 r.2) := (hBm.cell (p := ⟨w.heap.size, 1, none⟩) (by simp; omega)).trans (by simp)
  have c0 : W.cell? ⟨w.heap.size + 1, 0, none⟩ = some (.int .i64 0) := (hBm.cell (p := ⟨w.heap.size + 1, 0, none⟩) (by simp)).trans (by simp)
  have c1 : W.cell? ⟨w.heap.size + 1, 1, none⟩ = some (.slice none 0 0) := (hBm.cell (p := ⟨w.heap.size + 1, 1, none⟩) (by simp)).trans (by simp)
  have f0 : ∀ j, W.frozen? ⟨w.heap.size + 1, j, none⟩ = false := fun j => (hBm.frozen (p := ⟨w.heap.size + 1, j, none⟩) (by simp)).trans (by simp [go_sem])
  clear hBm
  have hlw : w.heap.size + 1 < W.heap.size := by omega
  have hlw0 : w.heap.size < W.heap.size := by omega
  have HB0 : Hid (Below w.heap.size w W) := B0
  have HR : Hid (RulesIn W a n zs) := h.below B0
  have HN : Hid (zs.length = n) := h.1
  have HZ : Hid (∀ z ∈ zs, ruleCode z = 0) := hz
  have HK : Hid (∀ z ∈ zs, okR z) := fun z q => (okR_of (hz z q)).1
  have HG0 : Hid (GM W (w.heap.size + 2) zeroF) := hG0
  have hn' : (n : Int) ≤ 16 := by omega
  clear h hz hG0
  go_enter Try.func92, Try.ntmps92
  go_wp2
  rw [← hW]
  clear hW hmk hs
  go_loopw [7, 8] (fun mp s wr => ∃ k b : Nat, mp = .map (some b) ∧ s = .int .i64 ((k : Int) + 1) ∧ GM wr b (ofG (itG zs k)) ∧ (∀ j, j < k → noneHit zs (ofG (itG zs j)) r p) ∧ (∀ j, j < k → stepG zs (itG zs j) ≠ itG zs j) ∧ Below W.heap.size W wr) (fun _ s _ => 10202 - (intOf s).toNat)
  case atStart => exact ⟨0, w.heap.size + 2, rfl, rfl, HG0.out, fun j hj => by omega, fun j hj => by omega, Below.refl _ _⟩
  case round =>
    obtain ⟨k, b, rfl, rfl, hG, hno, hst, hnx⟩ := hrel
    have hkb : k ≤ 10200 := it_bd HK.out hst
    have hkb' : (k : Int) ≤ 10200 := by omega
    have HG : Hid (GM wr b (ofG (itG zs k))) := hG
    have HNo : Hid (∀ j, j < k → noneHit zs (ofG (itG zs j)) r p) := hno
    have HSt : Hid (∀ j, j < k → stepG zs (itG zs j) ≠ itG zs j) := hst
    clear hG hno hst
    obtain ⟨V, rfl⟩ : ∃ V, V = wr := ⟨_, rfl⟩
    go_wp2
    go_loopw [17] (fun i wi => ∃ j : Nat, j ≤ n ∧ i = .int .i64 (j : Int) ∧ (∀ j' y, j' < j → zs[j']? = some y → hitB (ofG (itG zs k)) r p y = false) ∧ Below V.heap.size V wi) (fun i _ => n - (intOf i).toNat)
    case atStart => exact ⟨0, Nat.zero_le _, rfl, fun j' y hj => by omega, Below.refl _ _⟩
    case round =>
      obtain ⟨j, hj, rfl, hbef, hni⟩ := hrel
      have HBf : Hid (∀ j' y, j' < j → zs[j']? = some y → hitB (ofG (itG zs k)) r p y = false) := hbef
      have hWi : Below W.heap.size W wr := hnx.trans (hni.mono hnx.size)
      clear hbef
      by_cases hlt : j < n
      · obtain ⟨g, off, z, e, hzk, hra⟩ := (HR.out.below hWi).at hlt
        subst e
        have hzc : ruleCode z = 0 := HZ.out z (List.mem_of_getElem? hzk)
        have hby : setB (byF (ofG (itG zs k)) z) := byF_set (ofG_set (sg_it HK.out k)) (HK.out z (List.mem_of_getElem? hzk))
        have HT : Hid (∀ X : World, Below wr.heap.size wr X → Calls Try.prog 113 #[.map (some b), .agg #[.int .i64 z.k, .int .i64 z.ho, .int .i64 z.hn, .int .i64 z.w, .int .i64 z.oo, .int .i64 z.on, .int .i64 z.to, .int .i64 z.tn]] X fun e w' => e = .returned (.int .u8 (byF (ofG (itG zs k)) z)) ∧ Below X.heap.size X w') := fun X hX => told_c b _ z X ((HG.out.below HG.out.lt hni).below (by have := HG.out.lt; have := hni.size; omega) hX) hzc
        have HH := hitB_eq (ofG (itG zs k)) r p z
        have e2 : (bits .and .u8 (byF (ofG (itG zs k)) z) (bitI p) != 0) = hasI (byF (ofG (itG zs k)) z) p := and_u8 _ p hby.1 hby.2 hp0 hp1
        generalize byF (ofG (itG zs k)) z = bz at HT HH e2
        have HZk : Hid (zs[j]? = some z) := hzk
        have HNX : Hid (hitB (ofG (itG zs k)) r p z = false → ∀ j' y, j' < j + 1 → zs[j']? = some y → hitB (ofG (itG zs k)) r p y = false) := fun q j' y hj' hy => by
          by_cases ej : j' = j
          · subst ej; rw [HZk.out] at hy; cases hy; exact q
          · exact HBf.out j' y (by omega) hy
        obtain ⟨h0, h1, h2, h3, h4, h5, h6, h7⟩ := hra
        have hlt' : (j : Int) < (n : Int) := by omega
        have heq : ∀ w, (binOp .eql 35 (.agg #[.int .i64 z.ho, .int .i64 z.hn]) (.agg #[.int .i64 r.1, .int .i64 r.2])).run Try.prog w = .ok (.bool (eqRo (z.ho, z.hn) r)) w := fun w => ro_eql (z.ho, z.hn) r w
        have hA : Below wr.heap.size wr (wr.alloc (.cells #[.int .i64 z.k, .int .i64 z.ho, .int .i64 z.hn, .int .i64 z.w, .int .i64 z.oo, .int .i64 z.on, .int .i64 z.to, .int .i64 z.tn] 105)) := (Below.refl _ _).alloc (Nat.le_refl _) _
        have q0 := (hWi.cell (p := ⟨w.heap.size, 0, none⟩) hlw0).trans r0
        have q1 := (hWi.cell (p := ⟨w.heap.size, 1, none⟩) hlw0).trans r1
        have hlz : w.heap.size < wr.heap.size := Nat.lt_of_lt_of_le hlw0 hWi.size
        have hVs := hni.size
        clear hzk hzc hby
        cases he : eqRo (z.ho, z.hn) r
        · rw [he] at heq
          have HN1 := HNX.out (by rw [HH, he]; rfl)
          have HN2 : Hid _ := HN1
          clear HN1 HH e2
          go_wp2_with fail
          exact ⟨⟨j + 1, by omega, by go_num, HN2.out, hni.trans (hA.mono hVs)⟩, by simp [intOf]; omega⟩
        · rw [he] at heq
          obtain ⟨t, ht⟩ : ∃ t, hasI bz p = t := ⟨_, rfl⟩
          rw [ht] at e2
          rw [he, ht, Bool.true_and] at HH
          clear ht
          cases t
          · have HN2 : Hid _ := HNX.out HH
            clear HH
            go_wp2_with (first | (go_at_call 113; refine (HT.out _ hA).mono ?_; rintro e w3 ⟨rfl, hb3⟩) | fail)
            exact ⟨⟨j + 1, by omega, by go_num, HN2.out, (hni.trans (hA.mono hVs)).trans (hb3.mono (by simp; omega))⟩, by simp [intOf]; omega⟩
          · have HD : Hid (d = 0 ∧ ls = [(k : Int) + 1, (j : Int)]) := by
              refine (HA.out k HNo.out).1 (j : Int) (fun q => ?_) ?_
              · have := q z (List.mem_of_getElem? HZk.out); rw [HH] at this; cases this
              · have := hit_here j z HZk.out HBf.out HH 0
                rw [this]; simp
            clear HH
            go_upto_region 8 with (first | (go_at_call 113; refine (HT.out _ hA).mono ?_; rintro e w3 ⟨rfl, hb3⟩) | fail)
            have hAW := hWi.trans (hA.mono hWi.size)
            have hb4 : Below W.heap.size W w3 := hAW.trans (hb3.mono hAW.size)
            have d0 := (hb4.cell (p := ⟨w.heap.size + 1, 0, none⟩) hlw).trans c0
            have d1 := (hb4.cell (p := ⟨w.heap.size + 1, 1, none⟩) hlw).trans c1
            have g0 := (hb4.frozen (p := ⟨w.heap.size + 1, 0, none⟩) hlw).trans (f0 0)
            have g1 := (hb4.frozen (p := ⟨w.heap.size + 1, 1, none⟩) hlw).trans (f0 1)
            have hw : w.heap.size + 1 < w3.heap.size := Nat.lt_of_lt_of_le hlw hb4.size
            have hBx : Below w.heap.size w w3 := HB0.out.trans (hb4.mono HB0.out.size)
            clear hb3 hAW hA h0 h1 h2 h3 h4 h5 h6 h7 heq e2 q0 q1
            go_wp2
            refine bodyPost_ret (v := .agg #[.int .i64 0, .slice (some ⟨w3.heap.size, 0, none⟩) 2 2]) (by simp [results, Try.results92, go_sem, d0, d1, hw]) rfl ⟨some ⟨w3.heap.size, 0, none⟩, 2, by rw [HD.out.1, HD.out.2]; rfl, ?_, ?_⟩
            · have h0 := World.ownsRow_lit (base := w.heap.size) (e := 2) (size := 1) ((w3.setCell ⟨w.heap.size + 1, 0, none⟩ (.int .i64 0)).setCell ⟨w.heap.size + 1, 1, none⟩ (.slice (some ⟨w3.heap.size, 0, none⟩) 2 2)) #[.int .i64 ((k : Int) + 1), .int .i64 (j : Int)] 2 (by simp only [World.size_setCell]; omega) (by unfold maxLen; omega) rfl
              simp only [World.size_setCell] at h0
              rw [HD.out.2]
              exact h0
            · refine Below.alloc (Below.setCell (Below.setCell hBx ?_ _) ?_ _) ?_ _
              · show w.heap.size ≤ w.heap.size + 1; omega
              · show w.heap.size ≤ w.heap.size + 1; omega
              · simp only [World.size_setCell]; exact hBx.size
      · have hjn : j = n := by omega
        subst hjn
        have HNone : Hid (noneHit zs (ofG (itG zs k)) r p) := none_all HN.out HBf.out
        have hGi : GM wr b (ofG (itG zs k)) := HG.out.below HG.out.lt hni
        have HGi : Hid (GM wr b (ofG (itG zs k))) := hGi
        have hbl := hGi.lt
        have HRi : Hid (RulesIn wr a j zs) := HR.out.below hWi
        clear hGi
        go_wp2_with fail
        refine (step_c b _ a j cap zs _ HGi.out HRi.out (by omega) HZ.out).mono ?_
        rintro e w2 ⟨b2, rfl, hG2, hb2g, hb2⟩
        have HE : Hid (stepF zs (ofG (itG zs k)) = ofG (itG zs (k + 1))) := (ofG_step HK.out (sg_it HK.out k)).symm
        have HG2 : Hid (GM w2 b2 (ofG (itG zs (k + 1)))) := by rw [← HE.out]; exact hG2
        have HGo : Hid (GM w2 b (ofG (itG zs k))) := HGi.out.below hbl hb2
        have hW2 : Below W.heap.size W w2 := hWi.trans (hb2.mono hWi.size)
        clear hG2
        go_wp2_with fail
        by_cases hfix : stepG zs (itG zs k) = itG zs k
        · have HD : Hid (d = 4 ∧ ls = []) := (HA.out k HNo.out).2 HNone.out hfix
          refine (HQ.out b2 b _ _ _ HG2.out HGo.out true ⟨fun _ => by show ofG (stepG zs (itG zs k)) = _; rw [hfix], fun _ => rfl⟩).mono ?_
          rintro e w3 ⟨rfl, hb3⟩
          have hb4 : Below W.heap.size W w3 := hW2.trans (hb3.mono hW2.size)
          have d0 := (hb4.cell (p := ⟨w.heap.size + 1, 0, none⟩) hlw).trans c0
          have d1 := (hb4.cell (p := ⟨w.heap.size + 1, 1, none⟩) hlw).trans c1
          have g0 := (hb4.frozen (p := ⟨w.heap.size + 1, 0, none⟩) hlw).trans (f0 0)
          have g1 := (hb4.frozen (p := ⟨w.heap.size + 1, 1, none⟩) hlw).trans (f0 1)
          have hw : w.heap.size + 1 < w3.heap.size := Nat.lt_of_lt_of_le hlw hb4.size
          have hBx : Below w.heap.size w w3 := HB0.out.trans (hb4.mono HB0.out.size)
          clear hb3 hfix
          go_wp2
          refine bodyPost_ret (v := .agg #[.int .i64 4, .slice none 0 0]) (by simp [results, Try.results92, go_sem, d0, d1, hw]) rfl ⟨none, 0, by rw [HD.out.1, HD.out.2]; rfl, by rw [HD.out.2]; exact World.ownsRow_nil _ _ _ _, ?_⟩
          refine Below.setCell (Below.setCell hBx ?_ _) ?_ _
          · show w.heap.size ≤ w.heap.size + 1; omega
          · show w.heap.size ≤ w.heap.size + 1; omega
        · refine (HQ.out b2 b _ _ _ HG2.out HGo.out false ⟨fun q => absurd q (by decide), fun q => absurd (sg_ext (sg_step HK.out (sg_it HK.out k)) (sg_it HK.out k) (fun r => congrFun q r)) hfix⟩).mono ?_
          rintro e w3 ⟨rfl, hb3⟩
          have HFx : Hid (stepG zs (itG zs k) ≠ itG zs k) := hfix
          have HG3 : Hid (GM w3 b2 (ofG (itG zs (k + 1)))) := HG2.out.below HG2.out.lt hb3
          have hb4 : Below W.heap.size W w3 := hW2.trans (hb3.mono hW2.size)
          have hk2 : k + 1 ≤ 10200 := it_bd HK.out (fun i hi => by
            by_cases ei : i = k
            · subst ei; exact hfix
            · exact HSt.out i (by omega))
          clear hb3 hfix
          go_wp2
          refine ⟨⟨k + 1, b2, rfl, by go_num, HG3.out, fun i hi => ?_, fun i hi => ?_, hb4⟩, by simp [intOf]; omega⟩
          · by_cases ei : i = k
            · subst ei; exact HNone.out
            · exact HNo.out i (by omega)
          · by_cases ei : i = k
            · subst ei; exact HFx.out
            · exact HSt.out i (by omega)

end Go.Proofs.Ytnmidppiakdanaa
