/-
  CONTRACTS: chapter 11: l11Read (the model), WholeIn of both programs.
  Conditions: each contract bears its own (the variable errUnreadable holds an error).
-/
import Derived.Test.YtnlmoapopdchkaaDoorPg5
import Derived.Test.YtnlmoapopdchkaaDoorSt10
import Derived.Test.YtnlmoapopdchkaaDoorStM
namespace Go.Proofs.YtnlmoapopdchkaaDoor
open Go.RowKit
set_option linter.unusedVariables false
set_option linter.unusedSimpArgs false

def whC (zs : List Int) : Int := if 240 < zs.length then 2 else 0
def whV (zs : List Int) : Int := if 240 < zs.length then 0 else ((rdL zs).length : Int) * 6

set_option maxHeartbeats 400000 in
theorem l11Long_c (a : Option Addr) (n cap : Nat) (t : Bool) (w : World) (hn : n ≤ 1048576) (ht : decide (240 < n) = t) :
    Calls Tryd.prog 16 #[.slice a n cap] w fun e w' => e = .returned (.bool t) ∧ w = w' := by
  have hni : (n : Int) ≤ 1048576 := by omega
  have HT : Hid (decide ((240 : Int) < (n : Int)) = t) := by show _ = _; rw [← ht]; simp only [decide_eq_decide]; omega
  clear ht
  go_enter Tryd.func16, Tryd.ntmps16
  go_wp2
  go_ret
  exact ⟨by rw [← HT.out]; rfl, rfl⟩

theorem cell_fiveP (w : World) (x : StI) (t : TypeId) : ∀ j u, [Value.int .i64 x.k, .int .i64 x.e, .int .i64 x.f, .int .i64 x.s, .int .i64 x.n][j]? = some u → (w.alloc (.cells #[.int .i64 x.k, .int .i64 x.e, .int .i64 x.f, .int .i64 x.s, .int .i64 x.n] t)).cell? ((⟨w.heap.size, 0, none⟩ : Addr).add j) = some u := by
  intro j u e
  rw [Go.WideShapes.add_plain, Nat.zero_add]
  exact (boxV_new w #[.int .i64 x.k, .int .i64 x.e, .int .i64 x.f, .int .i64 x.s, .int .i64 x.n] t).out j u e

set_option maxRecDepth 20000 in
set_option maxHeartbeats 2000000 in
theorem l11Read_c (a : Option Addr) (n cap : Nat) (zs : List Int) (w : World) (hn : n ≤ 240) (hc : n ≤ cap) (hcm : cap ≤ maxLen) (h : IntIn w a n zs) :
    Calls Tryd.prog 17 #[.slice a n cap] w fun e w' => ∃ a' c', e = .returned (.slice a' (rdL zs).length c') ∧ OwnSt w' w.heap.size (.slice a' (rdL zs).length c') (rdL zs) ∧ Below w.heap.size w w' := by
  have HR := hidQ h
  have HL : Hid (zs.length = n) := h.1
  have hnl : (n : Int) ≤ 240 := by omega
  have hcl : (n : Int) ≤ (cap : Int) := by omega
  obtain ⟨xs, hxs⟩ : ∃ xs, rdL zs = xs := ⟨_, rfl⟩
  have HXS := hidQ hxs
  rw [hxs]
  obtain ⟨N, hN⟩ : ∃ N, xs.length = N := ⟨_, rfl⟩
  have HN := hidQ hN
  have hNn : N * 6 ≤ n := by have := rd_end (zs := zs); rw [hxs, hN, HL.out] at this; exact this
  obtain ⟨i0, hi, hz0, hz1, hz2⟩ := info_parts Tryd.info47
  have hO0 : Hid (OwnSt (w.alloc (.cells #[] 47)) w.heap.size (.slice (some ⟨w.heap.size, 0, none⟩) 0 0) []) := World.ownsRow_lit (base := w.heap.size) (e := 47) (size := 5) w #[] 0 (Nat.le_refl _) (by unfold maxLen; omega) rfl
  clear h hxs hN
  go_enter Tryd.func17, Tryd.ntmps17
  go_wp2_with fail
  go_loopw [3, 4] (fun v i wr => ∃ k : Nat, k ≤ N ∧ i = .int .i64 ((k : Int) * 6) ∧ Hid (∃ g c, v = .slice (some ⟨g, 0, none⟩) k c ∧ OwnSt wr w.heap.size (.slice (some ⟨g, 0, none⟩) k c) (xs.take k)) ∧ Below w.heap.size w wr) (fun _ i _ => 240 - (intOf i).toNat)
  case atStart => exact ⟨0, Nat.zero_le _, rfl, ⟨_, _, rfl, hO0.out⟩, (Below.refl _ _).alloc (Nat.le_refl _) _⟩
  case round =>
    clear hO0
    obtain ⟨k, hk, rfl, HO, hbw⟩ := hrel
    have hw6 : IntKind.i64.wrap ((k : Int) * 6 + 6) = (k : Int) * 6 + 6 := by rw [IntKind.wrap_i64]; omega
    obtain ⟨g, c, rfl, hO⟩ := HO.out
    have HO2 := hidQ hO
    have BW := hidQ hbw
    clear hO HO
    by_cases hfit : (k : Int) * 6 + 6 ≤ (n : Int)
    · have hk0 : (0 : Int) ≤ (k : Int) * 6 := by omega
      have hk1 : (k : Int) * 6 ≤ (k : Int) * 6 + 6 := by omega
      have hk2 : (k : Int) * 6 + 6 ≤ (cap : Int) := by omega
      obtain ⟨b, off, rfl, hcc⟩ := HR.out.2 (by omega)
      have h1 : ((k : Int) * 6).toNat = k * 6 := by omega
      have h2 : ((k : Int) * 6 + 6).toNat = k * 6 + 6 := by omega
      have h3 : ¬ cap = k * 6 := by omega
      have h4 : k * 6 + 6 - k * 6 = 6 := by omega
      have PI : Hid (IntIn wr (some ⟨b, off + k * 6, none⟩) 6 (pieceZ zs k)) := by
        refine IntIn.below (w := w) ⟨piece_len (by rw [HL.out]; omega), fun _ => ⟨b, off + k * 6, rfl, fun j x e => ?_⟩⟩ hbw
        have hj : j < 6 := by
          by_cases q : j < 6
          · exact q
          · rw [List.getElem?_eq_none (by rw [piece_len (by rw [HL.out]; omega)]; omega)] at e; cases e
        rw [piece_at hj] at e
        rw [Nat.add_assoc]
        exact hcc _ x e
      obtain ⟨x, hG, hGx⟩ := l7Unpack_c (some ⟨b, off + k * 6, none⟩) 6 (cap - k * 6) (pieceZ zs k) wr PI.out
      obtain ⟨t, ht⟩ : ∃ t, (unpB (pieceZ zs k)).isSome = t := ⟨_, rfl⟩
      rw [ht] at hG hGx
      have HT := hidQ ht
      have HGX := hidQ hGx
      unfold GivesV at hG
      have HG := hidQ hG
      clear hG hGx ht PI hcc hbw
      go_wp2_with fail
      refine HG.out.mono ?_
      rintro e w1 ⟨rfl, hb1⟩
      have O1 := hidQ (HO2.out.below hb1)
      have B1 := hidQ (BW.out.trans (hb1.mono BW.out.size))
      clear hb1 HG HO2
      cases t
      · have hkN : k = N := by
          by_cases q : k < N
          · have e := rd_some (zs := zs) (k := k) (List.getElem?_eq_getElem (by rw [HXS.out, HN.out]; exact q))
            have ht := HT.out
            rw [e] at ht
            cases ht
          · omega
        subst hkN
        have HTK : Hid (xs.take k = xs) := by show _ = _; rw [← HN.out]; exact List.take_length
        go_wp2_with fail
        go_ret
        refine ⟨some ⟨g, 0, none⟩, c, ?_, ?_, B1.out.alloc B1.out.size _⟩
        · rw [HN.out]; rfl
        · have q := O1.out.alloc (.cells #[.int .i64 x.k, .int .i64 x.e, .int .i64 x.f, .int .i64 x.s, .int .i64 x.n] 47)
          rw [HTK.out] at q
          rw [HN.out]
          exact q
      · have hkN : k < N := by
          by_cases q : k < N
          · exact q
          · have e := rd_none zs
            rw [HXS.out, HN.out, show N = k by omega] at e
            have ht := HT.out
            rw [e] at ht
            cases ht
        have HXK : Hid (xs[k]? = some x) := by
          have e := rd_some (zs := zs) (k := k) (List.getElem?_eq_getElem (by rw [HXS.out, HN.out]; exact hkN))
          have hx := HGX.out rfl
          unfold unpS at hx
          rw [e] at hx
          show xs[k]? = some x
          have q : (rdL zs)[k]? = some x := by rw [List.getElem?_eq_getElem (by rw [HXS.out, HN.out]; exact hkN), hx]; rfl
          rw [HXS.out] at q
          exact q
        have HTN : Hid (xs.take (k + 1) = xs.take k ++ [x]) := by show _ = _; rw [List.take_add_one, HXK.out]; rfl
        have HLK : Hid ((xs.take k).length = k) := by show _ = _; rw [List.length_take, HN.out]; omega
        obtain ⟨Z, hZ⟩ : ∃ Z, Z = w1.alloc (.cells #[.int .i64 x.k, .int .i64 x.e, .int .i64 x.f, .int .i64 x.s, .int .i64 x.n] 47) := ⟨_, rfl⟩
        have OZ : Hid (OwnSt Z w.heap.size (.slice (some ⟨g, 0, none⟩) k c) (xs.take k)) := by rw [hZ]; exact O1.out.alloc _
        have BZ : Hid (Below w.heap.size w Z) := by rw [hZ]; exact B1.out.alloc B1.out.size _
        have XZ : Hid (Hold w1.heap.size (w1.heap.size + 1) (BoxV w1.heap.size [.int .i64 x.k, .int .i64 x.e, .int .i64 x.f, .int .i64 x.s, .int .i64 x.n]) Z) := by rw [hZ]; exact boxV_new w1 #[.int .i64 x.k, .int .i64 x.e, .int .i64 x.f, .int .i64 x.s, .int .i64 x.n] 47
        go_upto_region 6 with fail
        rw [← hZ]
        clear hZ O1 B1
        generalize w1.heap.size = bz at XZ ⊢
        have y0 := XZ.out.out 0 _ rfl
        have y1 := XZ.out.out 1 _ rfl
        have y2 := XZ.out.out 2 _ rfl
        have y3 := XZ.out.out 3 _ rfl
        have y4 := XZ.out.out 4 _ rfl
        have hzl : bz < Z.heap.size := XZ.out.le
        have OW : Hid ((Z.alloc (.cells #[.int .i64 x.k, .int .i64 x.e, .int .i64 x.f, .int .i64 x.s, .int .i64 x.n] 47)).ownsRow w.heap.size 47 5 (.slice (some ⟨g, 0, none⟩) k c) k (flatSt (xs.take k))) := by
          have q := OZ.out.alloc (.cells #[.int .i64 x.k, .int .i64 x.e, .int .i64 x.f, .int .i64 x.s, .int .i64 x.n] 47)
          unfold OwnSt at q
          rw [HLK.out] at q
          exact q
        go_wp2_with (at_builtin; refine wpList_append_own _ rfl _ _ 23 rfl w.heap.size 47 i0 (.agg #[.int .i64 0, .int .i64 0, .int .i64 0, .int .i64 0, .int .i64 0]) 5 40 Tryd.underlying23 hi hz0 hz1 hz2 rfl (by decide) (.slice (some ⟨g, 0, none⟩) k c) k (flatSt (xs.take k)) rfl OW.out ⟨Z.heap.size, 0, none⟩ 1 1 [.int .i64 x.k, .int .i64 x.e, .int .i64 x.f, .int .i64 x.s, .int .i64 x.n] rfl rfl (cell_fiveP Z x _) (by simp [Value.oneCell']) (by unfold maxLen; omega) (by omega) (by have := BZ.out.size; simp; omega) ?_)
        intro v5 w5 how5 hgr5 hnil5
        have H5 : Hid (OwnSt w5 w.heap.size v5 (xs.take (k + 1))) := by
          rw [HTN.out]
          refine ownSt_push ?_
          rw [HLK.out]
          exact how5
        have B5 : Hid (Below w.heap.size w w5) := (BZ.out.alloc BZ.out.size _).grown hgr5 (by have := BZ.out.size; simp; omega) (fun q e => (OW.out.lt q e).1)
        obtain ⟨g5, c5, hv5⟩ : ∃ g c, v5 = .slice (some ⟨g, 0, none⟩) (k + 1) c := by
          have hne : v5 ≠ .slice none 0 0 := fun e => hnil5 e
          obtain ⟨g', c', e⟩ := OwnSt.shape H5.out hne
          rw [HTN.out, List.length_append, HLK.out] at e
          exact ⟨g', c', e⟩
        subst hv5
        clear how5 hgr5 hnil5 y0 y1 y2 y3 y4 hzl
        go_wp2_with fail
        exact ⟨⟨k + 1, hkN, by congr 1; push_cast; omega, ⟨g5, c5, rfl, H5.out⟩, B5.out⟩, by simp [intOf]; omega⟩
    · have hkN : k = N := by
        by_cases q : k < N
        · have := rd_long (zs := zs) (k := k) (by rw [HXS.out, HN.out]; exact q)
          rw [HL.out] at this
          omega
        · omega
      subst hkN
      have HTK : Hid (xs.take k = xs) := by show _ = _; rw [← HN.out]; exact List.take_length
      go_wp2_with fail
      go_ret
      refine ⟨some ⟨g, 0, none⟩, c, ?_, ?_, BW.out⟩
      · rw [HN.out]; rfl
      · have q := HO2.out
        rw [HTK.out] at q
        rw [HN.out]
        exact q

end Go.Proofs.YtnlmoapopdchkaaDoor
