/- Contracts. -/
import Derived.Test.YtfkajnenniapaaaGreatPr38
import Derived.Test.YtfkajnenniapaaaGreatPr39
import Derived.Test.YtfkajnenniapaaaGreatPr45
namespace Go.Proofs.YtfkajnenniapaaaGreat
set_option maxRecDepth 100000
set_option maxHeartbeats 8000000
open Go.RowKit
set_option linter.unusedVariables false
set_option linter.unusedSimpArgs false

def GivesRO (fn : Nat) (a : Option Addr) (n cap : Nat) (b : Option Addr) (m cap' : Nat) (c : Int) (ys : List Int) (w : World) : Prop := Calls Tryz.prog fn #[.slice a n cap, .slice b m cap'] w fun e w' => ∃ (ra : Option Addr) (rc : Nat), e = .returned (.agg #[.int .i64 c, .slice ra ys.length rc]) ∧ w'.ownsRow w.heap.size 2 1 (.slice ra ys.length rc) ys.length (ys.map (Value.int .i64)) ∧ Below w.heap.size w w'
theorem specReachOf_c (a : Option Addr) (n cap : Nat) (cs : List ConfI) (b : Option Addr) (m cap' : Nat) (zs : List ShI) (w : World) (hn : n ≤ 1048576) (hle : ConfsLe 1048576 cs) (h : ConfsIn w a n cs) (hm : m ≤ 1048576) (hcap : m ≤ cap') (hcm : cap' ≤ maxLen) (h' : ShIn w b m zs) : GivesRO 8 a n cap b m cap' (akCode cs zs) (rcL cs zs) w := by
 unfold GivesRO
 obtain ⟨V, hV⟩ : ∃ V, V = w.alloc (.cells #[.int .i64 0, .slice none 0 0] 28) := ⟨_, rfl⟩
 have BV : Below w.heap.size w V := by rw [hV]; exact zN
 have RB : Hid (BoxW w.heap.size [.int .i64 0, .slice none 0 0] V) := by rw [hV]; exact boxW_new w _ _
 have hVl : w.heap.size < V.heap.size := by rw [hV]; simp
 have HBV := hidX BV
 have HAS := hidX (l12Asked_c a n cap cs b m cap' zs V hn hle (h.below BV) hm hcap hcm (ShIn.below h' BV))
 obtain ⟨v, hv⟩ : ∃ v, akCode cs zs = v := ⟨_, rfl⟩
 by_cases v0 : v = 0
 ·subst v0
  obtain ⟨ys, hys⟩ : ∃ ys, wyI cs zs (n - 1) = ys := ⟨_, rfl⟩
  have HRL : Hid (rcL cs zs = ys) := by show _ = _; unfold rcL; rw [if_pos hv, h.len]; exact hys
  have HR : Hid (∀ W, Below V.heap.size V W → Calls Tryz.prog 35 #[.slice a n cap, .slice b m cap'] W fun d w' => (∃ (g c : Nat), d = .returned (.slice (some ⟨g, 0, none⟩) ys.length c) ∧ OwnI w' W.heap.size (.slice (some ⟨g, 0, none⟩) ys.length c) ys) ∧ Below W.heap.size W w') := fun W hW => by
   have := l12Reach_c a n cap cs b m cap' zs W hv ((h.below BV).below hW) hm ((ShIn.below h' BV).below hW)
   rw [hys] at this
   exact this
  rw [hv] at HAS ⊢
  rw [HRL.out]
  obtain ⟨q, hq⟩ : ∃ q, ys.length = q := ⟨_, rfl⟩
  have HQ : Hid (ys.length = q) := hq
  rw [hq] at HR ⊢
  clear h h' hv hys hq BV HRL
  go_enter Tryz.func8, Tryz.ntmps8
  go_upto_region 1 with fail
  rw [← hV]
  clear hV
  go_wp2_with fail
  refine HAS.out.mono ?_
  rintro e w1 ⟨rfl, hb1⟩
  have HB1 := hidX hb1
  clear hb1
  go_wp2_with fail
  refine (HR.out _ HB1.out).mono ?_
  rintro e w2 ⟨⟨g, c, rfl, how⟩, hb2⟩
  have HO : Hid (w2.ownsRow w1.heap.size 2 1 (.slice (some ⟨g, 0, none⟩) q c) q (ys.map (Value.int .i64))) := by rw [← HQ.out]; rw [← HQ.out] at how; exact how
  have HB2 : Hid (Below V.heap.size V w2) := HB1.out.trans (hb2.mono HB1.out.size)
  have X2 := BoxW.below RB.out hVl HB2.out
  have r0 := X2.1 0 _ rfl
  have r1 := X2.1 1 _ rfl
  have f0 := X2.2 0
  have f1 := X2.2 1
  have hw2 : w.heap.size < w2.heap.size := by have := HB2.out.size; omega
  have hz1 := HB1.out.size
  clear X2 how hb2
  go_wp2_with fail
  refine bodyPost_ret (v := .agg #[.int .i64 0, .slice (some ⟨g, 0, none⟩) q c]) (by simp [results, Tryz.results8, go_sem, r0, r1, hw2]) rfl ⟨some ⟨g, 0, none⟩, c, rfl, ?_, ?_⟩
  ·exact low_owns (ownsE_set (ownsE_set HO.out (a := ⟨w.heap.size, 0, none⟩) (by show w.heap.size < _; omega) _) (a := ⟨w.heap.size, 1, none⟩) (by show w.heap.size < _; omega) _) (by omega)
  ·exact ((HBV.out.trans (HB2.out.mono HBV.out.size)).setCell (Nat.le_refl _) _).setCell (Nat.le_refl _) _
 ·have HRL : Hid (rcL cs zs = []) := by show _ = _; unfold rcL; rw [if_neg (by rw [hv]; exact v0)]
  have vb : (v != 0) = true := by simp [v0]
  rw [hv] at HAS ⊢
  rw [HRL.out]
  clear h h' hv v0 BV HRL
  go_enter Tryz.func8, Tryz.ntmps8
  go_upto_region 1 with fail
  rw [← hV]
  clear hV
  go_wp2_with fail
  refine HAS.out.mono ?_
  rintro e w1 ⟨rfl, hb1⟩
  have HB1 := hidX hb1
  have X2 := BoxW.below RB.out hVl HB1.out
  have r0 := X2.1 0 _ rfl
  have r1 := X2.1 1 _ rfl
  have f0 := X2.2 0
  have f1 := X2.2 1
  have hw2 : w.heap.size < w1.heap.size := by have := HB1.out.size; omega
  clear X2 hb1
  go_wp2_with fail
  refine bodyPost_ret (v := .agg #[.int .i64 v, .slice none 0 0]) (by simp [results, Tryz.results8, go_sem, r0, r1, hw2]) rfl ⟨none, 0, rfl, World.ownsRow_nil _ _ _ _, ?_⟩
  exact ((HBV.out.trans (HB1.out.mono HBV.out.size)).setCell (Nat.le_refl _) _).setCell (Nat.le_refl _) _
def grV (a : Option Addr) (n cap : Nat) (b : Option Addr) (m cap' : Nat) (cs : List ConfI) : Value := if cfsCode cs = 0 then .agg #[.slice a n cap, .slice b m cap', .int .i64 (fOf cs)] else .agg #[.slice none 0 0, .slice none 0 0, .int .i64 0]
theorem groundOf_c (a : Option Addr) (n cap : Nat) (cs : List ConfI) (b : Option Addr) (m cap' : Nat) (zs : List ShI) (w : World) (hn : n ≤ 1048576) (hle : ConfsLe 1048576 cs) (h : ConfsIn w a n cs) (hm : m ≤ 1048576) (hcap : m ≤ cap') (hcm : cap' ≤ maxLen) (h' : ShIn w b m zs) :
  Calls Tryz.prog 38 #[.slice a n cap, .slice b m cap'] w fun e w' => e = .returned (.tuple #[grV a n cap b m cap' cs, .int .i64 (akCode cs zs)]) ∧ Below w.heap.size w w' := by
 obtain ⟨V, hV⟩ : ∃ V, V = w.alloc (.cells #[.slice none 0 0, .slice none 0 0, .int .i64 0] 82) := ⟨_, rfl⟩
 have BV : Below w.heap.size w V := by rw [hV]; exact zN
 have RB : Hid (BoxW w.heap.size [.slice none 0 0, .slice none 0 0, .int .i64 0] V) := by rw [hV]; exact boxW_new w _ _
 have hVl : w.heap.size < V.heap.size := by rw [hV]; simp
 have HBV := hidX BV
 obtain ⟨k, hk⟩ : ∃ k, cfsCode cs = k := ⟨_, rfl⟩
 have HCF := configsFault_c a n cap cs V hn hle (h.below BV)
 rw [hk] at HCF
 have HCF := hidX HCF
 by_cases k0 : k = 0
 ·subst k0
  obtain ⟨hn1, -, -⟩ := cfs_ok hk
  rw [h.len] at hn1
  obtain ⟨b0, off0, c0, rfl, hc0, hat0, -⟩ := h.at (k := 0) hn1
  rw [Nat.zero_mul, Nat.add_zero] at hat0
  obtain ⟨f, hf⟩ : ∃ f, fOf cs = f := ⟨_, rfl⟩
  have hcf : c0.f = f := by rw [← hf]; unfold fOf; rw [hc0]; rfl
  have HAT : Hid (ConfAtO V b0 off0 c0) := hat0.below BV
  obtain ⟨v, hv⟩ : ∃ v, shCode f zs = v := ⟨_, rfl⟩
  have HSF : Hid (∀ W, Below V.heap.size V W → Calls Tryz.prog 73 #[.slice b m cap', .int .i64 f] W fun e w' => e = .returned (.int .i64 v) ∧ Below W.heap.size W w') := fun W hW => by
   have := implSharesFault_c b m cap' zs f W hm hcap hcm ((ShIn.below h' BV).below hW)
   rw [hv] at this
   exact this
  have HAK : Hid (akCode cs zs = v ∧ grV (some ⟨b0, off0, none⟩) n cap b m cap' cs = .agg #[.slice (some ⟨b0, off0, none⟩) n cap, .slice b m cap', .int .i64 f]) := by
   constructor
   ·unfold akCode
    rw [if_pos hk, ← hv, ← hf]
    rfl
   ·unfold grV
    rw [if_pos hk, hf]
  rw [HAK.out.1, HAK.out.2]
  have hn0 : (0 : Int) < (n : Int) := by omega
  clear h h' hk hc0 hat0 hf hv BV HAK
  go_enter Tryz.func38, Tryz.ntmps38
  go_upto_region 1 with fail
  rw [← hV]
  clear hV
  go_wp2_with fail
  refine HCF.out.mono ?_
  rintro e w1 ⟨rfl, hb1⟩
  have HB1 := hidX hb1
  obtain ⟨_, y1, -⟩ := HAT.out.below hb1
  rw [hcf] at y1
  have hl0 := zL w1 _ y1
  clear hb1 hcf
  go_wp2_with fail
  refine (HSF.out _ HB1.out).mono ?_
  rintro e w2 ⟨rfl, hb2⟩
  have HB2 : Hid (Below V.heap.size V w2) := HB1.out.trans (hb2.mono HB1.out.size)
  have X2 := BoxW.below RB.out hVl HB2.out
  have r0 := X2.1 0 _ rfl
  have r1 := X2.1 1 _ rfl
  have r2 := X2.1 2 _ rfl
  have f0 := X2.2 0
  have f1 := X2.2 1
  have f2 := X2.2 2
  have hw2 : w.heap.size < w2.heap.size := by have := HB2.out.size; omega
  clear X2 hb2
  go_wp2_with fail
  refine bodyPost_ret (v := .tuple #[.agg #[.slice (some ⟨b0, off0, none⟩) n cap, .slice b m cap', .int .i64 f], .int .i64 v]) (by simp [results, Tryz.results38, go_sem, r0, r1, r2, hw2]) rfl ⟨rfl, ?_⟩
  exact (((HBV.out.trans (HB2.out.mono HBV.out.size)).setCell (Nat.le_refl _) _).setCell (Nat.le_refl _) _).setCell (Nat.le_refl _) _
 ·have HAK : Hid (akCode cs zs = k ∧ grV a n cap b m cap' cs = .agg #[.slice none 0 0, .slice none 0 0, .int .i64 0]) := by
   constructor
   ·unfold akCode
    rw [if_neg (by rw [hk]; exact k0), hk]
   ·unfold grV
    rw [if_neg (by rw [hk]; exact k0)]
  have kb : (k != 0) = true := by simp [k0]
  rw [HAK.out.1, HAK.out.2]
  clear h h' hk k0 BV HAK
  go_enter Tryz.func38, Tryz.ntmps38
  go_upto_region 1 with fail
  rw [← hV]
  clear hV
  go_wp2_with fail
  refine HCF.out.mono ?_
  rintro e w2 ⟨rfl, hb2⟩
  have HB2 : Hid (Below V.heap.size V w2) := hb2
  have X2 := BoxW.below RB.out hVl HB2.out
  have r0 := X2.1 0 _ rfl
  have r1 := X2.1 1 _ rfl
  have r2 := X2.1 2 _ rfl
  have f0 := X2.2 0
  have f1 := X2.2 1
  have f2 := X2.2 2
  have hw2 : w.heap.size < w2.heap.size := by have := HB2.out.size; omega
  clear X2 hb2
  go_wp2_with fail
  refine bodyPost_ret (v := .tuple #[.agg #[.slice none 0 0, .slice none 0 0, .int .i64 0], .int .i64 k]) (by simp [results, Tryz.results38, go_sem, r0, r1, r2, hw2]) rfl ⟨rfl, ?_⟩
  exact (((HBV.out.trans (HB2.out.mono HBV.out.size)).setCell (Nat.le_refl _) _).setCell (Nat.le_refl _) _).setCell (Nat.le_refl _) _

theorem confs_tail {w : World} {b off N : Nat} {cs : List ConfI} (h : ConfsIn w (some ⟨b, off, none⟩) (N + 1) cs) : ConfsIn w (some ⟨b, off + 5, none⟩) N (cs.drop 1) := by
 have hl := h.len
 obtain ⟨b', off', e, hr⟩ := h.row (by omega)
 cases e
 refine ⟨by rw [List.length_drop]; omega, fun _ => ⟨b, off + 5, rfl, fun k c q => ?_⟩, fun k c q => ?_⟩
 ·rw [List.getElem?_drop] at q
  have := hr (1 + k) c q
  rw [show off + 5 + k * 5 = off + (1 + k) * 5 by omega]
  exact this
 ·rw [List.getElem?_drop] at q
  exact h.each (1 + k) c q
theorem confs_none {w : World} (a : Option Addr) {cs : List ConfI} (h : cs.length = 1) : ConfsIn w a 0 (cs.drop 1) := by
 have : cs.drop 1 = [] := List.eq_nil_of_length_eq_zero (by rw [List.length_drop]; omega)
 rw [this]
 exact ⟨rfl, fun h => by omega, fun k c e => by simp at e⟩
theorem gr_agg (a : Option Addr) (n cap : Nat) (b : Option Addr) (m cap' : Nat) (cs : List ConfI) : ∃ (x0 x1 : Value) (x2 : Int), grV a n cap b m cap' cs = .agg #[x0, x1, .int .i64 x2] ∧ (x0 = .slice none 0 0 ∨ x0 = .slice a n cap) ∧ (x1 = .slice none 0 0 ∨ x1 = .slice b m cap') := by
 unfold grV
 by_cases q : cfsCode cs = 0
 ·rw [if_pos q]; exact ⟨_, _, _, rfl, .inr rfl, .inr rfl⟩
 ·rw [if_neg q]; exact ⟨_, _, _, rfl, .inl rfl, .inl rfl⟩
theorem implReachOf_c (a : Option Addr) (n cap : Nat) (cs : List ConfI) (b : Option Addr) (m cap' : Nat) (zs : List ShI) (w : World) (hn : n ≤ 1048576) (hnc : n ≤ cap) (hncm : cap ≤ maxLen) (hle : ConfsLe 1048576 cs) (h : ConfsIn w a n cs) (hm : m ≤ 1048576) (hcap : m ≤ cap') (hcm : cap' ≤ maxLen) (h' : ShIn w b m zs) : GivesRO 11 a n cap b m cap' (akCode cs zs) (rcL cs zs) w := by
  unfold GivesRO
  obtain ⟨V, hV⟩ : ∃ V, V = w.alloc (.cells #[.int .i64 0, .slice none 0 0] 28) := ⟨_, rfl⟩
  have BV : Below w.heap.size w V := by rw [hV]; exact zN
  have RB : Hid (BoxW w.heap.size [.int .i64 0, .slice none 0 0] V) := by rw [hV]; exact boxW_new w _ _
  have hVl : w.heap.size < V.heap.size := by rw [hV]; simp
  have HBV := hidX BV
  have HGO := groundOf_c a n cap cs b m cap' zs V hn hle (h.below BV) hm hcap hcm (ShIn.below h' BV)
  obtain ⟨v, hv⟩ : ∃ v, akCode cs zs = v := ⟨_, rfl⟩
  rw [hv] at HGO ⊢
  by_cases v0 : v = 0
  · subst v0
    obtain ⟨hk1, hk2⟩ := ak_ok hv
    obtain ⟨hn1, hn8, -⟩ := cfs_ok hk1
    rw [h.len] at hn1 hn8
    obtain ⟨N, rfl⟩ : ∃ N, n = N + 1 := ⟨n - 1, by omega⟩
    obtain ⟨b0, off0, c0, rfl, -, -, -⟩ := h.at (k := 0) (by omega)
    obtain ⟨f, hf⟩ : ∃ f, fOf cs = f := ⟨_, rfl⟩
    have hgr : grV (some ⟨b0, off0, none⟩) (N + 1) cap b m cap' cs = .agg #[.slice (some ⟨b0, off0, none⟩) (N + 1) cap, .slice b m cap', .int .i64 f] := by unfold grV; rw [if_pos hk1, hf]
    rw [hgr] at HGO
    have HGO := hidX HGO
    have HEO : Hid (∀ p, p < N + 1 → 0 ≤ eAt cs p ∧ eAt cs p ≤ 100) := fun p hp => by
      have := e_of hk1 (p := p) (by rw [h.len]; exact hp)
      omega
    have HRL : Hid (rcL cs zs = (way cs (sgP f zs) N).map (fun p : Nat => (p : Int))) := by show _ = _; unfold rcL wyI; rw [if_pos hv, h.len, hf, Nat.add_sub_cancel]
    have HC := hidX (h.below BV)
    have HS := hidX (ShIn.below h' BV)
    have HCL : Hid (cs.length = N + 1) := h.len
    have h1n : (1 : Int) ≤ ((N + 1 : Nat) : Int) := by omega
    have h1c : (1 : Int) ≤ (cap : Int) := by omega
    have hp1 : 1 ≤ N + 1 := by omega
    rw [HRL.out]
    clear h h' hk1 hk2 hf hgr hv BV
    go_enter Tryz.func11, Tryz.ntmps11
    go_upto_region 1 with fail
    rw [← hV]
    clear hV
    go_wp2_with fail
    refine HGO.out.mono ?_
    rintro e w1 ⟨rfl, hb1⟩
    obtain ⟨V1, hV1⟩ : ∃ V1, V1 = w1.alloc (.cells #[.slice (some ⟨b0, off0, none⟩) (N + 1) cap, .slice b m cap', .int .i64 f] 82) := ⟨_, rfl⟩
    have B1 : Below w1.heap.size w1 V1 := by rw [hV1]; exact zN
    have HG1 : Hid (BoxV w1.heap.size [.slice (some ⟨b0, off0, none⟩) (N + 1) cap, .slice b m cap', .int .i64 f] V1) := by rw [hV1]; exact (boxV_new w1 _ _).out
    have hGl : w1.heap.size < V1.heap.size := by rw [hV1]; simp
    have HB1 : Hid (Below V.heap.size V V1) := hb1.trans (B1.mono hb1.size)
    clear B1 hb1 HGO
    go_upto_region 2 with fail
    rw [← hV1]
    clear hV1
    generalize w1.heap.size = Gb at HG1 hGl ⊢
    go_wp2_with fail
    refine (pathFrom_c V1).mono ?_
    rintro e w3 ⟨g, rfl, how, hb3⟩
    obtain ⟨V3, hV3⟩ : ∃ V3, V3 = w3.alloc (.cells #[.slice (some ⟨g, 0, none⟩) 1 1] 86) := ⟨_, rfl⟩
    have B3 : Below w3.heap.size w3 V3 := by rw [hV3]; exact zN
    have HPA : Hid (PathAt V3 w3.heap.size V1.heap.size [0] g 1) := by
      refine ⟨?_, ?_⟩
      · rw [hV3]
        show (w3.heap.push _)[w3.heap.size]? = _
        simp
      · have := low_owns how (B' := V1.heap.size) (by omega)
        exact owns_kept this (fun q e => B3.block q (this.lt q e).2)
    have HB3 : Hid (Below V1.heap.size V1 V3) := hb3.trans (B3.mono hb3.size)
    have hL3 : V1.heap.size ≤ w3.heap.size := hb3.size
    clear B3 hb3 how
    go_upto_region 5 with fail
    rw [← hV3]
    clear hV3
    generalize w3.heap.size = Pb at HPA hL3 ⊢
    have HFI : Hid (∀ (s : Option Addr) (sc : Nat), (0 < N → s = some ⟨b0, off0 + 5, none⟩) → Calls Tryz.prog 40 #[.pointer (some ⟨Pb, 0, none⟩), .slice s N sc, .func (.func 41) #[] #[.pointer (some ⟨Gb, 0, none⟩)]] V3 fun e w' => (∃ (q : Int), e = .returned (.int .i64 q)) ∧ (∃ g c, PathAt w' Pb V1.heap.size (way cs (sgP f zs) N) g c) ∧ Below V1.heap.size V1 w') := fun s sc hs => by
      refine reachFill_c Pb _ cap cs b m cap' zs f Gb N sc s (cs.drop 1) g 1 V1 V3 (by omega) (HC.out.below HB1.out) hm hcap hcm (ShIn.below HS.out HB1.out) HEO.out HG1.out ?_ hL3 HPA.out HB3.out
      by_cases q : 0 < N
      · rw [hs q]
        exact confs_tail (HC.out.below HB1.out)
      · have : N = 0 := by omega
        subst this
        exact confs_none s HCL.out
    go_wp2_with fail
    all_goals
     (refine (HFI.out _ _ (fun hN => by first | rfl | (exfalso; omega))).mono ?_
      rintro e w5 ⟨⟨q, rfl⟩, ⟨g', c', hp5⟩, hb5⟩
      obtain ⟨ln, hln⟩ : ∃ l, (way cs (sgP f zs) N).length = l := ⟨_, rfl⟩
      have hc5 : w5.cell? ⟨Pb, 0, none⟩ = some (.slice (some ⟨g', 0, none⟩) ln c') := by
        have := hp5.bx
        rw [hln] at this
        unfold World.cell?
        simp only
        rw [this]
        simp
      have hp5l := zL w5 _ hc5
      have HO5 : Hid (w5.ownsRow V1.heap.size 2 1 (.slice (some ⟨g', 0, none⟩) ln c') ln ((way cs (sgP f zs) N).map (fun p : Nat => Value.int .i64 (p : Int)))) := by rw [← hln]; exact hp5.ow
      have HLN : Hid ((way cs (sgP f zs) N).length = ln) := hln
      have HB5 : Hid (Below V.heap.size V w5) := HB1.out.trans (hb5.mono HB1.out.size)
      have X2 := BoxW.below RB.out hVl HB5.out
      have r0 := X2.1 0 _ rfl
      have r1 := X2.1 1 _ rfl
      have f0 := X2.2 0
      have f1 := X2.2 1
      have hw2 : w.heap.size < w5.heap.size := by have := HB5.out.size; omega
      have hz1 := HB1.out.size
      clear X2 hp5 hb5 hln
      go_wp2_with fail
      refine bodyPost_ret (v := .agg #[.int .i64 0, .slice (some ⟨g', 0, none⟩) ln c']) (by simp [results, Tryz.results11, go_sem, r0, r1, hw2]) rfl ⟨some ⟨g', 0, none⟩, c', by rw [List.length_map, HLN.out], ?_, ?_⟩
      · rw [List.length_map, HLN.out, List.map_map]
        exact low_owns (ownsE_set (ownsE_set HO5.out (a := ⟨w.heap.size, 0, none⟩) (by show w.heap.size < _; omega) _) (a := ⟨w.heap.size, 1, none⟩) (by show w.heap.size < _; omega) _) (by omega)
      · exact ((HBV.out.trans (HB5.out.mono HBV.out.size)).setCell (Nat.le_refl _) _).setCell (Nat.le_refl _) _)
  · have HRL : Hid (rcL cs zs = []) := by show _ = _; unfold rcL; rw [if_neg (by rw [hv]; exact v0)]
    have vb : (v != 0) = true := by simp [v0]
    obtain ⟨x0, x1, x2, hgr, hx0, hx1⟩ := gr_agg a n cap b m cap' cs
    rw [hgr] at HGO
    have HGO := hidX HGO
    rw [HRL.out]
    clear h h' hv v0 BV HRL hgr
    rcases hx0 with rfl | rfl <;> rcases hx1 with rfl | rfl <;>
    (go_enter Tryz.func11, Tryz.ntmps11
     go_upto_region 1 with fail
     rw [← hV]
     clear hV
     go_wp2_with fail
     refine HGO.out.mono ?_
     rintro e w1 ⟨rfl, hb1⟩
     have HB1 := hidX hb1
     have X2 := BoxW.below RB.out hVl HB1.out
     have r0 := X2.1 0 _ rfl
     have r1 := X2.1 1 _ rfl
     have f0 := X2.2 0
     have f1 := X2.2 1
     have hw2 : w.heap.size < w1.heap.size := by have := HB1.out.size; omega
     clear X2 hb1
     go_wp2_with fail
     refine bodyPost_ret (v := .agg #[.int .i64 v, .slice none 0 0]) (by simp [results, Tryz.results11, go_sem, r0, r1, hw2]) rfl ⟨none, 0, rfl, World.ownsRow_nil _ _ _ _, ?_⟩
     have HZ := HBV.out.trans (HB1.out.mono HBV.out.size)
     refine Below.alloc (Below.setCell (Below.setCell HZ ?_ _) ?_ _) ?_ _
     · exact Nat.le_refl _
     · exact Nat.le_refl _
     · simp; omega)

theorem SameCs.eAt {cs ds : List ConfI} (h : SameCs cs ds) (p : Nat) : eAt ds p = eAt cs p := by
 unfold Go.Proofs.YtfkajnenniapaaaGreat.eAt
 cases e : ds[p]? with
 | none =>
  have : ds.length ≤ p := by simpa using e
  have e2 : cs[p]? = none := List.getElem?_eq_none (by rw [← h.ln]; exact this)
  rw [e2]
 | some d =>
  obtain ⟨c, hc, hs⟩ := h.get e
  rw [hc]
  exact hs.e
theorem SameCs.nx {cs ds : List ConfI} (h : SameCs cs ds) (P : Int → Nat → Bool) (e : Int) : ∀ k, nx ds P e k = nx cs P e k
 | 0 => rfl
 | k + 1 => by
  have hs : sB ds P e k = sB cs P e k := by unfold sB; rw [h.eAt]
  rw [Go.Proofs.YtfkajnenniapaaaGreat.nx, Go.Proofs.YtfkajnenniapaaaGreat.nx, h.nx P e k, hs]
theorem SameCs.way {cs ds : List ConfI} (h : SameCs cs ds) (P : Int → Nat → Bool) : ∀ k, way ds P k = way cs P k
 | 0 => rfl
 | k + 1 => by
  rw [Go.Proofs.YtfkajnenniapaaaGreat.way, Go.Proofs.YtfkajnenniapaaaGreat.way, h.way P k, h.ln, h.eAt, h.nx]
theorem SameCs.ak {cs ds : List ConfI} (h : SameCs cs ds) (zs : List ShI) : akCode ds zs = akCode cs zs := by
 unfold akCode
 rw [h.cfs, h.f0]
theorem SameCs.rc {cs ds : List ConfI} (h : SameCs cs ds) (zs : List ShI) : rcL ds zs = rcL cs zs := by
 unfold rcL wyI fOf
 rw [h.ak, h.f0, h.ln, h.way]
theorem way_len {cs : List ConfI} {P : Int → Nat → Bool} : ∀ k, (way cs P k).length ≤ k + 1
 | 0 => Nat.le_refl _
 | k + 1 => by
  have := way_len (cs := cs) (P := P) k
  rw [way]
  split
  ·omega
  ·rw [List.length_append]; simp; omega
theorem rcL_len (cs : List ConfI) (zs : List ShI) : (rcL cs zs).length ≤ 1000 := by
 unfold rcL
 split
 ·rename_i q
  obtain ⟨h1, _⟩ := ak_ok q
  obtain ⟨_, h2, _⟩ := cfs_ok h1
  unfold wyI
  rw [List.length_map]
  have := way_len (cs := cs) (P := sgP (fOf cs) zs) (cs.length - 1)
  omega
 ·simp
theorem specReach_same {lo hi n : Nat} {cs : List ConfI} {b : Option Addr} {m : Nat} {zs : List ShI} {W : World} (hn : n ≤ 1048576) (hm : m ≤ 1048576) (h : CpB lo hi n cs W) (h' : ShIn W b m zs) : GivesRO 8 (some ⟨lo, 0, none⟩) n n b m m (akCode cs zs) (rcL cs zs) W := by
 obtain ⟨ds, h1, h2, h3, _, _⟩ := h
 have := specReachOf_c (some ⟨lo, 0, none⟩) n n ds b m m zs W hn h3 h1 hm (Nat.le_refl _) (by unfold maxLen; omega) h'
 rw [h2.ak, h2.rc] at this
 exact this
theorem implReach_same {lo hi n : Nat} {cs : List ConfI} {b : Option Addr} {m : Nat} {zs : List ShI} {W : World} (hn : n ≤ 1048576) (hm : m ≤ 1048576) (h : CpB lo hi n cs W) (h' : ShIn W b m zs) : GivesRO 11 (some ⟨lo, 0, none⟩) n n b m m (akCode cs zs) (rcL cs zs) W := by
 obtain ⟨ds, h1, h2, h3, _, _⟩ := h
 have := implReachOf_c (some ⟨lo, 0, none⟩) n n ds b m m zs W hn (Nat.le_refl _) (by unfold maxLen; omega) h3 h1 hm (Nat.le_refl _) (by unfold maxLen; omega) h'
 rw [h2.ak, h2.rc] at this
 exact this

end Go.Proofs.YtfkajnenniapaaaGreat
