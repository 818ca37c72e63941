/- Contracts. -/
import Derived.Test.YtfkajnenniapaaaGreatPt47
namespace Go.Proofs.YtfkajnenniapaaaGreat
set_option maxRecDepth 100000
set_option maxHeartbeats 8000000
open Go.RowKit
set_option linter.unusedVariables false
set_option linter.unusedSimpArgs false

theorem specExtend_c (a : Option Addr) (n cap : Nat) (cs : List ConfI) (b : Option Addr) (m cap' : Nat) (zs : List ShI) (s : Option Addr) (N sc : Nat) (cr : List CrI) (nx : Int) (w : World) (hn : n ≤ 1048576) (hle : ConfsLe 1048576 cs) (h : ConfsIn w a n cs) (hm : m ≤ 1048576) (hcap : m ≤ cap') (hcm : cap' ≤ maxLen) (h' : ShIn w b m zs) (hN : N ≤ 1048576) (hs : CrsIn w s N cr) (hl : ∀ (k : Nat) c, cr[k]? = some c → c.gn ≤ 1048576 ∧ c.gn ≤ c.gc ∧ c.gc ≤ maxLen) : GivesER 28 a n cap b m cap' s N sc nx (exCode cs zs (chL cr) nx) (exX cs zs (chL cr) nx) (exL cs zs (chL cr) nx) w := by
 unfold GivesER
 obtain ⟨V, hV⟩ : ∃ V, V = w.alloc (.cells #[.int .i64 0, .int .i64 0, .int .i64 0, .int .i64 0, .int .i64 0, .int .i64 0, .slice none 0 0] 58) := ⟨_, rfl⟩
 have BV : Below w.heap.size w V := by rw [hV]; exact zN
 have RB : Hid (BoxW w.heap.size [.int .i64 0, .int .i64 0, .int .i64 0, .int .i64 0, .int .i64 0, .int .i64 0, .slice none 0 0] V) := by rw [hV]; exact boxW_new w _ _
 have hVl : w.heap.size < V.heap.size := by rw [hV]; simp
 have HBV := hidX BV
 have HVC := specVerifyChain_c a n cap cs b m cap' zs s N sc cr V hn hle (h.below BV) hm hcap hcm (ShIn.below h' BV) hN (hs.below BV) hl
 unfold GivesVR at HVC
 have HCL : Hid ((chL cr).length = N) := by show _ = _; rw [chL_len]; exact hs.len
 obtain ⟨v, hv⟩ : ∃ v, vcCode cs zs (chL cr) = v := ⟨_, rfl⟩
 obtain ⟨ys, hys⟩ : ∃ ys, vcL cs zs (chL cr) = ys := ⟨_, rfl⟩
 obtain ⟨c, hc⟩ : ∃ c, exCode cs zs (chL cr) nx = c := ⟨_, rfl⟩
 obtain ⟨cx, hx⟩ : ∃ c, exX cs zs (chL cr) nx = c := ⟨_, rfl⟩
 obtain ⟨es, he⟩ : ∃ c, exL cs zs (chL cr) nx = c := ⟨_, rfl⟩
 obtain ⟨ln, hln⟩ : ∃ l, ys.length = l := ⟨_, rfl⟩
 have HLN2 : Hid (ys.length = ln) := hln
 rw [hv, hys, hln] at HVC
 rw [hc, hx, he]
 have HVC := hidX HVC
 have hN' : (N : Int) ≤ 1048576 := by omega
 have HBAD : Hid (∀ q, exPre cs zs (chL cr) nx = q → q ≠ 0 → c = q ∧ cx = ⟨0, 0, 0, 0, 0⟩ ∧ es = []) := fun q h1 h2 => by
  obtain ⟨e1, e2, e3⟩ := ex_bad h1 h2
  exact ⟨hc.symm.trans e1, hx.symm.trans e2, he.symm.trans e3⟩
 have HPRE : Hid (exPre cs zs (chL cr) nx = if v = 0 then (if 8 ≤ N then 2 else nfC cs (eAt cs (exP cs zs (chL cr))) nx) else v) := by show _ = _; unfold exPre; rw [hv, HCL.out]
 have HOK : Hid (exPre cs zs (chL cr) nx = 0 → c = cbCode (fOf cs) zs (exSt cs zs (chL cr) nx) ∧ cx = cbX (fOf cs) zs (exSt cs zs (chL cr) nx) ∧ es = cbL (fOf cs) zs (exSt cs zs (chL cr) nx)) := fun h1 => by
  obtain ⟨e1, e2, e3⟩ := ex_ok h1
  exact ⟨hc.symm.trans e1, hx.symm.trans e2, he.symm.trans e3⟩
 clear hc hx he hln
 by_cases v0 : v = 0
 ·subst v0
  obtain ⟨hk, hN8, hch, hvl⟩ := vc_ok hv
  obtain ⟨hk1, hk2⟩ := ak_ok hk
  obtain ⟨hn1, hn8, hcf⟩ := cfs_ok hk1
  rw [h.len] at hn1 hn8
  rw [HCL.out] at hN8 hch hvl
  by_cases h8 : 8 ≤ N
  ·have h8b : decide ((N : Int) ≥ 8) = true := by simp; omega
   have HEX : Hid (c = 2 ∧ cx = ⟨0, 0, 0, 0, 0⟩ ∧ es = []) := HBAD.out 2 (by rw [HPRE.out]; simp [h8]) (by omega)
   clear h h' hs hl hv hys hk hk1 hk2 hcf hch hvl BV h8
   go_enter Tryz.func28, Tryz.ntmps28
   go_upto_region 1 with fail
   rw [← hV]
   clear hV
   go_wp2_with fail
   refine HVC.out.mono ?_
   rintro e w1 ⟨ra, rc, rfl, how, hb1⟩
   have HOW : Hid (w1.ownsRow V.heap.size 2 1 (.slice ra ln rc) ln (ys.map (Value.int .i64))) := how
   obtain ⟨X, hX⟩ : ∃ X, X = w1.alloc (.cells #[.int .i64 0, .slice ra ln rc] 44) := ⟨_, rfl⟩
   have BX : Below w1.heap.size w1 X := by rw [hX]; exact zN
   have HXB : Hid (BoxV w1.heap.size [.int .i64 0, .slice ra ln rc] X) := by rw [hX]; exact (boxV_new w1 _ _).out
   have hXl : w1.heap.size < X.heap.size := by rw [hX]; simp
   have HBX : Hid (Below V.heap.size V X) := hb1.trans (BX.mono hb1.size)
   have HOX : Hid (X.ownsRow V.heap.size 2 1 (.slice ra ln rc) ln (ys.map (Value.int .i64))) := owns_kept HOW.out (fun q e => BX.block q (HOW.out.lt q e).2)
   clear how hb1 BX
   go_upto_region 2 with fail
   rw [← hX]
   clear hX
   generalize w1.heap.size = Cb at HXB hXl ⊢
   have x0 := HXB.out 0 _ rfl
   have x1 := HXB.out 1 _ rfl
   have X2 := BoxW.below RB.out hVl HBX.out
   have r0 := X2.1 0 _ rfl
   have r1 := X2.1 1 _ rfl
   have r2 := X2.1 2 _ rfl
   have r3 := X2.1 3 _ rfl
   have r4 := X2.1 4 _ rfl
   have r5 := X2.1 5 _ rfl
   have r6 := X2.1 6 _ rfl
   have f0 := X2.2 0
   have f1 := X2.2 1
   have f2 := X2.2 2
   have f3 := X2.2 3
   have f4 := X2.2 4
   have f5 := X2.2 5
   have f6 := X2.2 6
   have hw2 : w.heap.size < X.heap.size := by have := HBX.out.size; omega
   clear X2
   go_wp2_with fail
   refine bodyPost_ret (v := .agg #[.int .i64 2, .int .i64 0, .int .i64 0, .int .i64 0, .int .i64 0, .int .i64 0, .slice none 0 0]) (by simp [results, Tryz.results28, go_sem, r0, r1, r2, r3, r4, r5, r6, hw2]) rfl ⟨none, 0, by rw [HEX.out.1, HEX.out.2.1, HEX.out.2.2]; rfl, by rw [HEX.out.2.2]; exact World.ownsRow_nil _ _ _ _, ?_⟩
   exact below7 (HBV.out.trans (HBX.out.mono HBV.out.size)) _ (Nat.le_refl _) _ _ _ _ _ _ _
  ·have h8b : decide ((N : Int) ≥ 8) = false := by simp; omega
   obtain ⟨f, hf⟩ : ∃ f, fOf cs = f := ⟨_, rfl⟩
   rw [hf] at hch hvl
   obtain ⟨wl, p, hpk, hpn, hlast⟩ := chS_len (cs := cs) (zs := zs) (f := f) (ch := chL cr) (by rw [h.len]; exact hn1) N (by rw [HCL.out]; exact Nat.le_refl _) hch
   rw [h.len] at hpn
   have hexp : exP cs zs (chL cr) = p := by unfold exP; rw [hf, HCL.out]; exact hlast
   obtain ⟨e, hee⟩ : ∃ e, eAt cs p = e := ⟨_, rfl⟩
   obtain ⟨he1, he9⟩ : 1 ≤ e ∧ e ≤ 9 := by rw [← hee]; exact e_of hk1 (by rw [h.len]; exact hpn)
   have HST : Hid (exSt cs zs (chL cr) nx = ⟨3, e, 0, 0, nx⟩) := by show _ = _; unfold exSt; rw [hexp, hee]
   obtain ⟨q, hq⟩ : ∃ q, nfC cs e nx = q := ⟨_, rfl⟩
   have HPQ : Hid (exPre cs zs (chL cr) nx = q) := by show _ = _; rw [HPRE.out, if_pos rfl, if_neg h8, hexp, hee, hq]
   have hlnN : ln = N + 1 := by rw [← HLN2.out, ← hys, hvl, List.length_map, wl]
   have hyp : ys[N]? = some (p : Int) := by rw [← hys, hvl, List.getElem?_map, hpk]; rfl
   obtain ⟨b0, off0, cp, rfl, hcpe, hcpa, -⟩ := h.at hpn
   have hcpe2 : cp.e = e := by rw [← hee]; unfold eAt; rw [hcpe]; rfl
   have hcpf : cp.f = f := by rw [← hf]; exact (hcf p cp hcpe).2
   have HLN : Hid (cs.length = n) := h.len
   have HC : Hid (ConfsIn V (some ⟨b0, off0, none⟩) n cs) := h.below BV
   have HS : Hid (ShIn V b m zs) := ShIn.below h' BV
   have HPA : Hid (ConfAtO V b0 (off0 + p * 5) cp) := hcpa.below BV
   have HYP : Hid (ys[N]? = some (p : Int)) := hyp
   have hpn' : (p : Int) < (n : Int) := by omega
   have HNQ : Hid (nfC cs e nx = q) := hq
   have HF : Hid (fOf cs = f) := hf
   subst hlnN
   clear hv hys hk hk2 hch hvl h8 wl hpk hlast hexp hee hq hyp hs hl hf
   obtain ⟨_, _, cz, ecz, hcz, hcza, -⟩ := h.at (k := 0) (by omega)
   cases ecz
   rw [Nat.zero_mul, Nat.add_zero] at hcza
   have hczf : cz.f = f := by rw [← HF.out]; exact (hcf 0 cz hcz).2
   have HPZ : Hid (ConfAtO V b0 off0 cz) := hcza.below BV
   have hn0 : (0 : Int) < (n : Int) := by omega
   have hnp : 0 < n := by omega
   have hwn : IntKind.i64.wrap ((n : Int) - 1) = (n : Int) - 1 := by rw [IntKind.wrap_i64]; omega
   clear h h' hk1 hcf BV hcpa hcza hcz
   go_enter Tryz.func28, Tryz.ntmps28
   go_upto_region 1 with fail
   rw [← hV]
   clear hV
   go_wp2_with fail
   refine HVC.out.mono ?_
   rintro e w1 ⟨ra, rc, rfl, how, hb1⟩
   have HOW : Hid (w1.ownsRow V.heap.size 2 1 (.slice ra (N + 1) rc) (N + 1) (ys.map (Value.int .i64))) := how
   obtain ⟨X, hX⟩ : ∃ X, X = w1.alloc (.cells #[.int .i64 0, .slice ra (N + 1) rc] 44) := ⟨_, rfl⟩
   have BX : Below w1.heap.size w1 X := by rw [hX]; exact zN
   have HXB : Hid (BoxV w1.heap.size [.int .i64 0, .slice ra (N + 1) rc] X) := by rw [hX]; exact (boxV_new w1 _ _).out
   have hXl : w1.heap.size < X.heap.size := by rw [hX]; simp
   have HBX : Hid (Below V.heap.size V X) := hb1.trans (BX.mono hb1.size)
   have HOX : Hid (X.ownsRow V.heap.size 2 1 (.slice ra (N + 1) rc) (N + 1) (ys.map (Value.int .i64))) := owns_kept HOW.out (fun q e => BX.block q (HOW.out.lt q e).2)
   clear how hb1 BX
   go_upto_region 2 with fail
   rw [← hX]
   clear hX
   generalize w1.heap.size = Cb at HXB hXl ⊢
   have x0 := HXB.out 0 _ rfl
   have x1 := HXB.out 1 _ rfl
   obtain ⟨g, rgc, e2⟩ := owns_sl HOX.out (by omega)
   cases e2
   have hcp : X.cell? ⟨g, N, none⟩ = some (.int .i64 (p : Int)) := by
    rw [HOX.out.cellAt N (by omega), List.getElem?_map, HYP.out]
    rfl
   have hgl := zL X _ hcp
   obtain ⟨y0, -⟩ := HPA.out.below HBX.out
   rw [hcpe2] at y0
   have hyl := zL X _ y0
   have hNN : (N : Int) < (N : Int) + 1 := by omega
   have hN0 : (0 : Int) ≤ (N : Int) := by omega
   have hwN : IntKind.i64.wrap (N : Int) = (N : Int) := by rw [IntKind.wrap_i64]; omega
   have HIN : Hid (∀ W, Calls Tryz.prog 56 #[.int .i64 nx, .int .i64 0, .int .i64 ((n : Int) - 1)] W fun e w' => e = .returned (.bool (inR nx 0 ((n : Int) - 1))) ∧ W = w') := fun W => cin_c nx 0 ((n : Int) - 1) W
   by_cases hr : inR nx 0 ((n : Int) - 1) = true
   ·rw [hr] at HIN
    obtain ⟨hr1, hr2⟩ := (inR_iff _ _ _).1 hr
    obtain ⟨i, rfl⟩ : ∃ i : Nat, nx = (i : Int) := Int.eq_ofNat_of_zero_le hr1
    have hi2 : i < n := by omega
    have hi' : (i : Int) < (n : Int) := by omega
    obtain ⟨_, _, ci, eci, hci, hcia, -⟩ := HC.out.at hi2
    cases eci
    obtain ⟨z0, -⟩ := hcia.below HBX.out
    have hzl := zL X _ z0
    have hwe : IntKind.i64.wrap (e + 1) = e + 1 := by rw [IntKind.wrap_i64]; omega
    have HNF2 : Hid (q = if ci.e = e + 1 then 0 else 10) := by
     show _ = _
     rw [← HNQ.out]
     unfold nfC
     rw [if_neg (by rw [HLN.out]; omega), Int.toNat_natCast, hci]
     by_cases w1 : ci.e = e + 1
     ·rw [if_pos w1, if_neg (by simp [w1])]
     ·rw [if_neg w1, if_pos (by simpa using w1)]
    by_cases hne : ci.e = e + 1
    ·have nb : (ci.e != e + 1) = false := by simp [hne]
     have hq0 : q = 0 := by rw [HNF2.out, if_pos hne]
     subst hq0
     obtain ⟨_, k1, -⟩ := HPZ.out.below HBX.out
     rw [hczf] at k1
     have hkl := zL X _ k1
     have HOK2 := hidX (HOK.out HPQ.out)
     rw [HF.out, HST.out] at HOK2
     have HCM : Hid (∀ W, Below X.heap.size X W → Calls Tryz.prog 57 #[.slice b m cap', .int .i64 f, .agg #[.int .i64 3, .int .i64 e, .int .i64 0, .int .i64 0, .int .i64 (i : Int)]] W fun d w' => ∃ (ra : Option Addr) (rc : Nat), d = .returned (.agg #[.int .i64 c, .int .i64 cx.k, .int .i64 cx.e, .int .i64 cx.f, .int .i64 cx.s, .int .i64 cx.n, .slice ra es.length rc]) ∧ w'.ownsRow W.heap.size 2 1 (.slice ra es.length rc) es.length (es.map (Value.int .i64)) ∧ Below W.heap.size W w') := fun W hW => by
      have := specCombine_c b m cap' zs f ⟨3, e, 0, 0, (i : Int)⟩ W hm hcap hcm (ShIn.below HS.out (HBX.out.trans (hW.mono HBX.out.size)))
      unfold GivesCB at this
      rw [← HOK2.out.1, ← HOK2.out.2.1, ← HOK2.out.2.2] at this
      exact this
     clear hne hci hcia hr hr1 hr2
     go_wp2_with fail
     refine (HIN.out _).mono ?_
     rintro d w' ⟨rfl, rfl⟩
     go_wp2_with fail
     refine (HCM.out _ (Below.refl _ _)).mono ?_
     rintro d w4 ⟨ra4, rc4, rfl, how4, hb4⟩
     have HB4 : Hid (Below V.heap.size V w4) := HBX.out.trans (hb4.mono HBX.out.size)
     have HO4 := hidX how4
     have X2 := BoxW.below RB.out hVl HB4.out
     have r0 := X2.1 0 _ rfl
     have r1 := X2.1 1 _ rfl
     have r2 := X2.1 2 _ rfl
     have r3 := X2.1 3 _ rfl
     have r4 := X2.1 4 _ rfl
     have r5 := X2.1 5 _ rfl
     have r6 := X2.1 6 _ rfl
     have f0 := X2.2 0
     have f1 := X2.2 1
     have f2 := X2.2 2
     have f3 := X2.2 3
     have f4 := X2.2 4
     have f5 := X2.2 5
     have f6 := X2.2 6
     have hw2 : w.heap.size < w4.heap.size := by have := HB4.out.size; omega
     have hz3 := HBX.out.size
     obtain ⟨l4, hl4⟩ : ∃ l, es.length = l := ⟨_, rfl⟩
     rw [hl4]
     have HO5 : Hid (w4.ownsRow X.heap.size 2 1 (.slice ra4 l4 rc4) l4 (es.map (Value.int .i64))) := by rw [← hl4]; exact HO4.out
     have HL4 : Hid (es.length = l4) := hl4
     clear X2 how4 hb4 HO4 hl4 x0 x1 hcp hgl y0 hyl z0 hzl k1 hkl
     go_wp2_with fail
     refine bodyPost_ret (v := .agg #[.int .i64 c, .int .i64 cx.k, .int .i64 cx.e, .int .i64 cx.f, .int .i64 cx.s, .int .i64 cx.n, .slice ra4 l4 rc4]) (by simp [results, Tryz.results28, go_sem, r0, r1, r2, r3, r4, r5, r6, hw2]) rfl ⟨ra4, rc4, by rw [HL4.out], ?_, ?_⟩
     ·rw [HL4.out]
      exact low_owns (own7 HO5.out _ (by omega) _ _ _ _ _ _ _) (by omega)
     ·exact below7 (HBV.out.trans (HB4.out.mono HBV.out.size)) _ (Nat.le_refl _) _ _ _ _ _ _ _
    ·have nb : (ci.e != e + 1) = true := by simp [hne]
     have hq10 : q = 10 := by rw [HNF2.out, if_neg hne]
     subst hq10
     have HEX : Hid (c = 10 ∧ cx = ⟨0, 0, 0, 0, 0⟩ ∧ es = []) := HBAD.out 10 HPQ.out (by omega)
     clear hne hci hcia hr hr1 hr2
     have X2 := BoxW.below RB.out hVl HBX.out
     go_wp2_with fail
     refine (HIN.out _).mono ?_
     rintro d w' ⟨rfl, rfl⟩
     clear X2
     have X2 := BoxW.below RB.out hVl HBX.out
     have r0 := X2.1 0 _ rfl
     have r1 := X2.1 1 _ rfl
     have r2 := X2.1 2 _ rfl
     have r3 := X2.1 3 _ rfl
     have r4 := X2.1 4 _ rfl
     have r5 := X2.1 5 _ rfl
     have r6 := X2.1 6 _ rfl
     have f0 := X2.2 0
     have f1 := X2.2 1
     have f2 := X2.2 2
     have f3 := X2.2 3
     have f4 := X2.2 4
     have f5 := X2.2 5
     have f6 := X2.2 6
     have hw2 : w.heap.size < X.heap.size := by have := HBX.out.size; omega
     clear X2
     go_wp2_with fail
     refine bodyPost_ret (v := .agg #[.int .i64 10, .int .i64 0, .int .i64 0, .int .i64 0, .int .i64 0, .int .i64 0, .slice none 0 0]) (by simp [results, Tryz.results28, go_sem, r0, r1, r2, r3, r4, r5, r6, hw2]) rfl ⟨none, 0, by rw [HEX.out.1, HEX.out.2.1, HEX.out.2.2]; rfl, by rw [HEX.out.2.2]; exact World.ownsRow_nil _ _ _ _, ?_⟩
     exact below7 (HBV.out.trans (HBX.out.mono HBV.out.size)) _ (Nat.le_refl _) _ _ _ _ _ _ _
   ·have hrf : inR nx 0 ((n : Int) - 1) = false := by simpa using hr
    rw [hrf] at HIN
    have hq3 : q = 3 := by
     rw [← HNQ.out]
     unfold nfC
     rw [if_pos]
     rw [HLN.out]
     by_cases w1 : nx < 0
     ·exact .inl w1
     ·refine .inr ?_
      by_cases w2 : (n : Int) ≤ nx
      ·exact w2
      ·exact absurd ((inR_iff nx 0 ((n : Int) - 1)).2 ⟨by omega, by omega⟩) hr
    subst hq3
    have HEX : Hid (c = 3 ∧ cx = ⟨0, 0, 0, 0, 0⟩ ∧ es = []) := HBAD.out 3 HPQ.out (by omega)
    clear hr hrf
    go_wp2_with fail
    refine (HIN.out _).mono ?_
    rintro d w' ⟨rfl, rfl⟩
    have X2 := BoxW.below RB.out hVl HBX.out
    have r0 := X2.1 0 _ rfl
    have r1 := X2.1 1 _ rfl
    have r2 := X2.1 2 _ rfl
    have r3 := X2.1 3 _ rfl
    have r4 := X2.1 4 _ rfl
    have r5 := X2.1 5 _ rfl
    have r6 := X2.1 6 _ rfl
    have f0 := X2.2 0
    have f1 := X2.2 1
    have f2 := X2.2 2
    have f3 := X2.2 3
    have f4 := X2.2 4
    have f5 := X2.2 5
    have f6 := X2.2 6
    have hw2 : w.heap.size < X.heap.size := by have := HBX.out.size; omega
    clear X2
    go_wp2_with fail
    refine bodyPost_ret (v := .agg #[.int .i64 3, .int .i64 0, .int .i64 0, .int .i64 0, .int .i64 0, .int .i64 0, .slice none 0 0]) (by simp [results, Tryz.results28, go_sem, r0, r1, r2, r3, r4, r5, r6, hw2]) rfl ⟨none, 0, by rw [HEX.out.1, HEX.out.2.1, HEX.out.2.2]; rfl, by rw [HEX.out.2.2]; exact World.ownsRow_nil _ _ _ _, ?_⟩
    exact below7 (HBV.out.trans (HBX.out.mono HBV.out.size)) _ (Nat.le_refl _) _ _ _ _ _ _ _
 ·have vb : (v != 0) = true := by simp [v0]
  have HEX : Hid (c = v ∧ cx = ⟨0, 0, 0, 0, 0⟩ ∧ es = []) := HBAD.out v (by rw [HPRE.out, if_neg v0]) v0
  clear h h' hs hl hv hys v0 BV
  go_enter Tryz.func28, Tryz.ntmps28
  go_upto_region 1 with fail
  rw [← hV]
  clear hV
  go_wp2_with fail
  refine HVC.out.mono ?_
  rintro e w1 ⟨ra, rc, rfl, how, hb1⟩
  have HOW : Hid (w1.ownsRow V.heap.size 2 1 (.slice ra ln rc) ln (ys.map (Value.int .i64))) := how
  obtain ⟨X, hX⟩ : ∃ X, X = w1.alloc (.cells #[.int .i64 v, .slice ra ln rc] 44) := ⟨_, rfl⟩
  have BX : Below w1.heap.size w1 X := by rw [hX]; exact zN
  have HXB : Hid (BoxV w1.heap.size [.int .i64 v, .slice ra ln rc] X) := by rw [hX]; exact (boxV_new w1 _ _).out
  have hXl : w1.heap.size < X.heap.size := by rw [hX]; simp
  have HBX : Hid (Below V.heap.size V X) := hb1.trans (BX.mono hb1.size)
  have HOX : Hid (X.ownsRow V.heap.size 2 1 (.slice ra ln rc) ln (ys.map (Value.int .i64))) := owns_kept HOW.out (fun q e => BX.block q (HOW.out.lt q e).2)
  clear how hb1 BX
  go_upto_region 2 with fail
  rw [← hX]
  clear hX
  generalize w1.heap.size = Cb at HXB hXl ⊢
  have x0 := HXB.out 0 _ rfl
  have x1 := HXB.out 1 _ rfl
  have X2 := BoxW.below RB.out hVl HBX.out
  have r0 := X2.1 0 _ rfl
  have r1 := X2.1 1 _ rfl
  have r2 := X2.1 2 _ rfl
  have r3 := X2.1 3 _ rfl
  have r4 := X2.1 4 _ rfl
  have r5 := X2.1 5 _ rfl
  have r6 := X2.1 6 _ rfl
  have f0 := X2.2 0
  have f1 := X2.2 1
  have f2 := X2.2 2
  have f3 := X2.2 3
  have f4 := X2.2 4
  have f5 := X2.2 5
  have f6 := X2.2 6
  have hw2 : w.heap.size < X.heap.size := by have := HBX.out.size; omega
  clear X2
  go_wp2_with fail
  refine bodyPost_ret (v := .agg #[.int .i64 v, .int .i64 0, .int .i64 0, .int .i64 0, .int .i64 0, .int .i64 0, .slice none 0 0]) (by simp [results, Tryz.results28, go_sem, r0, r1, r2, r3, r4, r5, r6, hw2]) rfl ⟨none, 0, by rw [HEX.out.1, HEX.out.2.1, HEX.out.2.2]; rfl, by rw [HEX.out.2.2]; exact World.ownsRow_nil _ _ _ _, ?_⟩
  exact below7 (HBV.out.trans (HBX.out.mono HBV.out.size)) _ (Nat.le_refl _) _ _ _ _ _ _ _

theorem SameCs.xp {cs ds : List ConfI} (h : SameCs cs ds) (zs : List ShI) (ch : List (StI × List Int)) : exP ds zs ch = exP cs zs ch := by
 unfold exP fOf
 rw [h.f0, h.ch]
theorem SameCs.xr {cs ds : List ConfI} (h : SameCs cs ds) (zs : List ShI) (ch : List (StI × List Int)) (nx : Int) : exPre ds zs ch nx = exPre cs zs ch nx := by
 unfold exPre
 rw [h.vc, h.xp, h.eAt, h.nf]
theorem SameCs.xs {cs ds : List ConfI} (h : SameCs cs ds) (zs : List ShI) (ch : List (StI × List Int)) (nx : Int) : exSt ds zs ch nx = exSt cs zs ch nx := by
 unfold exSt
 rw [h.xp, h.eAt]
theorem SameCs.ex {cs ds : List ConfI} (h : SameCs cs ds) (zs : List ShI) (ch : List (StI × List Int)) (nx : Int) : exCode ds zs ch nx = exCode cs zs ch nx ∧ exX ds zs ch nx = exX cs zs ch nx ∧ exL ds zs ch nx = exL cs zs ch nx := by
 unfold exCode exX exL fOf
 rw [h.xr, h.xs, h.f0]
 exact ⟨rfl, rfl, rfl⟩
theorem exL_len (cs : List ConfI) (zs : List ShI) (ch : List (StI × List Int)) (nx : Int) : (exL cs zs ch nx).length ≤ 1000 := by
 unfold exL
 split
 ·unfold cbL
  split
  ·rename_i q
   unfold cbCode at q
   by_cases r : shCode (fOf cs) zs = 0
   ·have h1 := sgL_len zs (exSt cs zs ch nx)
    have h2 := (sh_ok r).2.1
    rw [List.length_take]
    omega
   ·rw [if_neg r] at q; exact absurd q r
  ·simp
 ·simp
theorem specExtend_same {lo hi n : Nat} {cs : List ConfI} {b : Option Addr} {m : Nat} {zs : List ShI} {lr hr N : Nat} {cr : List CrI} {W : World} (nx : Int) (hn : n ≤ 1048576) (hm : m ≤ 1048576) (hN : N ≤ 1048576) (h : CpB lo hi n cs W) (h' : ShIn W b m zs) (h2 : CpR lr hr N cr W) : GivesER 28 (some ⟨lo, 0, none⟩) n n b m m (some ⟨lr, 0, none⟩) N N nx (exCode cs zs (chL cr) nx) (exX cs zs (chL cr) nx) (exL cs zs (chL cr) nx) W := by
 obtain ⟨ds, h1, hs, h3, _, _⟩ := h
 obtain ⟨es, k1⟩ := h2
 have := specExtend_c (some ⟨lo, 0, none⟩) n n ds b m m zs (some ⟨lr, 0, none⟩) N N es nx W hn h3 h1 hm (Nat.le_refl _) (by unfold maxLen; omega) h' hN k1.isIn k1.le
 rw [(hs.ex zs (chL es) nx).1, (hs.ex zs (chL es) nx).2.1, (hs.ex zs (chL es) nx).2.2, k1.chL] at this
 exact this
theorem implExtend_same {lo hi n : Nat} {cs : List ConfI} {b : Option Addr} {m : Nat} {zs : List ShI} {lr hr N : Nat} {cr : List CrI} {W : World} (nx : Int) (hn : n ≤ 1048576) (hm : m ≤ 1048576) (hN : N ≤ 1048576) (h : CpB lo hi n cs W) (h' : ShIn W b m zs) (h2 : CpR lr hr N cr W) : GivesER 29 (some ⟨lo, 0, none⟩) n n b m m (some ⟨lr, 0, none⟩) N N nx (exCode cs zs (chL cr) nx) (exX cs zs (chL cr) nx) (exL cs zs (chL cr) nx) W := by
 obtain ⟨ds, h1, hs, h3, _, _⟩ := h
 obtain ⟨es, k1⟩ := h2
 have := implExtend_c (some ⟨lo, 0, none⟩) n n ds b m m zs (some ⟨lr, 0, none⟩) N N es nx W hn h3 h1 hm (Nat.le_refl _) (by unfold maxLen; omega) h' hN k1.isIn k1.le
 rw [(hs.ex zs (chL es) nx).1, (hs.ex zs (chL es) nx).2.1, (hs.ex zs (chL es) nx).2.2, k1.chL] at this
 exact this

end Go.Proofs.YtfkajnenniapaaaGreat
