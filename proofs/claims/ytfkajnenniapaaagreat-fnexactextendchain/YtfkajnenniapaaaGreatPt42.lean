/- Contracts. -/
import Derived.Test.YtfkajnenniapaaaGreatPt41
namespace Go.Proofs.YtfkajnenniapaaaGreat
set_option maxRecDepth 100000
set_option maxHeartbeats 8000000
open Go.RowKit
set_option linter.unusedVariables false
set_option linter.unusedSimpArgs false

def vcCode (cs : List ConfI) (zs : List ShI) (ch : List (StI × List Int)) : Int := if akCode cs zs = 0 then (if 8 < ch.length then 2 else (chS cs zs (fOf cs) ch ch.length).1) else akCode cs zs
def vcL (cs : List ConfI) (zs : List ShI) (ch : List (StI × List Int)) : List Int := if vcCode cs zs ch = 0 then (chS cs zs (fOf cs) ch ch.length).2.map (fun p : Nat => (p : Int)) else []
def GivesVR (fn : Nat) (a : Option Addr) (n cap : Nat) (b : Option Addr) (m cap' : Nat) (s : Option Addr) (N sc : Nat) (c : Int) (ys : List Int) (w : World) : Prop := Calls Tryz.prog fn #[.slice a n cap, .slice b m cap', .slice s N sc] w fun e w' => ∃ (ra : Option Addr) (rc : Nat), e = .returned (.agg #[.int .i64 c, .slice ra ys.length rc]) ∧ w'.ownsRow w.heap.size 2 1 (.slice ra ys.length rc) ys.length (ys.map (Value.int .i64)) ∧ Below w.heap.size w w'
theorem chL_len (cr : List CrI) : (chL cr).length = cr.length := by unfold chL; rw [List.length_map]
theorem implVerifyChain_c (a : Option Addr) (n cap : Nat) (cs : List ConfI) (b : Option Addr) (m cap' : Nat) (zs : List ShI) (s : Option Addr) (N sc : Nat) (cr : List CrI) (w : World) (hn : n ≤ 1048576) (hle : ConfsLe 1048576 cs) (h : ConfsIn w a n cs) (hm : m ≤ 1048576) (hcap : m ≤ cap') (hcm : cap' ≤ maxLen) (h' : ShIn w b m zs) (hN : N ≤ 1048576) (hs : CrsIn w s N cr) (hl : ∀ (k : Nat) c, cr[k]? = some c → c.gn ≤ 1048576 ∧ c.gn ≤ c.gc ∧ c.gc ≤ maxLen) : GivesVR 22 a n cap b m cap' s N sc (vcCode cs zs (chL cr)) (vcL cs zs (chL cr)) w := by
  unfold GivesVR
  obtain ⟨V, hV⟩ : ∃ V, V = w.alloc (.cells #[.int .i64 0, .slice none 0 0] 44) := ⟨_, rfl⟩
  have BV : Below w.heap.size w V := by rw [hV]; exact zN
  have RB : Hid (BoxW w.heap.size [.int .i64 0, .slice none 0 0] V) := by rw [hV]; exact boxW_new w _ _
  have hVl : w.heap.size < V.heap.size := by rw [hV]; simp
  have HBV := hidX BV
  have HGO := groundOf_c a n cap cs b m cap' zs V hn hle (h.below BV) hm hcap hcm (ShIn.below h' BV)
  have HCL : Hid ((chL cr).length = N) := by show _ = _; rw [chL_len]; exact hs.len
  obtain ⟨v, hv⟩ : ∃ v, akCode cs zs = v := ⟨_, rfl⟩
  rw [hv] at HGO
  have hN' : (N : Int) ≤ 1048576 := by omega
  by_cases v0 : v = 0
  · subst v0
    obtain ⟨hk1, hk2⟩ := ak_ok hv
    obtain ⟨hn1, hn8, -⟩ := cfs_ok hk1
    rw [h.len] at hn1 hn8
    obtain ⟨f, hf⟩ : ∃ f, fOf cs = f := ⟨_, rfl⟩
    have hgr : grV a n cap b m cap' cs = .agg #[.slice a n cap, .slice b m cap', .int .i64 f] := by unfold grV; rw [if_pos hk1, hf]
    rw [hgr] at HGO
    have HGO := hidX HGO
    have HEO : Hid (∀ p, p < n → 0 ≤ eAt cs p ∧ eAt cs p ≤ 100) := fun p hp => by
      have := e_of hk1 (p := p) (by rw [h.len]; exact hp)
      omega
    rw [hf] at hk2
    by_cases h8 : 8 < N
    · have HVC : Hid (vcCode cs zs (chL cr) = 2) := by show _ = _; unfold vcCode; rw [if_pos hv, HCL.out, if_pos h8]
      have HVL : Hid (vcL cs zs (chL cr) = []) := by show _ = _; unfold vcL; rw [if_neg (by rw [HVC.out]; omega)]
      rw [HVC.out, HVL.out]
      have h8b : decide ((N : Int) > 8) = true := by simp; omega
      clear h h' hs hk1 hk2 hf hgr hv BV hl HEO
      go_enter Tryz.func22, Tryz.ntmps22
      go_upto_region 1 with fail
      rw [← hV]
      clear hV
      go_wp2_with fail
      refine HGO.out.mono ?_
      rintro e w1 ⟨rfl, hb1⟩
      have HB1 := hidX hb1
      have X2 := BoxW.below RB.out hVl HB1.out
      have r0 := X2.1 0 _ rfl
      have r1 := X2.1 1 _ rfl
      have f0 := X2.2 0
      have f1 := X2.2 1
      have hw2 : w.heap.size < w1.heap.size := by have := HB1.out.size; omega
      clear X2 hb1
      go_wp2_with fail
      refine bodyPost_ret (v := .agg #[.int .i64 2, .slice none 0 0]) (by simp [results, Tryz.results22, go_sem, r0, r1, hw2]) rfl ⟨none, 0, rfl, World.ownsRow_nil _ _ _ _, ?_⟩
      have HZ := HBV.out.trans (HB1.out.mono HBV.out.size)
      refine Below.alloc (Below.setCell (Below.setCell HZ ?_ _) ?_ _) ?_ _
      · exact Nat.le_refl _
      · exact Nat.le_refl _
      · simp; omega
    · have h8' : N ≤ 8 := by omega
      have h8b : decide ((N : Int) > 8) = false := by simp; omega
      obtain ⟨q, hq⟩ : ∃ q, (chS cs zs f (chL cr) N).1 = q := ⟨_, rfl⟩
      have HVC : Hid (vcCode cs zs (chL cr) = q) := by show _ = _; unfold vcCode; rw [if_pos hv, HCL.out, if_neg h8, hf, hq]
      have HVL : Hid (vcL cs zs (chL cr) = if q = 0 then (chS cs zs f (chL cr) N).2.map (fun p : Nat => (p : Int)) else []) := by show _ = _; unfold vcL; rw [HVC.out, HCL.out, hf]
      have HQ : Hid ((chS cs zs f (chL cr) N).1 = q) := hq
      have HSH : Hid (shCode f zs = 0) := hk2
      have HC := hidX (h.below BV)
      have HS := hidX (ShIn.below h' BV)
      have HT := hidX (hs.below BV)
      have HL := hidX hl
      rw [HVC.out]
      clear h h' hs hk1 hk2 hf hgr hv BV hl h8 hq
      go_enter Tryz.func22, Tryz.ntmps22
      go_upto_region 1 with fail
      rw [← hV]
      clear hV
      go_wp2_with fail
      refine HGO.out.mono ?_
      rintro e w1 ⟨rfl, hb1⟩
      obtain ⟨V1, hV1⟩ : ∃ V1, V1 = w1.alloc (.cells #[.slice a n cap, .slice b m cap', .int .i64 f] 82) := ⟨_, rfl⟩
      have B1 : Below w1.heap.size w1 V1 := by rw [hV1]; exact zN
      have HG1 : Hid (BoxV w1.heap.size [.slice a n cap, .slice b m cap', .int .i64 f] V1) := by rw [hV1]; exact (boxV_new w1 _ _).out
      have hGl : w1.heap.size < V1.heap.size := by rw [hV1]; simp
      have HB1 : Hid (Below V.heap.size V V1) := hb1.trans (B1.mono hb1.size)
      clear B1 hb1 HGO
      go_upto_region 2 with fail
      rw [← hV1]
      clear hV1
      generalize w1.heap.size = Gb at HG1 hGl ⊢
      go_wp2_with fail
      refine (pathFrom_c V1).mono ?_
      rintro e w3 ⟨g, rfl, how, hb3⟩
      obtain ⟨V3, hV3⟩ : ∃ V3, V3 = w3.alloc (.cells #[.slice (some ⟨g, 0, none⟩) 1 1] 86) := ⟨_, rfl⟩
      have B3 : Below w3.heap.size w3 V3 := by rw [hV3]; exact zN
      have HPA : Hid (PathAt V3 w3.heap.size V1.heap.size [0] g 1) := by
        refine ⟨?_, ?_⟩
        · rw [hV3]
          show (w3.heap.push _)[w3.heap.size]? = _
          simp
        · have := low_owns how (B' := V1.heap.size) (by omega)
          exact owns_kept this (fun q e => B3.block q (this.lt q e).2)
      have HB3 : Hid (Below V1.heap.size V1 V3) := hb3.trans (B3.mono hb3.size)
      have hL3 : V1.heap.size ≤ w3.heap.size := hb3.size
      have G3 := ((BoxV.hold HG1.out hGl).below HB3.out).out
      have g0 := G3 0 _ rfl
      have g1 := G3 1 _ rfl
      have g2 := G3 2 _ rfl
      have hG3 : Gb < V3.heap.size := by have := HB3.out.size; omega
      clear B3 hb3 how G3
      go_upto_region 7 with fail
      rw [← hV3]
      clear hV3
      generalize w3.heap.size = Pb at HPA hL3 ⊢
      have HFI : Hid (Calls Tryz.prog 53 #[.pointer (some ⟨Pb, 0, none⟩), .slice s N sc, .func (.func 54) #[.agg #[.slice a n cap, .slice b m cap', .int .i64 f]] #[]] V3 fun e w' => e = .returned (.int .i64 q) ∧ (∃ g c, PathAt w' Pb V1.heap.size (chS cs zs f (chL cr) N).2 g c) ∧ Below V1.heap.size V1 w') := by
        have := chainFill_c Pb a n cap cs b m cap' zs f N sc s cr g 1 V1 V3 HSH.out hn1 hn h8' (HC.out.below HB1.out) hm hcap hcm (ShIn.below HS.out HB1.out) HEO.out (HT.out.below HB1.out) HL.out hL3 HPA.out HB3.out
        rw [HQ.out] at this
        exact this
      go_wp2_with fail
      refine HFI.out.mono ?_
      rintro e w5 ⟨rfl, ⟨g', c', hp5⟩, hb5⟩
      have HB5 : Hid (Below V.heap.size V w5) := HB1.out.trans (hb5.mono HB1.out.size)
      have X2 := BoxW.below RB.out hVl HB5.out
      have r0 := X2.1 0 _ rfl
      have r1 := X2.1 1 _ rfl
      have f0 := X2.2 0
      have f1 := X2.2 1
      have hw2 : w.heap.size < w5.heap.size := by have := HB5.out.size; omega
      have hz1 := HB1.out.size
      by_cases q0 : q = 0
      · subst q0
        obtain ⟨ln, hln⟩ : ∃ l, (chS cs zs f (chL cr) N).2.length = l := ⟨_, rfl⟩
        have hc5 : w5.cell? ⟨Pb, 0, none⟩ = some (.slice (some ⟨g', 0, none⟩) ln c') := by
          have := hp5.bx
          rw [hln] at this
          unfold World.cell?
          simp only
          rw [this]
          simp
        have hp5l := zL w5 _ hc5
        have HO5 : Hid (w5.ownsRow V1.heap.size 2 1 (.slice (some ⟨g', 0, none⟩) ln c') ln ((chS cs zs f (chL cr) N).2.map (fun p : Nat => Value.int .i64 (p : Int)))) := by rw [← hln]; exact hp5.ow
        have HLN : Hid ((chS cs zs f (chL cr) N).2.length = ln) := hln
        have HVL2 : Hid (vcL cs zs (chL cr) = (chS cs zs f (chL cr) N).2.map (fun p : Nat => (p : Int))) := by show _ = _; rw [HVL.out, if_pos rfl]
        clear X2 hp5 hb5 hln
        go_wp2_with fail
        refine bodyPost_ret (v := .agg #[.int .i64 0, .slice (some ⟨g', 0, none⟩) ln c']) (by simp [results, Tryz.results22, go_sem, r0, r1, hw2]) rfl ⟨some ⟨g', 0, none⟩, c', by rw [HVL2.out, List.length_map, HLN.out], ?_, ?_⟩
        · rw [HVL2.out, List.length_map, HLN.out, List.map_map]
          exact low_owns (ownsE_set (ownsE_set HO5.out (a := ⟨w.heap.size, 0, none⟩) (by show w.heap.size < _; omega) _) (a := ⟨w.heap.size, 1, none⟩) (by show w.heap.size < _; omega) _) (by omega)
        · exact ((HBV.out.trans (HB5.out.mono HBV.out.size)).setCell (Nat.le_refl _) _).setCell (Nat.le_refl _) _
      · have qb : (q != 0) = true := by simp [q0]
        have HVL2 : Hid (vcL cs zs (chL cr) = []) := by show _ = _; rw [HVL.out, if_neg q0]
        clear X2 hp5 hb5 q0
        go_wp2_with fail
        refine bodyPost_ret (v := .agg #[.int .i64 q, .slice none 0 0]) (by simp [results, Tryz.results22, go_sem, r0, r1, hw2]) rfl ⟨none, 0, by rw [HVL2.out]; rfl, by rw [HVL2.out]; exact World.ownsRow_nil _ _ _ _, ?_⟩
        exact ((HBV.out.trans (HB5.out.mono HBV.out.size)).setCell (Nat.le_refl _) _).setCell (Nat.le_refl _) _
  · have HVC : Hid (vcCode cs zs (chL cr) = v) := by show _ = _; unfold vcCode; rw [if_neg (by rw [hv]; exact v0), hv]
    have HVL : Hid (vcL cs zs (chL cr) = []) := by show _ = _; unfold vcL; rw [if_neg (by rw [HVC.out]; exact v0)]
    have vb : (v != 0) = true := by simp [v0]
    obtain ⟨x0, x1, x2, hgr, hx0, hx1⟩ := gr_agg a n cap b m cap' cs
    rw [hgr] at HGO
    have HGO := hidX HGO
    rw [HVC.out, HVL.out]
    clear h h' hs hv v0 BV HVL HVC hgr hl
    rcases hx0 with rfl | rfl <;> rcases hx1 with rfl | rfl <;>
    (go_enter Tryz.func22, Tryz.ntmps22
     go_upto_region 1 with fail
     rw [← hV]
     clear hV
     go_wp2_with fail
     refine HGO.out.mono ?_
     rintro e w1 ⟨rfl, hb1⟩
     have HB1 := hidX hb1
     have X2 := BoxW.below RB.out hVl HB1.out
     have r0 := X2.1 0 _ rfl
     have r1 := X2.1 1 _ rfl
     have f0 := X2.2 0
     have f1 := X2.2 1
     have hw2 : w.heap.size < w1.heap.size := by have := HB1.out.size; omega
     clear X2 hb1
     go_wp2_with fail
     refine bodyPost_ret (v := .agg #[.int .i64 v, .slice none 0 0]) (by simp [results, Tryz.results22, go_sem, r0, r1, hw2]) rfl ⟨none, 0, rfl, World.ownsRow_nil _ _ _ _, ?_⟩
     have HZ := HBV.out.trans (HB1.out.mono HBV.out.size)
     refine Below.alloc (Below.setCell (Below.setCell HZ ?_ _) ?_ _) ?_ _
     · exact Nat.le_refl _
     · exact Nat.le_refl _
     · simp; omega)

end Go.Proofs.YtfkajnenniapaaaGreat
