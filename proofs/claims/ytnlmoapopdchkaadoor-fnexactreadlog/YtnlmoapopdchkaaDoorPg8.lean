/-
  CONTRACTS: chapter 11: ReadLog of both programs; answers that are statements.
  Conditions: each contract bears its own (the variable errUnreadable holds an error).
-/
import Derived.Test.YtnlmoapopdchkaaDoorPg7
import Derived.Test.YtnlmoapopdchkaaDoorCk1
import Derived.Test.YtnlmoapopdchkaaDoorPg3
namespace Go.Proofs.YtnlmoapopdchkaaDoor
open Go.RowKit
set_option linter.unusedVariables false
set_option linter.unusedSimpArgs false

/-- What ReadLog tells. -/
def rdX (zs : List Int) : List StI := if 240 < zs.length then [] else rdL zs

set_option maxHeartbeats 400000 in
theorem markSaid_c (c : Int) (B : Nat) (a : Option Addr) (n cap : Nat) (zs : List StI) (w : World) (hz : n = zs.length) (hn : n ≤ 1048576) (h : OwnSt w B (.slice a n cap) zs) :
    Calls Tryd.prog 11 #[.agg #[.int .i64 c, .slice a n cap], .int .i64 1] w fun e w' => e = .returned (.int .i64 (1 + 5 * (n : Int))) ∧ OwnSt w' B (.slice a n cap) (mkSt n) ∧ w.grownBy w' (Value.slice a n cap).ownBlock := by
  have HO : Hid (OwnSt (w.alloc (.cells #[.int .i64 c, .slice a n cap] 25)) B (.slice a n cap) zs) := h.alloc _
  have HZ : Hid (n = zs.length) := hz
  clear h hz
  go_enter Tryd.func11, Tryd.ntmps11
  go_wp2_with (go_at_call 21; refine (markStatements_c B a n cap zs _ HZ.out hn HO.out).mono ?_; rintro e w1 ⟨rfl, hown1, hg1⟩)
  go_ret
  exact ⟨rfl, hown1, ⟨hg1.os, hg1.tape, hg1.output, Nat.le_trans (by simp) hg1.size, fun q hq hne => (hg1.block q (by simp; omega) hne).trans (Below.heap_alloc w _ q hq)⟩⟩

set_option maxHeartbeats 400000 in
theorem heldSaid_c (c : Int) (a : Option Addr) (n cap : Nat) (w : World) (hn : n ≤ 1048576) (h : StV w a (mkSt n)) :
    Calls Tryd.prog 12 #[.agg #[.int .i64 c, .slice a n cap], .int .i64 1] w fun e w' => e = .returned (.int .i64 (1 + 5 * (n : Int))) ∧ Below w.heap.size w w' := by
  have HR : Hid (StV (w.alloc (.cells #[.int .i64 c, .slice a n cap] 25)) a (mkSt n)) := h.below ((Below.refl _ _).alloc (Nat.le_refl _) _)
  clear h
  have hlt : decide ((1 : Int) + 5 * (n : Int) < 0) = false := by simp; omega
  go_enter Tryd.func12, Tryd.ntmps12
  go_wp2_with (go_at_call 22; refine (heldStatements_c a n cap _ hn HR.out).mono ?_; rintro e w1 ⟨rfl, rfl⟩)
  go_ret
  exact ⟨rfl, (Below.refl _ _).alloc (Nat.le_refl _) _⟩

set_option maxHeartbeats 400000 in
theorem eqSaid_c (c : Int) (a b : Option Addr) (n ca cb : Nat) (zs : List StI) (w : World) (hz : zs.length = n) (hn : n ≤ 1048576) (ha : StV w a zs) (hb : StV w b zs) :
    Calls Tryd.prog 8 #[.agg #[.int .i64 c, .slice a n ca], .agg #[.int .i64 c, .slice b n cb]] w fun e w' => e = .returned (.bool true) ∧ Below w.heap.size w w' := by
  have A2 : Below w.heap.size w ((w.alloc (.cells #[.int .i64 c, .slice a n ca] 25)).alloc (.cells #[.int .i64 c, .slice b n cb] 25)) := ((Below.refl _ _).alloc (Nat.le_refl _) _).alloc (by simp) _
  have HA : Hid (StIn ((w.alloc (.cells #[.int .i64 c, .slice a n ca] 25)).alloc (.cells #[.int .i64 c, .slice b n cb] 25)) a n zs) := (ha.below A2).isIn hz
  have HB : Hid (StIn ((w.alloc (.cells #[.int .i64 c, .slice a n ca] 25)).alloc (.cells #[.int .i64 c, .slice b n cb] 25)) b n zs) := (hb.below A2).isIn hz
  have HA2 : Hid (Below w.heap.size w ((w.alloc (.cells #[.int .i64 c, .slice a n ca] 25)).alloc (.cells #[.int .i64 c, .slice b n cb] 25))) := A2
  clear ha hb A2
  go_enter Tryd.func8, Tryd.ntmps8
  go_wp2_with fail
  refine (eqStatements_same a b n ca cb zs _ hn HA.out HB.out).mono ?_
  rintro e w1 ⟨rfl, hb1⟩
  go_wp2
  go_ret
  exact ⟨rfl, HA2.out.trans (hb1.mono (by simp; omega))⟩

theorem rd_map (zs : List Int) : (List.range (rdL zs).length).map (fun k => unpS (pieceZ (pgOf zs) k)) = rdL zs := by
  apply List.ext_getElem?
  intro k
  by_cases hk : k < (rdL zs).length
  · rw [List.getElem?_map, List.getElem?_range hk]
    have e := rd_some (zs := zs) (k := k) (List.getElem?_eq_getElem hk)
    have hp : pieceZ (pgOf zs) k = pieceZ zs k := by unfold pgOf; exact pgOn_piece rd_end (by omega)
    simp only [Option.map_some]
    rw [hp]
    unfold unpS
    rw [e, List.getElem?_eq_getElem hk]
    rfl
  · rw [List.getElem?_eq_none (by simp; omega), List.getElem?_eq_none (by omega)]

/-- Two cells written elsewhere leave a row of one's own. -/
theorem ownsE_keepRow {w : World} {B : Nat} {e : TypeId} {size : Nat} {v : Value} {n : Nat} {xs : List Value} {q : Nat} {u0 u1 : Value} (h : w.ownsRow B e size v n xs) (hq : ∀ g, v.ownBlock = some g → g ≠ q) : ((w.setCell ⟨q, 0, none⟩ u0).setCell ⟨q, 1, none⟩ u1).ownsRow B e size v n xs :=
  owns_kept h (fun g hg => by rw [Below.heap_setCell _ _ _ _ (hq g hg), Below.heap_setCell _ _ _ _ (hq g hg)])

/-- What a call of ReadLog gives. -/
def GivesR (f : Nat) (a : Option Addr) (n cap : Nat) (c : Int) (ys : List StI) (w : World) : Prop := Calls Tryd.prog f #[.slice a n cap] w fun e w' => ∃ a cap, e = .returned (.agg #[.int .i64 c, .slice a ys.length cap]) ∧ OwnSt w' w.heap.size (.slice a ys.length cap) ys ∧ Below w.heap.size w w'

set_option maxRecDepth 20000 in
set_option maxHeartbeats 2000000 in
theorem specRead_c (a : Option Addr) (n cap : Nat) (zs : List Int) (w : World) (hn : n ≤ 1048576) (hc : n ≤ cap) (hcm : cap ≤ maxLen) (h : IntIn w a n zs) : GivesR 5 a n cap (whC zs) (rdX zs) w := by
  have hl : zs.length = n := h.1
  have hnl : (n : Int) ≤ 1048576 := by omega
  obtain ⟨K, hK⟩ : ∃ K, whC zs = K := ⟨_, rfl⟩
  obtain ⟨U, hU⟩ : ∃ U, rdX zs = U := ⟨_, rfl⟩
  unfold GivesR
  rw [hK, hU]
  obtain ⟨V, hV⟩ : ∃ V, V = w.alloc (.cells #[.int .i64 0, .slice none 0 0] 25) := ⟨_, rfl⟩
  have BV : Hid (Below w.heap.size w V) := by rw [hV]; exact (Below.refl _ _).alloc (Nat.le_refl _) _
  have XV : Hid (BoxW w.heap.size [.int .i64 0, .slice none 0 0] V) := by rw [hV]; exact boxW_new w #[.int .i64 0, .slice none 0 0] 25
  have hvl : w.heap.size < V.heap.size := by rw [hV]; simp
  by_cases h240 : 240 < n
  · have HE : Hid (K = 2 ∧ U = []) := by
      refine ⟨?_, ?_⟩
      · rw [← hK]; unfold whC; rw [if_pos (by omega)]
      · rw [← hU]; unfold rdX; rw [if_pos (by omega)]
    have HLG := hidQ (l11Long_c a n cap true V hn (by simpa using h240))
    clear hK hU h hl
    go_enter Tryd.func5, Tryd.ntmps5
    go_upto_region 1 with fail
    rw [← hV]
    clear hV
    go_wp2_with fail
    refine HLG.out.mono ?_
    rintro e w1 ⟨rfl, rfl⟩
    have c0 := XV.out.1 0 _ rfl
    have c1 := XV.out.1 1 _ rfl
    have f0 := XV.out.2 0
    have f1 := XV.out.2 1
    go_wp2_with fail
    refine bodyPost_ret (v := .agg #[.int .i64 2, .slice none 0 0]) (by simp [results, Tryd.results5, go_sem, c0, c1, hvl]) rfl ?_
    rw [HE.out.1, HE.out.2]
    exact ⟨none, 0, rfl, World.ownsRow_nil _ _ _ _, (BV.out.setCell (Nat.le_refl _) _).setCell (Nat.le_refl _) _⟩
  · have HE : Hid (K = 0 ∧ U = rdL zs) := by
      refine ⟨?_, ?_⟩
      · rw [← hK]; unfold whC; rw [if_neg (by omega)]
      · rw [← hU]; unfold rdX; rw [if_neg (by omega)]
    have HLG := hidQ (l11Long_c a n cap false V hn (by simpa using h240))
    have HRD := hidQ (l11Read_c a n cap zs V (by omega) hc hcm (h.below BV.out))
    clear hK hU h hl
    go_enter Tryd.func5, Tryd.ntmps5
    go_upto_region 1 with fail
    rw [← hV]
    clear hV
    go_wp2_with fail
    refine HLG.out.mono ?_
    rintro e w1 ⟨rfl, rfl⟩
    go_wp2_with fail
    refine HRD.out.mono ?_
    rintro e w2 ⟨ra, rc, rfl, how, hb2⟩
    have B2 := hidQ (BV.out.trans (hb2.mono BV.out.size))
    have X2 := hidQ (XV.out.below hvl hb2)
    have O2 := hidQ how
    have hwl : w.heap.size < w2.heap.size := Nat.lt_of_lt_of_le hvl hb2.size
    clear how hb2 HRD HLG XV BV
    have c0 := X2.out.1 0 _ rfl
    have c1 := X2.out.1 1 _ rfl
    have f0 := X2.out.2 0
    have f1 := X2.out.2 1
    generalize hN : (rdL zs).length = N at O2 ⊢
    go_wp2_with fail
    refine bodyPost_ret (v := .agg #[.int .i64 0, .slice ra N rc]) (by simp [results, Tryd.results5, go_sem, c0, c1, hwl]) rfl ?_
    rw [HE.out.1, HE.out.2, hN]
    refine ⟨ra, rc, rfl, ?_, (B2.out.setCell (Nat.le_refl _) _).setCell (Nat.le_refl _) _⟩
    have q := ownSt_lower O2.out (Nat.le_of_lt hvl)
    unfold OwnSt at q ⊢
    exact ownsE_keepRow q (by have := ownSt_row O2.out; exact fun g e => by have := this g e; show g ≠ w.heap.size; omega)

set_option maxRecDepth 20000 in
set_option maxHeartbeats 2000000 in
theorem implRead_c (a : Option Addr) (n cap : Nat) (zs : List Int) (w : World) (hn : n ≤ 1048576) (h : IntIn w a n zs) (hE : ErrAt 0 w) : GivesR 7 a n cap (whC zs) (rdX zs) w := by
  have hl : zs.length = n := h.1
  obtain ⟨K, hK⟩ : ∃ K, whC zs = K := ⟨_, rfl⟩
  obtain ⟨U, hU⟩ : ∃ U, rdX zs = U := ⟨_, rfl⟩
  unfold GivesR
  rw [hK, hU]
  obtain ⟨V, hV⟩ : ∃ V, V = w.alloc (.cells #[.int .i64 0, .slice none 0 0] 25) := ⟨_, rfl⟩
  have BV : Hid (Below w.heap.size w V) := by rw [hV]; exact (Below.refl _ _).alloc (Nat.le_refl _) _
  have XV : Hid (BoxW w.heap.size [.int .i64 0, .slice none 0 0] V) := by rw [hV]; exact boxW_new w #[.int .i64 0, .slice none 0 0] 25
  have hvl : w.heap.size < V.heap.size := by rw [hV]; simp
  have HEr := hidQ hE
  by_cases h240 : 240 < n
  · have HE : Hid (K = 2 ∧ U = []) := by
      refine ⟨?_, ?_⟩
      · rw [← hK]; unfold whC; rw [if_pos (by omega)]
      · rw [← hU]; unfold rdX; rw [if_pos (by omega)]
    have HPO0 := pageOf_many a n cap V hn h240
    have hkp0 := fun w1 : World => pg_keep w1 (vI zeroPg).toArray zeroPg rfl rfl
    have hcs := vI_asize (zs := zeroPg) rfl
    generalize (vI zeroPg).toArray = cZ at HPO0 hkp0 hcs
    have HPO := hidQ HPO0
    have HKP := hidQ hkp0
    have hz : ∀ W : World, (zeroValue 39).run Tryd.prog W = .ok (.agg cZ) W := (hkp0 w).1
    clear hK hU h hl HPO0 hkp0 hE
    go_enter Tryd.func7, Tryd.ntmps7
    go_upto_region 1 with fail
    rw [← hV]
    clear hV
    go_wp2_with fail
    refine HPO.out.mono ?_
    rintro e w1 ⟨rfl, hb1⟩
    have hst := (HKP.out w1).2.1
    have A1 : Below w1.heap.size w1 (w1.alloc (.cells cZ 39)) := (Below.refl _ _).alloc (Nat.le_refl _) _
    have X2 := hidQ ((XV.out.below hvl hb1).below (Nat.lt_of_lt_of_le hvl hb1.size) A1)
    have B2 := hidQ ((BV.out.trans (hb1.mono BV.out.size)).trans (A1.mono (Nat.le_trans BV.out.size hb1.size)))
    have hwl : w.heap.size < (w1.alloc (.cells cZ 39)).heap.size := Nat.lt_of_lt_of_le (Nat.lt_of_lt_of_le hvl hb1.size) A1.size
    clear hb1 A1 HPO XV BV HKP
    go_upto_region 2 with fail
    clear hst hz hcs
    generalize w1.alloc (.cells cZ 39) = W2 at X2 B2 hwl ⊢
    have c0 := X2.out.1 0 _ rfl
    have c1 := X2.out.1 1 _ rfl
    have f0 := X2.out.2 0
    have f1 := X2.out.2 1
    go_wp2_with fail
    refine bodyPost_ret (v := .agg #[.int .i64 2, .slice none 0 0]) (by simp [results, Tryd.results7, go_sem, c0, c1, hwl]) rfl ?_
    rw [HE.out.1, HE.out.2]
    exact ⟨none, 0, rfl, World.ownsRow_nil _ _ _ _, (B2.out.setCell (Nat.le_refl _) _).setCell (Nat.le_refl _) _⟩
  · have HE : Hid (K = 0 ∧ U = rdL zs) := by
      refine ⟨?_, ?_⟩
      · rw [← hK]; unfold whC; rw [if_neg (by omega)]
      · rw [← hU]; unfold rdX; rw [if_neg (by omega)]
    obtain ⟨N, hN⟩ : ∃ N, (rdL zs).length = N := ⟨_, rfl⟩
    have HN := hidQ hN
    have hPL : (pgOf zs).length = 240 := by unfold pgOf; exact pgOn_len rd_end (by have := rd_end (zs := zs); omega)
    have HEA : Hid (EndAt (pgOf zs) N) := by rw [← hN]; exact pgOf_end zs (by omega)
    have HPO0 := pageOf_ok a n cap zs V (h.below BV.out) (by omega) (hE.below BV.out)
    obtain ⟨cT, hcT⟩ : ∃ c, (vI (pgOf zs)).toArray = c := ⟨_, rfl⟩
    have hkp0 := fun w1 : World => pg_keep w1 cT (pgOf zs) hPL hcT
    have hcs : cT.size = 240 := by rw [← hcT]; exact vI_asize hPL
    have hcz := vI_asize (zs := zeroPg) rfl
    rw [hcT] at HPO0
    clear hcT
    generalize (vI zeroPg).toArray = cZ at hkp0 hcz
    have HPO := hidQ HPO0
    have HKP := hidQ hkp0
    have hz : ∀ W : World, (zeroValue 39).run Tryd.prog W = .ok (.agg cZ) W := (hkp0 w).1
    clear hK hU h hl HPO0 hkp0 hE hPL hN
    go_enter Tryd.func7, Tryd.ntmps7
    go_upto_region 1 with fail
    rw [← hV]
    clear hV
    go_wp2_with fail
    refine HPO.out.mono ?_
    rintro e w1 ⟨rfl, hb1⟩
    have hst := (HKP.out w1).2.1
    have PG := hidQ (HKP.out w1).2.2
    have A1 : Below w1.heap.size w1 (w1.alloc (.cells cT 39)) := (Below.refl _ _).alloc (Nat.le_refl _) _
    have X2 := hidQ ((XV.out.below hvl hb1).below (Nat.lt_of_lt_of_le hvl hb1.size) A1)
    have B2 := hidQ ((BV.out.trans (hb1.mono BV.out.size)).trans (A1.mono (Nat.le_trans BV.out.size hb1.size)))
    have hwl : w.heap.size < (w1.alloc (.cells cT 39)).heap.size := Nat.lt_of_lt_of_le (Nat.lt_of_lt_of_le hvl hb1.size) A1.size
    clear hb1 A1 HPO XV BV HKP
    go_upto_region 2 with fail
    clear hst hz hcs hcz
    generalize w1.alloc (.cells cT 39) = W2 at X2 B2 PG hwl ⊢
    generalize w1.heap.size = gp at PG ⊢
    have HSD := hidQ (said_c gp N (pgOf zs) W2 PG.out HEA.out (HEr.out.below B2.out))
    go_wp2_with fail
    refine HSD.out.mono ?_
    rintro e w3 ⟨ra, rc, rfl, how, hb3⟩
    have B3 := hidQ (B2.out.trans (hb3.mono B2.out.size))
    have X3 := hidQ (X2.out.below hwl hb3)
    have O3 : Hid (OwnSt w3 W2.heap.size (.slice ra N rc) (rdL zs)) := by
      show OwnSt _ _ _ _
      unfold OwnSt
      have q := how
      have e := rd_map zs
      rw [HN.out] at e
      rw [e] at q
      rw [HN.out]
      exact q
    have hw3 : w.heap.size < w3.heap.size := Nat.lt_of_lt_of_le hwl hb3.size
    clear how hb3 HSD X2 B2
    have c0 := X3.out.1 0 _ rfl
    have c1 := X3.out.1 1 _ rfl
    have f0 := X3.out.2 0
    have f1 := X3.out.2 1
    go_wp2_with fail
    refine bodyPost_ret (v := .agg #[.int .i64 0, .slice ra N rc]) (by simp [results, Tryd.results7, go_sem, c0, c1, hw3]) rfl ?_
    rw [HE.out.1, HE.out.2, HN.out]
    refine ⟨ra, rc, rfl, ?_, (B3.out.setCell (Nat.le_refl _) _).setCell (Nat.le_refl _) _⟩
    have q := ownSt_lower O3.out (Nat.le_of_lt hwl)
    unfold OwnSt at q ⊢
    exact ownsE_keepRow q (by have := ownSt_row O3.out; exact fun g e => by have := this g e; show g ≠ w.heap.size; omega)

end Go.Proofs.YtnlmoapopdchkaaDoor
