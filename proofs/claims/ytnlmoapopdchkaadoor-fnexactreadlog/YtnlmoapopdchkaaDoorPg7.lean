/-
  CONTRACTS: chapter 11: WholeIn of both programs.
  Conditions: each contract bears its own (the variable errUnreadable holds an error).
-/
import Derived.Test.YtnlmoapopdchkaaDoorPg6
namespace Go.Proofs.YtnlmoapopdchkaaDoor
open Go.RowKit
set_option linter.unusedVariables false
set_option linter.unusedSimpArgs false

set_option maxRecDepth 20000 in
set_option maxHeartbeats 2000000 in
theorem specWhole_c (a : Option Addr) (n cap : Nat) (zs : List Int) (w : World) (hn : n ≤ 1048576) (hc : n ≤ cap) (hcm : cap ≤ maxLen) (h : IntIn w a n zs) :
    Calls Tryd.prog 13 #[.slice a n cap] w fun e w' => e = .returned (.agg #[.int .i64 (whC zs), .int .i64 (whV zs)]) ∧ Below w.heap.size w w' := by
  have hl : zs.length = n := h.1
  have hnl : (n : Int) ≤ 1048576 := by omega
  obtain ⟨K, hK⟩ : ∃ K, whC zs = K := ⟨_, rfl⟩
  obtain ⟨U, hU⟩ : ∃ U, whV zs = U := ⟨_, rfl⟩
  rw [hK, hU]
  obtain ⟨V, hV⟩ : ∃ V, V = w.alloc (.cells #[.int .i64 0, .int .i64 0] 34) := ⟨_, rfl⟩
  have BV : Hid (Below w.heap.size w V) := by rw [hV]; exact (Below.refl _ _).alloc (Nat.le_refl _) _
  have XV : Hid (BoxW w.heap.size [.int .i64 0, .int .i64 0] V) := by rw [hV]; exact boxW_new w #[.int .i64 0, .int .i64 0] 34
  have hvl : w.heap.size < V.heap.size := by rw [hV]; simp
  by_cases h240 : 240 < n
  · have HE : Hid (K = 2 ∧ U = 0) := by
      refine ⟨?_, ?_⟩
      · rw [← hK]; unfold whC; rw [if_pos (by omega)]
      · rw [← hU]; unfold whV; rw [if_pos (by omega)]
    have HLG := hidQ (l11Long_c a n cap true V hn (by simpa using h240))
    clear hK hU h hl
    go_enter Tryd.func13, Tryd.ntmps13
    go_upto_region 1 with fail
    rw [← hV]
    clear hV
    go_wp2_with fail
    refine HLG.out.mono ?_
    rintro e w1 ⟨rfl, rfl⟩
    have c0 := XV.out.1 0 _ rfl
    have c1 := XV.out.1 1 _ rfl
    have f0 := XV.out.2 0
    have f1 := XV.out.2 1
    go_wp2_with fail
    refine bodyPost_ret (v := .agg #[.int .i64 2, .int .i64 0]) (by simp [results, Tryd.results13, go_sem, c0, c1, hvl]) rfl ?_
    rw [HE.out.1, HE.out.2]
    exact ⟨rfl, (BV.out.setCell (Nat.le_refl _) _).setCell (Nat.le_refl _) _⟩
  · obtain ⟨N, hN⟩ : ∃ N, (rdL zs).length = N := ⟨_, rfl⟩
    have hN40 : (N : Int) ≤ 40 := by have := rd_end (zs := zs); rw [hN] at this; omega
    have HE : Hid (K = 0 ∧ U = (N : Int) * 6) := by
      refine ⟨?_, ?_⟩
      · rw [← hK]; unfold whC; rw [if_neg (by omega)]
      · rw [← hU]; unfold whV; rw [if_neg (by omega), hN]
    have HLG := hidQ (l11Long_c a n cap false V hn (by simpa using h240))
    have HRD0 := l11Read_c a n cap zs V (by omega) hc hcm (h.below BV.out)
    rw [hN] at HRD0
    have HRD := hidQ HRD0
    have hwr : IntKind.i64.wrap ((N : Int) * 6) = (N : Int) * 6 := by rw [IntKind.wrap_i64]; omega
    clear hK hU h hl HRD0 hN
    go_enter Tryd.func13, Tryd.ntmps13
    go_upto_region 1 with fail
    rw [← hV]
    clear hV
    go_wp2_with fail
    refine HLG.out.mono ?_
    rintro e w1 ⟨rfl, rfl⟩
    go_wp2_with fail
    refine HRD.out.mono ?_
    rintro e w2 ⟨ra, rc, rfl, how, hb2⟩
    have B2 := hidQ (BV.out.trans (hb2.mono BV.out.size))
    have X2 := hidQ (XV.out.below hvl hb2)
    have hwl : w.heap.size < w2.heap.size := Nat.lt_of_lt_of_le hvl hb2.size
    clear how hb2 HRD HLG XV BV hvl
    have c0 := X2.out.1 0 _ rfl
    have c1 := X2.out.1 1 _ rfl
    have f0 := X2.out.2 0
    have f1 := X2.out.2 1
    go_wp2_with fail
    refine bodyPost_ret (v := .agg #[.int .i64 0, .int .i64 ((N : Int) * 6)]) (by simp [results, Tryd.results13, go_sem, c0, c1, hwl]) rfl ?_
    rw [HE.out.1, HE.out.2]
    exact ⟨rfl, (B2.out.setCell (Nat.le_refl _) _).setCell (Nat.le_refl _) _⟩

/-- A page that is kept behind a call of pageOf: a box for it, and what is written into it. -/
theorem pg_keep (w1 : World) (cT : Array Value) (zs : List Int) (h : zs.length = 240) (hc : (vI zs).toArray = cT) : (∀ W : World, (zeroValue 39).run Tryd.prog W = .ok (.agg (vI zeroPg).toArray) W) ∧ (storeCells ⟨w1.heap.size, 0, none⟩ cT.toList 0).run Tryd.prog (w1.alloc (.cells (vI zeroPg).toArray 39)) = .ok () (w1.alloc (.cells cT 39)) ∧ PgAt (w1.alloc (.cells cT 39)) w1.heap.size zs := by
  refine ⟨pg_zero, ?_, ?_⟩
  · rw [← hc]
    exact run_storeCells_new w1 39 (vI zeroPg).toArray (vI zs).toArray (by rw [vI_asize h]; exact pg_size) (by rw [vI_asize h, vI_asize (zs := zeroPg) rfl]) (Array.all_eq_true_iff_forall_mem.2 (fun v hv => vI_one zs v (by simpa using hv)))
  · rw [← hc]
    exact pg_new w1 zs h

set_option maxRecDepth 20000 in
set_option maxHeartbeats 2000000 in
theorem implWhole_c (a : Option Addr) (n cap : Nat) (zs : List Int) (w : World) (hn : n ≤ 1048576) (h : IntIn w a n zs) (hE : ErrAt 0 w) :
    Calls Tryd.prog 14 #[.slice a n cap] w fun e w' => e = .returned (.agg #[.int .i64 (whC zs), .int .i64 (whV zs)]) ∧ Below w.heap.size w w' := by
  have hl : zs.length = n := h.1
  obtain ⟨K, hK⟩ : ∃ K, whC zs = K := ⟨_, rfl⟩
  obtain ⟨U, hU⟩ : ∃ U, whV zs = U := ⟨_, rfl⟩
  rw [hK, hU]
  obtain ⟨V, hV⟩ : ∃ V, V = w.alloc (.cells #[.int .i64 0, .int .i64 0] 34) := ⟨_, rfl⟩
  have BV : Hid (Below w.heap.size w V) := by rw [hV]; exact (Below.refl _ _).alloc (Nat.le_refl _) _
  have XV : Hid (BoxW w.heap.size [.int .i64 0, .int .i64 0] V) := by rw [hV]; exact boxW_new w #[.int .i64 0, .int .i64 0] 34
  have hvl : w.heap.size < V.heap.size := by rw [hV]; simp
  by_cases h240 : 240 < n
  · have HE : Hid (K = 2 ∧ U = 0) := by
      refine ⟨?_, ?_⟩
      · rw [← hK]; unfold whC; rw [if_pos (by omega)]
      · rw [← hU]; unfold whV; rw [if_pos (by omega)]
    have HPO0 := pageOf_many a n cap V hn h240
    have hkp0 := fun w1 : World => pg_keep w1 (vI zeroPg).toArray zeroPg rfl rfl
    have hcs := vI_asize (zs := zeroPg) rfl
    generalize (vI zeroPg).toArray = cZ at HPO0 hkp0 hcs
    have HPO := hidQ HPO0
    have HKP := hidQ hkp0
    have hz : ∀ W : World, (zeroValue 39).run Tryd.prog W = .ok (.agg cZ) W := (hkp0 w).1
    clear hK hU h hl HPO0 hkp0
    go_enter Tryd.func14, Tryd.ntmps14
    go_upto_region 1 with fail
    rw [← hV]
    clear hV
    go_wp2_with fail
    refine HPO.out.mono ?_
    rintro e w1 ⟨rfl, hb1⟩
    have hst := (HKP.out w1).2.1
    have A1 : Below w1.heap.size w1 (w1.alloc (.cells cZ 39)) := (Below.refl _ _).alloc (Nat.le_refl _) _
    have X2 := hidQ ((XV.out.below hvl hb1).below (Nat.lt_of_lt_of_le hvl hb1.size) A1)
    have B2 := hidQ ((BV.out.trans (hb1.mono BV.out.size)).trans (A1.mono (Nat.le_trans BV.out.size hb1.size)))
    have hwl : w.heap.size < (w1.alloc (.cells cZ 39)).heap.size := Nat.lt_of_lt_of_le (Nat.lt_of_lt_of_le hvl hb1.size) A1.size
    clear hb1 A1 HPO XV BV HKP
    go_upto_region 2 with fail
    clear hst hz hcs
    generalize w1.alloc (.cells cZ 39) = W2 at X2 B2 hwl ⊢
    have c0 := X2.out.1 0 _ rfl
    have c1 := X2.out.1 1 _ rfl
    have f0 := X2.out.2 0
    have f1 := X2.out.2 1
    go_wp2_with fail
    refine bodyPost_ret (v := .agg #[.int .i64 2, .int .i64 0]) (by simp [results, Tryd.results14, go_sem, c0, c1, hwl]) rfl ?_
    rw [HE.out.1, HE.out.2]
    exact ⟨rfl, (B2.out.setCell (Nat.le_refl _) _).setCell (Nat.le_refl _) _⟩
  · obtain ⟨N, hN⟩ : ∃ N, (rdL zs).length = N := ⟨_, rfl⟩
    have HE : Hid (K = 0 ∧ U = (N : Int) * 6) := by
      refine ⟨?_, ?_⟩
      · rw [← hK]; unfold whC; rw [if_neg (by omega)]
      · rw [← hU]; unfold whV; rw [if_neg (by omega), hN]
    have hPL : (pgOf zs).length = 240 := by unfold pgOf; exact pgOn_len rd_end (by have := rd_end (zs := zs); omega)
    have HEA : Hid (EndAt (pgOf zs) N) := by rw [← hN]; exact pgOf_end zs (by omega)
    have HPO0 := pageOf_ok a n cap zs V (h.below BV.out) (by omega) (hE.below BV.out)
    obtain ⟨cT, hcT⟩ : ∃ c, (vI (pgOf zs)).toArray = c := ⟨_, rfl⟩
    have hkp0 := fun w1 : World => pg_keep w1 cT (pgOf zs) hPL hcT
    have hcs : cT.size = 240 := by rw [← hcT]; exact vI_asize hPL
    have hcz := vI_asize (zs := zeroPg) rfl
    rw [hcT] at HPO0
    clear hcT
    generalize (vI zeroPg).toArray = cZ at hkp0 hcz
    have HPO := hidQ HPO0
    have HKP := hidQ hkp0
    have hz : ∀ W : World, (zeroValue 39).run Tryd.prog W = .ok (.agg cZ) W := (hkp0 w).1
    clear hK hU h hl HPO0 hkp0 hE hPL
    go_enter Tryd.func14, Tryd.ntmps14
    go_upto_region 1 with fail
    rw [← hV]
    clear hV
    go_wp2_with fail
    refine HPO.out.mono ?_
    rintro e w1 ⟨rfl, hb1⟩
    have hst := (HKP.out w1).2.1
    have PG := hidQ (HKP.out w1).2.2
    have A1 : Below w1.heap.size w1 (w1.alloc (.cells cT 39)) := (Below.refl _ _).alloc (Nat.le_refl _) _
    have X2 := hidQ ((XV.out.below hvl hb1).below (Nat.lt_of_lt_of_le hvl hb1.size) A1)
    have B2 := hidQ ((BV.out.trans (hb1.mono BV.out.size)).trans (A1.mono (Nat.le_trans BV.out.size hb1.size)))
    have hwl : w.heap.size < (w1.alloc (.cells cT 39)).heap.size := Nat.lt_of_lt_of_le (Nat.lt_of_lt_of_le hvl hb1.size) A1.size
    clear hb1 A1 HPO XV BV HKP
    go_upto_region 2 with fail
    clear hst hz hcs hcz
    generalize w1.alloc (.cells cT 39) = W2 at X2 B2 PG hwl ⊢
    generalize w1.heap.size = gp at PG ⊢
    have HEN : Hid (Calls Tryd.prog 23 #[.pointer (some ⟨gp, 0, none⟩)] W2 fun e w' => e = .returned (.int .i64 ((N : Int) * 6)) ∧ W2 = w') := by
      have q := pageEnd_c gp N (pgOf zs) W2 PG.out HEA.out
      rw [show ((N * 6 : Nat) : Int) = (N : Int) * 6 by push_cast; rfl] at q
      exact q
    have c0 := X2.out.1 0 _ rfl
    have c1 := X2.out.1 1 _ rfl
    have f0 := X2.out.2 0
    have f1 := X2.out.2 1
    go_wp2_with fail
    refine HEN.out.mono ?_
    rintro e w3 ⟨rfl, rfl⟩
    go_wp2_with fail
    refine bodyPost_ret (v := .agg #[.int .i64 0, .int .i64 ((N : Int) * 6)]) (by simp [results, Tryd.results14, go_sem, c0, c1, hwl]) rfl ?_
    rw [HE.out.1, HE.out.2]
    exact ⟨rfl, (B2.out.setCell (Nat.le_refl _) _).setCell (Nat.le_refl _) _⟩

end Go.Proofs.YtnlmoapopdchkaaDoor
