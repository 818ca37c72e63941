/-
  CONTRACTS: SignersOf of both programs.
  Conditions: each contract bears its own.
-/
import Derived.Test.YtdfhebmecbcegaaCe7
namespace Go.Proofs.Ytdfhebmecbcegaa
open Go.RowKit Go.Maps
set_option linter.unusedVariables false
set_option linter.unusedSimpArgs false

def GivesSO (fn : Nat) (a : Option Addr) (n cap : Nat) (x : StI) (c : Int) (ys : List Int) (w : World) : Prop := Calls Try.prog fn #[.slice a n cap, .agg #[.int .i64 x.k, .int .i64 x.e, .int .i64 x.f, .int .i64 x.s, .int .i64 x.n]] w fun e w' => ∃ (ra : Option Addr) (rc : Nat), e = .returned (.agg #[.int .i64 c, .slice ra ys.length rc]) ∧ w'.ownsRow w.heap.size 2 1 (.slice ra ys.length rc) ys.length (ys.map (Value.int .i64)) ∧ Below w.heap.size w w'

/-- An argument's box and an empty answer's box. -/
theorem two_boxes (w : World) (x : StI) (T R : TypeId) : ∃ V, V = (w.alloc (.cells #[.int .i64 x.k, .int .i64 x.e, .int .i64 x.f, .int .i64 x.s, .int .i64 x.n] T)).alloc (.cells #[.int .i64 0, .slice none 0 0] R) ∧ Below w.heap.size w V ∧ V.heap.size = w.heap.size + 1 + 1 ∧ StAt V w.heap.size 0 x ∧ BoxW (w.heap.size + 1) [.int .i64 0, .slice none 0 0] V := by
  refine ⟨_, rfl, ((Below.refl _ _).alloc (Nat.le_refl _) _).alloc (by simp) _, by simp, ?_, ?_⟩
  · exact (StAt.new w x T).below ((Below.refl _ _).alloc (Nat.le_refl _) _) (by simp)
  · have q := boxW_new (w.alloc (.cells #[.int .i64 x.k, .int .i64 x.e, .int .i64 x.f, .int .i64 x.s, .int .i64 x.n] T)) #[.int .i64 0, .slice none 0 0] R
    simp only [World.size_alloc] at q
    exact q

set_option maxRecDepth 20000 in
set_option maxHeartbeats 1000000 in
theorem specSigners_c (a : Option Addr) (n cap : Nat) (zs : List ShI) (x : StI) (w : World) (hn : n ≤ 1048576) (h : ShIn w a n zs) : GivesSO 24 a n cap x (sgCode zs x) (sgRes zs x) w := by
  unfold GivesSO
  obtain ⟨V, hV, BV, hVs, hst, hbx⟩ := two_boxes w x 26 37
  have HZ : Hid (zs.length = n) := h.1
  have hn' : (n : Int) ≤ 1048576 := by omega
  obtain ⟨c, hc⟩ : ∃ c, sgCode zs x = c := ⟨_, rfl⟩
  obtain ⟨ys, hys⟩ : ∃ ys, sgRes zs x = ys := ⟨_, rfl⟩
  rw [hc, hys]
  have HC : Hid (c = if 120 < n then 2 else stCode x) := by show c = _; rw [← hc]; unfold sgCode; rw [HZ.out]
  have HY : Hid (ys = if c = 0 then sgL zs x else []) := by show ys = _; rw [← hys, ← hc]; rfl
  have HS : Hid (ShIn V a n zs) := h.below BV
  have HB : Hid (BoxW (w.heap.size + 1) [.int .i64 0, .slice none 0 0] V) := hbx
  have HSZ : Hid (V.heap.size = w.heap.size + 1 + 1) := hVs
  clear h hc hys hVs
  by_cases hl : 120 < n
  · have HC2 : Hid (c = 2 ∧ ys = []) := by
      have e : c = 2 := by rw [HC.out, if_pos hl]
      exact ⟨e, by rw [HY.out, if_neg (by omega)]⟩
    have hl' : (120 : Int) < (n : Int) := by omega
    rw [HC2.out.1, HC2.out.2]
    clear hV BV hst hbx HS HB HSZ HC HY
    go_enter Try.func24, Try.ntmps24
    go_wp2
    go_returns
    exact ⟨none, 0, rfl, World.ownsRow_nil _ _ _ _, by go_grown⟩
  · have hl' : ¬ ((120 : Int) < (n : Int)) := by omega
    have HC2 : Hid (c = stCode x) := by show c = _; rw [HC.out, if_neg hl]
    have HF : Hid (Calls Try.prog 46 #[.pointer (some ⟨w.heap.size, 0, none⟩)] V fun e w' => e = .returned (.int .i64 c) ∧ V = w') := by rw [HC2.out]; exact l7Fault_c _ _ x V hst
    have b0 := hbx.1 0 _ rfl
    have b1 := hbx.1 1 _ rfl
    have f0 := hbx.2 0
    have f1 := hbx.2 1
    have hVl : w.heap.size + 1 < V.heap.size := by have := HSZ.out; omega
    by_cases c0 : c = 0
    · have cb : (c != 0) = false := by simp [c0]
      have HY2 : Hid (ys = sgL zs x ∧ c = 0) := ⟨by rw [HY.out, if_pos c0], c0⟩
      have HL : Hid (Calls Try.prog 47 #[.slice a n cap, .agg #[.int .i64 x.k, .int .i64 x.e, .int .i64 x.f, .int .i64 x.s, .int .i64 x.n]] V fun e w' => ∃ (g q : Nat), e = .returned (.slice (some ⟨g, 0, none⟩) ys.length q) ∧ OwnI w' V.heap.size (.slice (some ⟨g, 0, none⟩) ys.length q) ys ∧ Below V.heap.size V w') := by rw [HY2.out.1]; exact l9Signers_c a n cap zs x V (by omega) HS.out
      obtain ⟨x0, x1, x2, x3, x4⟩ := hst
      simp only [Nat.zero_add] at x0 x1 x2 x3 x4
      clear c0 HY HC HC2 hbx
      go_enter Try.func24, Try.ntmps24
      go_wp2_with fail
      rw [← hV]
      clear hV
      refine HF.out.mono ?_
      rintro e w1 ⟨rfl, rfl⟩
      go_wp2_with fail
      refine HL.out.mono ?_
      rintro e w2 ⟨g, q, rfl, ho, hb2⟩
      have BW2 : Below w.heap.size w w2 := BV.trans (hb2.mono BV.size)
      have X2 := HB.out.below (by omega) hb2
      have d0 := X2.1 0 _ rfl
      have d1 := X2.1 1 _ rfl
      have e0 := X2.2 0
      have e1 := X2.2 1
      have hw2 : w.heap.size + 1 < w2.heap.size := Nat.lt_of_lt_of_le hVl hb2.size
      obtain ⟨m, hm⟩ : ∃ m, ys.length = m := ⟨_, rfl⟩
      have HO : Hid (OwnI w2 V.heap.size (.slice (some ⟨g, 0, none⟩) m q) ys ∧ ys.length = m) := ⟨by rw [← hm]; exact ho, hm⟩
      rw [hm]
      have HC0 : Hid (c = 0) := HY2.out.2
      have HSZ2 : Hid (w.heap.size + 1 < V.heap.size) := hVl
      clear ho hm x0 x1 x2 x3 x4 b0 b1 f0 f1 X2 hb2 HL HF HS HB HY2
      go_wp2
      refine bodyPost_ret (v := .agg #[.int .i64 0, .slice (some ⟨g, 0, none⟩) m q]) (by simp [results, Try.results24, go_sem, d0, d1, hw2]) rfl ⟨some ⟨g, 0, none⟩, q, by rw [HC0.out, HO.out.2], ?_, ?_⟩
      · rw [HO.out.2]
        have h0 : w2.ownsRow V.heap.size 2 1 (.slice (some ⟨g, 0, none⟩) m q) ys.length (ys.map (Value.int .i64)) := HO.out.1
        rw [HO.out.2] at h0
        have h1 := ownsE_set (ownsE_set h0 (a := ⟨w.heap.size + 1, 0, none⟩) HSZ2.out (.int .i64 0)) (a := ⟨w.heap.size + 1, 1, none⟩) HSZ2.out (.slice (some ⟨g, 0, none⟩) m q)
        rcases h1 with ⟨k1, k2⟩
        refine ⟨k1, ?_⟩
        rcases k2 with k2 | ⟨g', cap', cur, e, hg, rest⟩
        · exact .inl k2
        · exact .inr ⟨g', cap', cur, e, by omega, rest⟩
      · exact (BW2.setCell (by show w.heap.size ≤ w.heap.size + 1; omega) _).setCell (by show w.heap.size ≤ w.heap.size + 1; omega) _
    · have cb : (c != 0) = true := by simp [c0]
      have HY2 : Hid (ys = []) := by show ys = []; rw [HY.out, if_neg c0]
      rw [HY2.out]
      clear c0 HY HC HC2 hbx hst
      go_enter Try.func24, Try.ntmps24
      go_wp2_with fail
      rw [← hV]
      clear hV
      refine HF.out.mono ?_
      rintro e w1 ⟨rfl, rfl⟩
      go_wp2
      refine bodyPost_ret (v := .agg #[.int .i64 c, .slice none 0 0]) (by simp [results, Try.results24, go_sem, b0, b1, hVl]) rfl ⟨none, 0, rfl, World.ownsRow_nil _ _ _ _, ?_⟩
      exact (BV.setCell (by show w.heap.size ≤ w.heap.size + 1; omega) _).setCell (by show w.heap.size ≤ w.heap.size + 1; omega) _

theorem sg_wf {zs : List ShI} (h : ∀ z ∈ zs, i64W z.r) (x : StI) : ∀ i ∈ sgL zs x, i64W i := fun i hi => h _ ((mem_sgL zs x i).1 hi)

theorem keys_sg {zs : List ShI} {x : StI} {ys : List Int} (hr : ∀ z ∈ zs, i64W z.r) (hu : Up ys) (hk : KeysS (fun i => decide (i ∈ sgL zs x)) ys) : ys = sgL zs x := by
  refine up_unique hu (sgL_up zs x) (fun i => ⟨fun hi => ?_, fun hi => ?_⟩)
  · have := (hk.2.2 i (hk.2.1 i hi)).1 hi
    exact of_decide_eq_true this
  · exact (hk.2.2 i (sg_wf hr x i hi)).2 (decide_eq_true hi)

set_option maxRecDepth 20000 in
set_option maxHeartbeats 2000000 in
theorem implSigners_c (a : Option Addr) (n cap : Nat) (zs : List ShI) (x : StI) (w : World) (hn : n ≤ 1048576) (hr : ∀ z ∈ zs, i64W z.r) (h : ShIn w a n zs) : GivesSO 17 a n cap x (sgCode zs x) (sgRes zs x) w := by
  unfold GivesSO
  obtain ⟨V, hV, BV, hVs, hst, hbx⟩ := two_boxes w x 26 37
  have HZ : Hid (zs.length = n) := h.1
  have hn' : (n : Int) ≤ 1048576 := by omega
  obtain ⟨c, hc⟩ : ∃ c, sgCode zs x = c := ⟨_, rfl⟩
  obtain ⟨ys, hys⟩ : ∃ ys, sgRes zs x = ys := ⟨_, rfl⟩
  rw [hc, hys]
  have HC : Hid (c = if 120 < n then 2 else stCode x) := by show c = _; rw [← hc]; unfold sgCode; rw [HZ.out]
  have HY : Hid (ys = if c = 0 then sgL zs x else []) := by show ys = _; rw [← hys, ← hc]; rfl
  have HS : Hid (ShIn V a n zs) := h.below BV
  have HB : Hid (BoxW (w.heap.size + 1) [.int .i64 0, .slice none 0 0] V) := hbx
  have HX : Hid (StAt V w.heap.size 0 x) := hst
  have HSZ : Hid (V.heap.size = w.heap.size + 1 + 1) := hVs
  have HW : Hid (∀ z ∈ zs, i64W z.r) := hr
  clear h hc hys hVs hr
  by_cases hl : 120 < n
  · have HC2 : Hid (c = 2 ∧ ys = []) := by
      have e : c = 2 := by rw [HC.out, if_pos hl]
      exact ⟨e, by rw [HY.out, if_neg (by omega)]⟩
    have hl' : (120 : Int) < (n : Int) := by omega
    rw [HC2.out.1, HC2.out.2]
    clear hV BV hst hbx HS HB HSZ HC HY
    go_enter Try.func17, Try.ntmps17
    go_wp2
    go_returns
    exact ⟨none, 0, rfl, World.ownsRow_nil _ _ _ _, by go_grown⟩
  · have hl' : ¬ ((120 : Int) < (n : Int)) := by omega
    have HC2 : Hid (c = stCode x) := by show c = _; rw [HC.out, if_neg hl]
    have HF : Hid (Calls Try.prog 48 #[.agg #[.int .i64 x.k, .int .i64 x.e, .int .i64 x.f, .int .i64 x.s, .int .i64 x.n]] V fun e w' => e = .returned (.int .i64 c) ∧ Below V.heap.size V w') := by rw [HC2.out]; exact implStatementFault_c x V
    have hVl : w.heap.size + 1 < V.heap.size := by have := HSZ.out; omega
    have hVw : w.heap.size < V.heap.size := by omega
    obtain ⟨x0, x1, x2, x3, x4⟩ := hst
    simp only [Nat.zero_add] at x0 x1 x2 x3 x4
    by_cases c0 : c = 0
    · have cb : (c != 0) = false := by simp [c0]
      have HY2 : Hid (ys = sgL zs x ∧ c = 0) := ⟨by rw [HY.out, if_pos c0], c0⟩
      clear c0 HY HC HC2 hbx
      go_enter Try.func17, Try.ntmps17
      go_wp2_with fail
      rw [← hV]
      clear hV
      refine HF.out.mono ?_
      rintro e w1 ⟨rfl, hb1⟩
      have BW1 : Hid (Below V.heap.size V w1) := hb1
      have hz1 := hb1.size
      have hmk : (Instr.makeMap 77 none).run Try.prog w1 = .ok (.map (some w1.heap.size)) (w1.alloc (.map #[] 0)) := run_makeMap _ w1
      obtain ⟨M, hM⟩ : ∃ M, M = w1.alloc (.map #[] 0) := ⟨_, rfl⟩
      have BM : Hid (Below w1.heap.size w1 M) := by rw [hM]; exact (Below.refl _ _).alloc (Nat.le_refl _) _
      have SM0 : Hid (SM M w1.heap.size 0 (fun _ => false)) := by rw [hM]; exact sm_made w1
      rw [← hM] at hmk
      clear hM x0 x1 x2 x3 x4 hb1
      go_wp2_with fail
      go_loopw [22] (fun i wr => ∃ k : Nat, k ≤ n ∧ i = .int .i64 (k : Int) ∧ SM wr w1.heap.size k (fun i => decide (i ∈ sgTo zs x k)) ∧ Below w1.heap.size w1 wr) (fun i _ => n - (intOf i).toNat)
      case atStart => exact ⟨0, Nat.zero_le _, rfl, SM0.out.cong (fun i => by simp [sgTo]), BM.out⟩
      case round =>
        obtain ⟨k, hk, rfl, hsm, hwx⟩ := hrel
        have hvx : Below V.heap.size V wr := BW1.out.trans (hwx.mono hz1)
        by_cases hlt : k < n
        · obtain ⟨b, off, z, rfl, hz, hza, hbl⟩ := HS.out.at hlt
          have hltk : (k : Int) < (n : Int) := by omega
          obtain ⟨d0, d1, d2, d3, d4, d5⟩ := hza.below hvx hbl
          obtain ⟨Y, hY⟩ : ∃ Y, Y = wr.alloc (.cells #[.int .i64 z.r, .int .i64 z.k, .int .i64 z.e, .int .i64 z.f, .int .i64 z.s, .int .i64 z.n] 45) := ⟨_, rfl⟩
          have hsl := hsm.lt
          have SY : SM Y w1.heap.size k (fun i => decide (i ∈ sgTo zs x k)) := by rw [hY]; exact hsm.below hsl ((Below.refl _ _).alloc (Nat.le_refl _) _)
          have BY : Below w1.heap.size w1 Y := by rw [hY]; exact hwx.alloc hwx.size _
          obtain ⟨y0, y1, y2, y3, y4⟩ := HX.out.below hvx hVw
          simp only [Nat.zero_add] at y0 y1 y2 y3 y4
          have hwl : w.heap.size < wr.heap.size := Nat.lt_of_lt_of_le hVw hvx.size
          cases hsame : sameSt z.st x
          · have HN : Hid (SM Y w1.heap.size (k + 1) (fun i => decide (i ∈ sgTo zs x (k + 1)))) := (SY.le (by omega)).cong (fun i => by rw [sgTo_miss hz hsame])
            have hse : ∀ w : World, (binOp .eql 26 (.agg #[.int .i64 z.k, .int .i64 z.e, .int .i64 z.f, .int .i64 z.s, .int .i64 z.n]) (.agg #[.int .i64 x.k, .int .i64 x.e, .int .i64 x.f, .int .i64 x.s, .int .i64 x.n])).run Try.prog w = .ok (.bool false) w := fun w => by have := st_eql z.st x w; rw [hsame] at this; exact this
            clear hz hza hsame SY hsm
            go_wp2
            rw [← hY]
            exact ⟨⟨k + 1, by omega, by go_num, HN.out, BY⟩, by simp [intOf]; omega⟩
          · have HP : Hid (Calls Try.prog 49 #[.map (some w1.heap.size), .int .i64 z.r] Y fun e w' => e = .returned (.tuple #[]) ∧ SM w' w1.heap.size (k + 1) (fun i => decide (i ∈ sgTo zs x (k + 1))) ∧ Y.grownBy w' (some w1.heap.size)) :=
              (snPut_c w1.heap.size k _ z.r Y SY (by omega) (HW.out z (List.mem_of_getElem? hz))).mono fun e w' hh => ⟨hh.1, hh.2.1.cong (fun i => by
                unfold putP
                rw [sgTo_hit hz hsame, Bool.eq_iff_iff]
                simp only [Bool.or_eq_true, decide_eq_true_eq, mem_insR]), hh.2.2⟩
            have hse : ∀ w : World, (binOp .eql 26 (.agg #[.int .i64 z.k, .int .i64 z.e, .int .i64 z.f, .int .i64 z.s, .int .i64 z.n]) (.agg #[.int .i64 x.k, .int .i64 x.e, .int .i64 x.f, .int .i64 x.s, .int .i64 x.n])).run Try.prog w = .ok (.bool true) w := fun w => by have := st_eql z.st x w; rw [hsame] at this; exact this
            clear hz hza hsame SY hsm
            go_wp2_with fail
            rw [← hY]
            refine HP.out.mono ?_
            rintro e w2 ⟨rfl, hsm2, hg2⟩
            have B2 : Below w1.heap.size w1 w2 := BY.grown hg2 BY.size (fun q e => by cases e; exact Nat.le_refl _)
            clear hg2 hY HP
            go_wp2
            exact ⟨⟨k + 1, by omega, by go_num, hsm2, B2⟩, by simp [intOf]; omega⟩
        · have hkn : k = n := by omega
          subst hkn
          have hltk : ¬ ((k : Int) < (k : Int)) := by omega
          have SME : Hid (SM wr w1.heap.size k (fun i => decide (i ∈ sgL zs x))) := hsm.cong (fun i => by unfold sgL; rw [HZ.out])
          have HL : Hid (Calls Try.prog 50 #[.map (some w1.heap.size), .func (.func 51) #[] #[]] wr fun e W' => ∃ v us, e = .returned v ∧ us = ys ∧ OwnI W' wr.heap.size v us ∧ Below wr.heap.size wr W') :=
            (slist_c w1.heap.size k _ wr (by omega) SME.out (fun us hk => by
              have h1 := nodup_lenI us (sgL zs x) hk.1 (fun i hi => of_decide_eq_true ((hk.2.2 i (hk.2.1 i hi)).1 hi))
              have := sgL_len zs x
              have := HZ.out
              omega)).mono fun e W' hh => by
                obtain ⟨v, us, e1, hu, hk, ho, hb⟩ := hh
                exact ⟨v, us, e1, by rw [keys_sg HW.out hu hk, HY2.out.1], ho, hb⟩
          have BWR : Hid (Below w.heap.size w wr) := BV.trans (hvx.mono BV.size)
          have XR : Hid (BoxW (w.heap.size + 1) [.int .i64 0, .slice none 0 0] wr) := HB.out.below (by omega) hvx
          have hwr : w.heap.size + 1 < wr.heap.size := Nat.lt_of_lt_of_le hVl hvx.size
          clear hsm
          go_wp2_with fail
          refine HL.out.mono ?_
          rintro e w2 ⟨v, us, rfl, rfl, ho, hb2⟩
          have BW2 : Below w.heap.size w w2 := BWR.out.trans (hb2.mono BWR.out.size)
          have X2 := XR.out.below (by omega) hb2
          have d0 := X2.1 0 _ rfl
          have d1 := X2.1 1 _ rfl
          have e0 := X2.2 0
          have e1 := X2.2 1
          have hw2 : w.heap.size + 1 < w2.heap.size := Nat.lt_of_lt_of_le hwr hb2.size
          obtain ⟨ra, rc, hv⟩ : ∃ ra rc, v = .slice ra us.length rc := by
            have ho0 : w2.ownsRow wr.heap.size 2 1 v us.length (us.map (Value.int .i64)) := ho
            rcases ho0.2 with ⟨h1, h2⟩ | ⟨g, cp, cur, h1, _⟩
            · exact ⟨none, 0, by rw [h1, h2]⟩
            · exact ⟨_, _, h1⟩
          subst hv
          obtain ⟨m, hm⟩ : ∃ m, us.length = m := ⟨_, rfl⟩
          have HO : Hid (OwnI w2 wr.heap.size (.slice ra m rc) us ∧ us.length = m) := ⟨by rw [← hm]; exact ho, hm⟩
          rw [hm]
          have HC0 : Hid (c = 0) := HY2.out.2
          have HSZ2 : Hid (w.heap.size + 1 < wr.heap.size) := hwr
          clear ho hm X2 hb2 HL HF HS HB HY2
          go_wp2
          refine bodyPost_ret (v := .agg #[.int .i64 0, .slice ra m rc]) (by simp [results, Try.results17, go_sem, d0, d1, hw2]) rfl ⟨ra, rc, by rw [HC0.out, HO.out.2], ?_, ?_⟩
          · rw [HO.out.2]
            have h0 : w2.ownsRow wr.heap.size 2 1 (.slice ra m rc) us.length (us.map (Value.int .i64)) := HO.out.1
            rw [HO.out.2] at h0
            have h1 := ownsE_set (ownsE_set h0 (a := ⟨w.heap.size + 1, 0, none⟩) HSZ2.out (.int .i64 0)) (a := ⟨w.heap.size + 1, 1, none⟩) HSZ2.out (.slice ra m rc)
            rcases h1 with ⟨k1, k2⟩
            refine ⟨k1, ?_⟩
            rcases k2 with k2 | ⟨g', cap', cur, e, hg, rest⟩
            · exact .inl k2
            · exact .inr ⟨g', cap', cur, e, by have := HSZ2.out; omega, rest⟩
          · exact (BW2.setCell (by show w.heap.size ≤ w.heap.size + 1; omega) _).setCell (by show w.heap.size ≤ w.heap.size + 1; omega) _
    · have cb : (c != 0) = true := by simp [c0]
      have HY2 : Hid (ys = []) := by show ys = []; rw [HY.out, if_neg c0]
      rw [HY2.out]
      clear c0 HY HC HC2 hbx
      go_enter Try.func17, Try.ntmps17
      go_wp2_with fail
      rw [← hV]
      clear hV
      refine HF.out.mono ?_
      rintro e w1 ⟨rfl, hb1⟩
      have X1 := HB.out.below (by omega) hb1
      have b0 := X1.1 0 _ rfl
      have b1 := X1.1 1 _ rfl
      have f0 := X1.2 0
      have f1 := X1.2 1
      have BW1 : Below w.heap.size w w1 := BV.trans (hb1.mono BV.size)
      have hVl1 : w.heap.size + 1 < w1.heap.size := Nat.lt_of_lt_of_le hVl hb1.size
      clear X1 hb1 x0 x1 x2 x3 x4
      go_wp2
      refine bodyPost_ret (v := .agg #[.int .i64 c, .slice none 0 0]) (by simp [results, Try.results17, go_sem, b0, b1, hVl1]) rfl ⟨none, 0, rfl, World.ownsRow_nil _ _ _ _, ?_⟩
      exact (BW1.setCell (by show w.heap.size ≤ w.heap.size + 1; omega) _).setCell (by show w.heap.size ≤ w.heap.size + 1; omega) _

end Go.Proofs.Ytdfhebmecbcegaa
