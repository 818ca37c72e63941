/- Contracts. -/
import Derived.Test.YtfkajnenniapaaaGreatPt27
namespace Go.Proofs.YtfkajnenniapaaaGreat
set_option maxRecDepth 100000
set_option maxHeartbeats 8000000
open Go.RowKit
set_option linter.unusedVariables false
set_option linter.unusedSimpArgs false

section
open Go.RowKit Go.Maps
attribute [local go_sem] fldN0 fldN1
theorem implCombine_c (a : Option Addr) (n cap : Nat) (zs : List ShI) (f : Int) (x : StI) (w : World) (hn : n ≤ 1048576) (hcap : n ≤ cap) (hcm : cap ≤ maxLen) (h : ShIn w a n zs) : GivesCB 59 a n cap f x (cbCode f zs x) (cbX f zs x) (cbL f zs x) w := by
 unfold GivesCB
 obtain ⟨V, hV, BV, hVs, hst, hbx⟩ := two_boxes7 w x 54 58
 have HZ : Hid (zs.length = n) := h.1
 have hn' : (n : Int) ≤ 1048576 := by omega
 obtain ⟨c, hc⟩ : ∃ c, cbCode f zs x = c := ⟨_, rfl⟩
 obtain ⟨cx, hcx⟩ : ∃ cx, cbX f zs x = cx := ⟨_, rfl⟩
 obtain ⟨ys, hys⟩ : ∃ ys, cbL f zs x = ys := ⟨_, rfl⟩
 rw [hc, hcx, hys]
 obtain ⟨s, hs⟩ : ∃ s, shCode f zs = s := ⟨_, rfl⟩
 obtain ⟨t, ht⟩ : ∃ t, stCode x = t := ⟨_, rfl⟩
 have HC : Hid (c = if s = 0 then (if t = 0 then (if ((sgL zs x).length : Int) < 2 * f + 1 then 7 else 0) else t) else s) := by show c = _; rw [← hc, ← hs, ← ht]; rfl
 have HX : Hid (cx = if c = 0 then x else ⟨0, 0, 0, 0, 0⟩) := by show cx = _; rw [← hcx, ← hc]; rfl
 have HY : Hid (ys = if c = 0 then (sgL zs x).take (2 * f + 1).toNat else []) := by show ys = _; rw [← hys, ← hc]; rfl
 have HBAD : Hid (c ≠ 0 → cx = ⟨0, 0, 0, 0, 0⟩ ∧ ys = []) := fun q => ⟨by rw [HX.out, if_neg q], by rw [HY.out, if_neg q]⟩
 have HS : Hid (ShIn V a n zs) := h.below BV
 have HB : Hid (BoxW (w.heap.size + 1) [.int .i64 0, .int .i64 0, .int .i64 0, .int .i64 0, .int .i64 0, .int .i64 0, .slice none 0 0] V) := hbx
 have HXA : Hid (StAt V w.heap.size 0 x) := hst
 have HSZ : Hid (V.heap.size = w.heap.size + 1 + 1) := hVs
 have hVl0 : w.heap.size + 1 < V.heap.size := by omega
 have HF : Hid (Calls Tryz.prog 73 #[.slice a n cap, .int .i64 f] V fun e w' => e = .returned (.int .i64 s) ∧ Below V.heap.size V w') := by have := implSharesFault_c a n cap zs f V hn hcap hcm HS.out; rw [hs] at this; exact this
 by_cases s0 : s = 0
 ·have sb : (s != 0) = false := by simp [s0]
  have hok := sh_ok (hs.trans s0)
  obtain ⟨hf1, hf2⟩ := (inR_iff _ _ _).1 hok.1
  have hn2 : n ≤ 120 := by have := HZ.out; omega
  have hwf : ∀ z ∈ zs, i64W z.r := fun z hz => by have := (inR_iff _ _ _).1 (hok.2.2 z hz).1; exact i64W_of (by omega) (by omega)
  have hsc : sgCode zs x = t := by unfold sgCode; rw [if_neg (by have := HZ.out; omega), ht]
  obtain ⟨us, hus⟩ : ∃ us, sgRes zs x = us := ⟨_, rfl⟩
  obtain ⟨m, hm⟩ : ∃ m, us.length = m := ⟨_, rfl⟩
  have HG : Hid (∀ w2, Below V.heap.size V w2 → Calls Tryz.prog 85 #[.slice a n cap, .agg #[.int .i64 x.k, .int .i64 x.e, .int .i64 x.f, .int .i64 x.s, .int .i64 x.n]] w2 fun e w' => ∃ (ra : Option Addr) (rc : Nat), e = .returned (.agg #[.int .i64 t, .slice ra m rc]) ∧ w'.ownsRow w2.heap.size 2 1 (.slice ra m rc) m (us.map (Value.int .i64)) ∧ Below w2.heap.size w2 w') := fun w2 hb => by
   have := implSigners_c a n cap zs x w2 hn hwf (HS.out.below hb)
   unfold GivesSO at this
   rw [hsc, hus, hm] at this
   exact this
  have HUS : Hid (us.length = m ∧ (t = 0 → us = sgL zs x)) := ⟨hm, fun q => by rw [← hus]; unfold sgRes; rw [if_pos (hsc.trans q)]⟩
  have hml : m ≤ 120 := by
   have h1 : us.length ≤ (sgL zs x).length := by rw [← hus]; unfold sgRes; split <;> simp
   have := sgL_len zs x
   have := HZ.out
   omega
  have hml' : (m : Int) ≤ 120 := by omega
  have e1 : nfCode f = 0 := by unfold nfCode; rw [if_pos hok.1]
  have e2 : nfVal 2 f = 2 * f + 1 := by unfold nfVal; rw [if_pos hok.1]
  have HNF : Hid (∀ w : World, GivesNF 86 f (nfCode f) (nfVal 2 f) w) := implNeedOf_c f
  rw [e1, e2] at HNF
  unfold GivesNF at HNF
  obtain ⟨d, hd⟩ : ∃ d : Nat, 2 * f + 1 = (d : Int) := ⟨(2 * f + 1).toNat, by omega⟩
  rw [hd] at HNF
  have HD : Hid (2 * f + 1 = (d : Int) ∧ (2 * f + 1).toNat = d ∧ 3 ≤ d) := ⟨hd, by omega, by omega⟩
  have hd3 : (3 : Int) ≤ (d : Int) := by omega
  clear hc hcx hys hs hok h hst hbx hVs hwf hsc hus hm e1 e2 hd
  have hVw : w.heap.size < V.heap.size := by omega
  obtain ⟨x0, x1, x2, x3, x4⟩ := HXA.out
  by_cases t0 : t = 0
  ·have tb : (t != 0) = false := by simp [t0]
   have HC2 : Hid (c = if (m : Int) < (d : Int) then 7 else 0) := by show c = _; rw [HC.out, if_pos s0, if_pos t0, ← HUS.out.2 t0, HUS.out.1, HD.out.1]
   have HT0 : Hid (t = 0) := t0
   clear s0 t0 ht HC x0 x1 x2 x3 x4
   go_enter Tryz.func59, Tryz.ntmps59
   go_wp2_with fail
   rw [← hV]
   clear hV
   refine HF.out.mono ?_
   rintro e w1 ⟨rfl, hb1⟩
   obtain ⟨x0, x1, x2, x3, x4⟩ := HXA.out.below hb1 hVw
   simp only [Nat.zero_add] at x0 x1 x2 x3 x4
   go_wp2_with fail
   refine (HG.out _ hb1).mono ?_
   rintro e w2' ⟨ra, q, rfl, ho, hb2⟩
   have hz1 := hb1.size
   have hz2 := hb2.size
   obtain ⟨w3, hw3⟩ : ∃ w3, w3 = w2'.alloc (.cells #[.int .i64 t, .slice ra m q] 28) := ⟨_, rfl⟩
   have X3 : Hid (BoxV w2'.heap.size [.int .i64 t, .slice ra m q] w3) := by rw [hw3]; exact (boxV_new w2' _ _).out
   have hl3 : w2'.heap.size < w3.heap.size := by rw [hw3]; simp
   have hb3 : Below V.heap.size V w3 := by rw [hw3]; exact (hb1.trans (hb2.mono hz1)).alloc (by omega) _
   have HO3 : Hid (w3.ownsRow V.heap.size 2 1 (.slice ra m q) m (us.map (Value.int .i64))) := by rw [hw3]; exact (low_owns ho hz1).alloc _
   clear x0 x1 x2 x3 x4 ho hb1 hb2
   have y0 := X3.out 0 _ rfl
   have y1 := X3.out 1 _ rfl
   go_upto_region 5 with fail
   rw [← hw3]
   clear hw3
   go_wp2_with fail
   refine (HNF.out _).mono ?_
   rintro e w2 ⟨rfl, hb4⟩
   have hz4 := hb4.size
   have z0 := (hb4.cell (p := ⟨w2'.heap.size, 0, none⟩) hl3).trans y0
   have z1 := (hb4.cell (p := ⟨w2'.heap.size, 1, none⟩) hl3).trans y1
   have hl4 : w2'.heap.size < w2.heap.size := by omega
   have HO4 : Hid (w2.ownsRow V.heap.size 2 1 (.slice ra m q) m (us.map (Value.int .i64))) := ((owns_hold0 HO3.out).below hb4).out
   have hb12 : Below V.heap.size V w2 := hb3.trans (hb4.mono hb3.size)
   clear y0 y1 hb3 hb4 X3
   have XB := HB.out.below (by have := HSZ.out; omega) hb12
   have b0 := XB.1 0 _ rfl
   have b1 := XB.1 1 _ rfl
   have b2 := XB.1 2 _ rfl
   have b3 := XB.1 3 _ rfl
   have b4 := XB.1 4 _ rfl
   have b5 := XB.1 5 _ rfl
   have b6 := XB.1 6 _ rfl
   have f0 := XB.2 0
   have f1 := XB.2 1
   have f2 := XB.2 2
   have f3 := XB.2 3
   have f4 := XB.2 4
   have f5 := XB.2 5
   have f6 := XB.2 6
   have BWX : Below w.heap.size w w2 := BV.trans (hb12.mono BV.size)
   have hVl : w.heap.size + 1 < w2.heap.size := by have := hb12.size; omega
   clear XB
   by_cases hlt : (m : Int) < (d : Int)
   ·have HR : Hid (cx = ⟨0, 0, 0, 0, 0⟩ ∧ ys = []) := HBAD.out (by rw [HC2.out, if_pos hlt]; omega)
    have H7 : Hid (c = 7) := by show c = 7; rw [HC2.out, if_pos hlt]
    go_wp2
    refine bodyPost_ret (v := .agg #[.int .i64 7, .int .i64 0, .int .i64 0, .int .i64 0, .int .i64 0, .int .i64 0, .slice none 0 0]) (by simp [results, Tryz.results59, go_sem, b0, b1, b2, b3, b4, b5, b6, hVl]) rfl ⟨none, 0, by rw [H7.out, HR.out.1, HR.out.2]; rfl, by rw [HR.out.2]; exact World.ownsRow_nil _ _ _ _, ?_⟩
    have hw1 : w.heap.size ≤ w.heap.size + 1 := by omega
    exact (((((((BWX.setCell hw1 _).setCell hw1 _).setCell hw1 _).setCell hw1 _).setCell hw1 _).setCell hw1 _).setCell hw1 _)
   ·have H0 : Hid (c = 0) := by show c = 0; rw [HC2.out, if_neg hlt]
    have hdm : d ≤ m := by omega
    obtain ⟨g, hra⟩ : ∃ g, ra = some ⟨g, 0, none⟩ := by
     rcases HO4.out.2 with ⟨h1, h2⟩ | ⟨g, cp, cur, h1, _⟩
     ·omega
     ·simp at h1; exact ⟨g, h1.1⟩
    subst hra
    have HO : Hid (OwnI w2 V.heap.size (.slice (some ⟨g, 0, none⟩) m q) (sgL zs x)) := by
     have := HO4.out
     rw [HUS.out.2 HT0.out] at this
     show w2.ownsRow _ _ _ _ _ _
     have e3 : (sgL zs x).length = m := by rw [← HUS.out.2 HT0.out]; exact HUS.out.1
     rw [e3]; exact this
    have hq := ownI_parts HO.out
    have HR : Hid (c = 0 ∧ cx = x ∧ ys = (sgL zs x).take d ∧ ys.length = d) := by
     have e1 : ys = (sgL zs x).take d := by rw [HY.out, if_pos H0.out, HD.out.2.1]
     exact ⟨H0.out, by rw [HX.out, if_pos H0.out], e1, by rw [e1, List.length_take]; have := hq.2.2.1; omega⟩
    obtain ⟨x0, x1, x2, x3, x4⟩ := HXA.out.below hb12 hVw
    simp only [Nat.zero_add] at x0 x1 x2 x3 x4
    have BW2 := BWX
    have hw2 := hVl
    have hdq : (d : Int) ≤ (q : Int) := by omega
    have hd0 : (0 : Int) ≤ (d : Int) := by omega
    have hwx : w.heap.size < w2.heap.size := by omega
    have HBS : Hid (w.heap.size + 1 < V.heap.size) := by have := HSZ.out; show _ < _; omega
    have HFO : Hid (w2.ownsRow V.heap.size 2 1 (.slice (some ⟨g, 0, none⟩) d q) d (((sgL zs x).take d).map (Value.int .i64))) := owns_takeI HO.out hdm
    have HFB : Hid (Below w.heap.size w w2) := BW2
    have HLE : Hid (w.heap.size ≤ V.heap.size ∧ w.heap.size ≤ w.heap.size + 1) := ⟨by have := HSZ.out; omega, by omega⟩
    go_wp2
    go_region
    all_goals go_wp2_with fail
    all_goals
     refine bodyPost_ret (v := .agg #[.int .i64 0, .int .i64 x.k, .int .i64 x.e, .int .i64 x.f, .int .i64 x.s, .int .i64 x.n, .slice (some ⟨g, 0, none⟩) d q]) (by simp [results, Tryz.results59, go_sem, b0, b1, b2, b3, b4, b5, b6, hw2]) rfl ⟨some ⟨g, 0, none⟩, q, ?_, ?_, ?_⟩
     ·rw [HR.out.1, HR.out.2.1, HR.out.2.2.2]
     ·rw [HR.out.2.2.2, HR.out.2.2.1]
      exact owns_drew (low_owns (own7 HFO.out _ HBS.out _ _ _ _ _ _ _) HLE.out.1)
     ·exact (below7 HFB.out _ HLE.out.2 _ _ _ _ _ _ _).drew
  ·have tb : (t != 0) = true := by simp [t0]
   have HE : Hid (c = t) := by show c = t; rw [HC.out, if_pos s0, if_neg t0]
   have HR : Hid (cx = ⟨0, 0, 0, 0, 0⟩ ∧ ys = []) := HBAD.out (by rw [HE.out]; exact t0)
   clear s0 t0 ht HC x0 x1 x2 x3 x4
   go_enter Tryz.func59, Tryz.ntmps59
   go_wp2_with fail
   rw [← hV]
   clear hV
   refine HF.out.mono ?_
   rintro e w1 ⟨rfl, hb1⟩
   obtain ⟨x0, x1, x2, x3, x4⟩ := HXA.out.below hb1 hVw
   simp only [Nat.zero_add] at x0 x1 x2 x3 x4
   go_wp2_with fail
   refine (HG.out _ hb1).mono ?_
   rintro e w2' ⟨ra, q, rfl, ho, hb2⟩
   have hz1 := hb1.size
   have hz2 := hb2.size
   obtain ⟨w3, hw3⟩ : ∃ w3, w3 = w2'.alloc (.cells #[.int .i64 t, .slice ra m q] 28) := ⟨_, rfl⟩
   have X3 : Hid (BoxV w2'.heap.size [.int .i64 t, .slice ra m q] w3) := by rw [hw3]; exact (boxV_new w2' _ _).out
   have hl3 : w2'.heap.size < w3.heap.size := by rw [hw3]; simp
   have hb3 : Below V.heap.size V w3 := by rw [hw3]; exact (hb1.trans (hb2.mono hz1)).alloc (by omega) _
   clear x0 x1 x2 x3 x4 ho hb1 hb2
   have y0 := X3.out 0 _ rfl
   have y1 := X3.out 1 _ rfl
   go_upto_region 5 with fail
   rw [← hw3]
   clear hw3
   have XB := HB.out.below (by have := HSZ.out; omega) hb3
   have b0 := XB.1 0 _ rfl
   have b1 := XB.1 1 _ rfl
   have b2 := XB.1 2 _ rfl
   have b3 := XB.1 3 _ rfl
   have b4 := XB.1 4 _ rfl
   have b5 := XB.1 5 _ rfl
   have b6 := XB.1 6 _ rfl
   have f0 := XB.2 0
   have f1 := XB.2 1
   have f2 := XB.2 2
   have f3 := XB.2 3
   have f4 := XB.2 4
   have f5 := XB.2 5
   have f6 := XB.2 6
   have BWX : Below w.heap.size w w3 := BV.trans (hb3.mono BV.size)
   have hVl : w.heap.size + 1 < w3.heap.size := by have := hb3.size; omega
   clear XB hb3
   go_wp2
   refine bodyPost_ret (v := .agg #[.int .i64 t, .int .i64 0, .int .i64 0, .int .i64 0, .int .i64 0, .int .i64 0, .slice none 0 0]) (by simp [results, Tryz.results59, go_sem, b0, b1, b2, b3, b4, b5, b6, hVl]) rfl ⟨none, 0, by rw [HE.out, HR.out.1, HR.out.2]; rfl, by rw [HR.out.2]; exact World.ownsRow_nil _ _ _ _, ?_⟩
   have hw1 : w.heap.size ≤ w.heap.size + 1 := by omega
   exact (((((((BWX.setCell hw1 _).setCell hw1 _).setCell hw1 _).setCell hw1 _).setCell hw1 _).setCell hw1 _).setCell hw1 _)
 ·have sb : (s != 0) = true := by simp [s0]
  have HE : Hid (c = s) := by show c = s; rw [HC.out, if_neg s0]
  have HR : Hid (cx = ⟨0, 0, 0, 0, 0⟩ ∧ ys = []) := HBAD.out (by rw [HE.out]; exact s0)
  clear s0 hs ht HC hc hcx hys h hst hbx hVs
  go_enter Tryz.func59, Tryz.ntmps59
  go_wp2_with fail
  rw [← hV]
  clear hV
  refine HF.out.mono ?_
  rintro e w1 ⟨rfl, hb1⟩
  have XB := HB.out.below (by have := HSZ.out; omega) hb1
  have b0 := XB.1 0 _ rfl
  have b1 := XB.1 1 _ rfl
  have b2 := XB.1 2 _ rfl
  have b3 := XB.1 3 _ rfl
  have b4 := XB.1 4 _ rfl
  have b5 := XB.1 5 _ rfl
  have b6 := XB.1 6 _ rfl
  have f0 := XB.2 0
  have f1 := XB.2 1
  have f2 := XB.2 2
  have f3 := XB.2 3
  have f4 := XB.2 4
  have f5 := XB.2 5
  have f6 := XB.2 6
  have BWX : Below w.heap.size w w1 := BV.trans (hb1.mono BV.size)
  have hVl : w.heap.size + 1 < w1.heap.size := by have := hb1.size; omega
  clear XB hb1
  go_wp2
  refine bodyPost_ret (v := .agg #[.int .i64 s, .int .i64 0, .int .i64 0, .int .i64 0, .int .i64 0, .int .i64 0, .slice none 0 0]) (by simp [results, Tryz.results59, go_sem, b0, b1, b2, b3, b4, b5, b6, hVl]) rfl ⟨none, 0, by rw [HE.out, HR.out.1, HR.out.2]; rfl, by rw [HR.out.2]; exact World.ownsRow_nil _ _ _ _, ?_⟩
  have hw1 : w.heap.size ≤ w.heap.size + 1 := by omega
  exact (((((((BWX.setCell hw1 _).setCell hw1 _).setCell hw1 _).setCell hw1 _).setCell hw1 _).setCell hw1 _).setCell hw1 _)
end

end Go.Proofs.YtfkajnenniapaaaGreat
