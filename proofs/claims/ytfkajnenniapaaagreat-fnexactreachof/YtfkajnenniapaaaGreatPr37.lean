/- Contracts. -/
import Derived.Test.YtfkajnenniapaaaGreatPr36
import Derived.Test.YtfkajnenniapaaaGreatPr29
import Derived.Test.YtfkajnenniapaaaGreatPr30
namespace Go.Proofs.YtfkajnenniapaaaGreat
set_option maxRecDepth 100000
set_option maxHeartbeats 8000000
open Go.RowKit
set_option linter.unusedVariables false
set_option linter.unusedSimpArgs false

section
open Go.RowKit Go.Maps
attribute [local go_sem] fldN0 fldN1
theorem implCombine_c (a : Option Addr) (n cap : Nat) (zs : List ShI) (f : Int) (x : StI) (w : World) (hn : n ≤ 1048576) (hcap : n ≤ cap) (hcm : cap ≤ maxLen) (h : ShIn w a n zs) : GivesCB 59 a n cap f x (cbCode f zs x) (cbX f zs x) (cbL f zs x) w := by
 unfold GivesCB
 obtain ⟨V, hV, BV, hVs, hst, hbx⟩ := two_boxes7 w x 54 58
 have HZ : Hid (zs.length = n) := h.1
 have hn' : (n : Int) ≤ 1048576 := by omega
 obtain ⟨c, hc⟩ : ∃ c, cbCode f zs x = c := ⟨_, rfl⟩
 obtain ⟨cx, hcx⟩ : ∃ cx, cbX f zs x = cx := ⟨_, rfl⟩
 obtain ⟨ys, hys⟩ : ∃ ys, cbL f zs x = ys := ⟨_, rfl⟩
 rw [hc, hcx, hys]
 obtain ⟨s, hs⟩ : ∃ s, shCode f zs = s := ⟨_, rfl⟩
 obtain ⟨t, ht⟩ : ∃ t, stCode x = t := ⟨_, rfl⟩
 have HC : Hid (c = if s = 0 then (if t = 0 then (if ((sgL zs x).length : Int) < 2 * f + 1 then 7 else 0) else t) else s) := by show c = _; rw [← hc, ← hs, ← ht]; rfl
 have HX : Hid (cx = if c = 0 then x else ⟨0, 0, 0, 0, 0⟩) := by show cx = _; rw [← hcx, ← hc]; rfl
 have HY : Hid (ys = if c = 0 then (sgL zs x).take (2 * f + 1).toNat else []) := by show ys = _; rw [← hys, ← hc]; rfl
 have HBAD : Hid (c ≠ 0 → cx = ⟨0, 0, 0, 0, 0⟩ ∧ ys = []) := fun q => ⟨by rw [HX.out, if_neg q], by rw [HY.out, if_neg q]⟩
 have HS : Hid (ShIn V a n zs) := h.below BV
 have HB : Hid (BoxW (w.heap.size + 1) [.int .i64 0, .int .i64 0, .int .i64 0, .int .i64 0, .int .i64 0, .int .i64 0, .slice none 0 0] V) := hbx
 have HXA : Hid (StAt V w.heap.size 0 x) := hst
 have HSZ : Hid (V.heap.size = w.heap.size + 1 + 1) := hVs
 have hVl0 : w.heap.size + 1 < V.heap.size := by omega
 have HF : Hid (Calls Tryz.prog 73 #[.slice a n cap, .int .i64 f] V fun e w' => e = .returned (.int .i64 s) ∧ Below V.heap.size V w') := by have := implSharesFault_c a n cap zs f V hn hcap hcm HS.out; rw [hs] at this; exact this
 by_cases s0 : s = 0
 ·have sb : (s != 0) = false := by simp [s0]
  have hok := sh_ok (hs.trans s0)
  obtain ⟨hf1, hf2⟩ := (inR_iff _ _ _).1 hok.1
  have hn2 : n ≤ 120 := by have := HZ.out; omega
  have hwf : ∀ z ∈ zs, i64W z.r := fun z hz => by have := (inR_iff _ _ _).1 (hok.2.2 z hz).1; exact i64W_of (by omega) (by omega)
  have hsc : sgCode zs x = t := by unfold sgCode; rw [if_neg (by have := HZ.out; omega), ht]
  obtain ⟨us, hus⟩ : ∃ us, sgRes zs x = us := ⟨_, rfl⟩
  obtain ⟨m, hm⟩ : ∃ m, us.length = m := ⟨_, rfl⟩
  have HG : Hid (∀ w2, Below V.heap.size V w2 → Calls Tryz.prog 85 #[.slice a n cap, .agg #[.int .i64 x.k, .int .i64 x.e, .int .i64 x.f, .int .i64 x.s, .int .i64 x.n]] w2 fun e w' => ∃ (ra : Option Addr) (rc : Nat), e = .returned (.agg #[.int .i64 t, .slice ra m rc]) ∧ w'.ownsRow w2.heap.size 2 1 (.slice ra m rc) m (us.map (Value.int .i64)) ∧ Below w2.heap.size w2 w') := fun w2 hb => by
   have := implSigners_c a n cap zs x w2 hn hwf (HS.out.below hb)
   unfold GivesSO at this
   rw [hsc, hus, hm] at this
   exact this
  have HUS : Hid (us.length = m ∧ (t = 0 → us = sgL zs x)) := ⟨hm, fun q => by rw [← hus]; unfold sgRes; rw [if_pos (hsc.trans q)]⟩
  have hml : m ≤ 120 := by
   have h1 : us.length ≤ (sgL zs x).length := by rw [← hus]; unfold sgRes; split <;> simp
   have := sgL_len zs x
   have := HZ.out
   omega
  have hml' : (m : Int) ≤ 120 := by omega
  have e1 : nfCode f = 0 := by unfold nfCode; rw [if_pos hok.1]
  have e2 : nfVal 2 f = 2 * f + 1 := by unfold nfVal; rw [if_pos hok.1]
  have HNF : Hid (∀ w : World, GivesNF 86 f (nfCode f) (nfVal 2 f) w) := implNeedOf_c f
  rw [e1, e2] at HNF
  unfold GivesNF at HNF
  obtain ⟨d, hd⟩ : ∃ d : Nat, 2 * f + 1 = (d : Int) := ⟨(2 * f + 1).toNat, by omega⟩
  rw [hd] at HNF
  have HD : Hid (2 * f + 1 = (d : Int) ∧ (2 * f + 1).toNat = d ∧ 3 ≤ d) := ⟨hd, by omega, by omega⟩
  have hd3 : (3 : Int) ≤ (d : Int) := by omega
  clear hc hcx hys hs hok h hst hbx hVs hwf hsc hus hm e1 e2 hd
  have hVw : w.heap.size < V.heap.size := by omega
  obtain ⟨x0, x1, x2, x3, x4⟩ := HXA.out
  by_cases t0 : t = 0
  ·have tb : (t != 0) = false := by simp [t0]
   have HC2 : Hid (c = if (m : Int) < (d : Int) then 7 else 0) := by show c = _; rw [HC.out, if_pos s0, if_pos t0, ← HUS.out.2 t0, HUS.out.1, HD.out.1]
   have HT0 : Hid (t = 0) := t0
   clear s0 t0 ht HC x0 x1 x2 x3 x4
   go_enter Tryz.func59, Tryz.ntmps59
   go_wp2_with fail
   rw [← hV]
   clear hV
   refine HF.out.mono ?_
   rintro e w1 ⟨rfl, hb1⟩
   obtain ⟨x0, x1, x2, x3, x4⟩ := HXA.out.below hb1 hVw
   simp only [Nat.zero_add] at x0 x1 x2 x3 x4
   go_wp2_with fail
   refine (HG.out _ hb1).mono ?_
   rintro e w2' ⟨ra, q, rfl, ho, hb2⟩
   have hz1 := hb1.size
   have hz2 := hb2.size
   obtain ⟨w3, hw3⟩ : ∃ w3, w3 = w2'.alloc (.cells #[.int .i64 t, .slice ra m q] 28) := ⟨_, rfl⟩
   have X3 : Hid (BoxV w2'.heap.size [.int .i64 t, .slice ra m q] w3) := by rw [hw3]; exact (boxV_new w2' _ _).out
   have hl3 : w2'.heap.size < w3.heap.size := by rw [hw3]; simp
   have hb3 : Below V.heap.size V w3 := by rw [hw3]; exact (hb1.trans (hb2.mono hz1)).alloc (by omega) _
   have HO3 : Hid (w3.ownsRow V.heap.size 2 1 (.slice ra m q) m (us.map (Value.int .i64))) := by rw [hw3]; exact (low_owns ho hz1).alloc _
   clear x0 x1 x2 x3 x4 ho hb1 hb2
   have y0 := X3.out 0 _ rfl
   have y1 := X3.out 1 _ rfl
   go_upto_region 5 with fail
   rw [← hw3]
   clear hw3
   go_wp2_with fail
   refine (HNF.out _).mono ?_
   rintro e w2 ⟨rfl, hb4⟩
   have hz4 := hb4.size
   have z0 := (hb4.cell (p := ⟨w2'.heap.size, 0, none⟩) hl3).trans y0
   have z1 := (hb4.cell (p := ⟨w2'.heap.size, 1, none⟩) hl3).trans y1
   have hl4 : w2'.heap.size < w2.heap.size := by omega
   have HO4 : Hid (w2.ownsRow V.heap.size 2 1 (.slice ra m q) m (us.map (Value.int .i64))) := ((owns_hold0 HO3.out).below hb4).out
   have hb12 : Below V.heap.size V w2 := hb3.trans (hb4.mono hb3.size)
   clear y0 y1 hb3 hb4 X3
   have XB := HB.out.below (by have := HSZ.out; omega) hb12
   have b0 := XB.1 0 _ rfl
   have b1 := XB.1 1 _ rfl
   have b2 := XB.1 2 _ rfl
   have b3 := XB.1 3 _ rfl
   have b4 := XB.1 4 _ rfl
   have b5 := XB.1 5 _ rfl
   have b6 := XB.1 6 _ rfl
   have f0 := XB.2 0
   have f1 := XB.2 1
   have f2 := XB.2 2
   have f3 := XB.2 3
   have f4 := XB.2 4
   have f5 := XB.2 5
   have f6 := XB.2 6
   have BWX : Below w.heap.size w w2 := BV.trans (hb12.mono BV.size)
   have hVl : w.heap.size + 1 < w2.heap.size := by have := hb12.size; omega
   clear XB
   by_cases hlt : (m : Int) < (d : Int)
   ·have HR : Hid (cx = ⟨0, 0, 0, 0, 0⟩ ∧ ys = []) := HBAD.out (by rw [HC2.out, if_pos hlt]; omega)
    have H7 : Hid (c = 7) := by show c = 7; rw [HC2.out, if_pos hlt]
    go_wp2
    refine bodyPost_ret (v := .agg #[.int .i64 7, .int .i64 0, .int .i64 0, .int .i64 0, .int .i64 0, .int .i64 0, .slice none 0 0]) (by simp [results, Tryz.results59, go_sem, b0, b1, b2, b3, b4, b5, b6, hVl]) rfl ⟨none, 0, by rw [H7.out, HR.out.1, HR.out.2]; rfl, by rw [HR.out.2]; exact World.ownsRow_nil _ _ _ _, ?_⟩
    have hw1 : w.heap.size ≤ w.heap.size + 1 := by omega
    exact (((((((BWX.setCell hw1 _).setCell hw1 _).setCell hw1 _).setCell hw1 _).setCell hw1 _).setCell hw1 _).setCell hw1 _)
   ·have H0 : Hid (c = 0) := by show c = 0; rw [HC2.out, if_neg hlt]
    have hdm : d ≤ m := by omega
    obtain ⟨g, hra⟩ : ∃ g, ra = some ⟨g, 0, none⟩ := by
     rcases HO4.out.2 with ⟨h1, h2⟩ | ⟨g, cp, cur, h1, _⟩
     ·omega
     ·simp at h1; exact ⟨g, h1.1⟩
    subst hra
    have HO : Hid (OwnI w2 V.heap.size (.slice (some ⟨g, 0, none⟩) m q) (sgL zs x)) := by
     have := HO4.out
     rw [HUS.out.2 HT0.out] at this
     show w2.ownsRow _ _ _ _ _ _
     have e3 : (sgL zs x).length = m := by rw [← HUS.out.2 HT0.out]; exact HUS.out.1
     rw [e3]; exact this
    have hq := ownI_parts HO.out
    have HR : Hid (c = 0 ∧ cx = x ∧ ys = (sgL zs x).take d ∧ ys.length = d) := by
     have e1 : ys = (sgL zs x).take d := by rw [HY.out, if_pos H0.out, HD.out.2.1]
     exact ⟨H0.out, by rw [HX.out, if_pos H0.out], e1, by rw [e1, List.length_take]; have := hq.2.2.1; omega⟩
    obtain ⟨x0, x1, x2, x3, x4⟩ := HXA.out.below hb12 hVw
    simp only [Nat.zero_add] at x0 x1 x2 x3 x4
    have BW2 := BWX
    have hw2 := hVl
    have hdq : (d : Int) ≤ (q : Int) := by omega
    have hd0 : (0 : Int) ≤ (d : Int) := by omega
    have hwx : w.heap.size < w2.heap.size := by omega
    have HBS : Hid (w.heap.size + 1 < V.heap.size) := by have := HSZ.out; show _ < _; omega
    have HFO : Hid (w2.ownsRow V.heap.size 2 1 (.slice (some ⟨g, 0, none⟩) d q) d (((sgL zs x).take d).map (Value.int .i64))) := owns_takeI HO.out hdm
    have HFB : Hid (Below w.heap.size w w2) := BW2
    have HLE : Hid (w.heap.size ≤ V.heap.size ∧ w.heap.size ≤ w.heap.size + 1) := ⟨by have := HSZ.out; omega, by omega⟩
    go_wp2
    go_region
    all_goals go_wp2_with fail
    all_goals
     refine bodyPost_ret (v := .agg #[.int .i64 0, .int .i64 x.k, .int .i64 x.e, .int .i64 x.f, .int .i64 x.s, .int .i64 x.n, .slice (some ⟨g, 0, none⟩) d q]) (by simp [results, Tryz.results59, go_sem, b0, b1, b2, b3, b4, b5, b6, hw2]) rfl ⟨some ⟨g, 0, none⟩, q, ?_, ?_, ?_⟩
     ·rw [HR.out.1, HR.out.2.1, HR.out.2.2.2]
     ·rw [HR.out.2.2.2, HR.out.2.2.1]
      exact owns_drew (low_owns (own7 HFO.out _ HBS.out _ _ _ _ _ _ _) HLE.out.1)
     ·exact (below7 HFB.out _ HLE.out.2 _ _ _ _ _ _ _).drew
  ·have tb : (t != 0) = true := by simp [t0]
   have HE : Hid (c = t) := by show c = t; rw [HC.out, if_pos s0, if_neg t0]
   have HR : Hid (cx = ⟨0, 0, 0, 0, 0⟩ ∧ ys = []) := HBAD.out (by rw [HE.out]; exact t0)
   clear s0 t0 ht HC x0 x1 x2 x3 x4
   go_enter Tryz.func59, Tryz.ntmps59
   go_wp2_with fail
   rw [← hV]
   clear hV
   refine HF.out.mono ?_
   rintro e w1 ⟨rfl, hb1⟩
   obtain ⟨x0, x1, x2, x3, x4⟩ := HXA.out.below hb1 hVw
   simp only [Nat.zero_add] at x0 x1 x2 x3 x4
   go_wp2_with fail
   refine (HG.out _ hb1).mono ?_
   rintro e w2' ⟨ra, q, rfl, ho, hb2⟩
   have hz1 := hb1.size
   have hz2 := hb2.size
   obtain ⟨w3, hw3⟩ : ∃ w3, w3 = w2'.alloc (.cells #[.int .i64 t, .slice ra m q] 28) := ⟨_, rfl⟩
   have X3 : Hid (BoxV w2'.heap.size [.int .i64 t, .slice ra m q] w3) := by rw [hw3]; exact (boxV_new w2' _ _).out
   have hl3 : w2'.heap.size < w3.heap.size := by rw [hw3]; simp
   have hb3 : Below V.heap.size V w3 := by rw [hw3]; exact (hb1.trans (hb2.mono hz1)).alloc (by omega) _
   clear x0 x1 x2 x3 x4 ho hb1 hb2
   have y0 := X3.out 0 _ rfl
   have y1 := X3.out 1 _ rfl
   go_upto_region 5 with fail
   rw [← hw3]
   clear hw3
   have XB := HB.out.below (by have := HSZ.out; omega) hb3
   have b0 := XB.1 0 _ rfl
   have b1 := XB.1 1 _ rfl
   have b2 := XB.1 2 _ rfl
   have b3 := XB.1 3 _ rfl
   have b4 := XB.1 4 _ rfl
   have b5 := XB.1 5 _ rfl
   have b6 := XB.1 6 _ rfl
   have f0 := XB.2 0
   have f1 := XB.2 1
   have f2 := XB.2 2
   have f3 := XB.2 3
   have f4 := XB.2 4
   have f5 := XB.2 5
   have f6 := XB.2 6
   have BWX : Below w.heap.size w w3 := BV.trans (hb3.mono BV.size)
   have hVl : w.heap.size + 1 < w3.heap.size := by have := hb3.size; omega
   clear XB hb3
   go_wp2
   refine bodyPost_ret (v := .agg #[.int .i64 t, .int .i64 0, .int .i64 0, .int .i64 0, .int .i64 0, .int .i64 0, .slice none 0 0]) (by simp [results, Tryz.results59, go_sem, b0, b1, b2, b3, b4, b5, b6, hVl]) rfl ⟨none, 0, by rw [HE.out, HR.out.1, HR.out.2]; rfl, by rw [HR.out.2]; exact World.ownsRow_nil _ _ _ _, ?_⟩
   have hw1 : w.heap.size ≤ w.heap.size + 1 := by omega
   exact (((((((BWX.setCell hw1 _).setCell hw1 _).setCell hw1 _).setCell hw1 _).setCell hw1 _).setCell hw1 _).setCell hw1 _)
 ·have sb : (s != 0) = true := by simp [s0]
  have HE : Hid (c = s) := by show c = s; rw [HC.out, if_neg s0]
  have HR : Hid (cx = ⟨0, 0, 0, 0, 0⟩ ∧ ys = []) := HBAD.out (by rw [HE.out]; exact s0)
  clear s0 hs ht HC hc hcx hys h hst hbx hVs
  go_enter Tryz.func59, Tryz.ntmps59
  go_wp2_with fail
  rw [← hV]
  clear hV
  refine HF.out.mono ?_
  rintro e w1 ⟨rfl, hb1⟩
  have XB := HB.out.below (by have := HSZ.out; omega) hb1
  have b0 := XB.1 0 _ rfl
  have b1 := XB.1 1 _ rfl
  have b2 := XB.1 2 _ rfl
  have b3 := XB.1 3 _ rfl
  have b4 := XB.1 4 _ rfl
  have b5 := XB.1 5 _ rfl
  have b6 := XB.1 6 _ rfl
  have f0 := XB.2 0
  have f1 := XB.2 1
  have f2 := XB.2 2
  have f3 := XB.2 3
  have f4 := XB.2 4
  have f5 := XB.2 5
  have f6 := XB.2 6
  have BWX : Below w.heap.size w w1 := BV.trans (hb1.mono BV.size)
  have hVl : w.heap.size + 1 < w1.heap.size := by have := hb1.size; omega
  clear XB hb1
  go_wp2
  refine bodyPost_ret (v := .agg #[.int .i64 s, .int .i64 0, .int .i64 0, .int .i64 0, .int .i64 0, .int .i64 0, .slice none 0 0]) (by simp [results, Tryz.results59, go_sem, b0, b1, b2, b3, b4, b5, b6, hVl]) rfl ⟨none, 0, by rw [HE.out, HR.out.1, HR.out.2]; rfl, by rw [HR.out.2]; exact World.ownsRow_nil _ _ _ _, ?_⟩
  have hw1 : w.heap.size ≤ w.heap.size + 1 := by omega
  exact (((((((BWX.setCell hw1 _).setCell hw1 _).setCell hw1 _).setCell hw1 _).setCell hw1 _).setCell hw1 _).setCell hw1 _)
theorem fldC0 (c a b d e k : Int) (v : Value) (w : World) : (Instr.field 58 (.agg #[.int .i64 c, .int .i64 a, .int .i64 b, .int .i64 d, .int .i64 e, .int .i64 k, v]) 0).run Tryz.prog w = .ok (.int .i64 c) w := by kernel_rfl
def GivesIS (fn : Nat) (a : Option Addr) (n cap : Nat) (f : Int) (x : StI) (t : Bool) (w : World) : Prop := Calls Tryz.prog fn #[.slice a n cap, .int .i64 f, .agg #[.int .i64 x.k, .int .i64 x.e, .int .i64 x.f, .int .i64 x.s, .int .i64 x.n]] w fun e w' => e = .returned (.bool t) ∧ Below w.heap.size w w'
def isB (f : Int) (zs : List ShI) (x : StI) : Bool := (cbCode f zs x == 0)
attribute [local go_sem] fldC0 in
theorem implSigned_c (a : Option Addr) (n cap : Nat) (zs : List ShI) (f : Int) (x : StI) (w : World) (hn : n ≤ 1048576) (hcap : n ≤ cap) (hcm : cap ≤ maxLen) (h : ShIn w a n zs) : GivesIS 76 a n cap f x (isB f zs x) w := by
 unfold GivesIS
 obtain ⟨V, hV⟩ : ∃ V, V = w.alloc (.cells #[.int .i64 x.k, .int .i64 x.e, .int .i64 x.f, .int .i64 x.s, .int .i64 x.n] 54) := ⟨_, rfl⟩
 have BV : Below w.heap.size w V := by rw [hV]; exact zN
 have HCB := implCombine_c a n cap zs f x V hn hcap hcm (h.below BV)
 unfold GivesCB at HCB
 obtain ⟨c, hc⟩ : ∃ c, cbCode f zs x = c := ⟨_, rfl⟩
 unfold isB
 rw [hc] at HCB ⊢
 have HH : Hid _ := HCB
 clear HCB h hc
 go_enter Tryz.func76, Tryz.ntmps76
 go_wp2_with fail
 rw [← hV]
 clear hV
 refine Calls.mono HH.out ?_
 rintro e w1 ⟨ra, rc, rfl, _, hb1⟩
 go_wp2
 go_ret
 exact ⟨rfl, BV.trans (hb1.mono BV.size)⟩
theorem l9Signed_c (a : Option Addr) (n cap : Nat) (zs : List ShI) (f : Int) (x : StI) (w : World) (hn : n ≤ 120) (hf1 : 1 ≤ f) (hf2 : f ≤ 2) (h : ShIn w a n zs) : GivesIS 67 a n cap f x (decide (2 * f + 1 ≤ ((sgL zs x).length : Int))) w := by
 unfold GivesIS
 obtain ⟨V, hV⟩ : ∃ V, V = w.alloc (.cells #[.int .i64 x.k, .int .i64 x.e, .int .i64 x.f, .int .i64 x.s, .int .i64 x.n] 54) := ⟨_, rfl⟩
 have BV : Below w.heap.size w V := by rw [hV]; exact zN
 have HL : Hid _ := l9Signers_c a n cap zs x V (by omega) (h.below BV)
 have hl : (sgL zs x).length ≤ 120 := by have := sgL_len zs x; have := h.1; omega
 obtain ⟨m, hm⟩ : ∃ m, (sgL zs x).length = m := ⟨_, rfl⟩
 rw [hm] at HL hl ⊢
 have hl' : (m : Int) ≤ 120 := by omega
 clear h hm
 go_enter Tryz.func67, Tryz.ntmps67
 go_wp2_with fail
 rw [← hV]
 clear hV
 refine Calls.mono HL.out ?_
 rintro e w1 ⟨g, q, rfl, _, hb1⟩
 go_wp2
 go_ret
 exact ⟨rfl, BV.trans (hb1.mono BV.size)⟩
end

def nextSt (e : Int) (i : Nat) : StI := ⟨3, e, 0, 0, (i : Int)⟩
def sgP (f : Int) (zs : List ShI) (e : Int) (i : Nat) : Bool := isB f zs (nextSt e i)
def byT : Option Nat → Int
 | none => 0
 | some i => (i : Int)
def byC : Option Nat → Int
 | none => 4
 | some _ => 0
theorem nf_zero {cs : List ConfI} {e : Int} {i : Nat} (hi : i < cs.length) : nfC cs e (i : Int) = 0 ↔ eAt cs i = e + 1 := by
 unfold nfC eAt
 rw [if_neg (by omega), Int.toNat_natCast]
 by_cases q : (cs[i]?.getD default).e = e + 1
 ·rw [if_neg (by simp [q])]; simp [q]
 ·rw [if_pos q]; simp [q]
theorem byShares_c (a : Option Addr) (n cap : Nat) (cs : List ConfI) (b : Option Addr) (m cap' : Nat) (zs : List ShI) (f : Int) (p : Nat) (w : World) (hn : n ≤ 1048576) (h : ConfsIn w a n cs) (hm : m ≤ 1048576) (hcap : m ≤ cap') (hcm : cap' ≤ maxLen) (h' : ShIn w b m zs) (hp : p < n) (he : 0 ≤ eAt cs p ∧ eAt cs p ≤ 100) :
  Calls Tryz.prog 42 #[.agg #[.slice a n cap, .slice b m cap', .int .i64 f], .int .i64 (p : Int)] w fun d w' => d = .returned (.tuple #[.int .i64 (byT (nx cs (sgP f zs) (eAt cs p) n)), .int .i64 (byC (nx cs (sgP f zs) (eAt cs p) n))]) ∧ Below w.heap.size w w' := by
 have HLN : Hid (cs.length = n) := h.len
 obtain ⟨o, ho⟩ : ∃ o, nx cs (sgP f zs) (eAt cs p) n = o := ⟨_, rfl⟩
 rw [ho]
 obtain ⟨e, hee⟩ : ∃ e, eAt cs p = e := ⟨_, rfl⟩
 rw [hee] at ho he
 have HO : Hid (nx cs (sgP f zs) e n = o) := ho
 obtain ⟨tv, hto⟩ : ∃ t, byT o = t := ⟨_, rfl⟩
 obtain ⟨co, hco⟩ : ∃ t, byC o = t := ⟨_, rfl⟩
 have HTO : Hid (byT o = tv) := hto
 have HCO : Hid (byC o = co) := hco
 rw [hto, hco]
 obtain ⟨he0, he1⟩ := he
 obtain ⟨b0, off0, c, rfl, hc, hat, _⟩ := h.at hp
 have hce : c.e = e := by rw [← hee]; unfold eAt; rw [hc]; rfl
 obtain ⟨V, hV⟩ : ∃ V, V = w.alloc (.cells #[.slice (some ⟨b0, off0, none⟩) n cap, .slice b m cap', .int .i64 f] 82) := ⟨_, rfl⟩
 have BV : Below w.heap.size w V := by rw [hV]; exact zN
 have XB : BoxV w.heap.size [.slice (some ⟨b0, off0, none⟩) n cap, .slice b m cap', .int .i64 f] V := by rw [hV]; exact (boxV_new w _ _).out
 have hGl : w.heap.size < V.heap.size := by rw [hV]; simp
 have HBV := hidX BV
 have HXB := hidX XB
 have HC := hidX (h.below BV)
 have HS := hidX (ShIn.below h' BV)
 obtain ⟨y0, _⟩ := hat.below BV
 rw [hce] at y0
 have hyl := zL V _ y0
 have g0 := XB 0 _ rfl
 have hp' : (p : Int) < (n : Int) := by omega
 have hn' : (n : Int) ≤ 1048576 := by omega
 clear h h' hto hco ho hc hat hce hee BV XB
 go_enter Tryz.func42, Tryz.ntmps42
 go_upto_region 1 with fail
 rw [← hV]
 clear hV
 generalize w.heap.size = G at HXB hGl g0 ⊢
 go_wp2_with fail
 go_loopw [19] (fun i wr => ∃ k : Nat, k ≤ n ∧ i = .int .i64 (k : Int) ∧ (∀ j, j < k → sB cs (sgP f zs) e j = false) ∧ Below V.heap.size V wr) (fun i _ => n - (intOf i).toNat)
 case atStart => exact ⟨0, Nat.zero_le _, rfl, fun j hj => by omega, Below.refl _ _⟩
 case round =>
  obtain ⟨k, hk, rfl, hno, hbr⟩ := hrel
  have HNO := hidX hno
  have HBR := hidX hbr
  clear hno hbr
  by_cases hlt : k < n
  ·have hlt' : (k : Int) < (n : Int) := by omega
   obtain ⟨V2, hV2⟩ : ∃ V2, V2 = wr.alloc (.cells #[.int .i64 3, .int .i64 e, .int .i64 0, .int .i64 0, .int .i64 (k : Int)] 54) := ⟨_, rfl⟩
   have B2 : Below wr.heap.size wr V2 := by rw [hV2]; exact zN
   have X2 : BoxV wr.heap.size [.int .i64 3, .int .i64 e, .int .i64 0, .int .i64 0, .int .i64 (k : Int)] V2 := by rw [hV2]; exact (boxV_new wr _ _).out
   have hX2l : wr.heap.size < V2.heap.size := by rw [hV2]; simp
   have HB2 : Hid (Below V.heap.size V V2) := HBR.out.trans (B2.mono HBR.out.size)
   have HX2 := hidX X2
   have G2 := ((BoxV.hold HXB.out hGl).below HB2.out).out
   have g0' := G2 0 _ rfl
   have hG2l : G < V2.heap.size := by have := HB2.out.size; omega
   obtain ⟨q, hq⟩ : ∃ q, nfC cs e (k : Int) = q := ⟨_, rfl⟩
   have HQ : Hid (nfC cs e (k : Int) = q) := hq
   have HNF := nextFault_c (some ⟨b0, off0, none⟩) n cap cs e (k : Int) V2 hn ⟨he0, he1⟩ (HC.out.below HB2.out)
   rw [hq] at HNF
   have HNF := hidX HNF
   clear B2 X2 HBR hq
   go_upto_region 7 with fail
   rw [← hV2]
   clear hV2
   generalize wr.heap.size = Sb at HX2 hX2l ⊢
   by_cases q0 : q = 0
   ·subst q0
    have heq := (nf_zero (cs := cs) (e := e) (by rw [HLN.out]; exact hlt)).1 HQ.out
    obtain ⟨t, ht⟩ : ∃ t, isB f zs (nextSt e k) = t := ⟨_, rfl⟩
    have HT : Hid (isB f zs (nextSt e k) = t) := ht
    have HSB : Hid (sB cs (sgP f zs) e k = t) := by
     show _ = t
     unfold sB sgP
     rw [HT.out, decide_eq_true heq, Bool.true_and]
    clear heq ht
    go_wp2_with fail
    refine HNF.out.mono ?_
    rintro d w3 ⟨rfl, hb3⟩
    have HB3 : Hid (Below V.heap.size V w3) := HB2.out.trans (hb3.mono HB2.out.size)
    have G3 := ((BoxV.hold HXB.out hGl).below HB3.out).out
    have g1 := G3 1 _ rfl
    have g2 := G3 2 _ rfl
    have X3 := ((BoxV.hold HX2.out hX2l).below hb3).out
    have s0 := X3 0 _ rfl
    have s1 := X3 1 _ rfl
    have s2 := X3 2 _ rfl
    have s3 := X3 3 _ rfl
    have s4 := X3 4 _ rfl
    have hG3l : G < w3.heap.size := by have := HB3.out.size; omega
    have hS3l : Sb < w3.heap.size := by have := hb3.size; omega
    have HIS := implSigned_c b m cap' zs f (nextSt e k) w3 hm hcap hcm (ShIn.below HS.out HB3.out)
    rw [HT.out] at HIS
    have HIS := hidX HIS
    clear hb3 g0' G2 G3 X3 HNF
    go_wp2_with fail
    refine HIS.out.mono ?_
    rintro d w4 ⟨rfl, hb4⟩
    have HB4 : Hid (Below V.heap.size V w4) := HB3.out.trans (hb4.mono HB3.out.size)
    clear hb4 g1 g2 s0 s1 s2 s3 s4 HIS
    cases t
    ·go_wp2_with fail
     exact ⟨⟨k + 1, by omega, by go_num, fun j hj => by
      by_cases hjk : j = k
      ·rw [hjk]; exact HSB.out
      ·exact HNO.out j (by omega), HB4.out⟩, by simp [intOf]; omega⟩
    ·have hres : o = some k := by rw [← HO.out]; exact nx_of hlt HSB.out HNO.out
     have hto2 : tv = (k : Int) := by rw [← HTO.out, hres]; rfl
     have hco2 : co = 0 := by rw [← HCO.out, hres]; rfl
     clear hres
     go_wp2_with fail
     refine bodyPost_ret (v := .tuple #[.int .i64 (k : Int), .int .i64 0]) (by simp [results, Tryz.results42, go_sem]) rfl ?_
     exact ⟨by rw [hto2, hco2], HBV.out.trans (HB4.out.mono HBV.out.size)⟩
   ·have qb : (q == 0) = false := by simpa using q0
    have HSB : Hid (sB cs (sgP f zs) e k = false) := by
     show _ = false
     have : ¬ eAt cs k = e + 1 := fun x => q0 (by rw [← HQ.out]; exact (nf_zero (by rw [HLN.out]; exact hlt)).2 x)
     unfold sB
     rw [decide_eq_false this, Bool.false_and]
    clear q0
    go_wp2_with fail
    refine HNF.out.mono ?_
    rintro d w3 ⟨rfl, hb3⟩
    have HB3 : Hid (Below V.heap.size V w3) := HB2.out.trans (hb3.mono HB2.out.size)
    clear hb3 g0' G2 HNF
    go_wp2_with fail
    exact ⟨⟨k + 1, by omega, by go_num, fun j hj => by
     by_cases hjk : j = k
     ·rw [hjk]; exact HSB.out
     ·exact HNO.out j (by omega), HB3.out⟩, by simp [intOf]; omega⟩
  ·have hkn : k = n := by omega
   subst hkn
   have hres : o = none := by rw [← HO.out]; exact nx_not HNO.out
   have hto2 : tv = 0 := by rw [← HTO.out, hres]; rfl
   have hco2 : co = 4 := by rw [← HCO.out, hres]; rfl
   clear hres
   go_wp2_with fail
   refine bodyPost_ret (v := .tuple #[.int .i64 0, .int .i64 4]) (by simp [results, Tryz.results42, go_sem]) rfl ?_
   exact ⟨by rw [hto2, hco2], HBV.out.trans (HBR.out.mono HBV.out.size)⟩

end Go.Proofs.YtfkajnenniapaaaGreat
