/-
  CONTRACTS: Combine and IsSigned of both programs.
  Conditions: each contract bears its own.
-/
import Derived.Test.YtdfhebmecbcegaaCe8
namespace Go.Proofs.Ytdfhebmecbcegaa
open Go.RowKit Go.Maps
set_option linter.unusedVariables false
set_option linter.unusedSimpArgs false
attribute [local go_sem] fldN0 fldN1

def cbX (f : Int) (zs : List ShI) (x : StI) : StI := if cbCode f zs x = 0 then x else ⟨0, 0, 0, 0, 0⟩
def cbL (f : Int) (zs : List ShI) (x : StI) : List Int := if cbCode f zs x = 0 then (sgL zs x).take (2 * f + 1).toNat else []

def GivesCB (fn : Nat) (a : Option Addr) (n cap : Nat) (f : Int) (x : StI) (c : Int) (cx : StI) (ys : List Int) (w : World) : Prop := Calls Try.prog fn #[.slice a n cap, .int .i64 f, .agg #[.int .i64 x.k, .int .i64 x.e, .int .i64 x.f, .int .i64 x.s, .int .i64 x.n]] w fun e w' => ∃ (ra : Option Addr) (rc : Nat), e = .returned (.agg #[.int .i64 c, .int .i64 cx.k, .int .i64 cx.e, .int .i64 cx.f, .int .i64 cx.s, .int .i64 cx.n, .slice ra ys.length rc]) ∧ w'.ownsRow w.heap.size 2 1 (.slice ra ys.length rc) ys.length (ys.map (Value.int .i64)) ∧ Below w.heap.size w w'

theorem two_boxes7 (w : World) (x : StI) (T R : TypeId) : ∃ V, V = (w.alloc (.cells #[.int .i64 x.k, .int .i64 x.e, .int .i64 x.f, .int .i64 x.s, .int .i64 x.n] T)).alloc (.cells #[.int .i64 0, .int .i64 0, .int .i64 0, .int .i64 0, .int .i64 0, .int .i64 0, .slice none 0 0] R) ∧ Below w.heap.size w V ∧ V.heap.size = w.heap.size + 1 + 1 ∧ StAt V w.heap.size 0 x ∧ BoxW (w.heap.size + 1) [.int .i64 0, .int .i64 0, .int .i64 0, .int .i64 0, .int .i64 0, .int .i64 0, .slice none 0 0] V := by
  refine ⟨_, rfl, ((Below.refl _ _).alloc (Nat.le_refl _) _).alloc (by simp) _, by simp, ?_, ?_⟩
  · exact (StAt.new w x T).below ((Below.refl _ _).alloc (Nat.le_refl _) _) (by simp)
  · have q := boxW_new (w.alloc (.cells #[.int .i64 x.k, .int .i64 x.e, .int .i64 x.f, .int .i64 x.s, .int .i64 x.n] T)) #[.int .i64 0, .int .i64 0, .int .i64 0, .int .i64 0, .int .i64 0, .int .i64 0, .slice none 0 0] R
    simp only [World.size_alloc] at q
    exact q

theorem owns_takeI {w : World} {B : Nat} {g m q k : Nat} {ys : List Int} (h : OwnI w B (.slice (some ⟨g, 0, none⟩) m q) ys) (hk : k ≤ m) : w.ownsRow B 2 1 (.slice (some ⟨g, 0, none⟩) k q) k ((ys.take k).map (Value.int .i64)) := by
  have hp := ownI_parts h
  have h0 : w.ownsRow B 2 1 (.slice (some ⟨g, 0, none⟩) m q) ys.length (ys.map (Value.int .i64)) := h
  refine ⟨by simp; omega, ?_⟩
  rcases h0.2 with ⟨h1, _⟩ | ⟨g', cap', cur, h1, hg, hb, h3, h4, h5, h6⟩
  · simp at h1
  · simp at h1
    obtain ⟨rfl, _, rfl⟩ := h1
    refine .inr ⟨g, q, cur, rfl, hg, hb, by omega, h4, h5, ?_⟩
    rw [List.map_take, ← h6, List.take_take]
    congr 1
    omega

/-- What lies below the two boxes stays. -/
abbrev KB (w V W' : World) : Prop := (∀ b o, b < V.heap.size → b ≠ w.heap.size + 1 → W'.cell? ⟨b, o, none⟩ = V.cell? ⟨b, o, none⟩)

theorem owns_drew {w : World} {B : Nat} {t : TypeId} {sz : Nat} {v : Value} {n : Nat} {xs : List Value} (h : w.ownsRow B t sz v n xs) : w.drew.ownsRow B t sz v n xs := owns_kept h (fun _ _ => rfl)

theorem own7 {w : World} {base : Nat} {e : TypeId} {size : Nat} {v : Value} {n : Nat} {xs : List Value} (h : w.ownsRow base e size v n xs) (b : Nat) (hb : b < base) (v0 v1 v2 v3 v4 v5 v6 : Value) : (((((((w.setCell ⟨b, 0, none⟩ v0).setCell ⟨b, 1, none⟩ v1).setCell ⟨b, 2, none⟩ v2).setCell ⟨b, 3, none⟩ v3).setCell ⟨b, 4, none⟩ v4).setCell ⟨b, 5, none⟩ v5).setCell ⟨b, 6, none⟩ v6).ownsRow base e size v n xs := (ownsE_set (ownsE_set (ownsE_set (ownsE_set (ownsE_set (ownsE_set (ownsE_set h (a := ⟨b, 0, none⟩) hb v0) (a := ⟨b, 1, none⟩) hb v1) (a := ⟨b, 2, none⟩) hb v2) (a := ⟨b, 3, none⟩) hb v3) (a := ⟨b, 4, none⟩) hb v4) (a := ⟨b, 5, none⟩) hb v5) (a := ⟨b, 6, none⟩) hb v6)

theorem below7 {B : Nat} {w0 w : World} (h : Below B w0 w) (b : Nat) (hb : B ≤ b) (v0 v1 v2 v3 v4 v5 v6 : Value) : Below B w0 (((((((w.setCell ⟨b, 0, none⟩ v0).setCell ⟨b, 1, none⟩ v1).setCell ⟨b, 2, none⟩ v2).setCell ⟨b, 3, none⟩ v3).setCell ⟨b, 4, none⟩ v4).setCell ⟨b, 5, none⟩ v5).setCell ⟨b, 6, none⟩ v6) := (((((((h.setCell hb v0).setCell hb v1).setCell hb v2).setCell hb v3).setCell hb v4).setCell hb v5).setCell hb v6)

theorem low_owns {w : World} {B B' : Nat} {t : TypeId} {sz : Nat} {v : Value} {n : Nat} {xs : List Value} (h : w.ownsRow B t sz v n xs) (hB : B' ≤ B) : w.ownsRow B' t sz v n xs := by
  refine ⟨h.1, ?_⟩
  rcases h.2 with q | ⟨g, cap, cur, e, hg, rest⟩
  · exact .inl q
  · exact .inr ⟨g, cap, cur, e, Nat.le_trans hB hg, rest⟩

set_option maxRecDepth 20000 in
set_option maxHeartbeats 4000000 in
theorem specCombine_c (a : Option Addr) (n cap : Nat) (zs : List ShI) (f : Int) (x : StI) (w : World) (hn : n ≤ 1048576) (hcap : n ≤ cap) (hcm : cap ≤ maxLen) (h : ShIn w a n zs) : GivesCB 15 a n cap f x (cbCode f zs x) (cbX f zs x) (cbL f zs x) w := by
  unfold GivesCB
  obtain ⟨V, hV, BV, hVs, hst, hbx⟩ := two_boxes7 w x 26 33
  have HZ : Hid (zs.length = n) := h.1
  have hn' : (n : Int) ≤ 1048576 := by omega
  obtain ⟨c, hc⟩ : ∃ c, cbCode f zs x = c := ⟨_, rfl⟩
  obtain ⟨cx, hcx⟩ : ∃ cx, cbX f zs x = cx := ⟨_, rfl⟩
  obtain ⟨ys, hys⟩ : ∃ ys, cbL f zs x = ys := ⟨_, rfl⟩
  rw [hc, hcx, hys]
  obtain ⟨s, hs⟩ : ∃ s, shCode f zs = s := ⟨_, rfl⟩
  obtain ⟨t, ht⟩ : ∃ t, stCode x = t := ⟨_, rfl⟩
  have HC : Hid (c = if s = 0 then (if t = 0 then (if ((sgL zs x).length : Int) < 2 * f + 1 then 7 else 0) else t) else s) := by show c = _; rw [← hc, ← hs, ← ht]; rfl
  have HX : Hid (cx = if c = 0 then x else ⟨0, 0, 0, 0, 0⟩) := by show cx = _; rw [← hcx, ← hc]; rfl
  have HY : Hid (ys = if c = 0 then (sgL zs x).take (2 * f + 1).toNat else []) := by show ys = _; rw [← hys, ← hc]; rfl
  have HBAD : Hid (c ≠ 0 → cx = ⟨0, 0, 0, 0, 0⟩ ∧ ys = []) := fun q => ⟨by rw [HX.out, if_neg q], by rw [HY.out, if_neg q]⟩
  have HS : Hid (ShIn V a n zs) := h.below BV
  have HB : Hid (BoxW (w.heap.size + 1) [.int .i64 0, .int .i64 0, .int .i64 0, .int .i64 0, .int .i64 0, .int .i64 0, .slice none 0 0] V) := hbx
  have HXA : Hid (StAt V w.heap.size 0 x) := hst
  have HSZ : Hid (V.heap.size = w.heap.size + 1 + 1) := hVs
  have hVl0 : w.heap.size + 1 < V.heap.size := by omega
  have HF : Hid (Calls Try.prog 45 #[.slice a n cap, .int .i64 f] V fun e w' => e = .returned (.int .i64 s) ∧ Below V.heap.size V w') := by have := l9Fault_c a n cap zs f V hn hcap hcm HS.out; rw [hs] at this; exact this
  by_cases s0 : s = 0
  · have sb : (s != 0) = false := by simp [s0]
    have hok := sh_ok (hs.trans s0)
    obtain ⟨hf1, hf2⟩ := (inR_iff _ _ _).1 hok.1
    have hn2 : n ≤ 120 := by have := HZ.out; omega
    clear hc hcx hys hs hok h hst hbx hVs
    have HT : Hid (∀ w2, Below V.heap.size V w2 → Calls Try.prog 46 #[.pointer (some ⟨w.heap.size, 0, none⟩)] w2 fun e w' => e = .returned (.int .i64 t) ∧ w2 = w') := fun w2 hb => by rw [← ht]; exact l7Fault_c _ _ x w2 (HXA.out.below hb (by have := HSZ.out; omega))
    by_cases t0 : t = 0
    · have tb : (t != 0) = false := by simp [t0]
      obtain ⟨m, hm⟩ : ∃ m, (sgL zs x).length = m := ⟨_, rfl⟩
      have HC2 : Hid (c = if (m : Int) < 2 * f + 1 then 7 else 0) := by show c = _; rw [HC.out, if_pos s0, if_pos t0, hm]
      have HL : Hid (∀ w2, Below V.heap.size V w2 → Calls Try.prog 47 #[.slice a n cap, .agg #[.int .i64 x.k, .int .i64 x.e, .int .i64 x.f, .int .i64 x.s, .int .i64 x.n]] w2 fun e w' => ∃ (g q : Nat), e = .returned (.slice (some ⟨g, 0, none⟩) m q) ∧ OwnI w' w2.heap.size (.slice (some ⟨g, 0, none⟩) m q) (sgL zs x) ∧ Below w2.heap.size w2 w') := fun w2 hb => by rw [← hm]; exact l9Signers_c a n cap zs x w2 (by omega) (HS.out.below hb)
      have hml : m ≤ 120 := by have := sgL_len zs x; have := HZ.out; omega
      have hml' : (m : Int) ≤ 120 := by omega
      clear s0 t0 ht HC hm
      go_enter Try.func15, Try.ntmps15
      go_wp2_with fail
      rw [← hV]
      clear hV
      refine HF.out.mono ?_
      rintro e w1 ⟨rfl, hb1⟩
      go_wp2_with fail
      refine (HT.out _ hb1).mono ?_
      rintro e w1' ⟨rfl, rfl⟩
      obtain ⟨x0, x1, x2, x3, x4⟩ := HXA.out.below hb1 (by have := HSZ.out; omega)
      simp only [Nat.zero_add] at x0 x1 x2 x3 x4
      go_wp2_with fail
      refine (HL.out _ hb1).mono ?_
      rintro e w2 ⟨g, q, rfl, ho, hb2⟩
      have hz1 := hb1.size
      have hz2 := hb2.size
      have HO : Hid (OwnI w2 V.heap.size (.slice (some ⟨g, 0, none⟩) m q) (sgL zs x)) := owns_lowI ho hz1
      have hq := ownI_parts ho
      have hb12 : Below V.heap.size V w2 := hb1.trans (hb2.mono hz1)
      clear x0 x1 x2 x3 x4 ho hb1 hb2
      have XB := HB.out.below (by have := HSZ.out; omega) hb12
      have b0 := XB.1 0 _ rfl
      have b1 := XB.1 1 _ rfl
      have b2 := XB.1 2 _ rfl
      have b3 := XB.1 3 _ rfl
      have b4 := XB.1 4 _ rfl
      have b5 := XB.1 5 _ rfl
      have b6 := XB.1 6 _ rfl
      have f0 := XB.2 0
      have f1 := XB.2 1
      have f2 := XB.2 2
      have f3 := XB.2 3
      have f4 := XB.2 4
      have f5 := XB.2 5
      have f6 := XB.2 6

      have BWX : Below w.heap.size w w2 := BV.trans (hb12.mono BV.size)
      have hVl : w.heap.size + 1 < w2.heap.size := by omega
      clear XB
      by_cases hlt : (m : Int) < 2 * f + 1
      · have HR : Hid (cx = ⟨0, 0, 0, 0, 0⟩ ∧ ys = []) := HBAD.out (by rw [HC2.out, if_pos hlt]; omega)
        have H7 : Hid (c = 7) := by show c = 7; rw [HC2.out, if_pos hlt]
        go_wp2
        refine bodyPost_ret (v := .agg #[.int .i64 7, .int .i64 0, .int .i64 0, .int .i64 0, .int .i64 0, .int .i64 0, .slice none 0 0]) (by simp [results, Try.results15, go_sem, b0, b1, b2, b3, b4, b5, b6, hVl]) rfl ⟨none, 0, by rw [H7.out, HR.out.1, HR.out.2]; rfl, by rw [HR.out.2]; exact World.ownsRow_nil _ _ _ _, ?_⟩
        have hw1 : w.heap.size ≤ w.heap.size + 1 := by omega
        exact (((((((BWX.setCell hw1 _).setCell hw1 _).setCell hw1 _).setCell hw1 _).setCell hw1 _).setCell hw1 _).setCell hw1 _)

      · have H0 : Hid (c = 0) := by show c = 0; rw [HC2.out, if_neg hlt]
        obtain ⟨d, hd⟩ : ∃ d : Nat, (d : Int) = 2 * f + 1 := ⟨(2 * f + 1).toNat, by omega⟩
        have HD : Hid ((2 * f + 1).toNat = d) := by show _ = _; omega
        have hdm : d ≤ m := by omega
        have HR : Hid (c = 0 ∧ cx = x ∧ ys = (sgL zs x).take d ∧ ys.length = d) := by
          have e1 : ys = (sgL zs x).take d := by rw [HY.out, if_pos H0.out, show (2 * f + 1).toNat = d by omega]
          exact ⟨H0.out, by rw [HX.out, if_pos H0.out], e1, by rw [e1, List.length_take]; have := (ownI_parts HO.out).2.2.1; omega⟩
        obtain ⟨x0, x1, x2, x3, x4⟩ := HXA.out.below hb12 (by have := HSZ.out; omega)
        simp only [Nat.zero_add] at x0 x1 x2 x3 x4
        have BW2 := BWX
        have hw2 := hVl
        have hdq : (d : Int) ≤ (q : Int) := by omega
        have hd0 : (0 : Int) ≤ (d : Int) := by omega
        have hwx : w.heap.size < w2.heap.size := by omega
        have hdl : ¬ ((m : Int) < (d : Int)) := by omega
        have hmul : IntKind.i64.wrap (2 * f) = 2 * f := by rw [IntKind.wrap_i64]; omega
        have hadd : IntKind.i64.wrap (2 * f + 1) = (d : Int) := by rw [IntKind.wrap_i64]; omega
        have HBS : Hid (w.heap.size + 1 < V.heap.size) := by have := HSZ.out; show _ < _; omega
        have HFO : Hid (w2.ownsRow V.heap.size 2 1 (.slice (some ⟨g, 0, none⟩) d q) d (((sgL zs x).take d).map (Value.int .i64))) := owns_takeI HO.out hdm
        have HFB : Hid (Below w.heap.size w w2) := BW2
        have HLE : Hid (w.heap.size ≤ V.heap.size ∧ w.heap.size ≤ w.heap.size + 1) := ⟨by have := HSZ.out; omega, by omega⟩
        go_wp2
        go_region
        all_goals go_wp2_with fail
        all_goals
          refine bodyPost_ret (v := .agg #[.int .i64 0, .int .i64 x.k, .int .i64 x.e, .int .i64 x.f, .int .i64 x.s, .int .i64 x.n, .slice (some ⟨g, 0, none⟩) d q]) (by simp [results, Try.results15, go_sem, b0, b1, b2, b3, b4, b5, b6, hw2, HD.out]) rfl ⟨some ⟨g, 0, none⟩, q, ?_, ?_, ?_⟩
          · rw [HR.out.1, HR.out.2.1, HR.out.2.2.2]
          · rw [HR.out.2.2.2, HR.out.2.2.1]
            exact owns_drew (low_owns (own7 HFO.out _ HBS.out _ _ _ _ _ _ _) HLE.out.1)
          · exact (below7 HFB.out _ HLE.out.2 _ _ _ _ _ _ _).drew

    · have tb : (t != 0) = true := by simp [t0]
      have HE : Hid (c = t) := by show c = t; rw [HC.out, if_pos s0, if_neg t0]
      have HR : Hid (cx = ⟨0, 0, 0, 0, 0⟩ ∧ ys = []) := HBAD.out (by rw [HE.out]; exact t0)
      clear s0 t0 ht HC
      go_enter Try.func15, Try.ntmps15
      go_wp2_with fail
      rw [← hV]
      clear hV
      refine HF.out.mono ?_
      rintro e w1 ⟨rfl, hb1⟩
      go_wp2_with fail
      refine (HT.out _ hb1).mono ?_
      rintro e w1' ⟨rfl, rfl⟩
      have XB := HB.out.below (by have := HSZ.out; omega) hb1
      have b0 := XB.1 0 _ rfl
      have b1 := XB.1 1 _ rfl
      have b2 := XB.1 2 _ rfl
      have b3 := XB.1 3 _ rfl
      have b4 := XB.1 4 _ rfl
      have b5 := XB.1 5 _ rfl
      have b6 := XB.1 6 _ rfl
      have f0 := XB.2 0
      have f1 := XB.2 1
      have f2 := XB.2 2
      have f3 := XB.2 3
      have f4 := XB.2 4
      have f5 := XB.2 5
      have f6 := XB.2 6

      have BWX : Below w.heap.size w w1 := BV.trans (hb1.mono BV.size)
      have hVl : w.heap.size + 1 < w1.heap.size := by have := hb1.size; omega
      clear XB hb1
      go_wp2
      refine bodyPost_ret (v := .agg #[.int .i64 t, .int .i64 0, .int .i64 0, .int .i64 0, .int .i64 0, .int .i64 0, .slice none 0 0]) (by simp [results, Try.results15, go_sem, b0, b1, b2, b3, b4, b5, b6, hVl]) rfl ⟨none, 0, by rw [HE.out, HR.out.1, HR.out.2]; rfl, by rw [HR.out.2]; exact World.ownsRow_nil _ _ _ _, ?_⟩
      have hw1 : w.heap.size ≤ w.heap.size + 1 := by omega
      exact (((((((BWX.setCell hw1 _).setCell hw1 _).setCell hw1 _).setCell hw1 _).setCell hw1 _).setCell hw1 _).setCell hw1 _)

  · have sb : (s != 0) = true := by simp [s0]
    have HE : Hid (c = s) := by show c = s; rw [HC.out, if_neg s0]
    have HR : Hid (cx = ⟨0, 0, 0, 0, 0⟩ ∧ ys = []) := HBAD.out (by rw [HE.out]; exact s0)
    clear s0 hs ht HC hc hcx hys h hst hbx hVs
    go_enter Try.func15, Try.ntmps15
    go_wp2_with fail
    rw [← hV]
    clear hV
    refine HF.out.mono ?_
    rintro e w1 ⟨rfl, hb1⟩
    have XB := HB.out.below (by have := HSZ.out; omega) hb1
    have b0 := XB.1 0 _ rfl
    have b1 := XB.1 1 _ rfl
    have b2 := XB.1 2 _ rfl
    have b3 := XB.1 3 _ rfl
    have b4 := XB.1 4 _ rfl
    have b5 := XB.1 5 _ rfl
    have b6 := XB.1 6 _ rfl
    have f0 := XB.2 0
    have f1 := XB.2 1
    have f2 := XB.2 2
    have f3 := XB.2 3
    have f4 := XB.2 4
    have f5 := XB.2 5
    have f6 := XB.2 6

    have BWX : Below w.heap.size w w1 := BV.trans (hb1.mono BV.size)
    have hVl : w.heap.size + 1 < w1.heap.size := by have := hb1.size; omega
    clear XB hb1
    go_wp2
    refine bodyPost_ret (v := .agg #[.int .i64 s, .int .i64 0, .int .i64 0, .int .i64 0, .int .i64 0, .int .i64 0, .slice none 0 0]) (by simp [results, Try.results15, go_sem, b0, b1, b2, b3, b4, b5, b6, hVl]) rfl ⟨none, 0, by rw [HE.out, HR.out.1, HR.out.2]; rfl, by rw [HR.out.2]; exact World.ownsRow_nil _ _ _ _, ?_⟩
    have hw1 : w.heap.size ≤ w.heap.size + 1 := by omega
    exact (((((((BWX.setCell hw1 _).setCell hw1 _).setCell hw1 _).setCell hw1 _).setCell hw1 _).setCell hw1 _).setCell hw1 _)


end Go.Proofs.Ytdfhebmecbcegaa
