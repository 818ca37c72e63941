/-
  CONTRACTS: Combine and IsSigned of both programs.
  Conditions: each contract bears its own.
  CONTRACTS: CommonOf of both programs.
  Conditions: each contract bears its own.
  CONTRACTS: Combine of the program; IsSigned of both.
  Conditions: each contract bears its own.
-/
import Derived.Test.YtdfhebmecbcegaaCe8
import Derived.Deep.RegionLaw
namespace Go.Proofs.Ytdfhebmecbcegaa
open Go.RowKit Go.Maps
set_option linter.unusedVariables false
set_option linter.unusedSimpArgs false
attribute [local go_sem] fldN0 fldN1

def cbX (f : Int) (zs : List ShI) (x : StI) : StI := if cbCode f zs x = 0 then x else ⟨0, 0, 0, 0, 0⟩
def cbL (f : Int) (zs : List ShI) (x : StI) : List Int := if cbCode f zs x = 0 then (sgL zs x).take (2 * f + 1).toNat else []

def GivesCB (fn : Nat) (a : Option Addr) (n cap : Nat) (f : Int) (x : StI) (c : Int) (cx : StI) (ys : List Int) (w : World) : Prop := Calls Try.prog fn #[.slice a n cap, .int .i64 f, .agg #[.int .i64 x.k, .int .i64 x.e, .int .i64 x.f, .int .i64 x.s, .int .i64 x.n]] w fun e w' => ∃ (ra : Option Addr) (rc : Nat), e = .returned (.agg #[.int .i64 c, .int .i64 cx.k, .int .i64 cx.e, .int .i64 cx.f, .int .i64 cx.s, .int .i64 cx.n, .slice ra ys.length rc]) ∧ w'.ownsRow w.heap.size 2 1 (.slice ra ys.length rc) ys.length (ys.map (Value.int .i64)) ∧ Below w.heap.size w w'

theorem two_boxes7 (w : World) (x : StI) (T R : TypeId) : ∃ V, V = (w.alloc (.cells #[.int .i64 x.k, .int .i64 x.e, .int .i64 x.f, .int .i64 x.s, .int .i64 x.n] T)).alloc (.cells #[.int .i64 0, .int .i64 0, .int .i64 0, .int .i64 0, .int .i64 0, .int .i64 0, .slice none 0 0] R) ∧ Below w.heap.size w V ∧ V.heap.size = w.heap.size + 1 + 1 ∧ StAt V w.heap.size 0 x ∧ BoxW (w.heap.size + 1) [.int .i64 0, .int .i64 0, .int .i64 0, .int .i64 0, .int .i64 0, .int .i64 0, .slice none 0 0] V := by
  refine ⟨_, rfl, ((Below.refl _ _).alloc (Nat.le_refl _) _).alloc (by simp) _, by simp, ?_, ?_⟩
  · exact (StAt.new w x T).below ((Below.refl _ _).alloc (Nat.le_refl _) _) (by simp)
  · have q := boxW_new (w.alloc (.cells #[.int .i64 x.k, .int .i64 x.e, .int .i64 x.f, .int .i64 x.s, .int .i64 x.n] T)) #[.int .i64 0, .int .i64 0, .int .i64 0, .int .i64 0, .int .i64 0, .int .i64 0, .slice none 0 0] R
    simp only [World.size_alloc] at q
    exact q

theorem owns_takeI {w : World} {B : Nat} {g m q k : Nat} {ys : List Int} (h : OwnI w B (.slice (some ⟨g, 0, none⟩) m q) ys) (hk : k ≤ m) : w.ownsRow B 2 1 (.slice (some ⟨g, 0, none⟩) k q) k ((ys.take k).map (Value.int .i64)) := by
  have hp := ownI_parts h
  have h0 : w.ownsRow B 2 1 (.slice (some ⟨g, 0, none⟩) m q) ys.length (ys.map (Value.int .i64)) := h
  refine ⟨by simp; omega, ?_⟩
  rcases h0.2 with ⟨h1, _⟩ | ⟨g', cap', cur, h1, hg, hb, h3, h4, h5, h6⟩
  · simp at h1
  · simp at h1
    obtain ⟨rfl, _, rfl⟩ := h1
    refine .inr ⟨g, q, cur, rfl, hg, hb, by omega, h4, h5, ?_⟩
    rw [List.map_take, ← h6, List.take_take]
    congr 1
    omega

/-- What lies below the two boxes stays. -/
abbrev KB (w V W' : World) : Prop := (∀ b o, b < V.heap.size → b ≠ w.heap.size + 1 → W'.cell? ⟨b, o, none⟩ = V.cell? ⟨b, o, none⟩)

theorem owns_drew {w : World} {B : Nat} {t : TypeId} {sz : Nat} {v : Value} {n : Nat} {xs : List Value} (h : w.ownsRow B t sz v n xs) : w.drew.ownsRow B t sz v n xs := owns_kept h (fun _ _ => rfl)

theorem own7 {w : World} {base : Nat} {e : TypeId} {size : Nat} {v : Value} {n : Nat} {xs : List Value} (h : w.ownsRow base e size v n xs) (b : Nat) (hb : b < base) (v0 v1 v2 v3 v4 v5 v6 : Value) : (((((((w.setCell ⟨b, 0, none⟩ v0).setCell ⟨b, 1, none⟩ v1).setCell ⟨b, 2, none⟩ v2).setCell ⟨b, 3, none⟩ v3).setCell ⟨b, 4, none⟩ v4).setCell ⟨b, 5, none⟩ v5).setCell ⟨b, 6, none⟩ v6).ownsRow base e size v n xs := (ownsE_set (ownsE_set (ownsE_set (ownsE_set (ownsE_set (ownsE_set (ownsE_set h (a := ⟨b, 0, none⟩) hb v0) (a := ⟨b, 1, none⟩) hb v1) (a := ⟨b, 2, none⟩) hb v2) (a := ⟨b, 3, none⟩) hb v3) (a := ⟨b, 4, none⟩) hb v4) (a := ⟨b, 5, none⟩) hb v5) (a := ⟨b, 6, none⟩) hb v6)

theorem below7 {B : Nat} {w0 w : World} (h : Below B w0 w) (b : Nat) (hb : B ≤ b) (v0 v1 v2 v3 v4 v5 v6 : Value) : Below B w0 (((((((w.setCell ⟨b, 0, none⟩ v0).setCell ⟨b, 1, none⟩ v1).setCell ⟨b, 2, none⟩ v2).setCell ⟨b, 3, none⟩ v3).setCell ⟨b, 4, none⟩ v4).setCell ⟨b, 5, none⟩ v5).setCell ⟨b, 6, none⟩ v6) := (((((((h.setCell hb v0).setCell hb v1).setCell hb v2).setCell hb v3).setCell hb v4).setCell hb v5).setCell hb v6)

theorem low_owns {w : World} {B B' : Nat} {t : TypeId} {sz : Nat} {v : Value} {n : Nat} {xs : List Value} (h : w.ownsRow B t sz v n xs) (hB : B' ≤ B) : w.ownsRow B' t sz v n xs := by
  refine ⟨h.1, ?_⟩
  rcases h.2 with q | ⟨g, cap, cur, e, hg, rest⟩
  · exact .inl q
  · exact .inr ⟨g, cap, cur, e, Nat.le_trans hB hg, rest⟩

set_option maxRecDepth 20000 in
set_option maxHeartbeats 4000000 in
theorem specCombine_c (a : Option Addr) (n cap : Nat) (zs : List ShI) (f : Int) (x : StI) (w : World) (hn : n ≤ 1048576) (hcap : n ≤ cap) (hcm : cap ≤ maxLen) (h : ShIn w a n zs) : GivesCB 15 a n cap f x (cbCode f zs x) (cbX f zs x) (cbL f zs x) w := by
  unfold GivesCB
  obtain ⟨V, hV, BV, hVs, hst, hbx⟩ := two_boxes7 w x 26 33
  have HZ : Hid (zs.length = n) := h.1
  have hn' : (n : Int) ≤ 1048576 := by omega
  obtain ⟨c, hc⟩ : ∃ c, cbCode f zs x = c := ⟨_, rfl⟩
  obtain ⟨cx, hcx⟩ : ∃ cx, cbX f zs x = cx := ⟨_, rfl⟩
  obtain ⟨ys, hys⟩ : ∃ ys, cbL f zs x = ys := ⟨_, rfl⟩
  rw [hc, hcx, hys]
  obtain ⟨s, hs⟩ : ∃ s, shCode f zs = s := ⟨_, rfl⟩
  obtain ⟨t, ht⟩ : ∃ t, stCode x = t := ⟨_, rfl⟩
  have HC : Hid (c = if s = 0 then (if t = 0 then (if ((sgL zs x).length : Int) < 2 * f + 1 then 7 else 0) else t) else s) := by show c = _; rw [← hc, ← hs, ← ht]; rfl
  have HX : Hid (cx = if c = 0 then x else ⟨0, 0, 0, 0, 0⟩) := by show cx = _; rw [← hcx, ← hc]; rfl
  have HY : Hid (ys = if c = 0 then (sgL zs x).take (2 * f + 1).toNat else []) := by show ys = _; rw [← hys, ← hc]; rfl
  have HBAD : Hid (c ≠ 0 → cx = ⟨0, 0, 0, 0, 0⟩ ∧ ys = []) := fun q => ⟨by rw [HX.out, if_neg q], by rw [HY.out, if_neg q]⟩
  have HS : Hid (ShIn V a n zs) := h.below BV
  have HB : Hid (BoxW (w.heap.size + 1) [.int .i64 0, .int .i64 0, .int .i64 0, .int .i64 0, .int .i64 0, .int .i64 0, .slice none 0 0] V) := hbx
  have HXA : Hid (StAt V w.heap.size 0 x) := hst
  have HSZ : Hid (V.heap.size = w.heap.size + 1 + 1) := hVs
  have hVl0 : w.heap.size + 1 < V.heap.size := by omega
  have HF : Hid (Calls Try.prog 45 #[.slice a n cap, .int .i64 f] V fun e w' => e = .returned (.int .i64 s) ∧ Below V.heap.size V w') := by have := l9Fault_c a n cap zs f V hn hcap hcm HS.out; rw [hs] at this; exact this
  by_cases s0 : s = 0
  · have sb : (s != 0) = false := by simp [s0]
    have hok := sh_ok (hs.trans s0)
    obtain ⟨hf1, hf2⟩ := (inR_iff _ _ _).1 hok.1
    have hn2 : n ≤ 120 := by have := HZ.out; omega
    clear hc hcx hys hs hok h hst hbx hVs
    have HT : Hid (∀ w2, Below V.heap.size V w2 → Calls Try.prog 46 #[.pointer (some ⟨w.heap.size, 0, none⟩)] w2 fun e w' => e = .returned (.int .i64 t) ∧ w2 = w') := fun w2 hb => by rw [← ht]; exact l7Fault_c _ _ x w2 (HXA.out.below hb (by have := HSZ.out; omega))
    by_cases t0 : t = 0
    · have tb : (t != 0) = false := by simp [t0]
      obtain ⟨m, hm⟩ : ∃ m, (sgL zs x).length = m := ⟨_, rfl⟩
      have HC2 : Hid (c = if (m : Int) < 2 * f + 1 then 7 else 0) := by show c = _; rw [HC.out, if_pos s0, if_pos t0, hm]
      have HL : Hid (∀ w2, Below V.heap.size V w2 → Calls Try.prog 47 #[.slice a n cap, .agg #[.int .i64 x.k, .int .i64 x.e, .int .i64 x.f, .int .i64 x.s, .int .i64 x.n]] w2 fun e w' => ∃ (g q : Nat), e = .returned (.slice (some ⟨g, 0, none⟩) m q) ∧ OwnI w' w2.heap.size (.slice (some ⟨g, 0, none⟩) m q) (sgL zs x) ∧ Below w2.heap.size w2 w') := fun w2 hb => by rw [← hm]; exact l9Signers_c a n cap zs x w2 (by omega) (HS.out.below hb)
      have hml : m ≤ 120 := by have := sgL_len zs x; have := HZ.out; omega
      have hml' : (m : Int) ≤ 120 := by omega
      clear s0 t0 ht HC hm
      go_enter Try.func15, Try.ntmps15
      go_wp2_with fail
      rw [← hV]
      clear hV
      refine HF.out.mono ?_
      rintro e w1 ⟨rfl, hb1⟩
      go_wp2_with fail
      refine (HT.out _ hb1).mono ?_
      rintro e w1' ⟨rfl, rfl⟩
      obtain ⟨x0, x1, x2, x3, x4⟩ := HXA.out.below hb1 (by have := HSZ.out; omega)
      simp only [Nat.zero_add] at x0 x1 x2 x3 x4
      go_wp2_with fail
      refine (HL.out _ hb1).mono ?_
      rintro e w2 ⟨g, q, rfl, ho, hb2⟩
      have hz1 := hb1.size
      have hz2 := hb2.size
      have HO : Hid (OwnI w2 V.heap.size (.slice (some ⟨g, 0, none⟩) m q) (sgL zs x)) := owns_lowI ho hz1
      have hq := ownI_parts ho
      have hb12 : Below V.heap.size V w2 := hb1.trans (hb2.mono hz1)
      clear x0 x1 x2 x3 x4 ho hb1 hb2
      have XB := HB.out.below (by have := HSZ.out; omega) hb12
      have b0 := XB.1 0 _ rfl
      have b1 := XB.1 1 _ rfl
      have b2 := XB.1 2 _ rfl
      have b3 := XB.1 3 _ rfl
      have b4 := XB.1 4 _ rfl
      have b5 := XB.1 5 _ rfl
      have b6 := XB.1 6 _ rfl
      have f0 := XB.2 0
      have f1 := XB.2 1
      have f2 := XB.2 2
      have f3 := XB.2 3
      have f4 := XB.2 4
      have f5 := XB.2 5
      have f6 := XB.2 6

      have BWX : Below w.heap.size w w2 := BV.trans (hb12.mono BV.size)
      have hVl : w.heap.size + 1 < w2.heap.size := by omega
      clear XB
      by_cases hlt : (m : Int) < 2 * f + 1
      · have HR : Hid (cx = ⟨0, 0, 0, 0, 0⟩ ∧ ys = []) := HBAD.out (by rw [HC2.out, if_pos hlt]; omega)
        have H7 : Hid (c = 7) := by show c = 7; rw [HC2.out, if_pos hlt]
        go_wp2
        refine bodyPost_ret (v := .agg #[.int .i64 7, .int .i64 0, .int .i64 0, .int .i64 0, .int .i64 0, .int .i64 0, .slice none 0 0]) (by simp [results, Try.results15, go_sem, b0, b1, b2, b3, b4, b5, b6, hVl]) rfl ⟨none, 0, by rw [H7.out, HR.out.1, HR.out.2]; rfl, by rw [HR.out.2]; exact World.ownsRow_nil _ _ _ _, ?_⟩
        have hw1 : w.heap.size ≤ w.heap.size + 1 := by omega
        exact (((((((BWX.setCell hw1 _).setCell hw1 _).setCell hw1 _).setCell hw1 _).setCell hw1 _).setCell hw1 _).setCell hw1 _)

      · have H0 : Hid (c = 0) := by show c = 0; rw [HC2.out, if_neg hlt]
        obtain ⟨d, hd⟩ : ∃ d : Nat, (d : Int) = 2 * f + 1 := ⟨(2 * f + 1).toNat, by omega⟩
        have HD : Hid ((2 * f + 1).toNat = d) := by show _ = _; omega
        have hdm : d ≤ m := by omega
        have HR : Hid (c = 0 ∧ cx = x ∧ ys = (sgL zs x).take d ∧ ys.length = d) := by
          have e1 : ys = (sgL zs x).take d := by rw [HY.out, if_pos H0.out, show (2 * f + 1).toNat = d by omega]
          exact ⟨H0.out, by rw [HX.out, if_pos H0.out], e1, by rw [e1, List.length_take]; have := (ownI_parts HO.out).2.2.1; omega⟩
        obtain ⟨x0, x1, x2, x3, x4⟩ := HXA.out.below hb12 (by have := HSZ.out; omega)
        simp only [Nat.zero_add] at x0 x1 x2 x3 x4
        have BW2 := BWX
        have hw2 := hVl
        have hdq : (d : Int) ≤ (q : Int) := by omega
        have hd0 : (0 : Int) ≤ (d : Int) := by omega
        have hwx : w.heap.size < w2.heap.size := by omega
        have hdl : ¬ ((m : Int) < (d : Int)) := by omega
        have hmul : IntKind.i64.wrap (2 * f) = 2 * f := by rw [IntKind.wrap_i64]; omega
        have hadd : IntKind.i64.wrap (2 * f + 1) = (d : Int) := by rw [IntKind.wrap_i64]; omega
        have HBS : Hid (w.heap.size + 1 < V.heap.size) := by have := HSZ.out; show _ < _; omega
        have HFO : Hid (w2.ownsRow V.heap.size 2 1 (.slice (some ⟨g, 0, none⟩) d q) d (((sgL zs x).take d).map (Value.int .i64))) := owns_takeI HO.out hdm
        have HFB : Hid (Below w.heap.size w w2) := BW2
        have HLE : Hid (w.heap.size ≤ V.heap.size ∧ w.heap.size ≤ w.heap.size + 1) := ⟨by have := HSZ.out; omega, by omega⟩
        go_wp2
        go_region
        all_goals go_wp2_with fail
        all_goals
          refine bodyPost_ret (v := .agg #[.int .i64 0, .int .i64 x.k, .int .i64 x.e, .int .i64 x.f, .int .i64 x.s, .int .i64 x.n, .slice (some ⟨g, 0, none⟩) d q]) (by simp [results, Try.results15, go_sem, b0, b1, b2, b3, b4, b5, b6, hw2, HD.out]) rfl ⟨some ⟨g, 0, none⟩, q, ?_, ?_, ?_⟩
          · rw [HR.out.1, HR.out.2.1, HR.out.2.2.2]
          · rw [HR.out.2.2.2, HR.out.2.2.1]
            exact owns_drew (low_owns (own7 HFO.out _ HBS.out _ _ _ _ _ _ _) HLE.out.1)
          · exact (below7 HFB.out _ HLE.out.2 _ _ _ _ _ _ _).drew

    · have tb : (t != 0) = true := by simp [t0]
      have HE : Hid (c = t) := by show c = t; rw [HC.out, if_pos s0, if_neg t0]
      have HR : Hid (cx = ⟨0, 0, 0, 0, 0⟩ ∧ ys = []) := HBAD.out (by rw [HE.out]; exact t0)
      clear s0 t0 ht HC
      go_enter Try.func15, Try.ntmps15
      go_wp2_with fail
      rw [← hV]
      clear hV
      refine HF.out.mono ?_
      rintro e w1 ⟨rfl, hb1⟩
      go_wp2_with fail
      refine (HT.out _ hb1).mono ?_
      rintro e w1' ⟨rfl, rfl⟩
      have XB := HB.out.below (by have := HSZ.out; omega) hb1
      have b0 := XB.1 0 _ rfl
      have b1 := XB.1 1 _ rfl
      have b2 := XB.1 2 _ rfl
      have b3 := XB.1 3 _ rfl
      have b4 := XB.1 4 _ rfl
      have b5 := XB.1 5 _ rfl
      have b6 := XB.1 6 _ rfl
      have f0 := XB.2 0
      have f1 := XB.2 1
      have f2 := XB.2 2
      have f3 := XB.2 3
      have f4 := XB.2 4
      have f5 := XB.2 5
      have f6 := XB.2 6

      have BWX : Below w.heap.size w w1 := BV.trans (hb1.mono BV.size)
      have hVl : w.heap.size + 1 < w1.heap.size := by have := hb1.size; omega
      clear XB hb1
      go_wp2
      refine bodyPost_ret (v := .agg #[.int .i64 t, .int .i64 0, .int .i64 0, .int .i64 0, .int .i64 0, .int .i64 0, .slice none 0 0]) (by simp [results, Try.results15, go_sem, b0, b1, b2, b3, b4, b5, b6, hVl]) rfl ⟨none, 0, by rw [HE.out, HR.out.1, HR.out.2]; rfl, by rw [HR.out.2]; exact World.ownsRow_nil _ _ _ _, ?_⟩
      have hw1 : w.heap.size ≤ w.heap.size + 1 := by omega
      exact (((((((BWX.setCell hw1 _).setCell hw1 _).setCell hw1 _).setCell hw1 _).setCell hw1 _).setCell hw1 _).setCell hw1 _)

  · have sb : (s != 0) = true := by simp [s0]
    have HE : Hid (c = s) := by show c = s; rw [HC.out, if_neg s0]
    have HR : Hid (cx = ⟨0, 0, 0, 0, 0⟩ ∧ ys = []) := HBAD.out (by rw [HE.out]; exact s0)
    clear s0 hs ht HC hc hcx hys h hst hbx hVs
    go_enter Try.func15, Try.ntmps15
    go_wp2_with fail
    rw [← hV]
    clear hV
    refine HF.out.mono ?_
    rintro e w1 ⟨rfl, hb1⟩
    have XB := HB.out.below (by have := HSZ.out; omega) hb1
    have b0 := XB.1 0 _ rfl
    have b1 := XB.1 1 _ rfl
    have b2 := XB.1 2 _ rfl
    have b3 := XB.1 3 _ rfl
    have b4 := XB.1 4 _ rfl
    have b5 := XB.1 5 _ rfl
    have b6 := XB.1 6 _ rfl
    have f0 := XB.2 0
    have f1 := XB.2 1
    have f2 := XB.2 2
    have f3 := XB.2 3
    have f4 := XB.2 4
    have f5 := XB.2 5
    have f6 := XB.2 6

    have BWX : Below w.heap.size w w1 := BV.trans (hb1.mono BV.size)
    have hVl : w.heap.size + 1 < w1.heap.size := by have := hb1.size; omega
    clear XB hb1
    go_wp2
    refine bodyPost_ret (v := .agg #[.int .i64 s, .int .i64 0, .int .i64 0, .int .i64 0, .int .i64 0, .int .i64 0, .slice none 0 0]) (by simp [results, Try.results15, go_sem, b0, b1, b2, b3, b4, b5, b6, hVl]) rfl ⟨none, 0, by rw [HE.out, HR.out.1, HR.out.2]; rfl, by rw [HR.out.2]; exact World.ownsRow_nil _ _ _ _, ?_⟩
    have hw1 : w.heap.size ≤ w.heap.size + 1 := by omega
    exact (((((((BWX.setCell hw1 _).setCell hw1 _).setCell hw1 _).setCell hw1 _).setCell hw1 _).setCell hw1 _).setCell hw1 _)


end Go.Proofs.Ytdfhebmecbcegaa

namespace Go.Proofs.Ytdfhebmecbcegaa
open Go.RowKit
set_option linter.unusedVariables false
set_option linter.unusedSimpArgs false

theorem mem_takeI {us : List Int} {y : Int} {k : Nat} : y ∈ us.take k ↔ ∃ j, j < k ∧ us[j]? = some y := by
  rw [List.mem_take_iff_getElem]
  constructor
  · rintro ⟨j, hj, e⟩
    exact ⟨j, by omega, by rw [List.getElem?_eq_getElem (by omega), e]⟩
  · rintro ⟨j, hj, e⟩
    have hl : j < us.length := by
      by_cases q : j < us.length
      · exact q
      · rw [List.getElem?_eq_none (by omega)] at e; cases e
    rw [List.getElem?_eq_getElem hl] at e
    exact ⟨j, by omega, Option.some.inj e⟩

theorem no_nextI {us : List Int} {y p : Int} {k : Nat} (h : ¬ y ∈ us.take k) (hp : us[k]? = some p) (hne : ¬ p = y) : ¬ y ∈ us.take (k + 1) := by
  rw [mem_takeI] at h ⊢
  rintro ⟨j, hj, e⟩
  by_cases q : j = k
  · subst q
    rw [hp] at e
    exact hne (Option.some.inj e)
  · exact h ⟨j, by omega, e⟩

set_option maxRecDepth 20000 in
set_option maxHeartbeats 1000000 in
theorem l9Among_c (a : Option Addr) (n cap : Nat) (us : List Int) (y : Int) (w : World) (hn : n ≤ 1048576) (h : IntIn w a n us) :
    Calls Try.prog 62 #[.slice a n cap, .int .i64 y] w fun e w' => e = .returned (.bool (decide (y ∈ us))) ∧ w = w' := by
  have H : Hid (IntIn w a n us) := h
  have HZ : Hid (us.length = n) := h.1
  have hn' : (n : Int) ≤ 1048576 := by omega
  clear h
  go_enter Try.func62, Try.ntmps62
  go_wp2
  go_loop [5] (fun i => ∃ k : Nat, k ≤ n ∧ i = .int .i64 (k : Int) ∧ ¬ y ∈ us.take k) (fun i => n - (intOf i).toNat)
  case atStart => exact ⟨0, Nat.zero_le _, rfl, by simp⟩
  case round =>
    obtain ⟨k, hk, rfl, hm⟩ := hrel
    have HM : Hid (¬ y ∈ us.take k) := hm
    clear hm
    by_cases hlt : k < n
    · obtain ⟨b, off, p, rfl, hp, hpa, hbl⟩ := H.out.at hlt
      have hlt' : (k : Int) < (n : Int) := by omega
      by_cases e : p = y
      · have eb : (p == y) = true := by simp [e]
        have HI : Hid (decide (y ∈ us) = true) := by show _ = _; simp; rw [← e]; exact List.mem_of_getElem? hp
        clear hp e
        go_wp2
        go_ret
        exact ⟨by rw [HI.out]; rfl, rfl⟩
      · have eb : (p == y) = false := by simp [e]
        have HN : Hid (¬ y ∈ us.take (k + 1)) := no_nextI HM.out hp e
        clear hp e
        go_wp2
        exact ⟨⟨k + 1, by omega, by go_num, HN.out⟩, by simp [intOf]; omega⟩
    · have hkn : k = n := by omega
      subst hkn
      have HN : Hid (decide (y ∈ us) = false) := by
        have := HM.out
        rw [List.take_of_length_le (by rw [HZ.out]; exact Nat.le_refl _)] at this
        show _ = _
        simp [this]
      go_wp2
      go_ret
      exact ⟨by rw [HN.out]; rfl, rfl⟩

set_option maxRecDepth 20000 in
set_option maxHeartbeats 1000000 in
theorem slIndexI_c (a : Option Addr) (n cap : Nat) (us : List Int) (y : Int) (w : World) (hn : n ≤ 1048576) (h : IntIn w a n us) :
    Calls Try.prog 92 #[.slice a n cap, .int .i64 y] w fun e w' => (∃ i : Int, e = .returned (.int .i64 i) ∧ decide (0 ≤ i) = decide (y ∈ us)) ∧ w = w' := by
  have H : Hid (IntIn w a n us) := h
  have HZ : Hid (us.length = n) := h.1
  have hn' : (n : Int) ≤ 1048576 := by omega
  clear h
  go_enter Try.func92, Try.ntmps92
  go_wp2
  go_loop [8] (fun i => ∃ k : Nat, k ≤ n ∧ i = .int .i64 (k : Int) ∧ ¬ y ∈ us.take k) (fun i => n - (intOf i).toNat)
  case atStart => exact ⟨0, Nat.zero_le _, rfl, by simp⟩
  case round =>
    obtain ⟨k, hk, rfl, hm⟩ := hrel
    have HM : Hid (¬ y ∈ us.take k) := hm
    clear hm
    by_cases hlt : k < n
    · obtain ⟨b, off, p, rfl, hp, hpa, hbl⟩ := H.out.at hlt
      have hlt' : (k : Int) < (n : Int) := by omega
      by_cases e : p = y
      · have eb : (y == p) = true := by simp [e]
        have HI : Hid (decide (y ∈ us) = true) := by show _ = _; simp; rw [← e]; exact List.mem_of_getElem? hp
        clear hp e
        go_wp2
        go_ret
        exact ⟨⟨(k : Int), rfl, by have h9 := of_decide_eq_true HI.out; simp [h9]⟩, rfl⟩
      · have eb : (y == p) = false := by simp; exact fun q => e q.symm
        have HN : Hid (¬ y ∈ us.take (k + 1)) := no_nextI HM.out hp e
        clear hp e
        go_wp2
        exact ⟨⟨k + 1, by omega, by go_num, HN.out⟩, by simp [intOf]; omega⟩
    · have hkn : k = n := by omega
      subst hkn
      have HN : Hid (decide (y ∈ us) = false) := by
        have := HM.out
        rw [List.take_of_length_le (by rw [HZ.out]; exact Nat.le_refl _)] at this
        show _ = _
        simp [this]
      go_wp2
      go_ret
      exact ⟨⟨-1, rfl, by have h9 := of_decide_eq_false HN.out; simp [h9]⟩, rfl⟩

set_option maxRecDepth 20000 in
set_option maxHeartbeats 400000 in
theorem slContainsI_c (a : Option Addr) (n cap : Nat) (us : List Int) (y : Int) (w : World) (hn : n ≤ 1048576) (h : IntIn w a n us) :
    Calls Try.prog 61 #[.slice a n cap, .int .i64 y] w fun e w' => e = .returned (.bool (decide (y ∈ us))) ∧ w = w' := by
  go_enter Try.func61, Try.ntmps61
  go_wp2_with fail
  refine (slIndexI_c a n cap us y _ hn h).mono ?_
  rintro e w1 ⟨⟨i, rfl, hi⟩, rfl⟩
  have HI : Hid (decide (0 ≤ i) = decide (y ∈ us)) := hi
  clear hi
  go_wp2
  go_ret
  exact ⟨by rw [← HI.out]; rfl, rfl⟩

def GivesCO (fn : Nat) (x : StI) (ga : Option Addr) (gn gc : Nat) (y : StI) (ha : Option Addr) (hn hc : Nat) (c : Int) (ys : List Int) (w : World) : Prop := Calls Try.prog fn #[.agg #[.int .i64 x.k, .int .i64 x.e, .int .i64 x.f, .int .i64 x.s, .int .i64 x.n, .slice ga gn gc], .agg #[.int .i64 y.k, .int .i64 y.e, .int .i64 y.f, .int .i64 y.s, .int .i64 y.n, .slice ha hn hc]] w fun e w' => ∃ (ra : Option Addr) (rc : Nat), e = .returned (.agg #[.int .i64 c, .slice ra ys.length rc]) ∧ w'.ownsRow w.heap.size 2 1 (.slice ra ys.length rc) ys.length (ys.map (Value.int .i64)) ∧ Below w.heap.size w w'

/-- Two certificates' boxes and the answer's. -/
theorem three_boxes (w : World) (cs ds es : Array Value) (T R : TypeId) : ∃ V, V = ((w.alloc (.cells cs T)).alloc (.cells ds T)).alloc (.cells es R) ∧ Below w.heap.size w V ∧ w.heap.size + 1 + 1 + 1 ≤ V.heap.size ∧ V.heap.size ≤ w.heap.size + 1 + 1 + 1 ∧ BoxV w.heap.size cs.toList V ∧ BoxV (w.heap.size + 1) ds.toList V ∧ BoxW (w.heap.size + 1 + 1) es.toList V := by
  refine ⟨_, rfl, (((Below.refl _ _).alloc (Nat.le_refl _) _).alloc (by simp) _).alloc (by simp; omega) _, by simp, by simp, ?_, ?_, ?_⟩
  · exact (((boxV_new w cs T).alloc _).alloc _).out
  · have q := ((boxV_new (w.alloc (.cells cs T)) ds T).alloc (.cells es R)).out
    simp only [World.size_alloc] at q
    exact q
  · have q := boxW_new ((w.alloc (.cells cs T)).alloc (.cells ds T)) es R
    simp only [World.size_alloc] at q
    exact q

theorem cmTo_hit {us vs : List Int} {k : Nat} {y : Int} (hy : us[k]? = some y) (h : decide (y ∈ vs) = true) : cmTo us vs (k + 1) = cmTo us vs k ++ [y] := by
  have hl : k < us.length := by
    by_cases q : k < us.length
    · exact q
    · rw [List.getElem?_eq_none (by omega)] at hy; cases hy
  have e : us[k] = y := by rw [List.getElem?_eq_getElem hl] at hy; exact Option.some.inj hy
  unfold cmTo
  rw [List.take_succ_eq_append_getElem hl, List.filter_append, e]
  simp only [List.filter_cons, h, if_true, List.filter_nil]

theorem cmTo_miss {us vs : List Int} {k : Nat} {y : Int} (hy : us[k]? = some y) (h : decide (y ∈ vs) = false) : cmTo us vs (k + 1) = cmTo us vs k := by
  have hl : k < us.length := by
    by_cases q : k < us.length
    · exact q
    · rw [List.getElem?_eq_none (by omega)] at hy; cases hy
  have e : us[k] = y := by rw [List.getElem?_eq_getElem hl] at hy; exact Option.some.inj hy
  unfold cmTo
  rw [List.take_succ_eq_append_getElem hl, List.filter_append, e]
  simp only [List.filter_cons, h, List.filter_nil, List.append_nil]
  simp

theorem cmTo_len (us vs : List Int) (k : Nat) : (cmTo us vs k).length ≤ k := by
  unfold cmTo
  have := List.length_filter_le (fun i => decide (i ∈ vs)) (us.take k)
  rw [List.length_take] at this
  omega

set_option maxRecDepth 20000 in
set_option maxHeartbeats 4000000 in
theorem implCommon_c (x : StI) (ga : Option Addr) (gn gc : Nat) (us : List Int) (y : StI) (ha : Option Addr) (hn hc : Nat) (vs : List Int) (w : World) (hg : gn ≤ 1048576) (hh : hn ≤ 1048576) (h1 : IntIn w ga gn us) (h2 : IntIn w ha hn vs) : GivesCO 25 x ga gn gc y ha hn hc (cmCode gn hn) (cmRes us vs) w := by
  unfold GivesCO
  obtain ⟨V, hV, BV, hV1, hV2, xb, yb, rb⟩ := three_boxes w #[.int .i64 x.k, .int .i64 x.e, .int .i64 x.f, .int .i64 x.s, .int .i64 x.n, .slice ga gn gc] #[.int .i64 y.k, .int .i64 y.e, .int .i64 y.f, .int .i64 y.s, .int .i64 y.n, .slice ha hn hc] #[.int .i64 0, .slice none 0 0] 31 37
  obtain ⟨i0, hi, hz0, hz1, hz2⟩ := info_parts Try.infoI2
  have HZ : Hid (us.length = gn ∧ vs.length = hn) := ⟨h1.1, h2.1⟩
  have I1 : Hid (IntIn V ga gn us) := h1.below BV
  have I2 : Hid (IntIn V ha hn vs) := h2.below BV
  have YB : Hid (BoxV (w.heap.size + 1) [.int .i64 y.k, .int .i64 y.e, .int .i64 y.f, .int .i64 y.s, .int .i64 y.n, .slice ha hn hc] V) := yb
  have RB : Hid (BoxW (w.heap.size + 1 + 1) [.int .i64 0, .slice none 0 0] V) := rb
  have hg' : (gn : Int) ≤ 1048576 := by omega
  have hh' : (hn : Int) ≤ 1048576 := by omega
  obtain ⟨c, hcc⟩ : ∃ c, cmCode gn hn = c := ⟨_, rfl⟩
  obtain ⟨ys, hys⟩ : ∃ ys, cmRes us vs = ys := ⟨_, rfl⟩
  rw [hcc, hys]
  have HC : Hid (c = if 20 < gn ∨ 20 < hn then 2 else 0) := by show c = _; rw [← hcc]; rfl
  have HY : Hid (ys = if c = 0 then us.filter (fun i => decide (i ∈ vs)) else []) := by show ys = _; rw [← hys, ← hcc]; unfold cmRes; rw [HZ.out.1, HZ.out.2]
  have x5 := xb 5 _ rfl
  have y5 := yb 5 _ rfl
  have r0 := rb.1 0 _ rfl
  have r1 := rb.1 1 _ rfl
  have f0 := rb.2 0
  have f1 := rb.2 1
  have hVl : w.heap.size + 1 + 1 < V.heap.size := by omega
  clear h1 h2 xb yb rb hcc hys
  by_cases hbad : 20 < gn ∨ 20 < hn
  · have HE : Hid (c = 2 ∧ ys = []) := by
      have e : c = 2 := by rw [HC.out, if_pos hbad]
      exact ⟨e, by rw [HY.out, if_neg (by omega)]⟩
    by_cases q1 : 20 < gn
    · have q1' : (20 : Int) < (gn : Int) := by omega
      clear hbad
      go_enter Try.func25, Try.ntmps25
      go_upto_region 1 with fail
      rw [← hV]
      clear hV
      go_wp2
      refine bodyPost_ret (v := .agg #[.int .i64 2, .slice none 0 0]) (by simp [results, Try.results25, go_sem, r0, r1, hVl]) rfl ⟨none, 0, by rw [HE.out.1, HE.out.2]; rfl, by rw [HE.out.2]; exact World.ownsRow_nil _ _ _ _, ?_⟩
      exact (BV.setCell (by show w.heap.size ≤ w.heap.size + 1 + 1; omega) _).setCell (by show w.heap.size ≤ w.heap.size + 1 + 1; omega) _
    · have q1' : ¬ ((20 : Int) < (gn : Int)) := by omega
      have q2' : (20 : Int) < (hn : Int) := by omega
      clear hbad
      go_enter Try.func25, Try.ntmps25
      go_upto_region 1 with fail
      rw [← hV]
      clear hV
      go_wp2
      refine bodyPost_ret (v := .agg #[.int .i64 2, .slice none 0 0]) (by simp [results, Try.results25, go_sem, r0, r1, hVl]) rfl ⟨none, 0, by rw [HE.out.1, HE.out.2]; rfl, by rw [HE.out.2]; exact World.ownsRow_nil _ _ _ _, ?_⟩
      exact (BV.setCell (by show w.heap.size ≤ w.heap.size + 1 + 1; omega) _).setCell (by show w.heap.size ≤ w.heap.size + 1 + 1; omega) _
  · have q1' : ¬ ((20 : Int) < (gn : Int)) := by omega
    have q2' : ¬ ((20 : Int) < (hn : Int)) := by omega
    have HE : Hid (c = 0 ∧ ys = cmTo us vs gn) := by
      have e : c = 0 := by rw [HC.out, if_neg hbad]
      exact ⟨e, by rw [HY.out, if_pos e]; unfold cmTo; rw [List.take_of_length_le (by have := HZ.out.1; omega)]⟩
    have hg20 : gn ≤ 20 := by omega
    clear hbad
    go_enter Try.func25, Try.ntmps25
    go_upto_region 1 with fail
    rw [← hV]
    clear hV
    go_wp2
    clear x5 y5 r0 r1 f0 f1
    go_loopw [5, 22] (fun v i wr => ∃ k : Nat, k ≤ gn ∧ i = .int .i64 (k : Int) ∧ OwnI wr V.heap.size v (cmTo us vs k) ∧ Below V.heap.size V wr) (fun _ i _ => gn - (intOf i).toNat)
    case atStart => exact ⟨0, Nat.zero_le _, rfl, World.ownsRow_nil _ _ _ _, Below.refl _ _⟩
    case round =>
      obtain ⟨k, hk, rfl, hown, hvx⟩ := hrel
      have HO : Hid (OwnI wr V.heap.size u5 (cmTo us vs k)) := hown
      by_cases hlt : k < gn
      · obtain ⟨b, off, p, rfl, hp, hpa, hbl⟩ := I1.out.at hlt
        have hlt' : (k : Int) < (gn : Int) := by omega
        have c0 := (hvx.cell (p := ⟨b, off + k, none⟩) hbl).trans hpa
        have y5 := (hvx.cell (p := ⟨w.heap.size + 1, 5, none⟩) (by show w.heap.size + 1 < _; omega)).trans (YB.out 5 _ rfl)
        obtain ⟨t, ht⟩ : ∃ t, decide (p ∈ vs) = t := ⟨_, rfl⟩
        have HT : Hid (decide (p ∈ vs) = t) := ht
        have HP : Hid (us[k]? = some p) := hp
        have hkl := cmTo_len us vs k
        clear hp hpa ht hown
        cases t
        · have HN : Hid (cmTo us vs (k + 1) = cmTo us vs k) := cmTo_miss HP.out HT.out
          go_wp2_with fail
          refine (slContainsI_c ha hn hc vs p _ hh (I2.out.below hvx)).mono ?_
          rintro e w1 ⟨rfl, rfl⟩
          rw [HT.out]
          go_wp2
          exact ⟨⟨k + 1, by omega, by go_num, by rw [HN.out]; exact HO.out, hvx⟩, by simp [intOf]; omega⟩
        · have HN : Hid (cmTo us vs (k + 1) = cmTo us vs k ++ [p]) := cmTo_hit HP.out HT.out
          obtain ⟨m, hm⟩ : ∃ m, (cmTo us vs k).length = m := ⟨_, rfl⟩
          have HM : Hid ((cmTo us vs k).length = m) := hm
          have hm20 : m ≤ 20 := by omega
          have HO2 : Hid (wr.ownsRow V.heap.size 2 1 u5 m ((cmTo us vs k).map (Value.int .i64))) := by rw [← hm]; exact HO.out
          have hzr := hvx.size
          clear hm hkl
          go_wp2_with fail
          refine (slContainsI_c ha hn hc vs p _ hh (I2.out.below hvx)).mono ?_
          rintro e w1 ⟨rfl, rfl⟩
          rw [HT.out]
          go_wp2_with (first
            | (at_builtin; refine wpList_append_own _ rfl _ _ 29 rfl V.heap.size 2 i0 (.int .i64 0) 1 8 Try.underlying29 hi hz0 hz1 hz2 rfl (by decide) _ _ _ rfl (HO2.out.alloc _) ⟨wr.heap.size, 0, none⟩ 1 1 [.int .i64 p] rfl rfl ?c1 ?c2 ?c3 ?c4 ?c5 ?_)
            | fail)
          case c1 =>
            intro j u hj
            match j, hj with
            | 0, hj => simp at hj; subst hj; simp [Addr.add]
          case c2 => intro u hu; simp at hu; subst hu; rfl
          case c3 => unfold maxLen; omega
          case c4 => omega
          case c5 => simp; omega
          intro v' w9 hown' hgrow hnil
          have HN2 : Hid (OwnI w9 V.heap.size v' (cmTo us vs (k + 1)) ∧ Below V.heap.size V w9) := by
            refine ⟨?_, (hvx.alloc hvx.size _).grown hgrow (by simp; omega) (fun j hj => (HO2.out.lt j hj).1)⟩
            show w9.ownsRow _ _ _ _ _ _
            rw [HN.out, List.length_append, HM.out, List.map_append]
            exact hown'
          clear hnil hown' hgrow
          go_wp2_with fail
          exact ⟨⟨k + 1, by omega, by go_num, HN2.out.1, HN2.out.2⟩, by simp [intOf]; omega⟩
      · have hkn : k = gn := by omega
        subst hkn
        have hlt' : ¬ ((k : Int) < (k : Int)) := by omega
        have X2 := RB.out.below (by omega) hvx
        have d0 := X2.1 0 _ rfl
        have d1 := X2.1 1 _ rfl
        have e0 := X2.2 0
        have e1 := X2.2 1
        have hw2 : w.heap.size + 1 + 1 < wr.heap.size := Nat.lt_of_lt_of_le hVl hvx.size
        obtain ⟨ra, rc, hv⟩ : ∃ ra rc, u5 = .slice ra (cmTo us vs k).length rc := by
          have ho0 : wr.ownsRow V.heap.size 2 1 u5 (cmTo us vs k).length ((cmTo us vs k).map (Value.int .i64)) := hown
          rcases ho0.2 with ⟨h1, h2⟩ | ⟨g, cp, cur, h1, _⟩
          · exact ⟨none, 0, by rw [h1, h2]⟩
          · exact ⟨_, _, h1⟩
        subst hv
        obtain ⟨m, hm⟩ : ∃ m, (cmTo us vs k).length = m := ⟨_, rfl⟩
        have HO3 : Hid (wr.ownsRow V.heap.size 2 1 (.slice ra m rc) m (ys.map (Value.int .i64)) ∧ ys.length = m) := ⟨by rw [← hm, HE.out.2]; exact HO.out, by rw [HE.out.2, hm]⟩
        rw [hm]
        have BW : Hid (Below w.heap.size w wr) := BV.trans (hvx.mono BV.size)
        have HLT : Hid (w.heap.size + 1 + 1 < V.heap.size) := hVl
        clear hown hm X2 HO
        go_wp2
        refine bodyPost_ret (v := .agg #[.int .i64 0, .slice ra m rc]) (by simp [results, Try.results25, go_sem, d0, d1, hw2]) rfl ⟨ra, rc, by rw [HE.out.1, HO3.out.2], ?_, ?_⟩
        · rw [HO3.out.2]
          exact low_owns (ownsE_set (ownsE_set HO3.out.1 (a := ⟨w.heap.size + 1 + 1, 0, none⟩) HLT.out _) (a := ⟨w.heap.size + 1 + 1, 1, none⟩) HLT.out _) (by have := HLT.out; omega)
        · exact (BW.out.setCell (by show w.heap.size ≤ w.heap.size + 1 + 1; omega) _).setCell (by show w.heap.size ≤ w.heap.size + 1 + 1; omega) _

end Go.Proofs.Ytdfhebmecbcegaa

namespace Go.Proofs.Ytdfhebmecbcegaa
open Go.RowKit Go.Maps
set_option linter.unusedVariables false
set_option linter.unusedSimpArgs false
attribute [local go_sem] fldN0 fldN1

set_option maxRecDepth 20000 in
set_option maxHeartbeats 4000000 in
theorem implCombine_c (a : Option Addr) (n cap : Nat) (zs : List ShI) (f : Int) (x : StI) (w : World) (hn : n ≤ 1048576) (hcap : n ≤ cap) (hcm : cap ≤ maxLen) (h : ShIn w a n zs) : GivesCB 14 a n cap f x (cbCode f zs x) (cbX f zs x) (cbL f zs x) w := by
  unfold GivesCB
  obtain ⟨V, hV, BV, hVs, hst, hbx⟩ := two_boxes7 w x 26 33
  have HZ : Hid (zs.length = n) := h.1
  have hn' : (n : Int) ≤ 1048576 := by omega
  obtain ⟨c, hc⟩ : ∃ c, cbCode f zs x = c := ⟨_, rfl⟩
  obtain ⟨cx, hcx⟩ : ∃ cx, cbX f zs x = cx := ⟨_, rfl⟩
  obtain ⟨ys, hys⟩ : ∃ ys, cbL f zs x = ys := ⟨_, rfl⟩
  rw [hc, hcx, hys]
  obtain ⟨s, hs⟩ : ∃ s, shCode f zs = s := ⟨_, rfl⟩
  obtain ⟨t, ht⟩ : ∃ t, stCode x = t := ⟨_, rfl⟩
  have HC : Hid (c = if s = 0 then (if t = 0 then (if ((sgL zs x).length : Int) < 2 * f + 1 then 7 else 0) else t) else s) := by show c = _; rw [← hc, ← hs, ← ht]; rfl
  have HX : Hid (cx = if c = 0 then x else ⟨0, 0, 0, 0, 0⟩) := by show cx = _; rw [← hcx, ← hc]; rfl
  have HY : Hid (ys = if c = 0 then (sgL zs x).take (2 * f + 1).toNat else []) := by show ys = _; rw [← hys, ← hc]; rfl
  have HBAD : Hid (c ≠ 0 → cx = ⟨0, 0, 0, 0, 0⟩ ∧ ys = []) := fun q => ⟨by rw [HX.out, if_neg q], by rw [HY.out, if_neg q]⟩
  have HS : Hid (ShIn V a n zs) := h.below BV
  have HB : Hid (BoxW (w.heap.size + 1) [.int .i64 0, .int .i64 0, .int .i64 0, .int .i64 0, .int .i64 0, .int .i64 0, .slice none 0 0] V) := hbx
  have HXA : Hid (StAt V w.heap.size 0 x) := hst
  have HSZ : Hid (V.heap.size = w.heap.size + 1 + 1) := hVs
  have hVl0 : w.heap.size + 1 < V.heap.size := by omega
  have HF : Hid (Calls Try.prog 22 #[.slice a n cap, .int .i64 f] V fun e w' => e = .returned (.int .i64 s) ∧ Below V.heap.size V w') := by have := implSharesFault_c a n cap zs f V hn hcap hcm HS.out; rw [hs] at this; exact this
  by_cases s0 : s = 0
  · have sb : (s != 0) = false := by simp [s0]
    have hok := sh_ok (hs.trans s0)
    obtain ⟨hf1, hf2⟩ := (inR_iff _ _ _).1 hok.1
    have hn2 : n ≤ 120 := by have := HZ.out; omega
    have hwf : ∀ z ∈ zs, i64W z.r := fun z hz => by have := (inR_iff _ _ _).1 (hok.2.2 z hz).1; exact i64W_of (by omega) (by omega)
    have hsc : sgCode zs x = t := by unfold sgCode; rw [if_neg (by have := HZ.out; omega), ht]
    obtain ⟨us, hus⟩ : ∃ us, sgRes zs x = us := ⟨_, rfl⟩
    obtain ⟨m, hm⟩ : ∃ m, us.length = m := ⟨_, rfl⟩
    have HG : Hid (∀ w2, Below V.heap.size V w2 → Calls Try.prog 17 #[.slice a n cap, .agg #[.int .i64 x.k, .int .i64 x.e, .int .i64 x.f, .int .i64 x.s, .int .i64 x.n]] w2 fun e w' => ∃ (ra : Option Addr) (rc : Nat), e = .returned (.agg #[.int .i64 t, .slice ra m rc]) ∧ w'.ownsRow w2.heap.size 2 1 (.slice ra m rc) m (us.map (Value.int .i64)) ∧ Below w2.heap.size w2 w') := fun w2 hb => by
      have := implSigners_c a n cap zs x w2 hn hwf (HS.out.below hb)
      unfold GivesSO at this
      rw [hsc, hus, hm] at this
      exact this
    have HUS : Hid (us.length = m ∧ (t = 0 → us = sgL zs x)) := ⟨hm, fun q => by rw [← hus]; unfold sgRes; rw [if_pos (hsc.trans q)]⟩
    have hml : m ≤ 120 := by
      have h1 : us.length ≤ (sgL zs x).length := by rw [← hus]; unfold sgRes; split <;> simp
      have := sgL_len zs x
      have := HZ.out
      omega
    have hml' : (m : Int) ≤ 120 := by omega
    have e1 : nfCode f = 0 := by unfold nfCode; rw [if_pos hok.1]
    have e2 : nfVal 2 f = 2 * f + 1 := by unfold nfVal; rw [if_pos hok.1]
    have HNF : Hid (∀ w : World, GivesNF 44 f (nfCode f) (nfVal 2 f) w) := implNeedOf_c f
    rw [e1, e2] at HNF
    unfold GivesNF at HNF
    obtain ⟨d, hd⟩ : ∃ d : Nat, 2 * f + 1 = (d : Int) := ⟨(2 * f + 1).toNat, by omega⟩
    rw [hd] at HNF
    have HD : Hid (2 * f + 1 = (d : Int) ∧ (2 * f + 1).toNat = d ∧ 3 ≤ d) := ⟨hd, by omega, by omega⟩
    have hd3 : (3 : Int) ≤ (d : Int) := by omega
    clear hc hcx hys hs hok h hst hbx hVs hwf hsc hus hm e1 e2 hd
    have hVw : w.heap.size < V.heap.size := by omega
    obtain ⟨x0, x1, x2, x3, x4⟩ := HXA.out
    by_cases t0 : t = 0
    · have tb : (t != 0) = false := by simp [t0]
      have HC2 : Hid (c = if (m : Int) < (d : Int) then 7 else 0) := by show c = _; rw [HC.out, if_pos s0, if_pos t0, ← HUS.out.2 t0, HUS.out.1, HD.out.1]
      have HT0 : Hid (t = 0) := t0
      clear s0 t0 ht HC x0 x1 x2 x3 x4
      go_enter Try.func14, Try.ntmps14
      go_wp2_with fail
      rw [← hV]
      clear hV
      refine HF.out.mono ?_
      rintro e w1 ⟨rfl, hb1⟩
      obtain ⟨x0, x1, x2, x3, x4⟩ := HXA.out.below hb1 hVw
      simp only [Nat.zero_add] at x0 x1 x2 x3 x4
      go_wp2_with fail
      refine (HG.out _ hb1).mono ?_
      rintro e w2' ⟨ra, q, rfl, ho, hb2⟩
      have hz1 := hb1.size
      have hz2 := hb2.size
      obtain ⟨w3, hw3⟩ : ∃ w3, w3 = w2'.alloc (.cells #[.int .i64 t, .slice ra m q] 37) := ⟨_, rfl⟩
      have X3 : Hid (BoxV w2'.heap.size [.int .i64 t, .slice ra m q] w3) := by rw [hw3]; exact (boxV_new w2' _ _).out
      have hl3 : w2'.heap.size < w3.heap.size := by rw [hw3]; simp
      have hb3 : Below V.heap.size V w3 := by rw [hw3]; exact (hb1.trans (hb2.mono hz1)).alloc (by omega) _
      have HO3 : Hid (w3.ownsRow V.heap.size 2 1 (.slice ra m q) m (us.map (Value.int .i64))) := by rw [hw3]; exact (low_owns ho hz1).alloc _
      clear x0 x1 x2 x3 x4 ho hb1 hb2
      have y0 := X3.out 0 _ rfl
      have y1 := X3.out 1 _ rfl
      go_upto_region 5 with fail
      rw [← hw3]
      clear hw3
      go_wp2_with fail
      refine (HNF.out _).mono ?_
      rintro e w2 ⟨rfl, hb4⟩
      have hz4 := hb4.size
      have z0 := (hb4.cell (p := ⟨w2'.heap.size, 0, none⟩) hl3).trans y0
      have z1 := (hb4.cell (p := ⟨w2'.heap.size, 1, none⟩) hl3).trans y1
      have hl4 : w2'.heap.size < w2.heap.size := by omega
      have HO4 : Hid (w2.ownsRow V.heap.size 2 1 (.slice ra m q) m (us.map (Value.int .i64))) := ((owns_hold0 HO3.out).below hb4).out
      have hb12 : Below V.heap.size V w2 := hb3.trans (hb4.mono hb3.size)
      clear y0 y1 hb3 hb4 X3
      have XB := HB.out.below (by have := HSZ.out; omega) hb12
      have b0 := XB.1 0 _ rfl
      have b1 := XB.1 1 _ rfl
      have b2 := XB.1 2 _ rfl
      have b3 := XB.1 3 _ rfl
      have b4 := XB.1 4 _ rfl
      have b5 := XB.1 5 _ rfl
      have b6 := XB.1 6 _ rfl
      have f0 := XB.2 0
      have f1 := XB.2 1
      have f2 := XB.2 2
      have f3 := XB.2 3
      have f4 := XB.2 4
      have f5 := XB.2 5
      have f6 := XB.2 6

      have BWX : Below w.heap.size w w2 := BV.trans (hb12.mono BV.size)
      have hVl : w.heap.size + 1 < w2.heap.size := by have := hb12.size; omega
      clear XB
      by_cases hlt : (m : Int) < (d : Int)
      · have HR : Hid (cx = ⟨0, 0, 0, 0, 0⟩ ∧ ys = []) := HBAD.out (by rw [HC2.out, if_pos hlt]; omega)
        have H7 : Hid (c = 7) := by show c = 7; rw [HC2.out, if_pos hlt]
        go_wp2
        refine bodyPost_ret (v := .agg #[.int .i64 7, .int .i64 0, .int .i64 0, .int .i64 0, .int .i64 0, .int .i64 0, .slice none 0 0]) (by simp [results, Try.results14, go_sem, b0, b1, b2, b3, b4, b5, b6, hVl]) rfl ⟨none, 0, by rw [H7.out, HR.out.1, HR.out.2]; rfl, by rw [HR.out.2]; exact World.ownsRow_nil _ _ _ _, ?_⟩
        have hw1 : w.heap.size ≤ w.heap.size + 1 := by omega
        exact (((((((BWX.setCell hw1 _).setCell hw1 _).setCell hw1 _).setCell hw1 _).setCell hw1 _).setCell hw1 _).setCell hw1 _)

      · have H0 : Hid (c = 0) := by show c = 0; rw [HC2.out, if_neg hlt]
        have hdm : d ≤ m := by omega
        obtain ⟨g, hra⟩ : ∃ g, ra = some ⟨g, 0, none⟩ := by
          rcases HO4.out.2 with ⟨h1, h2⟩ | ⟨g, cp, cur, h1, _⟩
          · omega
          · simp at h1; exact ⟨g, h1.1⟩
        subst hra
        have HO : Hid (OwnI w2 V.heap.size (.slice (some ⟨g, 0, none⟩) m q) (sgL zs x)) := by
          have := HO4.out
          rw [HUS.out.2 HT0.out] at this
          show w2.ownsRow _ _ _ _ _ _
          have e3 : (sgL zs x).length = m := by rw [← HUS.out.2 HT0.out]; exact HUS.out.1
          rw [e3]; exact this
        have hq := ownI_parts HO.out
        have HR : Hid (c = 0 ∧ cx = x ∧ ys = (sgL zs x).take d ∧ ys.length = d) := by
          have e1 : ys = (sgL zs x).take d := by rw [HY.out, if_pos H0.out, HD.out.2.1]
          exact ⟨H0.out, by rw [HX.out, if_pos H0.out], e1, by rw [e1, List.length_take]; have := hq.2.2.1; omega⟩
        obtain ⟨x0, x1, x2, x3, x4⟩ := HXA.out.below hb12 hVw
        simp only [Nat.zero_add] at x0 x1 x2 x3 x4
        have BW2 := BWX
        have hw2 := hVl
        have hdq : (d : Int) ≤ (q : Int) := by omega
        have hd0 : (0 : Int) ≤ (d : Int) := by omega
        have hwx : w.heap.size < w2.heap.size := by omega
        have HBS : Hid (w.heap.size + 1 < V.heap.size) := by have := HSZ.out; show _ < _; omega
        have HFO : Hid (w2.ownsRow V.heap.size 2 1 (.slice (some ⟨g, 0, none⟩) d q) d (((sgL zs x).take d).map (Value.int .i64))) := owns_takeI HO.out hdm
        have HFB : Hid (Below w.heap.size w w2) := BW2
        have HLE : Hid (w.heap.size ≤ V.heap.size ∧ w.heap.size ≤ w.heap.size + 1) := ⟨by have := HSZ.out; omega, by omega⟩
        go_wp2
        go_region
        all_goals go_wp2_with fail
        all_goals
          refine bodyPost_ret (v := .agg #[.int .i64 0, .int .i64 x.k, .int .i64 x.e, .int .i64 x.f, .int .i64 x.s, .int .i64 x.n, .slice (some ⟨g, 0, none⟩) d q]) (by simp [results, Try.results14, go_sem, b0, b1, b2, b3, b4, b5, b6, hw2]) rfl ⟨some ⟨g, 0, none⟩, q, ?_, ?_, ?_⟩
          · rw [HR.out.1, HR.out.2.1, HR.out.2.2.2]
          · rw [HR.out.2.2.2, HR.out.2.2.1]
            exact owns_drew (low_owns (own7 HFO.out _ HBS.out _ _ _ _ _ _ _) HLE.out.1)
          · exact (below7 HFB.out _ HLE.out.2 _ _ _ _ _ _ _).drew

    · have tb : (t != 0) = true := by simp [t0]
      have HE : Hid (c = t) := by show c = t; rw [HC.out, if_pos s0, if_neg t0]
      have HR : Hid (cx = ⟨0, 0, 0, 0, 0⟩ ∧ ys = []) := HBAD.out (by rw [HE.out]; exact t0)
      clear s0 t0 ht HC x0 x1 x2 x3 x4
      go_enter Try.func14, Try.ntmps14
      go_wp2_with fail
      rw [← hV]
      clear hV
      refine HF.out.mono ?_
      rintro e w1 ⟨rfl, hb1⟩
      obtain ⟨x0, x1, x2, x3, x4⟩ := HXA.out.below hb1 hVw
      simp only [Nat.zero_add] at x0 x1 x2 x3 x4
      go_wp2_with fail
      refine (HG.out _ hb1).mono ?_
      rintro e w2' ⟨ra, q, rfl, ho, hb2⟩
      have hz1 := hb1.size
      have hz2 := hb2.size
      obtain ⟨w3, hw3⟩ : ∃ w3, w3 = w2'.alloc (.cells #[.int .i64 t, .slice ra m q] 37) := ⟨_, rfl⟩
      have X3 : Hid (BoxV w2'.heap.size [.int .i64 t, .slice ra m q] w3) := by rw [hw3]; exact (boxV_new w2' _ _).out
      have hl3 : w2'.heap.size < w3.heap.size := by rw [hw3]; simp
      have hb3 : Below V.heap.size V w3 := by rw [hw3]; exact (hb1.trans (hb2.mono hz1)).alloc (by omega) _
      clear x0 x1 x2 x3 x4 ho hb1 hb2
      have y0 := X3.out 0 _ rfl
      have y1 := X3.out 1 _ rfl
      go_upto_region 5 with fail
      rw [← hw3]
      clear hw3
      have XB := HB.out.below (by have := HSZ.out; omega) hb3
      have b0 := XB.1 0 _ rfl
      have b1 := XB.1 1 _ rfl
      have b2 := XB.1 2 _ rfl
      have b3 := XB.1 3 _ rfl
      have b4 := XB.1 4 _ rfl
      have b5 := XB.1 5 _ rfl
      have b6 := XB.1 6 _ rfl
      have f0 := XB.2 0
      have f1 := XB.2 1
      have f2 := XB.2 2
      have f3 := XB.2 3
      have f4 := XB.2 4
      have f5 := XB.2 5
      have f6 := XB.2 6

      have BWX : Below w.heap.size w w3 := BV.trans (hb3.mono BV.size)
      have hVl : w.heap.size + 1 < w3.heap.size := by have := hb3.size; omega
      clear XB hb3
      go_wp2
      refine bodyPost_ret (v := .agg #[.int .i64 t, .int .i64 0, .int .i64 0, .int .i64 0, .int .i64 0, .int .i64 0, .slice none 0 0]) (by simp [results, Try.results14, go_sem, b0, b1, b2, b3, b4, b5, b6, hVl]) rfl ⟨none, 0, by rw [HE.out, HR.out.1, HR.out.2]; rfl, by rw [HR.out.2]; exact World.ownsRow_nil _ _ _ _, ?_⟩
      have hw1 : w.heap.size ≤ w.heap.size + 1 := by omega
      exact (((((((BWX.setCell hw1 _).setCell hw1 _).setCell hw1 _).setCell hw1 _).setCell hw1 _).setCell hw1 _).setCell hw1 _)

  · have sb : (s != 0) = true := by simp [s0]
    have HE : Hid (c = s) := by show c = s; rw [HC.out, if_neg s0]
    have HR : Hid (cx = ⟨0, 0, 0, 0, 0⟩ ∧ ys = []) := HBAD.out (by rw [HE.out]; exact s0)
    clear s0 hs ht HC hc hcx hys h hst hbx hVs
    go_enter Try.func14, Try.ntmps14
    go_wp2_with fail
    rw [← hV]
    clear hV
    refine HF.out.mono ?_
    rintro e w1 ⟨rfl, hb1⟩
    have XB := HB.out.below (by have := HSZ.out; omega) hb1
    have b0 := XB.1 0 _ rfl
    have b1 := XB.1 1 _ rfl
    have b2 := XB.1 2 _ rfl
    have b3 := XB.1 3 _ rfl
    have b4 := XB.1 4 _ rfl
    have b5 := XB.1 5 _ rfl
    have b6 := XB.1 6 _ rfl
    have f0 := XB.2 0
    have f1 := XB.2 1
    have f2 := XB.2 2
    have f3 := XB.2 3
    have f4 := XB.2 4
    have f5 := XB.2 5
    have f6 := XB.2 6

    have BWX : Below w.heap.size w w1 := BV.trans (hb1.mono BV.size)
    have hVl : w.heap.size + 1 < w1.heap.size := by have := hb1.size; omega
    clear XB hb1
    go_wp2
    refine bodyPost_ret (v := .agg #[.int .i64 s, .int .i64 0, .int .i64 0, .int .i64 0, .int .i64 0, .int .i64 0, .slice none 0 0]) (by simp [results, Try.results14, go_sem, b0, b1, b2, b3, b4, b5, b6, hVl]) rfl ⟨none, 0, by rw [HE.out, HR.out.1, HR.out.2]; rfl, by rw [HR.out.2]; exact World.ownsRow_nil _ _ _ _, ?_⟩
    have hw1 : w.heap.size ≤ w.heap.size + 1 := by omega
    exact (((((((BWX.setCell hw1 _).setCell hw1 _).setCell hw1 _).setCell hw1 _).setCell hw1 _).setCell hw1 _).setCell hw1 _)


theorem fldC0 (c a b d e k : Int) (v : Value) (w : World) : (Instr.field 33 (.agg #[.int .i64 c, .int .i64 a, .int .i64 b, .int .i64 d, .int .i64 e, .int .i64 k, v]) 0).run Try.prog w = .ok (.int .i64 c) w := by kernel_rfl

def GivesIS (fn : Nat) (a : Option Addr) (n cap : Nat) (f : Int) (x : StI) (t : Bool) (w : World) : Prop := Calls Try.prog fn #[.slice a n cap, .int .i64 f, .agg #[.int .i64 x.k, .int .i64 x.e, .int .i64 x.f, .int .i64 x.s, .int .i64 x.n]] w fun e w' => e = .returned (.bool t) ∧ Below w.heap.size w w'

def isB (f : Int) (zs : List ShI) (x : StI) : Bool := (cbCode f zs x == 0)

attribute [local go_sem] fldC0 in
set_option maxRecDepth 20000 in
set_option maxHeartbeats 1000000 in
theorem implSigned_c (a : Option Addr) (n cap : Nat) (zs : List ShI) (f : Int) (x : StI) (w : World) (hn : n ≤ 1048576) (hcap : n ≤ cap) (hcm : cap ≤ maxLen) (h : ShIn w a n zs) : GivesIS 16 a n cap f x (isB f zs x) w := by
  unfold GivesIS
  obtain ⟨V, hV⟩ : ∃ V, V = w.alloc (.cells #[.int .i64 x.k, .int .i64 x.e, .int .i64 x.f, .int .i64 x.s, .int .i64 x.n] 26) := ⟨_, rfl⟩
  have BV : Below w.heap.size w V := by rw [hV]; exact (Below.refl _ _).alloc (Nat.le_refl _) _
  have HCB := implCombine_c a n cap zs f x V hn hcap hcm (h.below BV)
  unfold GivesCB at HCB
  obtain ⟨c, hc⟩ : ∃ c, cbCode f zs x = c := ⟨_, rfl⟩
  unfold isB
  rw [hc] at HCB ⊢
  have HH : Hid _ := HCB
  clear HCB h hc
  go_enter Try.func16, Try.ntmps16
  go_wp2_with fail
  rw [← hV]
  clear hV
  refine Calls.mono HH.out ?_
  rintro e w1 ⟨ra, rc, rfl, _, hb1⟩
  go_wp2
  go_ret
  exact ⟨rfl, BV.trans (hb1.mono BV.size)⟩

set_option maxRecDepth 20000 in
set_option maxHeartbeats 1000000 in
theorem l9Signed_c (a : Option Addr) (n cap : Nat) (zs : List ShI) (f : Int) (x : StI) (w : World) (hn : n ≤ 120) (hf1 : 1 ≤ f) (hf2 : f ≤ 2) (h : ShIn w a n zs) : GivesIS 72 a n cap f x (decide (2 * f + 1 ≤ ((sgL zs x).length : Int))) w := by
  unfold GivesIS
  obtain ⟨V, hV⟩ : ∃ V, V = w.alloc (.cells #[.int .i64 x.k, .int .i64 x.e, .int .i64 x.f, .int .i64 x.s, .int .i64 x.n] 26) := ⟨_, rfl⟩
  have BV : Below w.heap.size w V := by rw [hV]; exact (Below.refl _ _).alloc (Nat.le_refl _) _
  have HL : Hid _ := l9Signers_c a n cap zs x V (by omega) (h.below BV)
  have hl : (sgL zs x).length ≤ 120 := by have := sgL_len zs x; have := h.1; omega
  obtain ⟨m, hm⟩ : ∃ m, (sgL zs x).length = m := ⟨_, rfl⟩
  rw [hm] at HL hl ⊢
  have hl' : (m : Int) ≤ 120 := by omega
  clear h hm
  go_enter Try.func72, Try.ntmps72
  go_wp2_with fail
  rw [← hV]
  clear hV
  refine Calls.mono HL.out ?_
  rintro e w1 ⟨g, q, rfl, _, hb1⟩
  go_wp2
  go_ret
  exact ⟨rfl, BV.trans (hb1.mono BV.size)⟩

set_option maxRecDepth 20000 in
set_option maxHeartbeats 2000000 in
theorem specSigned_c (a : Option Addr) (n cap : Nat) (zs : List ShI) (f : Int) (x : StI) (w : World) (hn : n ≤ 1048576) (hcap : n ≤ cap) (hcm : cap ≤ maxLen) (h : ShIn w a n zs) : GivesIS 42 a n cap f x (isB f zs x) w := by
  unfold GivesIS
  obtain ⟨V, hV⟩ : ∃ V, V = w.alloc (.cells #[.int .i64 x.k, .int .i64 x.e, .int .i64 x.f, .int .i64 x.s, .int .i64 x.n] 26) := ⟨_, rfl⟩
  have BV : Below w.heap.size w V := by rw [hV]; exact (Below.refl _ _).alloc (Nat.le_refl _) _
  have HXA : Hid (StAt V w.heap.size 0 x) := by rw [hV]; exact StAt.new w x _
  have hVw : w.heap.size < V.heap.size := by rw [hV]; simp
  have HS : Hid (ShIn V a n zs) := h.below BV
  have HZ : Hid (zs.length = n) := h.1
  obtain ⟨s, hs⟩ : ∃ s, shCode f zs = s := ⟨_, rfl⟩
  obtain ⟨t, ht⟩ : ∃ t, stCode x = t := ⟨_, rfl⟩
  obtain ⟨r, hr⟩ : ∃ r, isB f zs x = r := ⟨_, rfl⟩
  rw [hr]
  have HR : Hid (r = ((if s = 0 then (if t = 0 then (if ((sgL zs x).length : Int) < 2 * f + 1 then (7 : Int) else 0) else t) else s) == 0)) := by show r = _; rw [← hr, ← hs, ← ht]; rfl
  have HF : Hid (Calls Try.prog 45 #[.slice a n cap, .int .i64 f] V fun e w' => e = .returned (.int .i64 s) ∧ Below V.heap.size V w') := by have := l9Fault_c a n cap zs f V hn hcap hcm HS.out; rw [hs] at this; exact this
  have HT : Hid (∀ w2, Below V.heap.size V w2 → Calls Try.prog 46 #[.pointer (some ⟨w.heap.size, 0, none⟩)] w2 fun e w' => e = .returned (.int .i64 t) ∧ w2 = w') := fun w2 hb => by rw [← ht]; exact l7Fault_c _ _ x w2 (HXA.out.below hb hVw)
  by_cases s0 : s = 0
  · have sb : (s == 0) = true := by simp [s0]
    have hok := sh_ok (hs.trans s0)
    obtain ⟨hf1, hf2⟩ := (inR_iff _ _ _).1 hok.1
    have hn2 : n ≤ 120 := by have := HZ.out; omega
    by_cases t0 : t = 0
    · have tb : (t == 0) = true := by simp [t0]
      have HR2 : Hid (r = decide (2 * f + 1 ≤ ((sgL zs x).length : Int))) := by
        show r = _
        rw [HR.out, if_pos s0, if_pos t0]
        by_cases q : ((sgL zs x).length : Int) < 2 * f + 1
        · rw [if_pos q]; simp; omega
        · rw [if_neg q]; simp; omega
      have HL : Hid (∀ w2, Below V.heap.size V w2 → Calls Try.prog 72 #[.slice a n cap, .int .i64 f, .agg #[.int .i64 x.k, .int .i64 x.e, .int .i64 x.f, .int .i64 x.s, .int .i64 x.n]] w2 fun e w' => e = .returned (.bool r) ∧ Below w2.heap.size w2 w') := fun w2 hb => by rw [HR2.out]; exact l9Signed_c a n cap zs f x w2 hn2 hf1 hf2 (HS.out.below hb)
      clear s0 t0 hs ht hr h hok HR HR2
      go_enter Try.func42, Try.ntmps42
      go_wp2_with fail
      rw [← hV]
      clear hV
      refine HF.out.mono ?_
      rintro e w1 ⟨rfl, hb1⟩
      go_wp2_with fail
      refine (HT.out _ hb1).mono ?_
      rintro e w1' ⟨rfl, rfl⟩
      obtain ⟨x0, x1, x2, x3, x4⟩ := HXA.out.below hb1 hVw
      simp only [Nat.zero_add] at x0 x1 x2 x3 x4
      go_wp2_with fail
      refine (HL.out _ hb1).mono ?_
      rintro e w2 ⟨rfl, hb2⟩
      go_wp2
      go_ret
      exact ⟨rfl, (BV.trans (hb1.mono BV.size)).trans (hb2.mono (by have := BV.size; have := hb1.size; omega))⟩
    · have tb : (t == 0) = false := by simp [t0]
      have HR2 : Hid (r = false) := by show r = false; rw [HR.out, if_pos s0, if_neg t0]; simp [t0]
      clear s0 t0 hs ht hr h hok HR
      go_enter Try.func42, Try.ntmps42
      go_wp2_with fail
      rw [← hV]
      clear hV
      refine HF.out.mono ?_
      rintro e w1 ⟨rfl, hb1⟩
      go_wp2_with fail
      refine (HT.out _ hb1).mono ?_
      rintro e w1' ⟨rfl, rfl⟩
      go_wp2
      go_ret
      exact ⟨by rw [HR2.out]; rfl, BV.trans (hb1.mono BV.size)⟩
  · have sb : (s == 0) = false := by simp [s0]
    have HR2 : Hid (r = false) := by show r = false; rw [HR.out, if_neg s0]; simp [s0]
    clear s0 hs ht hr h HR
    go_enter Try.func42, Try.ntmps42
    go_wp2_with fail
    rw [← hV]
    clear hV
    refine HF.out.mono ?_
    rintro e w1 ⟨rfl, hb1⟩
    go_wp2
    go_ret
    exact ⟨by rw [HR2.out]; rfl, BV.trans (hb1.mono BV.size)⟩

end Go.Proofs.Ytdfhebmecbcegaa
