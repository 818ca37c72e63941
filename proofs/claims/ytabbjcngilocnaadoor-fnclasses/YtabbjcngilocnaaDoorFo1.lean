/-
  CONTRACTS: FormOf of both programs.
  Conditions: each contract bears its own.
-/
import Derived.Test.YtabbjcngilocnaaDoorFo0
namespace Go.Proofs.YtabbjcngilocnaaDoor
open Go.RowKit
set_option linter.unusedVariables false
set_option linter.unusedSimpArgs false

/-- A result's two cells. -/
def ResBox (w : World) (B : Nat) (u v : Value) : Prop := w.cell? ⟨B, 0, none⟩ = some u ∧ w.cell? ⟨B, 1, none⟩ = some v ∧ w.frozen? ⟨B, 0, none⟩ = false ∧ w.frozen? ⟨B, 1, none⟩ = false ∧ B < w.heap.size

theorem ResBox.below {w w' : World} {B : Nat} {u v : Value} (h : ResBox w B u v) (hb : Below w.heap.size w w') : ResBox w' B u v :=
  ⟨(hb.cell (p := ⟨B, 0, none⟩) h.2.2.2.2).trans h.1, (hb.cell (p := ⟨B, 1, none⟩) h.2.2.2.2).trans h.2.1, (hb.frozen (p := ⟨B, 0, none⟩) h.2.2.2.2).trans h.2.2.1, (hb.frozen (p := ⟨B, 1, none⟩) h.2.2.2.2).trans h.2.2.2.1, Nat.lt_of_lt_of_le h.2.2.2.2 hb.size⟩

theorem ResBox.new (w : World) (u v : Value) (t : TypeId) : ResBox (w.alloc (.cells #[u, v] t)) w.heap.size u v := ⟨by simp, by simp, by simp [go_sem], by simp [go_sem], by simp⟩

def fCode (gs : List LkI) (e c p : Int) : Int := if lkCode gs = 0 then (if formL gs e c p = 0 then 4 else 0) else lkCode gs
def fVal (gs : List LkI) (e c p : Int) : Int := if lkCode gs = 0 then formL gs e c p else 0

set_option maxRecDepth 100000 in
set_option maxHeartbeats 2000000 in
theorem l5Of_c (a : Option Addr) (n cap : Nat) (gs : List LkI) (e0 c0 p0 : Int) (w : World) (h : LkIn w a n gs) (hn : n ≤ 1048576) :
    Calls Tryd.prog 55 #[.slice a n cap, .int .i64 e0, .int .i64 c0, .int .i64 p0] w fun e w' => e = .returned (.int .i64 (formL gs e0 c0 p0)) ∧ Below w.heap.size w w' := by
  have HZ : Hid (gs.length = n) := h.1
  have H : Hid (LkIn w a n gs) := h
  clear h
  have hn' : (n : Int) ≤ 1048576 := by omega
  obtain ⟨r, hr⟩ : ∃ r, formL gs e0 c0 p0 = r := ⟨_, rfl⟩
  have HR : Hid (formL gs e0 c0 p0 = r) := hr
  rw [hr]
  clear hr
  go_enter Tryd.func55, Tryd.ntmps55
  go_wp2
  go_loopw [9] (fun i wr => ∃ k : Nat, k ≤ n ∧ i = .int .i64 (k : Int) ∧ formL (gs.drop k) e0 c0 p0 = r ∧ Below w.heap.size w wr) (fun i _ => n - (intOf i).toNat)
  case atStart => exact ⟨0, Nat.zero_le _, rfl, HR.out, Below.refl _ _⟩
  case round =>
    obtain ⟨k, hk, rfl, hp, hnx⟩ := hrel
    by_cases hlt : k < n
    · obtain ⟨b, off, x, rfl, hs, hx, hbl⟩ := H.out.at hlt
      rw [formL_drop hs] at hp
      obtain ⟨g0, g1, g2, g3⟩ := hx.below hnx hbl
      have hbw : b < wr.heap.size := Nat.lt_of_lt_of_le hbl hnx.size
      have hlt' : (k : Int) < (n : Int) := by omega
      clear hs hx
      by_cases q1 : x.e = e0
      · have b1 : (x.e == e0) = true := by simp [q1]
        by_cases q2 : x.c = c0
        · have b2 : (x.c == c0) = true := by simp [q2]
          by_cases q3 : x.p = p0
          · have b3 : (x.p == p0) = true := by simp [q3]
            rw [if_pos ⟨q1, q2, q3⟩] at hp
            have HP : Hid (x.f = r) := hp
            clear hp q1 q2 q3
            go_wp2
            go_ret
            exact ⟨by rw [← HP.out]; rfl, hnx.alloc hnx.size _⟩
          · have b3 : (x.p == p0) = false := by simp [q3]
            rw [if_neg (fun q => q3 q.2.2)] at hp
            have HP : Hid (formL (gs.drop (k + 1)) e0 c0 p0 = r) := hp
            clear hp q1 q2 q3
            go_wp2
            exact ⟨⟨k + 1, by omega, by go_num, HP.out, hnx.alloc hnx.size _⟩, by simp [intOf]; omega⟩
        · have b2 : (x.c == c0) = false := by simp [q2]
          rw [if_neg (fun q => q2 q.2.1)] at hp
          have HP : Hid (formL (gs.drop (k + 1)) e0 c0 p0 = r) := hp
          clear hp q1 q2
          go_wp2
          exact ⟨⟨k + 1, by omega, by go_num, HP.out, hnx.alloc hnx.size _⟩, by simp [intOf]; omega⟩
      · have b1 : (x.e == e0) = false := by simp [q1]
        rw [if_neg (fun q => q1 q.1)] at hp
        have HP : Hid (formL (gs.drop (k + 1)) e0 c0 p0 = r) := hp
        clear hp q1
        go_wp2
        exact ⟨⟨k + 1, by omega, by go_num, HP.out, hnx.alloc hnx.size _⟩, by simp [intOf]; omega⟩
    · have hkn : k = n := by omega
      subst hkn
      rw [List.drop_of_length_le (by rw [HZ.out]; exact Nat.le_refl _)] at hp
      have HP : Hid ((0 : Int) = r) := hp
      clear hp
      go_wp2
      go_ret
      exact ⟨by rw [← HP.out]; rfl, hnx⟩

theorem found_form {gs : List LkI} (hk : lkCode gs = 0) {t : LkI} {i : Nat} {b : Bool} (h : CutAt gs t i) (hb : b = true ↔ ∃ x, gs[i]? = some x ∧ cfL x t = 0) : (b = false ∧ formL gs t.e t.c t.p = 0) ∨ (b = true ∧ ∃ x, gs[i]? = some x ∧ formL gs t.e t.c t.p = x.f ∧ x.f ≠ 0) := by
  have hf := parts_form (lk_ok hk).2.1 h
  cases b
  · refine .inl ⟨rfl, ?_⟩
    rw [hf]
    cases hi : gs[i]? with
    | none => rfl
    | some x =>
      show (if cfL x t = 0 then x.f else 0) = 0
      rw [if_neg]
      intro q
      have := hb.2 ⟨x, hi, q⟩
      cases this
  · obtain ⟨x, hx, q⟩ := hb.1 rfl
    refine .inr ⟨rfl, x, hx, ?_, ?_⟩
    · rw [hf, hx]
      show (if cfL x t = 0 then x.f else 0) = x.f
      rw [if_pos q]
    · have := (lk_ok hk).2.2 x (List.mem_of_getElem? hx)
      simp [okL, inR] at this
      omega

set_option maxRecDepth 100000 in
set_option maxHeartbeats 2000000 in
theorem implFormOf_c (a : Option Addr) (n cap : Nat) (gs : List LkI) (e0 c0 p0 : Int) (w : World) (h : LkIn w a n gs) : GivesF 10 a n cap e0 c0 p0 (fCode gs e0 c0 p0) (fVal gs e0 c0 p0) w := by
  obtain ⟨W, hW⟩ : ∃ W, W = w.alloc (.cells #[.int .i64 0, .int .i64 0] 33) := ⟨_, rfl⟩
  have B0 : Below w.heap.size w W := by rw [hW]; exact (Below.refl _ _).alloc (Nat.le_refl _) _
  have X0 : Hid (ResBox W w.heap.size (.int .i64 0) (.int .i64 0)) := by rw [hW]; exact ResBox.new _ _ _ _
  have H : Hid (LkIn W a n gs) := h.below B0
  have HB0 : Hid (Below w.heap.size w W) := B0
  have hz := h.1
  have hsz := B0.size
  obtain ⟨c, hc⟩ : ∃ c, lkCode gs = c := ⟨_, rfl⟩
  have HC : Hid (lkCode gs = c) := hc
  clear h B0
  unfold GivesF
  by_cases h0 : c = 0
  · subst h0
    have hn : n ≤ 1048576 := by have := (lk_ok hc).1; omega
    have hn' : (n : Int) ≤ 1048576 := by omega
    have HSL : Hid (SL gs) := (lk_ok hc).2.1
    have HZ : Hid (gs.length = n) := hz
    obtain ⟨fc, hfc⟩ : ∃ fc, fCode gs e0 c0 p0 = fc := ⟨_, rfl⟩
    obtain ⟨fv, hfv⟩ : ∃ fv, fVal gs e0 c0 p0 = fv := ⟨_, rfl⟩
    rw [hfc, hfv]
    have HFC : Hid (fCode gs e0 c0 p0 = fc) := hfc
    have HFV : Hid (fVal gs e0 c0 p0 = fv) := hfv
    clear hc hz hfc hfv
    go_enter Tryd.func10, Tryd.ntmps10
    go_wp2_with fail
    rw [← hW]
    clear hW
    refine (implLocksFault_c a n cap gs _ H.out).mono ?_
    rintro e w1 ⟨rfl, hb1⟩
    rw [HC.out]
    have hz1 := hb1.size
    have B2 : Below w1.heap.size w1 (w1.alloc (.cells #[.int .i64 e0, .int .i64 c0, .int .i64 p0, .int .i64 0] 36)) := (Below.refl _ _).alloc (Nat.le_refl _) _
    have H2 : Hid (LkIn (w1.alloc (.cells #[.int .i64 e0, .int .i64 c0, .int .i64 p0, .int .i64 0] 36)) a n gs) := (H.out.below hb1).below B2
    have X2 : Hid (ResBox (w1.alloc (.cells #[.int .i64 e0, .int .i64 c0, .int .i64 p0, .int .i64 0] 36)) w.heap.size (.int .i64 0) (.int .i64 0)) := (X0.out.below hb1).below B2
    have HB2 : Hid (Below w.heap.size w (w1.alloc (.cells #[.int .i64 e0, .int .i64 c0, .int .i64 p0, .int .i64 0] 36))) := (HB0.out.trans (hb1.mono hsz)).trans (B2.mono (by omega))
    clear B2 hb1
    go_wp2_with fail
    refine (search_c a n cap gs ⟨e0, c0, p0, 0⟩ _ H2.out HSL.out hn).mono ?_
    rintro e w3 ⟨i, b, rfl, hcut, hfnd, hb3⟩
    have HF := found_form HC.out hcut hfnd
    have X3 := X2.out.below hb3
    have H3 : Hid (LkIn w3 a n gs) := H2.out.below hb3
    have hBx : Below w.heap.size w w3 := HB2.out.trans (hb3.mono HB2.out.size)
    obtain ⟨d0, d1, g0, g1, hw⟩ := X3
    clear hcut hfnd hb3 X2 H2 HB2
    rcases HF with ⟨rfl, hf⟩ | ⟨rfl, x, hx, hf, hf0⟩
    · have E1 : Hid (fc = 4) := by show fc = 4; rw [← HFC.out]; simp [fCode, HC.out, hf]
      have E2 : Hid (fv = 0) := by show fv = 0; rw [← HFV.out]; simp [fVal, HC.out, hf]
      clear hf
      go_wp2
      refine bodyPost_ret (v := .agg #[.int .i64 4, .int .i64 0]) (by simp [results, Tryd.results10, go_sem, d0, d1, hw]) rfl ⟨by rw [E1.out, E2.out], ?_⟩
      exact hBx |>.setCell (by simp) _ |>.setCell (by simp) _
    · have E1 : Hid (fc = 0) := by show fc = 0; rw [← HFC.out]; simp [fCode, HC.out, hf, hf0]
      have E2 : Hid (fv = x.f) := by show fv = x.f; rw [← HFV.out]; simp [fVal, HC.out, hf]
      have hin : i < n := by
        by_cases q : i < n
        · exact q
        · rw [List.getElem?_eq_none (by rw [HZ.out]; omega)] at hx; cases hx
      obtain ⟨b, off, y, e1, hy, ⟨y0, y1, y2, y3⟩, hbl⟩ := H3.out.at hin
      rw [hx] at hy
      cases hy
      subst e1
      have hlt' : (i : Int) < (n : Int) := by omega
      clear hf hf0 hx
      go_wp2
      refine bodyPost_ret (v := .agg #[.int .i64 0, .int .i64 x.f]) (by simp [results, Tryd.results10, go_sem, d0, d1, hw]) rfl ⟨by rw [E1.out, E2.out], ?_⟩
      exact hBx |>.setCell (by simp) _ |>.setCell (by simp) _
  · have bc : (c != 0) = true := by simp [h0]
    have E1 : fCode gs e0 c0 p0 = c := by simp [fCode, hc, h0]
    have E2 : fVal gs e0 c0 p0 = 0 := by simp [fVal, hc, h0]
    rw [E1, E2]
    clear E1 E2 hc hz h0
    go_enter Tryd.func10, Tryd.ntmps10
    go_wp2_with fail
    rw [← hW]
    clear hW
    refine (implLocksFault_c a n cap gs _ H.out).mono ?_
    rintro e w1 ⟨rfl, hb1⟩
    rw [HC.out]
    obtain ⟨d0, d1, g0, g1, hw⟩ := X0.out.below hb1
    have hBx : Below w.heap.size w w1 := HB0.out.trans (hb1.mono hsz)
    clear hb1
    go_wp2
    refine bodyPost_ret (v := .agg #[.int .i64 c, .int .i64 0]) (by simp [results, Tryd.results10, go_sem, d0, d1, hw]) rfl ⟨rfl, ?_⟩
    exact hBx |>.setCell (by simp) _ |>.setCell (by simp) _

end Go.Proofs.YtabbjcngilocnaaDoor
