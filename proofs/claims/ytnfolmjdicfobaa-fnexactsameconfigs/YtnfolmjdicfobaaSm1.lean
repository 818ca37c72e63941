/-
  CONTRACTS: impl.SameConfigs and what it calls.
  Conditions: each contract bears its own.
-/
import Derived.Test.YtnfolmjdicfobaaSm0
import Derived.Test.YtnfolmjdicfobaaCf2
import Derived.Deep.RegionHeld3
namespace Go.Proofs.Ytnfolmjdicfobaa
open Go.RowKit
set_option linter.unusedVariables false
set_option linter.unusedSimpArgs false

set_option maxHeartbeats 400000 in
theorem sameForms_c (x y : FormI) (w : World) (hx : x.n ≤ 1048576) (hy : y.n ≤ 1048576) (h : PartsIn w x.a x.n x.ps) (h' : PartsIn w y.a y.n y.ps) :
    Calls Try.prog 63 #[.agg #[.slice x.a x.n x.cap], .agg #[.slice y.a y.n y.cap]] w fun e w' => e = .returned (.bool (decide (x.ps = y.ps))) ∧ Below w.heap.size w w' := by
  obtain ⟨W, hW⟩ : ∃ W, W = (w.alloc (.cells #[.slice x.a x.n x.cap] 65)).alloc (.cells #[.slice y.a y.n y.cap] 65) := ⟨_, rfl⟩
  have B0 : Below w.heap.size w W := by rw [hW]; exact ((Below.refl _ _).alloc (Nat.le_refl _) _).alloc (by simp) _
  have HE : Hid (Calls Try.prog 83 #[.slice x.a x.n x.cap, .slice y.a y.n y.cap] W fun e w' => e = .returned (.bool (decide (x.ps = y.ps))) ∧ Below W.heap.size W w') := slEqParts_c x.a y.a x.n y.n x.cap y.cap x.ps y.ps W hx hy (h.below B0) (h'.below B0)
  generalize decide (x.ps = y.ps) = t at HE ⊢
  clear h h'
  go_enter Try.func63, Try.ntmps63
  go_wp2_with fail
  rw [← hW]
  clear hW
  refine HE.out.mono ?_
  rintro e w1 ⟨rfl, hb1⟩
  have B1 : Below w.heap.size w w1 := B0.trans (hb1.mono B0.size)
  clear B0 hb1
  go_wp2
  go_ret
  exact ⟨rfl, B1⟩

theorem parts_take1 {fs ys : List FormI} {k : Nat} {x y : FormI} (h : partsL (fs.take k) = partsL (ys.take k)) (hx : fs[k]? = some x) (hy : ys[k]? = some y) (e : x.ps = y.ps) : partsL (fs.take (k + 1)) = partsL (ys.take (k + 1)) := by
  unfold partsL at h ⊢
  rw [List.take_add_one, List.take_add_one, hx, hy, List.map_append, List.map_append, h]
  simp [e]

theorem parts_ne {fs ys : List FormI} {k : Nat} {x y : FormI} (hx : fs[k]? = some x) (hy : ys[k]? = some y) (e : ¬ x.ps = y.ps) : ¬ partsL fs = partsL ys := fun q => by
  have h1 := partsL_at hx
  rw [q, partsL_at hy] at h1
  exact e (Option.some.inj h1).symm

set_option maxHeartbeats 2000000 in
theorem eqFunc_c (a b : Option Addr) (n m ca cb : Nat) (xs ys : List FormI) (w : World) (hn : n ≤ 1048576) (hm : m ≤ 1048576) (hl : FormsLe 1048576 xs) (hl' : FormsLe 1048576 ys) (h : FormsIn w a n xs) (h' : FormsIn w b m ys) :
    Calls Try.prog 62 #[.slice a n ca, .slice b m cb, .func (.func 63) #[] #[]] w fun e w' => e = .returned (.bool (decide (partsL xs = partsL ys))) ∧ Below w.heap.size w w' := by
  have H : Hid (FormsIn w a n xs) := h
  have H' : Hid (FormsIn w b m ys) := h'
  have HL : Hid (FormsLe 1048576 xs ∧ FormsLe 1048576 ys) := ⟨hl, hl'⟩
  have HX : Hid (xs.length = n) := h.1
  have HY : Hid (ys.length = m) := h'.1
  clear h h' hl hl'
  have hn' : (n : Int) ≤ 1048576 := by omega
  have hm' : (m : Int) ≤ 1048576 := by omega
  by_cases hnm : n = m
  · subst hnm
    obtain ⟨t, ht⟩ : ∃ t, decide (partsL xs = partsL ys) = t := ⟨_, rfl⟩
    have HT : Hid (decide (partsL xs = partsL ys) = t) := ht
    rw [ht]
    clear ht
    go_enter Try.func62, Try.ntmps62
    go_wp2
    go_loopw [17] (fun i wr => ∃ k : Nat, k ≤ n ∧ i = .int .i64 (k : Int) ∧ partsL (xs.take k) = partsL (ys.take k) ∧ Below w.heap.size w wr) (fun i _ => n - (intOf i).toNat)
    case atStart => exact ⟨0, Nat.zero_le _, rfl, by simp [partsL], Below.refl _ _⟩
    case round =>
      obtain ⟨k, hk, rfl, htk, hnx⟩ := hrel
      have HTK : Hid (partsL (xs.take k) = partsL (ys.take k)) := htk
      clear htk
      by_cases hlt : k < n
      · obtain ⟨b1, o1, x, e1, hs, hr⟩ := H.out.at hlt
        obtain ⟨b2, o2, y, e2, hs2, hr2⟩ := H'.out.at hlt
        subst e1 e2
        have HS : Hid (xs[k]? = some x ∧ ys[k]? = some y) := ⟨hs, hs2⟩
        have h0 := (hr.below hnx).1
        have g0 := (hr2.below hnx).1
        have hb1 := (hr.below hnx).lt
        have hb2 := (hr2.below hnx).lt
        have hxn := HL.out.1 k x hs
        have hyn := HL.out.2 k y hs2
        have HXY : Hid (PartsIn wr x.a x.n x.ps ∧ PartsIn wr y.a y.n y.ps) := ⟨(hr.below hnx).2, (hr2.below hnx).2⟩
        clear hs hs2 hr hr2
        have hlt' : (k : Int) < (n : Int) := by omega
        obtain ⟨V, hV⟩ : ∃ V, V = (wr.alloc (.cells #[.slice x.a x.n x.cap] 65)).alloc (.cells #[.slice y.a y.n y.cap] 65) := ⟨_, rfl⟩
        have B0 : Below wr.heap.size wr V := by rw [hV]; exact ((Below.refl _ _).alloc (Nat.le_refl _) _).alloc (by simp) _
        obtain ⟨q, hq⟩ : ∃ q, decide (x.ps = y.ps) = q := ⟨_, rfl⟩
        have HC : Hid (Calls Try.prog 63 #[.agg #[.slice x.a x.n x.cap], .agg #[.slice y.a y.n y.cap]] V fun e w' => e = .returned (.bool q) ∧ Below V.heap.size V w') := by rw [← hq]; exact sameForms_c x y V hxn hyn (HXY.out.1.below B0) (HXY.out.2.below B0)
        have HQ : Hid (decide (x.ps = y.ps) = q) := hq
        clear hq
        go_wp2_with fail
        rw [← hV]
        clear hV
        refine HC.out.mono ?_
        rintro e w1 ⟨rfl, hb⟩
        have B1 : Below w.heap.size w w1 := hnx.trans ((B0.trans (hb.mono B0.size)).mono hnx.size)
        clear hb B0 h0 g0
        cases q
        · have HE : Hid (t = false) := by
            show t = false
            rw [← HT.out]
            exact decide_eq_false (parts_ne HS.out.1 HS.out.2 (of_decide_eq_false HQ.out))
          go_wp2
          go_ret
          exact ⟨by rw [HE.out]; rfl, B1⟩
        · have HN : Hid (partsL (xs.take (k + 1)) = partsL (ys.take (k + 1))) := parts_take1 HTK.out HS.out.1 HS.out.2 (of_decide_eq_true HQ.out)
          go_wp2
          exact ⟨⟨k + 1, by omega, by go_num, HN.out, B1⟩, by simp [intOf]; omega⟩
      · have hkn : k = n := by omega
        subst hkn
        have HE : Hid (t = true) := by
          show t = true
          rw [← HT.out]
          refine decide_eq_true ?_
          have := HTK.out
          rw [List.take_of_length_le (by rw [HX.out]; exact Nat.le_refl _), List.take_of_length_le (by rw [HY.out]; exact Nat.le_refl _)] at this
          exact this
        go_wp2
        go_ret
        exact ⟨by rw [HE.out]; rfl, hnx⟩
  · have HE : Hid (decide (partsL xs = partsL ys) = false) := decide_eq_false (fun e => hnm (by rw [← HX.out, ← HY.out, ← partsL_len xs, ← partsL_len ys, e]))
    rw [HE.out]
    have hnb : ((n : Int) != (m : Int)) = true := by simp; omega
    have hnm' : ¬ ((n : Int) = (m : Int)) := by omega
    go_enter Try.func62, Try.ntmps62
    go_wp2
    go_ret
    exact ⟨rfl, Below.refl _ _⟩

set_option maxHeartbeats 400000 in
theorem sameClasses_c (a b : Option Addr) (n m ca cb : Nat) (xs ys : List Int) (w : World) (hn : n ≤ 1048576) (hm : m ≤ 1048576) (h : IntIn w a n xs) (h' : IntIn w b m ys) :
    Calls Try.prog 64 #[.slice a n ca, .slice b m cb] w fun e w' => e = .returned (.bool (decide (xs = ys))) ∧ Below w.heap.size w w' := by
  have HE : Hid (Calls Try.prog 84 #[.slice a n ca, .slice b m cb] w fun e w' => e = .returned (.bool (decide (xs = ys))) ∧ Below w.heap.size w w') := slEqInts_c a b n m ca cb xs ys w hn hm h h'
  generalize decide (xs = ys) = t at HE ⊢
  clear h h'
  go_enter Try.func64, Try.ntmps64
  go_wp2_with fail
  refine HE.out.mono ?_
  rintro e w1 ⟨rfl, hb1⟩
  go_wp2
  go_ret
  exact ⟨rfl, hb1⟩

/-- Is all of two configurations the same? -/
def smB (c d : ConfI) : Bool := decide (c.e = d.e) && (decide (c.f = d.f) && (decide (c.zs = d.zs) && (decide (partsL c.fs = partsL d.fs) && decide (c.cs = d.cs))))

set_option maxRecDepth 100000 in
set_option maxHeartbeats 2000000 in
theorem epochSame_c (c d : ConfI) (w : World) (hc : ConfLe 1048576 c) (hd : ConfLe 1048576 d) (h : ConfIn w c) (h' : ConfIn w d) :
    Calls Try.prog 39 #[.agg #[.slice c.ca c.cn c.cc, .int .i64 c.e, .int .i64 c.f, .slice c.ra c.rn c.rc, .slice c.fa c.fn c.fc], .agg #[.slice d.ca d.cn d.cc, .int .i64 d.e, .int .i64 d.f, .slice d.ra d.rn d.rc, .slice d.fa d.fn d.fc]] w fun e w' => e = .returned (.bool (smB c d)) ∧ Below w.heap.size w w' := by
  obtain ⟨W, hW⟩ : ∃ W, W = (w.alloc (.cells #[.slice c.ca c.cn c.cc, .int .i64 c.e, .int .i64 c.f, .slice c.ra c.rn c.rc, .slice c.fa c.fn c.fc] 54)).alloc (.cells #[.slice d.ca d.cn d.cc, .int .i64 d.e, .int .i64 d.f, .slice d.ra d.rn d.rc, .slice d.fa d.fn d.fc] 54) := ⟨_, rfl⟩
  have hs : W.heap.size = w.heap.size + 2 := by rw [hW]; simp
  have B0 : Below w.heap.size w W := by rw [hW]; exact ((Below.refl _ _).alloc (Nat.le_refl _) _).alloc (by simp) _
  have a0 : W.cell? ⟨w.heap.size, 0, none⟩ = some (.slice c.ca c.cn c.cc) := by rw [hW]; go_cell
  have a4 : W.cell? ⟨w.heap.size, 4, none⟩ = some (.slice c.fa c.fn c.fc) := by rw [hW]; go_cell
  have b0 : W.cell? ⟨w.heap.size + 1, 0, none⟩ = some (.slice d.ca d.cn d.cc) := by rw [hW]; go_cell
  have b4 : W.cell? ⟨w.heap.size + 1, 4, none⟩ = some (.slice d.fa d.fn d.fc) := by rw [hW]; go_cell
  have HR : Hid (Calls Try.prog 61 #[.slice c.ra c.rn c.rc, .slice d.ra d.rn d.rc] W fun e w' => e = .returned (.bool (decide (c.zs = d.zs))) ∧ Below W.heap.size W w') := slEqRules_c c.ra d.ra c.rn d.rn c.rc d.rc c.zs d.zs W hc.rules hd.rules (h.rules.below B0) (h'.rules.below B0)
  have HF : Hid (∀ w2, Below w.heap.size w w2 → Calls Try.prog 62 #[.slice c.fa c.fn c.fc, .slice d.fa d.fn d.fc, .func (.func 63) #[] #[]] w2 fun e w' => e = .returned (.bool (decide (partsL c.fs = partsL d.fs))) ∧ Below w2.heap.size w2 w') := fun w2 q => eqFunc_c c.fa d.fa c.fn d.fn c.fc d.fc c.fs d.fs w2 hc.forms hd.forms hc.parts hd.parts (h.forms.below q) (h'.forms.below q)
  have HK : Hid (∀ w2, Below w.heap.size w w2 → Calls Try.prog 64 #[.slice c.ca c.cn c.cc, .slice d.ca d.cn d.cc] w2 fun e w' => e = .returned (.bool (decide (c.cs = d.cs))) ∧ Below w2.heap.size w2 w') := fun w2 q => sameClasses_c c.ca d.ca c.cn d.cn c.cc d.cc c.cs d.cs w2 hc.classes hd.classes (h.classes.below q) (h'.classes.below q)
  unfold smB
  generalize decide (c.zs = d.zs) = t3 at HR ⊢
  generalize decide (partsL c.fs = partsL d.fs) = t4 at HF ⊢
  generalize decide (c.cs = d.cs) = t5 at HK ⊢
  clear h h' hc hd
  by_cases e1 : c.e = d.e
  · have q1 : (c.e == d.e) = true := by simpa using e1
    rw [decide_eq_true e1, Bool.true_and]
    clear e1
    by_cases e2 : c.f = d.f
    · have q2 : (c.f == d.f) = true := by simpa using e2
      rw [decide_eq_true e2, Bool.true_and]
      clear e2
      cases t3
      · rw [Bool.false_and]
        go_enter Try.func39, Try.ntmps39
        go_wp2_with fail
        rw [← hW]
        clear hW
        refine HR.out.mono ?_
        rintro e w1 ⟨rfl, hb1⟩
        have hz1 := hb1.size
        have B1 : Below w.heap.size w w1 := B0.trans (hb1.mono (by omega))
        have p0 := (hb1.cell (p := ⟨w.heap.size, 0, none⟩) (by show w.heap.size < W.heap.size; omega)).trans a0
        have p4 := (hb1.cell (p := ⟨w.heap.size, 4, none⟩) (by show w.heap.size < W.heap.size; omega)).trans a4
        have r0 := (hb1.cell (p := ⟨w.heap.size + 1, 0, none⟩) (by show w.heap.size + 1 < W.heap.size; omega)).trans b0
        have r4 := (hb1.cell (p := ⟨w.heap.size + 1, 4, none⟩) (by show w.heap.size + 1 < W.heap.size; omega)).trans b4
        have hw1 : w.heap.size + 1 < w1.heap.size := by omega
        clear a0 a4 b0 b4 hb1 B0 hs
        go_wp2
        go_ret
        exact ⟨rfl, B1⟩
      · rw [Bool.true_and]
        cases t4
        · rw [Bool.false_and]
          go_enter Try.func39, Try.ntmps39
          go_wp2_with fail
          rw [← hW]
          clear hW
          refine HR.out.mono ?_
          rintro e w1 ⟨rfl, hb1⟩
          have hz1 := hb1.size
          have B1 : Below w.heap.size w w1 := B0.trans (hb1.mono (by omega))
          have p0 := (hb1.cell (p := ⟨w.heap.size, 0, none⟩) (by show w.heap.size < W.heap.size; omega)).trans a0
          have p4 := (hb1.cell (p := ⟨w.heap.size, 4, none⟩) (by show w.heap.size < W.heap.size; omega)).trans a4
          have r0 := (hb1.cell (p := ⟨w.heap.size + 1, 0, none⟩) (by show w.heap.size + 1 < W.heap.size; omega)).trans b0
          have r4 := (hb1.cell (p := ⟨w.heap.size + 1, 4, none⟩) (by show w.heap.size + 1 < W.heap.size; omega)).trans b4
          have hw1 : w.heap.size + 1 < w1.heap.size := by omega
          clear a0 a4 b0 b4 hb1 B0 hs
          go_wp2_with fail
          refine (HF.out _ B1).mono ?_
          rintro e w2 ⟨rfl, hb2⟩
          have hz2 := hb2.size
          have B2 : Below w.heap.size w w2 := B1.trans (hb2.mono B1.size)
          have s0 := (hb2.cell (p := ⟨w.heap.size, 0, none⟩) (by show w.heap.size < w1.heap.size; omega)).trans p0
          have u0 := (hb2.cell (p := ⟨w.heap.size + 1, 0, none⟩) (by show w.heap.size + 1 < w1.heap.size; omega)).trans r0
          have hw2 : w.heap.size + 1 < w2.heap.size := by omega
          clear p0 p4 r0 r4 hb2 B1
          go_wp2
          go_ret
          exact ⟨rfl, B2⟩
        · rw [Bool.true_and]
          go_enter Try.func39, Try.ntmps39
          go_wp2_with fail
          rw [← hW]
          clear hW
          refine HR.out.mono ?_
          rintro e w1 ⟨rfl, hb1⟩
          have hz1 := hb1.size
          have B1 : Below w.heap.size w w1 := B0.trans (hb1.mono (by omega))
          have p0 := (hb1.cell (p := ⟨w.heap.size, 0, none⟩) (by show w.heap.size < W.heap.size; omega)).trans a0
          have p4 := (hb1.cell (p := ⟨w.heap.size, 4, none⟩) (by show w.heap.size < W.heap.size; omega)).trans a4
          have r0 := (hb1.cell (p := ⟨w.heap.size + 1, 0, none⟩) (by show w.heap.size + 1 < W.heap.size; omega)).trans b0
          have r4 := (hb1.cell (p := ⟨w.heap.size + 1, 4, none⟩) (by show w.heap.size + 1 < W.heap.size; omega)).trans b4
          have hw1 : w.heap.size + 1 < w1.heap.size := by omega
          clear a0 a4 b0 b4 hb1 B0 hs
          go_wp2_with fail
          refine (HF.out _ B1).mono ?_
          rintro e w2 ⟨rfl, hb2⟩
          have hz2 := hb2.size
          have B2 : Below w.heap.size w w2 := B1.trans (hb2.mono B1.size)
          have s0 := (hb2.cell (p := ⟨w.heap.size, 0, none⟩) (by show w.heap.size < w1.heap.size; omega)).trans p0
          have u0 := (hb2.cell (p := ⟨w.heap.size + 1, 0, none⟩) (by show w.heap.size + 1 < w1.heap.size; omega)).trans r0
          have hw2 : w.heap.size + 1 < w2.heap.size := by omega
          clear p0 p4 r0 r4 hb2 B1
          go_wp2_with fail
          refine (HK.out _ B2).mono ?_
          rintro e w3 ⟨rfl, hb3⟩
          have B3 : Below w.heap.size w w3 := B2.trans (hb3.mono B2.size)
          clear s0 u0 hb3 B2
          go_wp2
          go_ret
          exact ⟨rfl, B3⟩
    · have q2 : (c.f == d.f) = false := by simpa using e2
      rw [decide_eq_false e2, Bool.false_and]
      clear e2 B0 a0 a4 b0 b4 hW hs
      go_enter Try.func39, Try.ntmps39
      go_wp2
      go_ret
      exact ⟨rfl, by go_grown⟩
  · have q1 : (c.e == d.e) = false := by simpa using e1
    rw [decide_eq_false e1, Bool.false_and]
    clear e1 B0 a0 a4 b0 b4 hW hs
    go_enter Try.func39, Try.ntmps39
    go_wp2
    go_ret
    exact ⟨rfl, by go_grown⟩

theorem epochOf_g (e f : Int) (ra : Option Addr) (rn rc : Nat) (fa : Option Addr) (fn fc : Nat) (ca : Option Addr) (cn cc : Nat) (w : World) : Calls Try.prog 29 #[.agg #[.int .i64 e, .int .i64 f, .slice ra rn rc, .slice fa fn fc, .slice ca cn cc]] w fun x w' => x = .returned (.agg #[.slice ca cn cc, .int .i64 e, .int .i64 f, .slice ra rn rc, .slice fa fn fc]) ∧ Below w.heap.size w w' :=
  epochOf_c ⟨e, f, ra, rn, rc, [], fa, fn, fc, [], ca, cn, cc, []⟩ w

def GivesS (fn : Nat) (c d : ConfI) (t : Bool) (w : World) : Prop := Calls Try.prog fn #[.agg #[.int .i64 c.e, .int .i64 c.f, .slice c.ra c.rn c.rc, .slice c.fa c.fn c.fc, .slice c.ca c.cn c.cc], .agg #[.int .i64 d.e, .int .i64 d.f, .slice d.ra d.rn d.rc, .slice d.fa d.fn d.fc, .slice d.ca d.cn d.cc]] w fun e w' => e = .returned (.bool t) ∧ Below w.heap.size w w'

set_option maxRecDepth 100000 in
set_option maxHeartbeats 2000000 in
theorem implSame_c (c d : ConfI) (w : World) (hc : ConfLe 1048576 c) (hd : ConfLe 1048576 d) (h : ConfIn w c) (h' : ConfIn w d) : GivesS 21 c d (smB c d) w := by
  obtain ⟨W, hW⟩ : ∃ W, W = (w.alloc (.cells #[.int .i64 c.e, .int .i64 c.f, .slice c.ra c.rn c.rc, .slice c.fa c.fn c.fc, .slice c.ca c.cn c.cc] 32)).alloc (.cells #[.int .i64 d.e, .int .i64 d.f, .slice d.ra d.rn d.rc, .slice d.fa d.fn d.fc, .slice d.ca d.cn d.cc] 32) := ⟨_, rfl⟩
  have hs : W.heap.size = w.heap.size + 2 := by rw [hW]; simp
  have B0 : Below w.heap.size w W := by rw [hW]; exact ((Below.refl _ _).alloc (Nat.le_refl _) _).alloc (by simp) _
  have KA : Hid (ConfAt W w.heap.size c ∧ ConfAt W (w.heap.size + 1) d) := by
    rw [hW]
    refine ⟨(ConfAt.new w c _).below ((Below.refl _ _).alloc (Nat.le_refl _) _), ?_⟩
    have := ConfAt.new (w.alloc (.cells #[.int .i64 c.e, .int .i64 c.f, .slice c.ra c.rn c.rc, .slice c.fa c.fn c.fc, .slice c.ca c.cn c.cc] 32)) d 32
    have hz : (w.alloc (.cells #[.int .i64 c.e, .int .i64 c.f, .slice c.ra c.rn c.rc, .slice c.fa c.fn c.fc, .slice c.ca c.cn c.cc] 32)).heap.size = w.heap.size + 1 := by simp
    rw [hz] at this
    exact this
  have HE : Hid (∀ w' : World, ((∀ b o, b < W.heap.size → w'.cell? ⟨b, o, none⟩ = W.cell? ⟨b, o, none⟩) ∧ Below W.heap.size W w') → Calls Try.prog 39 #[.agg #[.slice c.ca c.cn c.cc, .int .i64 c.e, .int .i64 c.f, .slice c.ra c.rn c.rc, .slice c.fa c.fn c.fc], .agg #[.slice d.ca d.cn d.cc, .int .i64 d.e, .int .i64 d.f, .slice d.ra d.rn d.rc, .slice d.fa d.fn d.fc]] w' fun e w'' => e = .returned (.bool (smB c d)) ∧ Below w'.heap.size w' w'') := fun w' q => epochSame_c c d w' hc hd ((h.below B0).below q.2) ((h'.below B0).below q.2)
  generalize smB c d = t at HE ⊢
  clear h h' hc hd
  unfold GivesS
  obtain ⟨k0, k1, k2, k3, k4⟩ := KA.out.1
  obtain ⟨m0, m1, m2, m3, m4⟩ := KA.out.2
  go_enter Try.func21, Try.ntmps21
  go_wp2
  rw [← hW]
  clear hW
  go_region_held3 (fun w' => (∀ b o, b < W.heap.size → w'.cell? ⟨b, o, none⟩ = W.cell? ⟨b, o, none⟩) ∧ Below W.heap.size W w') (first | exact hS | exact kp_drew _)
    (first | (go_at_call 29; refine (epochOf_g _ _ _ _ _ _ _ _ _ _ _ _).mono ?_; rintro e w' ⟨rfl, hb2⟩; have hS := kp_step (by assumption) hb2) | (go_at_call 39; refine (HE.out _ (by assumption)).mono ?_; rintro e w' ⟨rfl, hb2⟩; have hS := kp_step (by assumption) hb2))
  all_goals
    go_wp2
    go_ret
    exact ⟨rfl, B0.trans (hS.2.mono (by omega))⟩

end Go.Proofs.Ytnfolmjdicfobaa
