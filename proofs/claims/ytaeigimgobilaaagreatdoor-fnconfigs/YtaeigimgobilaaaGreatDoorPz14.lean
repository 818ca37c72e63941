/-
  CONTRACTS: impl.SameConfigs and what it calls.
  Conditions: each contract bears its own.
  CONTRACTS: spec.l6Same where a number or a length differs.
  Conditions: each contract bears its own.
  CONTRACTS: spec.l6Same where all numbers and lengths are the same.
  Conditions: each contract bears its own.
  CONTRACTS: spec.l6Same, spec.SameConfigs.
  Conditions: each contract bears its own.
  CONTRACTS: NeedOf and ReplicasOf of both programs (Nf0), beside configurations.
  PLAIN WORDS and CONTRACTS for the law laws.FnConfigs: what a drawn configuration answers.
  Conditions: each theorem bears its own.
  PLAIN WORDS on slices of rules that are new, as rows of cells. No Go text is walked here.
  Conditions: each fact bears its own.
  CONTRACT: spec.l2Policy: some rules, few of them.
  Conditions: each contract bears its own.
  CONTRACT: spec.l2Bent: some rules, at most 17.
  Conditions: each contract bears its own.
-/
import Derived.Test.YtaeigimgobilaaaGreatDoorPz13
import Derived.Test.YtaeigimgobilaaaGreatDoorPz05
import Derived.Deep.RegionHeld3
import Derived.BigQuiet
import Derived.Deep.QuietTactic
import Derived.Test.YtaeigimgobilaaaGreatDoorPz04
import Derived.Test.YtaeigimgobilaaaGreatDoorPz08
import Derived.Test.YtaeigimgobilaaaGreatDoorPz09
import Derived.Test.YtaeigimgobilaaaGreatDoorPz01
import Derived.Test.YtaeigimgobilaaaGreatDoorBlk0
import Derived.Deep.AppendLies
import Derived.Test.YtaeigimgobilaaaGreatDoorDraw5

namespace Go.Proofs.YtaeigimgobilaaaGreatDoor
open Go.RowKit
set_option linter.unusedVariables false
set_option linter.unusedSimpArgs false

set_option maxHeartbeats 400000 in
theorem sameForms_c (x y : FormI) (w : World) (hx : x.n ≤ 1048576) (hy : y.n ≤ 1048576) (h : PartsIn w x.a x.n x.ps) (h' : PartsIn w y.a y.n y.ps) :
    Calls Tryz.prog 69 #[.agg #[.slice x.a x.n x.cap], .agg #[.slice y.a y.n y.cap]] w fun e w' => e = .returned (.bool (decide (x.ps = y.ps))) ∧ Below w.heap.size w w' := by
  obtain ⟨W, hW⟩ : ∃ W, W = (w.alloc (.cells #[.slice x.a x.n x.cap] 42)).alloc (.cells #[.slice y.a y.n y.cap] 42) := ⟨_, rfl⟩
  have B0 : Below w.heap.size w W := by rw [hW]; exact ((Below.refl _ _).alloc (Nat.le_refl _) _).alloc (by simp) _
  have HE : Hid (Calls Tryz.prog 98 #[.slice x.a x.n x.cap, .slice y.a y.n y.cap] W fun e w' => e = .returned (.bool (decide (x.ps = y.ps))) ∧ Below W.heap.size W w') := slEqParts_c x.a y.a x.n y.n x.cap y.cap x.ps y.ps W hx hy (h.below B0) (h'.below B0)
  generalize decide (x.ps = y.ps) = t at HE ⊢
  clear h h'
  go_enter Tryz.func69, Tryz.ntmps69
  go_wp2_with fail
  rw [← hW]
  clear hW
  refine HE.out.mono ?_
  rintro e w1 ⟨rfl, hb1⟩
  have B1 : Below w.heap.size w w1 := B0.trans (hb1.mono B0.size)
  clear B0 hb1
  go_wp2
  go_ret
  exact ⟨rfl, B1⟩

theorem parts_take1 {fs ys : List FormI} {k : Nat} {x y : FormI} (h : partsL (fs.take k) = partsL (ys.take k)) (hx : fs[k]? = some x) (hy : ys[k]? = some y) (e : x.ps = y.ps) : partsL (fs.take (k + 1)) = partsL (ys.take (k + 1)) := by
  unfold partsL at h ⊢
  rw [List.take_add_one, List.take_add_one, hx, hy, List.map_append, List.map_append, h]
  simp [e]

theorem parts_ne {fs ys : List FormI} {k : Nat} {x y : FormI} (hx : fs[k]? = some x) (hy : ys[k]? = some y) (e : ¬ x.ps = y.ps) : ¬ partsL fs = partsL ys := fun q => by
  have h1 := partsL_at hx
  rw [q, partsL_at hy] at h1
  exact e (Option.some.inj h1).symm

set_option maxHeartbeats 2000000 in
theorem eqFunc_c (a b : Option Addr) (n m ca cb : Nat) (xs ys : List FormI) (w : World) (hn : n ≤ 1048576) (hm : m ≤ 1048576) (hl : FormsLe 1048576 xs) (hl' : FormsLe 1048576 ys) (h : FormsIn w a n xs) (h' : FormsIn w b m ys) :
    Calls Tryz.prog 68 #[.slice a n ca, .slice b m cb, .func (.func 69) #[] #[]] w fun e w' => e = .returned (.bool (decide (partsL xs = partsL ys))) ∧ Below w.heap.size w w' := by
  have H : Hid (FormsIn w a n xs) := h
  have H' : Hid (FormsIn w b m ys) := h'
  have HL : Hid (FormsLe 1048576 xs ∧ FormsLe 1048576 ys) := ⟨hl, hl'⟩
  have HX : Hid (xs.length = n) := h.1
  have HY : Hid (ys.length = m) := h'.1
  clear h h' hl hl'
  have hn' : (n : Int) ≤ 1048576 := by omega
  have hm' : (m : Int) ≤ 1048576 := by omega
  by_cases hnm : n = m
  · subst hnm
    obtain ⟨t, ht⟩ : ∃ t, decide (partsL xs = partsL ys) = t := ⟨_, rfl⟩
    have HT : Hid (decide (partsL xs = partsL ys) = t) := ht
    rw [ht]
    clear ht
    go_enter Tryz.func68, Tryz.ntmps68
    go_wp2
    go_loopw [17] (fun i wr => ∃ k : Nat, k ≤ n ∧ i = .int .i64 (k : Int) ∧ partsL (xs.take k) = partsL (ys.take k) ∧ Below w.heap.size w wr) (fun i _ => n - (intOf i).toNat)
    case atStart => exact ⟨0, Nat.zero_le _, rfl, by simp [partsL], Below.refl _ _⟩
    case round =>
      obtain ⟨k, hk, rfl, htk, hnx⟩ := hrel
      have HTK : Hid (partsL (xs.take k) = partsL (ys.take k)) := htk
      clear htk
      by_cases hlt : k < n
      · obtain ⟨b1, o1, x, e1, hs, hr⟩ := H.out.at hlt
        obtain ⟨b2, o2, y, e2, hs2, hr2⟩ := H'.out.at hlt
        subst e1 e2
        have HS : Hid (xs[k]? = some x ∧ ys[k]? = some y) := ⟨hs, hs2⟩
        have h0 := (hr.below hnx).1
        have g0 := (hr2.below hnx).1
        have hb1 := (hr.below hnx).lt
        have hb2 := (hr2.below hnx).lt
        have hxn := HL.out.1 k x hs
        have hyn := HL.out.2 k y hs2
        have HXY : Hid (PartsIn wr x.a x.n x.ps ∧ PartsIn wr y.a y.n y.ps) := ⟨(hr.below hnx).2, (hr2.below hnx).2⟩
        clear hs hs2 hr hr2
        have hlt' : (k : Int) < (n : Int) := by omega
        obtain ⟨V, hV⟩ : ∃ V, V = (wr.alloc (.cells #[.slice x.a x.n x.cap] 42)).alloc (.cells #[.slice y.a y.n y.cap] 42) := ⟨_, rfl⟩
        have B0 : Below wr.heap.size wr V := by rw [hV]; exact ((Below.refl _ _).alloc (Nat.le_refl _) _).alloc (by simp) _
        obtain ⟨q, hq⟩ : ∃ q, decide (x.ps = y.ps) = q := ⟨_, rfl⟩
        have HC : Hid (Calls Tryz.prog 69 #[.agg #[.slice x.a x.n x.cap], .agg #[.slice y.a y.n y.cap]] V fun e w' => e = .returned (.bool q) ∧ Below V.heap.size V w') := by rw [← hq]; exact sameForms_c x y V hxn hyn (HXY.out.1.below B0) (HXY.out.2.below B0)
        have HQ : Hid (decide (x.ps = y.ps) = q) := hq
        clear hq
        go_wp2_with fail
        rw [← hV]
        clear hV
        refine HC.out.mono ?_
        rintro e w1 ⟨rfl, hb⟩
        have B1 : Below w.heap.size w w1 := hnx.trans ((B0.trans (hb.mono B0.size)).mono hnx.size)
        clear hb B0 h0 g0
        cases q
        · have HE : Hid (t = false) := by
            show t = false
            rw [← HT.out]
            exact decide_eq_false (parts_ne HS.out.1 HS.out.2 (of_decide_eq_false HQ.out))
          go_wp2
          go_ret
          exact ⟨by rw [HE.out]; rfl, B1⟩
        · have HN : Hid (partsL (xs.take (k + 1)) = partsL (ys.take (k + 1))) := parts_take1 HTK.out HS.out.1 HS.out.2 (of_decide_eq_true HQ.out)
          go_wp2
          exact ⟨⟨k + 1, by omega, by go_num, HN.out, B1⟩, by simp [intOf]; omega⟩
      · have hkn : k = n := by omega
        subst hkn
        have HE : Hid (t = true) := by
          show t = true
          rw [← HT.out]
          refine decide_eq_true ?_
          have := HTK.out
          rw [List.take_of_length_le (by rw [HX.out]; exact Nat.le_refl _), List.take_of_length_le (by rw [HY.out]; exact Nat.le_refl _)] at this
          exact this
        go_wp2
        go_ret
        exact ⟨by rw [HE.out]; rfl, hnx⟩
  · have HE : Hid (decide (partsL xs = partsL ys) = false) := decide_eq_false (fun e => hnm (by rw [← HX.out, ← HY.out, ← partsL_len xs, ← partsL_len ys, e]))
    rw [HE.out]
    have hnb : ((n : Int) != (m : Int)) = true := by simp; omega
    have hnm' : ¬ ((n : Int) = (m : Int)) := by omega
    go_enter Tryz.func68, Tryz.ntmps68
    go_wp2
    go_ret
    exact ⟨rfl, Below.refl _ _⟩

set_option maxHeartbeats 400000 in
theorem sameClasses_c (a b : Option Addr) (n m ca cb : Nat) (xs ys : List Int) (w : World) (hn : n ≤ 1048576) (hm : m ≤ 1048576) (h : IntIn w a n xs) (h' : IntIn w b m ys) :
    Calls Tryz.prog 70 #[.slice a n ca, .slice b m cb] w fun e w' => e = .returned (.bool (decide (xs = ys))) ∧ Below w.heap.size w w' := by
  have HE : Hid (Calls Tryz.prog 99 #[.slice a n ca, .slice b m cb] w fun e w' => e = .returned (.bool (decide (xs = ys))) ∧ Below w.heap.size w w') := slEqInts_c a b n m ca cb xs ys w hn hm h h'
  generalize decide (xs = ys) = t at HE ⊢
  clear h h'
  go_enter Tryz.func70, Tryz.ntmps70
  go_wp2_with fail
  refine HE.out.mono ?_
  rintro e w1 ⟨rfl, hb1⟩
  go_wp2
  go_ret
  exact ⟨rfl, hb1⟩

/-- Is all of two configurations the same? -/
def smB (c d : ConfI) : Bool := decide (c.e = d.e) && (decide (c.f = d.f) && (decide (c.zs = d.zs) && (decide (partsL c.fs = partsL d.fs) && decide (c.cs = d.cs))))

set_option maxRecDepth 100000 in
set_option maxHeartbeats 2000000 in
theorem epochSame_c (c d : ConfI) (w : World) (hc : ConfLe 1048576 c) (hd : ConfLe 1048576 d) (h : ConfIn w c) (h' : ConfIn w d) :
    Calls Tryz.prog 35 #[.agg #[.slice c.ca c.cn c.cc, .int .i64 c.e, .int .i64 c.f, .slice c.ra c.rn c.rc, .slice c.fa c.fn c.fc], .agg #[.slice d.ca d.cn d.cc, .int .i64 d.e, .int .i64 d.f, .slice d.ra d.rn d.rc, .slice d.fa d.fn d.fc]] w fun e w' => e = .returned (.bool (smB c d)) ∧ Below w.heap.size w w' := by
  obtain ⟨W, hW⟩ : ∃ W, W = (w.alloc (.cells #[.slice c.ca c.cn c.cc, .int .i64 c.e, .int .i64 c.f, .slice c.ra c.rn c.rc, .slice c.fa c.fn c.fc] 58)).alloc (.cells #[.slice d.ca d.cn d.cc, .int .i64 d.e, .int .i64 d.f, .slice d.ra d.rn d.rc, .slice d.fa d.fn d.fc] 58) := ⟨_, rfl⟩
  have hs : W.heap.size = w.heap.size + 2 := by rw [hW]; simp
  have B0 : Below w.heap.size w W := by rw [hW]; exact ((Below.refl _ _).alloc (Nat.le_refl _) _).alloc (by simp) _
  have a0 : W.cell? ⟨w.heap.size, 0, none⟩ = some (.slice c.ca c.cn c.cc) := by rw [hW]; go_cell
  have a4 : W.cell? ⟨w.heap.size, 4, none⟩ = some (.slice c.fa c.fn c.fc) := by rw [hW]; go_cell
  have b0 : W.cell? ⟨w.heap.size + 1, 0, none⟩ = some (.slice d.ca d.cn d.cc) := by rw [hW]; go_cell
  have b4 : W.cell? ⟨w.heap.size + 1, 4, none⟩ = some (.slice d.fa d.fn d.fc) := by rw [hW]; go_cell
  have HR : Hid (Calls Tryz.prog 67 #[.slice c.ra c.rn c.rc, .slice d.ra d.rn d.rc] W fun e w' => e = .returned (.bool (decide (c.zs = d.zs))) ∧ Below W.heap.size W w') := slEqRules_c c.ra d.ra c.rn d.rn c.rc d.rc c.zs d.zs W hc.rules hd.rules (h.rules.below B0) (h'.rules.below B0)
  have HF : Hid (∀ w2, Below w.heap.size w w2 → Calls Tryz.prog 68 #[.slice c.fa c.fn c.fc, .slice d.fa d.fn d.fc, .func (.func 69) #[] #[]] w2 fun e w' => e = .returned (.bool (decide (partsL c.fs = partsL d.fs))) ∧ Below w2.heap.size w2 w') := fun w2 q => eqFunc_c c.fa d.fa c.fn d.fn c.fc d.fc c.fs d.fs w2 hc.forms hd.forms hc.parts hd.parts (h.forms.below q) (h'.forms.below q)
  have HK : Hid (∀ w2, Below w.heap.size w w2 → Calls Tryz.prog 70 #[.slice c.ca c.cn c.cc, .slice d.ca d.cn d.cc] w2 fun e w' => e = .returned (.bool (decide (c.cs = d.cs))) ∧ Below w2.heap.size w2 w') := fun w2 q => sameClasses_c c.ca d.ca c.cn d.cn c.cc d.cc c.cs d.cs w2 hc.classes hd.classes (h.classes.below q) (h'.classes.below q)
  unfold smB
  generalize decide (c.zs = d.zs) = t3 at HR ⊢
  generalize decide (partsL c.fs = partsL d.fs) = t4 at HF ⊢
  generalize decide (c.cs = d.cs) = t5 at HK ⊢
  clear h h' hc hd
  by_cases e1 : c.e = d.e
  · have q1 : (c.e == d.e) = true := by simpa using e1
    rw [decide_eq_true e1, Bool.true_and]
    clear e1
    by_cases e2 : c.f = d.f
    · have q2 : (c.f == d.f) = true := by simpa using e2
      rw [decide_eq_true e2, Bool.true_and]
      clear e2
      cases t3
      · rw [Bool.false_and]
        go_enter Tryz.func35, Tryz.ntmps35
        go_wp2_with fail
        rw [← hW]
        clear hW
        refine HR.out.mono ?_
        rintro e w1 ⟨rfl, hb1⟩
        have hz1 := hb1.size
        have B1 : Below w.heap.size w w1 := B0.trans (hb1.mono (by omega))
        have p0 := (hb1.cell (p := ⟨w.heap.size, 0, none⟩) (by show w.heap.size < W.heap.size; omega)).trans a0
        have p4 := (hb1.cell (p := ⟨w.heap.size, 4, none⟩) (by show w.heap.size < W.heap.size; omega)).trans a4
        have r0 := (hb1.cell (p := ⟨w.heap.size + 1, 0, none⟩) (by show w.heap.size + 1 < W.heap.size; omega)).trans b0
        have r4 := (hb1.cell (p := ⟨w.heap.size + 1, 4, none⟩) (by show w.heap.size + 1 < W.heap.size; omega)).trans b4
        have hw1 : w.heap.size + 1 < w1.heap.size := by omega
        clear a0 a4 b0 b4 hb1 B0 hs
        go_wp2
        go_ret
        exact ⟨rfl, B1⟩
      · rw [Bool.true_and]
        cases t4
        · rw [Bool.false_and]
          go_enter Tryz.func35, Tryz.ntmps35
          go_wp2_with fail
          rw [← hW]
          clear hW
          refine HR.out.mono ?_
          rintro e w1 ⟨rfl, hb1⟩
          have hz1 := hb1.size
          have B1 : Below w.heap.size w w1 := B0.trans (hb1.mono (by omega))
          have p0 := (hb1.cell (p := ⟨w.heap.size, 0, none⟩) (by show w.heap.size < W.heap.size; omega)).trans a0
          have p4 := (hb1.cell (p := ⟨w.heap.size, 4, none⟩) (by show w.heap.size < W.heap.size; omega)).trans a4
          have r0 := (hb1.cell (p := ⟨w.heap.size + 1, 0, none⟩) (by show w.heap.size + 1 < W.heap.size; omega)).trans b0
          have r4 := (hb1.cell (p := ⟨w.heap.size + 1, 4, none⟩) (by show w.heap.size + 1 < W.heap.size; omega)).trans b4
          have hw1 : w.heap.size + 1 < w1.heap.size := by omega
          clear a0 a4 b0 b4 hb1 B0 hs
          go_wp2_with fail
          refine (HF.out _ B1).mono ?_
          rintro e w2 ⟨rfl, hb2⟩
          have hz2 := hb2.size
          have B2 : Below w.heap.size w w2 := B1.trans (hb2.mono B1.size)
          have s0 := (hb2.cell (p := ⟨w.heap.size, 0, none⟩) (by show w.heap.size < w1.heap.size; omega)).trans p0
          have u0 := (hb2.cell (p := ⟨w.heap.size + 1, 0, none⟩) (by show w.heap.size + 1 < w1.heap.size; omega)).trans r0
          have hw2 : w.heap.size + 1 < w2.heap.size := by omega
          clear p0 p4 r0 r4 hb2 B1
          go_wp2
          go_ret
          exact ⟨rfl, B2⟩
        · rw [Bool.true_and]
          go_enter Tryz.func35, Tryz.ntmps35
          go_wp2_with fail
          rw [← hW]
          clear hW
          refine HR.out.mono ?_
          rintro e w1 ⟨rfl, hb1⟩
          have hz1 := hb1.size
          have B1 : Below w.heap.size w w1 := B0.trans (hb1.mono (by omega))
          have p0 := (hb1.cell (p := ⟨w.heap.size, 0, none⟩) (by show w.heap.size < W.heap.size; omega)).trans a0
          have p4 := (hb1.cell (p := ⟨w.heap.size, 4, none⟩) (by show w.heap.size < W.heap.size; omega)).trans a4
          have r0 := (hb1.cell (p := ⟨w.heap.size + 1, 0, none⟩) (by show w.heap.size + 1 < W.heap.size; omega)).trans b0
          have r4 := (hb1.cell (p := ⟨w.heap.size + 1, 4, none⟩) (by show w.heap.size + 1 < W.heap.size; omega)).trans b4
          have hw1 : w.heap.size + 1 < w1.heap.size := by omega
          clear a0 a4 b0 b4 hb1 B0 hs
          go_wp2_with fail
          refine (HF.out _ B1).mono ?_
          rintro e w2 ⟨rfl, hb2⟩
          have hz2 := hb2.size
          have B2 : Below w.heap.size w w2 := B1.trans (hb2.mono B1.size)
          have s0 := (hb2.cell (p := ⟨w.heap.size, 0, none⟩) (by show w.heap.size < w1.heap.size; omega)).trans p0
          have u0 := (hb2.cell (p := ⟨w.heap.size + 1, 0, none⟩) (by show w.heap.size + 1 < w1.heap.size; omega)).trans r0
          have hw2 : w.heap.size + 1 < w2.heap.size := by omega
          clear p0 p4 r0 r4 hb2 B1
          go_wp2_with fail
          refine (HK.out _ B2).mono ?_
          rintro e w3 ⟨rfl, hb3⟩
          have B3 : Below w.heap.size w w3 := B2.trans (hb3.mono B2.size)
          clear s0 u0 hb3 B2
          go_wp2
          go_ret
          exact ⟨rfl, B3⟩
    · have q2 : (c.f == d.f) = false := by simpa using e2
      rw [decide_eq_false e2, Bool.false_and]
      clear e2 B0 a0 a4 b0 b4 hW hs
      go_enter Tryz.func35, Tryz.ntmps35
      go_wp2
      go_ret
      exact ⟨rfl, by go_grown⟩
  · have q1 : (c.e == d.e) = false := by simpa using e1
    rw [decide_eq_false e1, Bool.false_and]
    clear e1 B0 a0 a4 b0 b4 hW hs
    go_enter Tryz.func35, Tryz.ntmps35
    go_wp2
    go_ret
    exact ⟨rfl, by go_grown⟩

theorem epochOf_g (e f : Int) (ra : Option Addr) (rn rc : Nat) (fa : Option Addr) (fn fc : Nat) (ca : Option Addr) (cn cc : Nat) (w : World) : Calls Tryz.prog 24 #[.agg #[.int .i64 e, .int .i64 f, .slice ra rn rc, .slice fa fn fc, .slice ca cn cc]] w fun x w' => x = .returned (.agg #[.slice ca cn cc, .int .i64 e, .int .i64 f, .slice ra rn rc, .slice fa fn fc]) ∧ Below w.heap.size w w' :=
  epochOf_c ⟨e, f, ra, rn, rc, [], fa, fn, fc, [], ca, cn, cc, []⟩ w

def GivesS (fn : Nat) (c d : ConfI) (t : Bool) (w : World) : Prop := Calls Tryz.prog fn #[.agg #[.int .i64 c.e, .int .i64 c.f, .slice c.ra c.rn c.rc, .slice c.fa c.fn c.fc, .slice c.ca c.cn c.cc], .agg #[.int .i64 d.e, .int .i64 d.f, .slice d.ra d.rn d.rc, .slice d.fa d.fn d.fc, .slice d.ca d.cn d.cc]] w fun e w' => e = .returned (.bool t) ∧ Below w.heap.size w w'

set_option maxRecDepth 100000 in
set_option maxHeartbeats 2000000 in
theorem implSame_c (c d : ConfI) (w : World) (hc : ConfLe 1048576 c) (hd : ConfLe 1048576 d) (h : ConfIn w c) (h' : ConfIn w d) : GivesS 15 c d (smB c d) w := by
  obtain ⟨W, hW⟩ : ∃ W, W = (w.alloc (.cells #[.int .i64 c.e, .int .i64 c.f, .slice c.ra c.rn c.rc, .slice c.fa c.fn c.fc, .slice c.ca c.cn c.cc] 28)).alloc (.cells #[.int .i64 d.e, .int .i64 d.f, .slice d.ra d.rn d.rc, .slice d.fa d.fn d.fc, .slice d.ca d.cn d.cc] 28) := ⟨_, rfl⟩
  have hs : W.heap.size = w.heap.size + 2 := by rw [hW]; simp
  have B0 : Below w.heap.size w W := by rw [hW]; exact ((Below.refl _ _).alloc (Nat.le_refl _) _).alloc (by simp) _
  have KA : Hid (ConfAt W w.heap.size c ∧ ConfAt W (w.heap.size + 1) d) := by
    rw [hW]
    refine ⟨(ConfAt.new w c _).below ((Below.refl _ _).alloc (Nat.le_refl _) _), ?_⟩
    have := ConfAt.new (w.alloc (.cells #[.int .i64 c.e, .int .i64 c.f, .slice c.ra c.rn c.rc, .slice c.fa c.fn c.fc, .slice c.ca c.cn c.cc] 28)) d 28
    have hz : (w.alloc (.cells #[.int .i64 c.e, .int .i64 c.f, .slice c.ra c.rn c.rc, .slice c.fa c.fn c.fc, .slice c.ca c.cn c.cc] 28)).heap.size = w.heap.size + 1 := by simp
    rw [hz] at this
    exact this
  have HE : Hid (∀ w' : World, ((∀ b o, b < W.heap.size → w'.cell? ⟨b, o, none⟩ = W.cell? ⟨b, o, none⟩) ∧ Below W.heap.size W w') → Calls Tryz.prog 35 #[.agg #[.slice c.ca c.cn c.cc, .int .i64 c.e, .int .i64 c.f, .slice c.ra c.rn c.rc, .slice c.fa c.fn c.fc], .agg #[.slice d.ca d.cn d.cc, .int .i64 d.e, .int .i64 d.f, .slice d.ra d.rn d.rc, .slice d.fa d.fn d.fc]] w' fun e w'' => e = .returned (.bool (smB c d)) ∧ Below w'.heap.size w' w'') := fun w' q => epochSame_c c d w' hc hd ((h.below B0).below q.2) ((h'.below B0).below q.2)
  generalize smB c d = t at HE ⊢
  clear h h' hc hd
  unfold GivesS
  obtain ⟨k0, k1, k2, k3, k4⟩ := KA.out.1
  obtain ⟨m0, m1, m2, m3, m4⟩ := KA.out.2
  go_enter Tryz.func15, Tryz.ntmps15
  go_wp2
  rw [← hW]
  clear hW
  go_region_held3 (fun w' => (∀ b o, b < W.heap.size → w'.cell? ⟨b, o, none⟩ = W.cell? ⟨b, o, none⟩) ∧ Below W.heap.size W w') (first | exact hS | exact kp_drew _)
    (first | (go_at_call 24; refine (epochOf_g _ _ _ _ _ _ _ _ _ _ _ _).mono ?_; rintro e w' ⟨rfl, hb2⟩; have hS := kp_step (by assumption) hb2) | (go_at_call 35; refine (HE.out _ (by assumption)).mono ?_; rintro e w' ⟨rfl, hb2⟩; have hS := kp_step (by assumption) hb2))
  all_goals
    go_wp2
    go_ret
    exact ⟨rfl, B0.trans (hS.2.mono (by omega))⟩

end Go.Proofs.YtaeigimgobilaaaGreatDoor

namespace Go.Proofs.YtaeigimgobilaaaGreatDoor
open Go.RowKit
set_option linter.unusedVariables false
set_option linter.unusedSimpArgs false

end Go.Proofs.YtaeigimgobilaaaGreatDoor

namespace Go.Proofs.YtaeigimgobilaaaGreatDoor
open Go.RowKit
set_option linter.unusedVariables false
set_option linter.unusedSimpArgs false

attribute [local go_sem ↓] Rule_neq Part_neq

end Go.Proofs.YtaeigimgobilaaaGreatDoor

namespace Go.Proofs.YtaeigimgobilaaaGreatDoor
open Go.RowKit
set_option linter.unusedVariables false
set_option linter.unusedSimpArgs false

end Go.Proofs.YtaeigimgobilaaaGreatDoor



namespace Go.Proofs.YtaeigimgobilaaaGreatDoor
open Go.RowKit
set_option linter.unusedVariables false
set_option linter.unusedSimpArgs false

/-- What each call answers at the configuration, in every world that still holds it. -/
structure AnsC (e f : Int) (ra : Option Addr) (rn rc : Nat) (fa : Option Addr) (fn fc : Nat) (ca : Option Addr) (cn cc : Nat) (fm s : Int) (ok : Bool) (k : Int) (t : ByteArray) (fk : Int) (W : World) : Prop where
  al : ∀ X, Below W.heap.size W X → Calls Tryz.prog 6 #[.agg #[.int .i64 e, .int .i64 f, .slice ra rn rc, .slice fa fn fc, .slice ca cn cc], .int .i64 fm, .int .i64 s] X fun d X' => d = .returned (.bool ok) ∧ Below X.heap.size X X'
  sl : ∀ X, Below W.heap.size W X → Calls Tryz.prog 8 #[.agg #[.int .i64 e, .int .i64 f, .slice ra rn rc, .slice fa fn fc, .slice ca cn cc], .int .i64 fm, .int .i64 s] X fun d X' => d = .returned (.bool ok) ∧ Below X.heap.size X X'
  ct : ∀ X, Below W.heap.size W X → Calls Tryz.prog 7 #[.agg #[.int .i64 e, .int .i64 f, .slice ra rn rc, .slice fa fn fc, .slice ca cn cc]] X fun d X' => d = .returned (.agg #[.int .i64 k, .string t]) ∧ Below X.heap.size X X'
  st : ∀ X, Below W.heap.size W X → Calls Tryz.prog 9 #[.agg #[.int .i64 e, .int .i64 f, .slice ra rn rc, .slice fa fn fc, .slice ca cn cc]] X fun d X' => d = .returned (.agg #[.int .i64 k, .string t]) ∧ Below X.heap.size X X'
  cf : ∀ X, Below W.heap.size W X → Calls Tryz.prog 10 #[.agg #[.int .i64 e, .int .i64 f, .slice ra rn rc, .slice fa fn fc, .slice ca cn cc]] X fun d X' => d = .returned (.int .i64 fk) ∧ Below X.heap.size X X'
  sf : ∀ X, Below W.heap.size W X → Calls Tryz.prog 11 #[.agg #[.int .i64 e, .int .i64 f, .slice ra rn rc, .slice fa fn fc, .slice ca cn cc]] X fun d X' => d = .returned (.int .i64 fk) ∧ Below X.heap.size X X'
  sm : ∀ X, Below W.heap.size W X → Calls Tryz.prog 15 #[.agg #[.int .i64 e, .int .i64 f, .slice ra rn rc, .slice fa fn fc, .slice ca cn cc], .agg #[.int .i64 e, .int .i64 f, .slice ra rn rc, .slice fa fn fc, .slice ca cn cc]] X fun d X' => d = .returned (.bool true) ∧ Below X.heap.size X X'
  bad : fk ≠ 0 → ok = false
  two : fk = 0 → 1 ≤ f ∧ f ≤ 2
  out : ¬ (1 ≤ fm ∧ fm ≤ (fn : Int)) → ok = false
  adm : fk = 0 → 1 ≤ fm → fm ≤ (fn : Int) → ∃ (b off : Nat) (x : Option Addr) (n m1 m2 : Nat), fa = some ⟨b, off, none⟩ ∧ fm - 1 = (n : Int) ∧ n < fn ∧ W.cell? ⟨b, off + n, none⟩ = some (.slice x m1 m2) ∧ ∀ X, Below W.heap.size W X → Calls Tryz.prog 14 #[.slice ra rn rc, .slice x m1 m2, .int .i64 s] X fun d X' => d = .returned (.bool ok) ∧ Below X.heap.size X X'

theorem smB_self (c : ConfI) : smB c c = true := by
  unfold smB
  simp

theorem ansC (c : ConfI) (fm s : Int) (W : World) (hrc : c.rn ≤ c.rc ∧ c.rc ≤ maxLen) (hle : c.rn ≤ 17 ∧ c.fn ≤ 5 ∧ c.cn ≤ 5 ∧ FormsLe 9 c.fs) (h : ConfIn W c) : ∃ ok k t fk, AnsC c.e c.f c.ra c.rn c.rc c.fa c.fn c.fc c.ca c.cn c.cc fm s ok k t fk W := by
  have hl : ConfLe 1048576 c := ⟨by omega, by omega, fun k x hx => by have := hle.2.2.2 k x hx; omega, by omega⟩
  obtain ⟨gs, hgs⟩ : ∃ gs, polCode c.zs = 0 → AllG c.zs gs := by
    by_cases hp : polCode c.zs = 0
    · obtain ⟨gs, hg⟩ := all_some c.zs hp
      exact ⟨gs, fun _ => hg⟩
    · exact ⟨[], fun q => absurd q hp⟩
  have hpl : (partsL c.fs).length = c.fn := by unfold partsL; rw [List.length_map]; exact h.forms.1
  refine ⟨alB (cfCode c.e c.f c.zs (partsL c.fs) c.cs) (partsL c.fs) gs fm s, cxCode c.e c.f c.zs (partsL c.fs) c.cs, cxText c.e c.f c.zs (partsL c.fs) c.cs, cfCode c.e c.f c.zs (partsL c.fs) c.cs, ?_⟩
  refine ⟨fun X q => implAllows_c c gs fm s X hl hrc.1 hrc.2 (h.below q) hgs, fun X q => specAllows_c c gs fm s X hl (h.below q) hgs, fun X q => implConfigText_c c X hl hrc.1 hrc.2 (h.below q), fun X q => specConfigText_c c X hl (h.below q), fun X q => implConfigFault_c c X hl hrc.1 hrc.2 (h.below q), fun X q => specConfigFault_c c X hl (h.below q), fun X q => ?_, fun q => ?_, fun q => ?_, fun q => ?_, fun q h1 h2 => ?_⟩
  · have := implSame_c c c X hl hl (h.below q) (h.below q)
    rw [smB_self] at this
    exact this
  · unfold alB
    rw [decide_eq_false q, Bool.false_and]
  · obtain ⟨_, hf, _⟩ := cf_zero q
    exact (inR_iff _ _ _).1 hf
  · unfold alB
    rw [alW_out, Bool.and_false]
    unfold inR
    rw [hpl]
    simp
    omega
  · obtain ⟨n, hn⟩ : ∃ n : Nat, fm - 1 = (n : Int) := Int.eq_ofNat_of_zero_le (by omega)
    have hnf : n < c.fn := by omega
    obtain ⟨b, off, x, hfa, hx, hxa, hxp⟩ := h.forms.at hnf
    refine ⟨b, off, x.a, n, x.n, x.cap, hfa, hn, hnf, hxa, fun X q2 => ?_⟩
    have := implAdmits_c c.ra c.rn c.rc c.zs x.a x.n x.cap x.ps gs s X (by omega) (by have := hle.2.2.2 n x hx; omega) hrc.1 hrc.2 (h.rules.below q2) (hxp.below q2) hgs
    obtain ⟨_, _, hp, hfm, _⟩ := cf_zero q
    have hadm : admB c.zs x.ps gs s = alB (cfCode c.e c.f c.zs (partsL c.fs) c.cs) (partsL c.fs) gs fm s := by
      have hparts : (partsL c.fs)[n]? = some x.ps := by unfold partsL; rw [List.getElem?_map, hx]; rfl
      have hpt : ptCode x.ps = 0 := (fm_zero hfm).2 n x.ps hparts
      have hm : manyCode c.zs x.ps = 0 := by unfold manyCode orC; rw [hp]; simp [hpt]
      unfold admB alB
      rw [hm, q, show fm = (n : Int) + 1 by omega, alW_in hparts]
      simp
    rw [hadm] at this
    exact this

end Go.Proofs.YtaeigimgobilaaaGreatDoor

namespace Go.Proofs.YtaeigimgobilaaaGreatDoor
open Go.RowKit
set_option linter.unusedVariables false
set_option linter.unusedSimpArgs false

def row8 (p : RuleI) : List Value := [.int .i64 p.k, .int .i64 p.ho, .int .i64 p.hn, .int .i64 p.w, .int .i64 p.oo, .int .i64 p.on, .int .i64 p.to, .int .i64 p.tn]

def flatR : List RuleI → List Value
  | [] => []
  | p :: ps => .int .i64 p.k :: .int .i64 p.ho :: .int .i64 p.hn :: .int .i64 p.w :: .int .i64 p.oo :: .int .i64 p.on :: .int .i64 p.to :: .int .i64 p.tn :: flatR ps

theorem flatR_append (a b : List RuleI) : flatR (a ++ b) = flatR a ++ flatR b := by
  induction a with
  | nil => rfl
  | cons p ps ih => simp [flatR, ih]

theorem flatR_one1 (p : RuleI) : flatR [p] = row8 p := rfl

theorem flatR_len (a : List RuleI) : (flatR a).length = a.length * 8 := by
  induction a with
  | nil => rfl
  | cons p ps ih => simp [flatR, ih]; omega

theorem flatR_at : ∀ (a : List RuleI) (k : Nat) (p : RuleI), a[k]? = some p → ∀ j u, (row8 p)[j]? = some u → (flatR a)[k * 8 + j]? = some u
  | [], _, _, h => by simp at h
  | q :: qs, 0, p, h => by
    simp at h
    subst h
    intro j u hj
    rw [Nat.zero_mul, Nat.zero_add]
    have hl : j < 8 := by
      by_cases c : j < 8
      · exact c
      · rw [List.getElem?_eq_none (by simp [row8]; omega)] at hj; cases hj
    have e : flatR (q :: qs) = row8 q ++ flatR qs := rfl
    rw [e, List.getElem?_append_left (by simpa [row8] using hl)]
    exact hj
  | q :: qs, k + 1, p, h => by
    intro j u hj
    have := flatR_at qs k p (by simpa using h) j u hj
    have e : flatR (q :: qs) = row8 q ++ flatR qs := rfl
    have hl8 : (row8 q).length = 8 := rfl
    rw [e, List.getElem?_append_right (by rw [hl8]; omega), hl8, show (k + 1) * 8 + j - 8 = k * 8 + j by omega]
    exact this

theorem flatR_cells (a : List RuleI) : ∀ u ∈ flatR a, u.oneCell' = true := by
  induction a with
  | nil => simp [flatR]
  | cons p ps ih =>
    intro u hu
    simp only [flatR, List.mem_cons] at hu
    rcases hu with rfl | rfl | rfl | rfl | rfl | rfl | rfl | rfl | hu
    all_goals first | rfl | exact ih _ hu

/-- A slice of rules that is new since B. -/
def Own8 (w : World) (B : Nat) (v : Value) (zs : List RuleI) : Prop := w.ownsRow B 68 8 v zs.length (flatR zs)

theorem Own8.shape {w : World} {B : Nat} {v : Value} {zs : List RuleI} (h : Own8 w B v zs) (hv : v ≠ .slice none 0 0) : ∃ g cap, v = .slice (some ⟨g, 0, none⟩) zs.length cap := by
  have h0 : w.ownsRow B 68 8 v zs.length (flatR zs) := h
  rcases h0.2 with ⟨h', _⟩ | ⟨g, cap, cur, h', _⟩
  · exact absurd h' hv
  · exact ⟨g, cap, h'⟩

theorem Own8.cells {w : World} {B g n cap : Nat} {zs : List RuleI} (hn : zs.length = n) (h : Own8 w B (.slice (some ⟨g, 0, none⟩) n cap) zs) : ∀ j u, (flatR zs)[j]? = some u → w.cell? ⟨g, j, none⟩ = some u := by
  subst hn
  have h0 : w.ownsRow B 68 8 (.slice (some ⟨g, 0, none⟩) zs.length cap) zs.length (flatR zs) := h
  intro j u hj
  have hl : j < zs.length * 8 := by
    by_cases c : j < zs.length * 8
    · exact c
    · rw [List.getElem?_eq_none (by rw [flatR_len]; omega)] at hj; cases hj
  exact (h0.cellAt j hl).trans hj

theorem Own8.read {w : World} {B g n cap : Nat} {zs : List RuleI} (hn : zs.length = n) (h : Own8 w B (.slice (some ⟨g, 0, none⟩) n cap) zs) : RulesIn w (some ⟨g, 0, none⟩) n zs := by
  have hc := h.cells hn
  refine ⟨hn, fun _ => ⟨g, 0, rfl, fun k x hx => ?_⟩⟩
  rw [Nat.zero_add]
  have f := flatR_at zs k x hx
  exact ⟨hc _ _ (f 0 _ rfl), hc _ _ (f 1 _ rfl), hc _ _ (f 2 _ rfl), hc _ _ (f 3 _ rfl), hc _ _ (f 4 _ rfl), hc _ _ (f 5 _ rfl), hc _ _ (f 6 _ rfl), hc _ _ (f 7 _ rfl)⟩

theorem Own8.below {w w' : World} {B : Nat} {v : Value} {zs : List RuleI} (h : Own8 w B v zs) (hb : Below w.heap.size w w') : Own8 w' B v zs :=
  World.ownsRow.kept (row := none) h ⟨hb.os, hb.tape, hb.output, hb.size, fun k hk _ => hb.block k hk⟩ (by cases v.ownBlock <;> simp)

theorem Own8.grown {w w' : World} {B g n cap q : Nat} {zs : List RuleI} (h : Own8 w B (.slice (some ⟨g, 0, none⟩) n cap) zs) (hg : w.grownBy w' (some q)) (hne : g ≠ q) : Own8 w' B (.slice (some ⟨g, 0, none⟩) n cap) zs :=
  World.ownsRow.kept (row := some q) h hg (.inr (by simp [Value.ownBlock]; exact hne))

theorem own8_lower {w : World} {B B' : Nat} {v : Value} {zs : List RuleI} (h : Own8 w B v zs) (hb : B' ≤ B) : Own8 w B' v zs := by
  have h0 : w.ownsRow B 68 8 v zs.length (flatR zs) := h
  refine ⟨h0.1, ?_⟩
  rcases h0.2 with h' | ⟨g, cap, cur, e, hg, rest⟩
  · exact .inl h'
  · exact .inr ⟨g, cap, cur, e, Nat.le_trans hb hg, rest⟩

/-- A rule's eight cells in a new block. -/
theorem cell_new8 (W : World) (x : RuleI) (T : TypeId) : ∀ j u, (row8 x)[j]? = some u → (W.alloc (.cells #[.int .i64 x.k, .int .i64 x.ho, .int .i64 x.hn, .int .i64 x.w, .int .i64 x.oo, .int .i64 x.on, .int .i64 x.to, .int .i64 x.tn] T)).cell? ((⟨W.heap.size, 0, none⟩ : Addr).add j) = some u := by
  intro j u hj
  match j, hj with
  | 0, hj => simp [row8] at hj; subst hj; simp [Addr.add]
  | 1, hj => simp [row8] at hj; subst hj; simp [Addr.add]
  | 2, hj => simp [row8] at hj; subst hj; simp [Addr.add]
  | 3, hj => simp [row8] at hj; subst hj; simp [Addr.add]
  | 4, hj => simp [row8] at hj; subst hj; simp [Addr.add]
  | 5, hj => simp [row8] at hj; subst hj; simp [Addr.add]
  | 6, hj => simp [row8] at hj; subst hj; simp [Addr.add]
  | 7, hj => simp [row8] at hj; subst hj; simp [Addr.add]
  | j + 8, hj => simp [row8] at hj

end Go.Proofs.YtaeigimgobilaaaGreatDoor

namespace Go.Proofs.YtaeigimgobilaaaGreatDoor
open Go.RowKit
set_option linter.unusedVariables false
set_option linter.unusedSimpArgs false

theorem new_kept {X X' : World} {x : RuleI} {b : Nat} (h : ∀ j u, (row8 x)[j]? = some u → X.cell? ((⟨b, 0, none⟩ : Addr).add j) = some u) (hb : Below X.heap.size X X') : ∀ j u, (row8 x)[j]? = some u → X'.cell? ((⟨b, 0, none⟩ : Addr).add j) = some u := fun j u hj =>
  (hb.cell (World.block_lt_of_cell? X _ (h j u hj))).trans (h j u hj)

theorem new_grown {X X' : World} {x : RuleI} {b : Nat} {row : Option Nat} (h : ∀ j u, (row8 x)[j]? = some u → X.cell? ((⟨b, 0, none⟩ : Addr).add j) = some u) (hg : X.grownBy X' row) (hne : some b ≠ row) : ∀ j u, (row8 x)[j]? = some u → X'.cell? ((⟨b, 0, none⟩ : Addr).add j) = some u := fun j u hj => by
  have h0 := h j u hj
  rw [Go.WideShapes.add_plain] at h0 ⊢
  exact hg.cell h0 hne

/-- What stands at a round of l2Policy. -/
structure LP (w wr : World) (B : Nat) (a : Option Addr) (len cap k0 kk : Nat) (ys : List Int) (g n c : Nat) (zs : List RuleI) : Prop where
  ow : Own8 wr w.heap.size (.slice (some ⟨g, 0, none⟩) n c) zs
  ln : zs.length = n
  ds : DS w wr B a len cap kk ys
  gw : w.heap.size ≤ g
  gl : g < wr.heap.size

theorem LP.below {w wr wr' : World} {B : Nat} {a : Option Addr} {len cap k0 kk : Nat} {ys : List Int} {g n c : Nat} {zs : List RuleI} (h : LP w wr B a len cap k0 kk ys g n c zs) (hb : Below wr.heap.size wr wr') : LP w wr' B a len cap k0 kk ys g n c zs :=
  ⟨h.ow.below hb, h.ln, ⟨h.ds.src.below hb, grown_trans h.ds.gr (grown_none ⟨hb.os, hb.tape, hb.output, hb.size, fun k hk _ => hb.block k hk⟩ _)⟩, h.gw, Nat.lt_of_lt_of_le h.gl hb.size⟩

/-- One more rule behind an append. -/
theorem LP.next {w wr w' : World} {B : Nat} {a : Option Addr} {len cap k0 kk : Nat} {ys : List Int} {g n c : Nat} {zs : List RuleI} {x : RuleI} {o : Obj} {v' : Value} (h : LP w wr B a len cap k0 kk ys g n c zs) (hcode : ∀ b off, a = some ⟨b, off, none⟩ → len = 0 ∨ b < w.heap.size) (hB : B < w.heap.size)
    (hown : w'.ownsRow w.heap.size 68 8 v' (n + 1) (flatR zs ++ row8 x)) (hg : (wr.alloc o).grownBy w' (Value.ownBlock (.slice (some ⟨g, 0, none⟩) n c))) (hn : v' ≠ .slice none 0 0) :
    ∃ g' c', v' = .slice (some ⟨g', 0, none⟩) (n + 1) c' ∧ LP w w' B a len cap k0 kk ys g' (n + 1) c' (zs ++ [x]) := by
  have hl : (zs ++ [x]).length = n + 1 := by rw [List.length_append, h.ln]; rfl
  have how : Own8 w' w.heap.size v' (zs ++ [x]) := by unfold Own8; rw [hl, flatR_append]; exact hown
  obtain ⟨g', c', e⟩ := how.shape hn
  rw [hl] at e
  subst e
  have hlt := hown.lt g' (by simp [Value.ownBlock])
  have hg' : (wr.alloc o).grownBy w' (some g) := hg
  have ds1 := h.ds.alloc o
  refine ⟨g', c', rfl, how, hl, ⟨ds1.src.kept hg' (by have := h.gw; simp; omega) (fun b off e => (hcode b off e).imp id (fun q => by have := h.gw; simp; omega)), ⟨hg'.os.trans ds1.gr.os, hg'.tape.trans ds1.gr.tape, hg'.output.trans ds1.gr.output, Nat.le_trans ds1.gr.size hg'.size, fun i hi hne => ?_⟩⟩, hlt.1, hlt.2⟩
  rw [hg'.block i (Nat.lt_of_lt_of_le hi ds1.gr.size) (by have := h.gw; simp; omega)]
  exact ds1.gr.block i hi hne

set_option maxRecDepth 100000 in
set_option maxHeartbeats 2000000 in
theorem policy_c (w : World) (B : Nat) (a : Option Addr) (len cap k0 : Nat) (ys : List Int) (h : SrcAt w B a len cap k0 ys) (hl : len ≤ 1048576) (hk0 : k0 ≤ 500) :
    Calls Tryz.prog 71 #[.pointer (some ⟨B, 0, none⟩)] w fun e w' => ∃ (g n c kk : Nat) (zs : List RuleI), e = .returned (.slice (some ⟨g, 0, none⟩) n c) ∧ n ≤ 11 ∧ kk ≤ k0 + 78 ∧ LP w w' B a len cap k0 kk ys g n c zs := by
  have hB := h.lt
  have HCode : Hid (∀ b off, a = some ⟨b, off, none⟩ → len = 0 ∨ b < w.heap.size) := h.code_lt
  have D0 : Hid (DS w (w.alloc (.cells #[] 68)) B a len cap k0 ys) := (DS.start h).alloc _
  have O0 : Hid (Own8 (w.alloc (.cells #[] 68)) w.heap.size (.slice (some ⟨w.heap.size, 0, none⟩) 0 0) []) := World.ownsRow_lit (base := w.heap.size) (e := 68) (size := 8) w #[] 0 (Nat.le_refl _) (Nat.zero_le _) rfl
  obtain ⟨i0, hi, hz0, hz1, hz2⟩ := info_parts Tryz.info68
  have hun : Tryz.prog.underlying 24 = some (.slice 68) := by kernel_rfl
  clear h
  go_enter Tryz.func71, Tryz.ntmps71
  go_wp2_with fail
  refine (next_c _ B a len cap k0 ys 12 D0.out.src hl (by omega) (by omega) (by omega)).mono ?_
  rintro e w1 ⟨v1, x0, x1, rfl, hS1, hG1⟩
  have D1 : Hid (DS w w1 B a len cap (k0 + 1) ys) := D0.out.draw hS1 hG1
  have hz1' : w.heap.size < w1.heap.size := by have := hG1.size; simp at this; omega
  have O1 : Hid (Own8 w1 w.heap.size (.slice (some ⟨w.heap.size, 0, none⟩) 0 0) []) := O0.out.grown hG1 (by omega)
  obtain ⟨r1, rfl⟩ := Int.eq_ofNat_of_zero_le x0
  clear hS1 hG1 D0 O0
  go_wp2_with fail
  go_loopw [3, 4] (fun v i wr => ∃ (g n c kk r : Nat) (zs : List RuleI), v = .slice (some ⟨g, 0, none⟩) n c ∧ i = .int .i64 (r : Int) ∧ n + r ≤ 11 ∧ kk + 7 * r ≤ k0 + 78 ∧ Hid (LP w wr B a len cap k0 kk ys g n c zs)) (fun _ i _ => (intOf i).toNat)
  case atStart => exact ⟨_, 0, 0, k0 + 1, r1, [], rfl, rfl, by omega, by omega, O1.out, rfl, D1.out, Nat.le_refl _, hz1'⟩
  case round =>
    obtain ⟨g, n, c, kk, r, zs, rfl, rfl, hnr, hkr, HL⟩ := hrel
    by_cases hr : 0 < r
    · have hr' : (0 : Int) < (r : Int) := by omega
      go_wp2_with fail
      refine (drawRule_c _ B a len cap kk ys HL.out.ds.src hl (by omega)).mono ?_
      rintro e w2 ⟨x, k2, _, hk2, rfl, hS2, hG2⟩
      have HL2 : Hid (LP w w2 B a len cap k0 k2 ys g n c zs) := ⟨HL.out.ow.grown hG2 (by have := HL.out.gw; omega), HL.out.ln, HL.out.ds.draw hS2 hG2, HL.out.gw, Nat.lt_of_lt_of_le HL.out.gl hG2.size⟩
      clear hS2 hG2 HL
      obtain ⟨V, hV⟩ : ∃ V, V = w2.alloc (.cells #[.int .i64 x.k, .int .i64 x.ho, .int .i64 x.hn, .int .i64 x.w, .int .i64 x.oo, .int .i64 x.on, .int .i64 x.to, .int .i64 x.tn] 68) := ⟨_, rfl⟩
      have hBV : Below w2.heap.size w2 V := by rw [hV]; exact (Below.refl _ _).alloc (Nat.le_refl _) _
      have HX : Hid (BlkAt V w2.heap.size x.k x.ho x.hn x.w x.oo x.on x.to x.tn) := by rw [hV]; exact BlkAt.new w2 _ _ _ _ _ _ _ _ _
      have HLV : Hid (LP w V B a len cap k0 k2 ys g n c zs) := ⟨HL2.out.ow.below hBV, HL2.out.ln, ⟨HL2.out.ds.src.below hBV, grown_trans HL2.out.ds.gr (grown_none ⟨hBV.os, hBV.tape, hBV.output, hBV.size, fun k hk _ => hBV.block k hk⟩ _)⟩, HL2.out.gw, Nat.lt_of_lt_of_le HL2.out.gl hBV.size⟩
      obtain ⟨q, hq⟩ : ∃ q, q = w2.heap.size := ⟨_, rfl⟩
      rw [← hq] at HX
      go_upto_region 6 with fail
      rw [← hV, ← hq]
      clear hV hq hBV HL2
      obtain ⟨Z, hZ⟩ : ∃ Z, V.heap.size = Z := ⟨_, rfl⟩
      have HZ : Hid (V.heap.size = Z) := hZ
      clear hZ
      go_cut [22] from 15 to 22 (fun s22 wx => ∃ t, s22 = .bool t ∧ Below Z V wx)
      case first =>
        obtain ⟨y0, y1, y2, y3, y4, y5, y6, y7, _⟩ := HX.out
        have hqV : q < Z := by rw [← HZ.out]; exact World.block_lt_of_cell? V ⟨q, 0, none⟩ y0
        refine wp_region_held_drew (S := (fun w' => (∀ b o, b < Z → w'.cell? ⟨b, o, none⟩ = V.cell? ⟨b, o, none⟩) ∧ Below Z V w')) (by kernel_rfl) (kpB ⟨rfl, rfl, rfl, Nat.le_refl _, fun _ _ => rfl⟩) (fun hHeld => ?_)
        (try dsimp only at hHeld)
        refine wpAnyH_take (i := 1) (v := ?_) rfl (by kernel_rfl) (by kernel_rfl) (by kernel_rfl) (fun _ _ _ h => h) (Or.inl ⟨by kernel_rfl, ?_⟩) (by assumption) ?_
        rotate_left 1
        · intro w hSw; (try dsimp only at hSw); go_simp; try (with_reducible rfl)
        try simp only [Act.put, List.getElem_toArray, List.getElem_cons_succ, List.getElem_cons_zero, List.setIfInBounds_toArray, List.set_cons_zero, List.set_cons_succ]
        refine wpAnyH_take (i := 3) (v := ?_) rfl (by kernel_rfl) (by kernel_rfl) (by kernel_rfl) (fun _ _ _ h => h) (Or.inl ⟨by kernel_rfl, ?_⟩) (by assumption) ?_
        rotate_left 1
        · intro w hSw; (try dsimp only at hSw); go_simp; try (with_reducible rfl)
        try simp only [Act.put, List.getElem_toArray, List.getElem_cons_succ, List.getElem_cons_zero, List.setIfInBounds_toArray, List.set_cons_zero, List.set_cons_succ]
        refine wpAnyH_ready (rs := [0, 4]) (by kernel_rfl) (by simp) ?_
        refine AllReadyH.cons rfl (fun K hK => ?_) (AllReadyH.cons rfl (fun K hK => ?_) AllReadyH.nil)
        · skip
          have hsz : Z ≤ V.heap.size := by have h1 : V.heap.size ≤ V.heap.size := hHeld.2.size; have := HZ.out; omega
          go_simp
          have hS := kpB (hHeld.2.alloc hsz (.cells #[] 68))
          have E0 : Hid ((V.alloc (.cells #[] 68)).ownsRow Z 68 8 (.slice (some ⟨V.heap.size, 0, none⟩) 0 0) 0 []) := World.ownsRow_lit (base := Z) (e := 68) (size := 8) V #[] 0 hsz (Nat.zero_le _) rfl
          refine hK.out _ _ hS (fun hHeld => ?_)
          clear hK K hS hsz
          try simp only [Act.put, List.getElem_toArray, List.getElem_cons_succ, List.getElem_cons_zero, List.setIfInBounds_toArray, List.set_cons_zero, List.set_cons_succ]
          obtain ⟨b0, hb0⟩ : ∃ b0, b0 = V.heap.size := ⟨_, rfl⟩
          rw [← hb0] at E0 ⊢
          have k0' : Z ≤ b0 := (E0.out.lt b0 (by simp [Value.ownBlock])).1
          generalize V.alloc (.cells #[] 68) = X1 at hHeld E0 ⊢
          clear hb0
          refine wpAnyH_ready (rs := [2, 4]) (by kernel_rfl) (by simp) ?_
          refine AllReadyH.cons rfl (fun K hK => ?_) (AllReadyH.cons rfl (fun K hK => ?_) AllReadyH.nil)
          · skip
            have hsz : Z ≤ X1.heap.size := by have h1 : V.heap.size ≤ X1.heap.size := hHeld.2.size; have := HZ.out; omega
            refine step_append_own2 rfl (.tmp 15) (.tmp 16) 24 rfl Z 68 i0 (.agg #[.int .i64 0, .int .i64 0, .int .i64 0, .int .i64 0, .int .i64 0, .int .i64 0, .int .i64 0, .int .i64 0]) 8 64 hun hi hz0 hz1 hz2 rfl (by decide) (.slice (some ⟨b0, 0, none⟩) 0 0) 0 [] (by rfl) E0.out ⟨g, 0, none⟩ n c (flatR zs) (by rfl) (by rw [flatR_len, HLV.out.ln]) (fun j u hj => ?nw) (flatR_cells _) (by unfold maxLen; omega) (by omega) hsz ?_
            case nw => rw [Go.WideShapes.add_plain, Nat.zero_add, hHeld.1 g j (by have := HLV.out.gl; have := HZ.out; omega)]; exact HLV.out.ow.cells HLV.out.ln j u hj
            intro v2 X2 hown hgrow hnil
            have hS := kpB (hHeld.2.grown hgrow hsz (fun q e => (E0.out.lt q e).1))
            have H2 : Hid (X2.ownsRow Z 68 8 v2 n (flatR zs)) := by have h0 := hown; simp only [Nat.zero_add, List.nil_append] at h0; exact h0
            have M2 : Hid (v2 ≠ .slice none 0 0) := fun e => by have := (hnil.1 e).1; simp at this
            refine hK.out _ _ hS (fun hHeld => ?_)
            clear hK K hS hsz hown hgrow hnil E0
            try simp only [Act.put, List.getElem_toArray, List.getElem_cons_succ, List.getElem_cons_zero, List.setIfInBounds_toArray, List.set_cons_zero, List.set_cons_succ]
            refine wpAnyH_ready (rs := [4]) (by kernel_rfl) (by simp) ?_
            refine AllReadyH.cons rfl (fun K hK => ?_) AllReadyH.nil
            have hsz : Z ≤ X2.heap.size := by have h1 : V.heap.size ≤ X2.heap.size := hHeld.2.size; have := HZ.out; omega
            go_simp
            have hS := kpB (hHeld.2.alloc hsz (.cells #[.int .i64 x.k, .int .i64 x.ho, .int .i64 x.hn, .int .i64 x.w, .int .i64 x.oo, .int .i64 x.on, .int .i64 x.to, .int .i64 x.tn] 68))
            have N4 : Hid (∀ j u, (row8 x)[j]? = some u → (X2.alloc (.cells #[.int .i64 x.k, .int .i64 x.ho, .int .i64 x.hn, .int .i64 x.w, .int .i64 x.oo, .int .i64 x.on, .int .i64 x.to, .int .i64 x.tn] 68)).cell? ((⟨X2.heap.size, 0, none⟩ : Addr).add j) = some u) := cell_new8 X2 x 68
            have l4 : X2.heap.size < (X2.alloc (.cells #[.int .i64 x.k, .int .i64 x.ho, .int .i64 x.hn, .int .i64 x.w, .int .i64 x.oo, .int .i64 x.on, .int .i64 x.to, .int .i64 x.tn] 68)).heap.size := by simp
            have H2' := H2.out.alloc (.cells #[.int .i64 x.k, .int .i64 x.ho, .int .i64 x.hn, .int .i64 x.w, .int .i64 x.oo, .int .i64 x.on, .int .i64 x.to, .int .i64 x.tn] 68)
            clear H2
            have H2 : Hid ((X2.alloc (.cells #[.int .i64 x.k, .int .i64 x.ho, .int .i64 x.hn, .int .i64 x.w, .int .i64 x.oo, .int .i64 x.on, .int .i64 x.to, .int .i64 x.tn] 68)).ownsRow Z 68 8 v2 n (flatR zs)) := H2'
            clear H2'
            refine hK.out _ _ hS (fun hHeld => ?_)
            clear hK K hS hsz
            try simp only [Act.put, List.getElem_toArray, List.getElem_cons_succ, List.getElem_cons_zero, List.setIfInBounds_toArray, List.set_cons_zero, List.set_cons_succ]
            obtain ⟨b4, hb4⟩ : ∃ b4, b4 = X2.heap.size := ⟨_, rfl⟩
            rw [← hb4] at N4 l4  ⊢
            generalize X2.alloc (.cells #[.int .i64 x.k, .int .i64 x.ho, .int .i64 x.hn, .int .i64 x.w, .int .i64 x.oo, .int .i64 x.on, .int .i64 x.to, .int .i64 x.tn] 68) = X3 at hHeld N4 l4 H2 ⊢
            clear hb4
            refine wpAnyH_ready (rs := [5]) (by kernel_rfl) (by simp) ?_
            refine AllReadyH.cons rfl (fun K hK => ?_) AllReadyH.nil
            have hsz : Z ≤ X3.heap.size := by have h1 : V.heap.size ≤ X3.heap.size := hHeld.2.size; have := HZ.out; omega
            refine step_append_own2 rfl (.tmp 17) (.tmp 19) 24 rfl Z 68 i0 (.agg #[.int .i64 0, .int .i64 0, .int .i64 0, .int .i64 0, .int .i64 0, .int .i64 0, .int .i64 0, .int .i64 0]) 8 64 hun hi hz0 hz1 hz2 rfl (by decide) v2 n (flatR zs) (by rfl) H2.out ⟨b4, 0, none⟩ 1 1 (row8 x) (by rfl) (by rfl) N4.out (flatR_cells [x]) (by unfold maxLen; omega) (by omega) hsz ?_
            intro v5 X4 hown hgrow hnil
            have hS := kpB (hHeld.2.grown hgrow hsz (fun q e => (H2.out.lt q e).1))
            have H5 : Hid (Own8 X4 Z v5 (zs ++ [x])) := by have h0 := hown; show World.ownsRow _ _ _ _ _ _ _; rw [List.length_append, HLV.out.ln, flatR_append]; exact h0
            have M5 : v5 ≠ .slice none 0 0 := fun e => M2.out (hnil.1 e).1
            obtain ⟨g5, c5, hv5⟩ := H5.out.shape M5
            obtain ⟨m5, hm5⟩ : ∃ m, (zs ++ [x]).length = m := ⟨_, rfl⟩
            rw [hm5] at hv5
            subst hv5
            have R5 : Hid (RulesIn X4 (some ⟨g5, 0, none⟩) m5 (zs ++ [x])) := H5.out.read hm5
            have HF : Hid (∀ w2 : World, RulesIn w2 (some ⟨g5, 0, none⟩) m5 (zs ++ [x]) → Calls Tryz.prog 42 #[.slice (some ⟨g5, 0, none⟩) m5 c5] w2 fun e w' => e = .returned (.int .i64 (polCode (zs ++ [x]))) ∧ Below w2.heap.size w2 w') := fun w2 q => l2Fault_c _ m5 c5 (zs ++ [x]) w2 (by have := HLV.out.ln; simp at hm5; omega) q
            clear hm5
            refine hK.out _ _ hS (fun hHeld => ?_)
            clear hK K hS hsz hown hgrow hnil H2 M2 M5 H5
            try simp only [Act.put, List.getElem_toArray, List.getElem_cons_succ, List.getElem_cons_zero, List.setIfInBounds_toArray, List.set_cons_zero, List.set_cons_succ]
            refine wpAnyH_ready (rs := [6]) (by kernel_rfl) (by simp) ?_
            refine AllReadyH.cons rfl (fun K hK => ?_) AllReadyH.nil
            have hsz : Z ≤ X4.heap.size := by have h1 : V.heap.size ≤ X4.heap.size := hHeld.2.size; have := HZ.out; omega
            go_simp
            refine (HF.out _ ?rd).mono ?_
            case rd => exact R5.out
            rintro e X5 ⟨rfl, hb6⟩
            have hS := kpB (hHeld.2.trans (hb6.mono hsz))
            refine hK.out _ _ hS (fun hHeld => ?_)
            clear hK K hS hsz hb6
            try simp only [Act.put, List.getElem_toArray, List.getElem_cons_succ, List.getElem_cons_zero, List.setIfInBounds_toArray, List.set_cons_zero, List.set_cons_succ]
            refine wpAnyH_take (i := 7) (v := ?_) rfl (by kernel_rfl) (by kernel_rfl) (by kernel_rfl) (fun _ _ _ h => h) (Or.inl ⟨by kernel_rfl, ?_⟩) (by assumption) ?_
            rotate_left 1
            · intro w hSw; (try dsimp only at hSw); go_simp; try (with_reducible rfl)
            try simp only [Act.put, List.getElem_toArray, List.getElem_cons_succ, List.getElem_cons_zero, List.setIfInBounds_toArray, List.set_cons_zero, List.set_cons_succ]
            refine wpAnyH_done (by kernel_rfl) ?_ _
            go_wp2_with fail
            go_meet
            case rel => exact ⟨_, rfl, hHeld.2⟩
          · skip
            have hsz : Z ≤ X1.heap.size := by have h1 : V.heap.size ≤ X1.heap.size := hHeld.2.size; have := HZ.out; omega
            go_simp
            have hS := kpB (hHeld.2.alloc hsz (.cells #[.int .i64 x.k, .int .i64 x.ho, .int .i64 x.hn, .int .i64 x.w, .int .i64 x.oo, .int .i64 x.on, .int .i64 x.to, .int .i64 x.tn] 68))
            have N4 : Hid (∀ j u, (row8 x)[j]? = some u → (X1.alloc (.cells #[.int .i64 x.k, .int .i64 x.ho, .int .i64 x.hn, .int .i64 x.w, .int .i64 x.oo, .int .i64 x.on, .int .i64 x.to, .int .i64 x.tn] 68)).cell? ((⟨X1.heap.size, 0, none⟩ : Addr).add j) = some u) := cell_new8 X1 x 68
            have l4 : X1.heap.size < (X1.alloc (.cells #[.int .i64 x.k, .int .i64 x.ho, .int .i64 x.hn, .int .i64 x.w, .int .i64 x.oo, .int .i64 x.on, .int .i64 x.to, .int .i64 x.tn] 68)).heap.size := by simp
            have n4 : X1.heap.size ≠ b0 := by have := (E0.out.lt b0 (by simp [Value.ownBlock])).2; omega
            have E0' := E0.out.alloc (.cells #[.int .i64 x.k, .int .i64 x.ho, .int .i64 x.hn, .int .i64 x.w, .int .i64 x.oo, .int .i64 x.on, .int .i64 x.to, .int .i64 x.tn] 68)
            clear E0
            have E0 : Hid ((X1.alloc (.cells #[.int .i64 x.k, .int .i64 x.ho, .int .i64 x.hn, .int .i64 x.w, .int .i64 x.oo, .int .i64 x.on, .int .i64 x.to, .int .i64 x.tn] 68)).ownsRow Z 68 8 (.slice (some ⟨b0, 0, none⟩) 0 0) 0 []) := E0'
            clear E0'
            refine hK.out _ _ hS (fun hHeld => ?_)
            clear hK K hS hsz
            try simp only [Act.put, List.getElem_toArray, List.getElem_cons_succ, List.getElem_cons_zero, List.setIfInBounds_toArray, List.set_cons_zero, List.set_cons_succ]
            obtain ⟨b4, hb4⟩ : ∃ b4, b4 = X1.heap.size := ⟨_, rfl⟩
            rw [← hb4] at N4 l4 n4 ⊢
            generalize X1.alloc (.cells #[.int .i64 x.k, .int .i64 x.ho, .int .i64 x.hn, .int .i64 x.w, .int .i64 x.oo, .int .i64 x.on, .int .i64 x.to, .int .i64 x.tn] 68) = X6 at hHeld N4 l4 E0 ⊢
            clear hb4
            refine wpAnyH_ready (rs := [2]) (by kernel_rfl) (by simp) ?_
            refine AllReadyH.cons rfl (fun K hK => ?_) AllReadyH.nil
            have hsz : Z ≤ X6.heap.size := by have h1 : V.heap.size ≤ X6.heap.size := hHeld.2.size; have := HZ.out; omega
            refine step_append_own2 rfl (.tmp 15) (.tmp 16) 24 rfl Z 68 i0 (.agg #[.int .i64 0, .int .i64 0, .int .i64 0, .int .i64 0, .int .i64 0, .int .i64 0, .int .i64 0, .int .i64 0]) 8 64 hun hi hz0 hz1 hz2 rfl (by decide) (.slice (some ⟨b0, 0, none⟩) 0 0) 0 [] (by rfl) E0.out ⟨g, 0, none⟩ n c (flatR zs) (by rfl) (by rw [flatR_len, HLV.out.ln]) (fun j u hj => ?nw) (flatR_cells _) (by unfold maxLen; omega) (by omega) hsz ?_
            case nw => rw [Go.WideShapes.add_plain, Nat.zero_add, hHeld.1 g j (by have := HLV.out.gl; have := HZ.out; omega)]; exact HLV.out.ow.cells HLV.out.ln j u hj
            intro v2 X7 hown hgrow hnil
            have hS := kpB (hHeld.2.grown hgrow hsz (fun q e => (E0.out.lt q e).1))
            have H2 : Hid (X7.ownsRow Z 68 8 v2 n (flatR zs)) := by have h0 := hown; simp only [Nat.zero_add, List.nil_append] at h0; exact h0
            have M2 : Hid (v2 ≠ .slice none 0 0) := fun e => by have := (hnil.1 e).1; simp at this
            have hg0 : X6.grownBy X7 (some b0) := ⟨hgrow.os, hgrow.tape, hgrow.output, hgrow.size, hgrow.block⟩
            have N4' := new_grown N4.out hg0 (by simp; exact n4)
            have l4' := Nat.lt_of_lt_of_le l4 hgrow.size
            clear N4 l4
            have N4 : Hid (∀ j u, (row8 x)[j]? = some u → X7.cell? ((⟨b4, 0, none⟩ : Addr).add j) = some u) := N4'
            have l4 := l4'
            clear N4' l4' hg0
            refine hK.out _ _ hS (fun hHeld => ?_)
            clear hK K hS hsz hown hgrow hnil E0
            try simp only [Act.put, List.getElem_toArray, List.getElem_cons_succ, List.getElem_cons_zero, List.setIfInBounds_toArray, List.set_cons_zero, List.set_cons_succ]
            refine wpAnyH_ready (rs := [5]) (by kernel_rfl) (by simp) ?_
            refine AllReadyH.cons rfl (fun K hK => ?_) AllReadyH.nil
            have hsz : Z ≤ X7.heap.size := by have h1 : V.heap.size ≤ X7.heap.size := hHeld.2.size; have := HZ.out; omega
            refine step_append_own2 rfl (.tmp 17) (.tmp 19) 24 rfl Z 68 i0 (.agg #[.int .i64 0, .int .i64 0, .int .i64 0, .int .i64 0, .int .i64 0, .int .i64 0, .int .i64 0, .int .i64 0]) 8 64 hun hi hz0 hz1 hz2 rfl (by decide) v2 n (flatR zs) (by rfl) H2.out ⟨b4, 0, none⟩ 1 1 (row8 x) (by rfl) (by rfl) N4.out (flatR_cells [x]) (by unfold maxLen; omega) (by omega) hsz ?_
            intro v5 X8 hown hgrow hnil
            have hS := kpB (hHeld.2.grown hgrow hsz (fun q e => (H2.out.lt q e).1))
            have H5 : Hid (Own8 X8 Z v5 (zs ++ [x])) := by have h0 := hown; show World.ownsRow _ _ _ _ _ _ _; rw [List.length_append, HLV.out.ln, flatR_append]; exact h0
            have M5 : v5 ≠ .slice none 0 0 := fun e => M2.out (hnil.1 e).1
            obtain ⟨g5, c5, hv5⟩ := H5.out.shape M5
            obtain ⟨m5, hm5⟩ : ∃ m, (zs ++ [x]).length = m := ⟨_, rfl⟩
            rw [hm5] at hv5
            subst hv5
            have R5 : Hid (RulesIn X8 (some ⟨g5, 0, none⟩) m5 (zs ++ [x])) := H5.out.read hm5
            have HF : Hid (∀ w2 : World, RulesIn w2 (some ⟨g5, 0, none⟩) m5 (zs ++ [x]) → Calls Tryz.prog 42 #[.slice (some ⟨g5, 0, none⟩) m5 c5] w2 fun e w' => e = .returned (.int .i64 (polCode (zs ++ [x]))) ∧ Below w2.heap.size w2 w') := fun w2 q => l2Fault_c _ m5 c5 (zs ++ [x]) w2 (by have := HLV.out.ln; simp at hm5; omega) q
            clear hm5
            refine hK.out _ _ hS (fun hHeld => ?_)
            clear hK K hS hsz hown hgrow hnil H2 M2 M5 H5
            try simp only [Act.put, List.getElem_toArray, List.getElem_cons_succ, List.getElem_cons_zero, List.setIfInBounds_toArray, List.set_cons_zero, List.set_cons_succ]
            refine wpAnyH_ready (rs := [6]) (by kernel_rfl) (by simp) ?_
            refine AllReadyH.cons rfl (fun K hK => ?_) AllReadyH.nil
            have hsz : Z ≤ X8.heap.size := by have h1 : V.heap.size ≤ X8.heap.size := hHeld.2.size; have := HZ.out; omega
            go_simp
            refine (HF.out _ ?rd).mono ?_
            case rd => exact R5.out
            rintro e X9 ⟨rfl, hb6⟩
            have hS := kpB (hHeld.2.trans (hb6.mono hsz))
            refine hK.out _ _ hS (fun hHeld => ?_)
            clear hK K hS hsz hb6
            try simp only [Act.put, List.getElem_toArray, List.getElem_cons_succ, List.getElem_cons_zero, List.setIfInBounds_toArray, List.set_cons_zero, List.set_cons_succ]
            refine wpAnyH_take (i := 7) (v := ?_) rfl (by kernel_rfl) (by kernel_rfl) (by kernel_rfl) (fun _ _ _ h => h) (Or.inl ⟨by kernel_rfl, ?_⟩) (by assumption) ?_
            rotate_left 1
            · intro w hSw; (try dsimp only at hSw); go_simp; try (with_reducible rfl)
            try simp only [Act.put, List.getElem_toArray, List.getElem_cons_succ, List.getElem_cons_zero, List.setIfInBounds_toArray, List.set_cons_zero, List.set_cons_succ]
            refine wpAnyH_done (by kernel_rfl) ?_ _
            go_wp2_with fail
            go_meet
            case rel => exact ⟨_, rfl, hHeld.2⟩
        · skip
          have hsz : Z ≤ V.heap.size := by have h1 : V.heap.size ≤ V.heap.size := hHeld.2.size; have := HZ.out; omega
          go_simp
          have hS := kpB (hHeld.2.alloc hsz (.cells #[.int .i64 x.k, .int .i64 x.ho, .int .i64 x.hn, .int .i64 x.w, .int .i64 x.oo, .int .i64 x.on, .int .i64 x.to, .int .i64 x.tn] 68))
          have N4 : Hid (∀ j u, (row8 x)[j]? = some u → (V.alloc (.cells #[.int .i64 x.k, .int .i64 x.ho, .int .i64 x.hn, .int .i64 x.w, .int .i64 x.oo, .int .i64 x.on, .int .i64 x.to, .int .i64 x.tn] 68)).cell? ((⟨V.heap.size, 0, none⟩ : Addr).add j) = some u) := cell_new8 V x 68
          have l4 : V.heap.size < (V.alloc (.cells #[.int .i64 x.k, .int .i64 x.ho, .int .i64 x.hn, .int .i64 x.w, .int .i64 x.oo, .int .i64 x.on, .int .i64 x.to, .int .i64 x.tn] 68)).heap.size := by simp
          refine hK.out _ _ hS (fun hHeld => ?_)
          clear hK K hS hsz
          try simp only [Act.put, List.getElem_toArray, List.getElem_cons_succ, List.getElem_cons_zero, List.setIfInBounds_toArray, List.set_cons_zero, List.set_cons_succ]
          obtain ⟨b4, hb4⟩ : ∃ b4, b4 = V.heap.size := ⟨_, rfl⟩
          rw [← hb4] at N4 l4  ⊢
          generalize V.alloc (.cells #[.int .i64 x.k, .int .i64 x.ho, .int .i64 x.hn, .int .i64 x.w, .int .i64 x.oo, .int .i64 x.on, .int .i64 x.to, .int .i64 x.tn] 68) = X10 at hHeld N4 l4  ⊢
          clear hb4
          refine wpAnyH_ready (rs := [0]) (by kernel_rfl) (by simp) ?_
          refine AllReadyH.cons rfl (fun K hK => ?_) AllReadyH.nil
          have hsz : Z ≤ X10.heap.size := by have h1 : V.heap.size ≤ X10.heap.size := hHeld.2.size; have := HZ.out; omega
          go_simp
          have hS := kpB (hHeld.2.alloc hsz (.cells #[] 68))
          have E0 : Hid ((X10.alloc (.cells #[] 68)).ownsRow Z 68 8 (.slice (some ⟨X10.heap.size, 0, none⟩) 0 0) 0 []) := World.ownsRow_lit (base := Z) (e := 68) (size := 8) X10 #[] 0 hsz (Nat.zero_le _) rfl
          have N4' : Hid (∀ j u, (row8 x)[j]? = some u → (X10.alloc (.cells #[] 68)).cell? ((⟨b4, 0, none⟩ : Addr).add j) = some u) := fun j u hj => new_kept N4.out (Below.alloc (Below.refl _ _) (Nat.le_refl _) _) j u hj
          clear N4
          have N4 : Hid (∀ j u, (row8 x)[j]? = some u → (X10.alloc (.cells #[] 68)).cell? ((⟨b4, 0, none⟩ : Addr).add j) = some u) := N4'.out
          clear N4'
          have g4 : b4 < (X10.alloc (.cells #[] 68)).heap.size ∧ b4 ≠ X10.heap.size := ⟨by simp; omega, by omega⟩
          clear l4
          have l4 := g4.1
          have n4 := g4.2
          clear g4
          refine hK.out _ _ hS (fun hHeld => ?_)
          clear hK K hS hsz
          try simp only [Act.put, List.getElem_toArray, List.getElem_cons_succ, List.getElem_cons_zero, List.setIfInBounds_toArray, List.set_cons_zero, List.set_cons_succ]
          obtain ⟨b0, hb0⟩ : ∃ b0, b0 = X10.heap.size := ⟨_, rfl⟩
          rw [← hb0] at E0 ⊢
          rw [← hb0] at n4
          have k0' : Z ≤ b0 := (E0.out.lt b0 (by simp [Value.ownBlock])).1
          generalize X10.alloc (.cells #[] 68) = X11 at hHeld E0 N4 l4 ⊢
          clear hb0
          refine wpAnyH_ready (rs := [2]) (by kernel_rfl) (by simp) ?_
          refine AllReadyH.cons rfl (fun K hK => ?_) AllReadyH.nil
          have hsz : Z ≤ X11.heap.size := by have h1 : V.heap.size ≤ X11.heap.size := hHeld.2.size; have := HZ.out; omega
          refine step_append_own2 rfl (.tmp 15) (.tmp 16) 24 rfl Z 68 i0 (.agg #[.int .i64 0, .int .i64 0, .int .i64 0, .int .i64 0, .int .i64 0, .int .i64 0, .int .i64 0, .int .i64 0]) 8 64 hun hi hz0 hz1 hz2 rfl (by decide) (.slice (some ⟨b0, 0, none⟩) 0 0) 0 [] (by rfl) E0.out ⟨g, 0, none⟩ n c (flatR zs) (by rfl) (by rw [flatR_len, HLV.out.ln]) (fun j u hj => ?nw) (flatR_cells _) (by unfold maxLen; omega) (by omega) hsz ?_
          case nw => rw [Go.WideShapes.add_plain, Nat.zero_add, hHeld.1 g j (by have := HLV.out.gl; have := HZ.out; omega)]; exact HLV.out.ow.cells HLV.out.ln j u hj
          intro v2 X12 hown hgrow hnil
          have hS := kpB (hHeld.2.grown hgrow hsz (fun q e => (E0.out.lt q e).1))
          have H2 : Hid (X12.ownsRow Z 68 8 v2 n (flatR zs)) := by have h0 := hown; simp only [Nat.zero_add, List.nil_append] at h0; exact h0
          have M2 : Hid (v2 ≠ .slice none 0 0) := fun e => by have := (hnil.1 e).1; simp at this
          have hg0 : X11.grownBy X12 (some b0) := ⟨hgrow.os, hgrow.tape, hgrow.output, hgrow.size, hgrow.block⟩
          have N4' := new_grown N4.out hg0 (by simp; exact n4)
          have l4' := Nat.lt_of_lt_of_le l4 hgrow.size
          clear N4 l4
          have N4 : Hid (∀ j u, (row8 x)[j]? = some u → X12.cell? ((⟨b4, 0, none⟩ : Addr).add j) = some u) := N4'
          have l4 := l4'
          clear N4' l4' hg0
          refine hK.out _ _ hS (fun hHeld => ?_)
          clear hK K hS hsz hown hgrow hnil E0
          try simp only [Act.put, List.getElem_toArray, List.getElem_cons_succ, List.getElem_cons_zero, List.setIfInBounds_toArray, List.set_cons_zero, List.set_cons_succ]
          refine wpAnyH_ready (rs := [5]) (by kernel_rfl) (by simp) ?_
          refine AllReadyH.cons rfl (fun K hK => ?_) AllReadyH.nil
          have hsz : Z ≤ X12.heap.size := by have h1 : V.heap.size ≤ X12.heap.size := hHeld.2.size; have := HZ.out; omega
          refine step_append_own2 rfl (.tmp 17) (.tmp 19) 24 rfl Z 68 i0 (.agg #[.int .i64 0, .int .i64 0, .int .i64 0, .int .i64 0, .int .i64 0, .int .i64 0, .int .i64 0, .int .i64 0]) 8 64 hun hi hz0 hz1 hz2 rfl (by decide) v2 n (flatR zs) (by rfl) H2.out ⟨b4, 0, none⟩ 1 1 (row8 x) (by rfl) (by rfl) N4.out (flatR_cells [x]) (by unfold maxLen; omega) (by omega) hsz ?_
          intro v5 X13 hown hgrow hnil
          have hS := kpB (hHeld.2.grown hgrow hsz (fun q e => (H2.out.lt q e).1))
          have H5 : Hid (Own8 X13 Z v5 (zs ++ [x])) := by have h0 := hown; show World.ownsRow _ _ _ _ _ _ _; rw [List.length_append, HLV.out.ln, flatR_append]; exact h0
          have M5 : v5 ≠ .slice none 0 0 := fun e => M2.out (hnil.1 e).1
          obtain ⟨g5, c5, hv5⟩ := H5.out.shape M5
          obtain ⟨m5, hm5⟩ : ∃ m, (zs ++ [x]).length = m := ⟨_, rfl⟩
          rw [hm5] at hv5
          subst hv5
          have R5 : Hid (RulesIn X13 (some ⟨g5, 0, none⟩) m5 (zs ++ [x])) := H5.out.read hm5
          have HF : Hid (∀ w2 : World, RulesIn w2 (some ⟨g5, 0, none⟩) m5 (zs ++ [x]) → Calls Tryz.prog 42 #[.slice (some ⟨g5, 0, none⟩) m5 c5] w2 fun e w' => e = .returned (.int .i64 (polCode (zs ++ [x]))) ∧ Below w2.heap.size w2 w') := fun w2 q => l2Fault_c _ m5 c5 (zs ++ [x]) w2 (by have := HLV.out.ln; simp at hm5; omega) q
          clear hm5
          refine hK.out _ _ hS (fun hHeld => ?_)
          clear hK K hS hsz hown hgrow hnil H2 M2 M5 H5
          try simp only [Act.put, List.getElem_toArray, List.getElem_cons_succ, List.getElem_cons_zero, List.setIfInBounds_toArray, List.set_cons_zero, List.set_cons_succ]
          refine wpAnyH_ready (rs := [6]) (by kernel_rfl) (by simp) ?_
          refine AllReadyH.cons rfl (fun K hK => ?_) AllReadyH.nil
          have hsz : Z ≤ X13.heap.size := by have h1 : V.heap.size ≤ X13.heap.size := hHeld.2.size; have := HZ.out; omega
          go_simp
          refine (HF.out _ ?rd).mono ?_
          case rd => exact R5.out
          rintro e X14 ⟨rfl, hb6⟩
          have hS := kpB (hHeld.2.trans (hb6.mono hsz))
          refine hK.out _ _ hS (fun hHeld => ?_)
          clear hK K hS hsz hb6
          try simp only [Act.put, List.getElem_toArray, List.getElem_cons_succ, List.getElem_cons_zero, List.setIfInBounds_toArray, List.set_cons_zero, List.set_cons_succ]
          refine wpAnyH_take (i := 7) (v := ?_) rfl (by kernel_rfl) (by kernel_rfl) (by kernel_rfl) (fun _ _ _ h => h) (Or.inl ⟨by kernel_rfl, ?_⟩) (by assumption) ?_
          rotate_left 1
          · intro w hSw; (try dsimp only at hSw); go_simp; try (with_reducible rfl)
          try simp only [Act.put, List.getElem_toArray, List.getElem_cons_succ, List.getElem_cons_zero, List.setIfInBounds_toArray, List.set_cons_zero, List.set_cons_succ]
          refine wpAnyH_done (by kernel_rfl) ?_ _
          go_wp2_with fail
          go_meet
          case rel => exact ⟨_, rfl, hHeld.2⟩
      case rest =>
        obtain ⟨t, rfl, hbc⟩ := hcut
        rw [← HZ.out] at hbc
        have HLC : Hid (LP w wc B a len cap k0 k2 ys g n c zs) := HLV.out.below hbc
        have HXC : Hid (BlkAt wc q x.k x.ho x.hn x.w x.oo x.on x.to x.tn) := HX.out.below hbc
        clear HX HLV HZ hbc
        cases t
        · go_wp2_with fail
          exact ⟨⟨g, n, c, k2, r - 1, zs, rfl, by go_num, by omega, by omega, HLC⟩, by simp [intOf]; omega⟩
        · obtain ⟨y0, y1, y2, y3, y4, y5, y6, y7, _⟩ := HXC.out
          have hzc : w.heap.size ≤ wc.heap.size := Nat.le_of_lt (Nat.lt_of_le_of_lt HLC.out.gw HLC.out.gl)
          go_wp2_with (first
            | (at_builtin; refine wpList_append_own _ rfl _ _ 24 rfl w.heap.size 68 i0 (.agg #[.int .i64 0, .int .i64 0, .int .i64 0, .int .i64 0, .int .i64 0, .int .i64 0, .int .i64 0, .int .i64 0]) 8 64 hun hi hz0 hz1 hz2 rfl (by decide) _ n (flatR zs) rfl (?c0) ⟨wc.heap.size, 0, none⟩ 1 1 (row8 x) rfl rfl (cell_new8 wc x _) (flatR_cells [x]) ?c3 ?c4 ?c5 ?_)
            | fail)
          case c0 => have h0 : wc.ownsRow w.heap.size 68 8 (.slice (some ⟨g, 0, none⟩) n c) n (flatR zs) := by have := HLC.out.ow; unfold Own8 at this; rw [HLC.out.ln] at this; exact this
                     exact h0.alloc _
          case c3 => unfold maxLen; omega
          case c4 => omega
          case c5 => simp; omega
          intro v' w9 hown' hgrow hnil
          have hnn : v' ≠ .slice none 0 0 := hnil
          have HN : Hid (∃ g' c', v' = .slice (some ⟨g', 0, none⟩) (n + 1) c' ∧ LP w w9 B a len cap k0 k2 ys g' (n + 1) c' (zs ++ [x])) := LP.next HLC.out HCode.out hB hown' hgrow hnn
          clear hown' hgrow hnil hnn y0 y1 y2 y3 y4 y5 y6 y7 HLC HXC
          obtain ⟨g', c', rfl, hl9⟩ := HN.out
          have HL9 : Hid (LP w w9 B a len cap k0 k2 ys g' (n + 1) c' (zs ++ [x])) := hl9
          clear hl9 HN
          go_wp2_with fail
          exact ⟨⟨g', n + 1, c', k2, r - 1, zs ++ [x], rfl, by go_num, by omega, by omega, HL9⟩, by simp [intOf]; omega⟩
    · have hr0 : r = 0 := by omega
      subst hr0
      go_wp2_with fail
      go_ret
      exact ⟨g, n, c, kk, zs, rfl, by omega, by omega, HL.out⟩

end Go.Proofs.YtaeigimgobilaaaGreatDoor

namespace Go.Proofs.YtaeigimgobilaaaGreatDoor
open Go.RowKit
set_option linter.unusedVariables false
set_option linter.unusedSimpArgs false

def zeroRule : RuleI := ⟨0, 0, 0, 0, 0, 0, 0, 0⟩

theorem made17 : (madeCells (Value.cells (.agg #[.int .i64 0, .int .i64 0, .int .i64 0, .int .i64 0, .int .i64 0, .int .i64 0, .int .i64 0, .int .i64 0])) (17 * 8)).toList = flatR (List.replicate 17 zeroRule) := by kernel_rfl

theorem LP.draw {w wr wr' : World} {B : Nat} {a : Option Addr} {len cap k0 kk k' : Nat} {ys : List Int} {g n c : Nat} {zs : List RuleI} (h : LP w wr B a len cap k0 kk ys g n c zs) (hB : B < w.heap.size) (hs : SrcAt wr' B a len cap k' ys) (hg : wr.grownBy wr' (some B)) : LP w wr' B a len cap k0 k' ys g n c zs :=
  ⟨h.ow.grown hg (by have := h.gw; omega), h.ln, h.ds.draw hs hg, h.gw, Nat.lt_of_lt_of_le h.gl hg.size⟩

set_option maxRecDepth 100000 in
set_option maxHeartbeats 2000000 in
theorem bentP_c (w : World) (B : Nat) (a : Option Addr) (len cap k0 : Nat) (ys : List Int) (h : SrcAt w B a len cap k0 ys) (hl : len ≤ 1048576) (hk0 : k0 ≤ 500) :
    Calls Tryz.prog 37 #[.pointer (some ⟨B, 0, none⟩)] w fun e w' => ∃ (g n c kk : Nat) (zs : List RuleI), e = .returned (.slice (some ⟨g, 0, none⟩) n c) ∧ n ≤ 17 ∧ kk ≤ k0 + 89 ∧ LP w w' B a len cap k0 kk ys g n c zs := by
  have hB := h.lt
  have HCode : Hid (∀ b off, a = some ⟨b, off, none⟩ → len = 0 ∨ b < w.heap.size) := h.code_lt
  have HS : Hid (SrcAt w B a len cap k0 ys) := h
  obtain ⟨i0, hi, hz0, hz1, hz2⟩ := info_parts Tryz.info68
  have hun : Tryz.prog.underlying 24 = some (.slice 68) := by kernel_rfl
  clear h
  go_enter Tryz.func37, Tryz.ntmps37
  go_wp2_with fail
  refine (policy_c w B a len cap k0 ys HS.out hl hk0).mono ?_
  rintro e w1 ⟨g, n, c, kk, zs, rfl, hn, hkk, hL⟩
  have HL : Hid (LP w w1 B a len cap k0 kk ys g n c zs) := hL
  clear hL HS
  go_wp2_with fail
  refine (next_c _ B a len cap kk ys 14 HL.out.ds.src hl (by omega) (by omega) (by omega)).mono ?_
  rintro e w2 ⟨v, v0, v1, rfl, hS2, hG2⟩
  have HL2 : Hid (LP w w2 B a len cap k0 (kk + 1) ys g n c zs) := HL.out.draw hB hS2 hG2
  have hn' : (n : Int) ≤ 11 := by omega
  have hz2' : w.heap.size ≤ w2.heap.size := Nat.le_of_lt (Nat.lt_of_le_of_lt HL2.out.gw HL2.out.gl)
  clear hS2 hG2 HL
  by_cases e0 : v = 0
  · subst e0
    go_wp2_with fail
    refine (bentRule_c _ B a len cap (kk + 1) ys HL2.out.ds.src hl (by omega)).mono ?_
    rintro e w3 ⟨x, k3, hk3, rfl, hS3, hG3⟩
    have HLC : Hid (LP w w3 B a len cap k0 k3 ys g n c zs) := HL2.out.draw hB hS3 hG3
    have hzc : w.heap.size ≤ w3.heap.size := Nat.le_of_lt (Nat.lt_of_le_of_lt HLC.out.gw HLC.out.gl)
    clear hS3 hG3 HL2
    go_wp2_with (first
      | (at_builtin; refine wpList_append_own _ rfl _ _ 24 rfl w.heap.size 68 i0 (.agg #[.int .i64 0, .int .i64 0, .int .i64 0, .int .i64 0, .int .i64 0, .int .i64 0, .int .i64 0, .int .i64 0]) 8 64 hun hi hz0 hz1 hz2 rfl (by decide) _ n (flatR zs) rfl (?c0) ⟨w3.heap.size, 0, none⟩ 1 1 (row8 x) rfl rfl (cell_new8 w3 x _) (flatR_cells [x]) ?c3 ?c4 ?c5 ?_)
      | fail)
    case c0 => have h0 : w3.ownsRow w.heap.size 68 8 (.slice (some ⟨g, 0, none⟩) n c) n (flatR zs) := by have := HLC.out.ow; unfold Own8 at this; rw [HLC.out.ln] at this; exact this
               exact h0.alloc _
    case c3 => unfold maxLen; omega
    case c4 => omega
    case c5 => simp; omega
    intro v' w9 hown' hgrow hnil
    have HN : Hid (∃ g' c', v' = .slice (some ⟨g', 0, none⟩) (n + 1) c' ∧ LP w w9 B a len cap k0 k3 ys g' (n + 1) c' (zs ++ [x])) := LP.next HLC.out HCode.out hB hown' hgrow hnil
    clear hown' hgrow hnil HLC
    obtain ⟨g', c', rfl, hl9⟩ := HN.out
    have HL9 : Hid (LP w w9 B a len cap k0 k3 ys g' (n + 1) c' (zs ++ [x])) := hl9
    clear hl9 HN
    go_wp2_with fail
    go_ret
    exact ⟨g', n + 1, c', k3, zs ++ [x], rfl, by omega, by omega, HL9.out⟩
  · have b0 : (v == 0) = false := by simpa using e0
    by_cases e1 : v = 1
    · subst e1
      obtain ⟨wm, hmk, hownm, hgrm⟩ := run_make_full (P := Tryz.prog) (w := w2) w.heap.size 24 68 i0 (.agg #[.int .i64 0, .int .i64 0, .int .i64 0, .int .i64 0, .int .i64 0, .int .i64 0, .int .i64 0, .int .i64 0]) 8 hun hi hz0 hz1 .i64 .i64 17 (by rw [hz2]; omega) (by unfold maxLen; omega) hz2'
      have HN : Hid (LP w wm B a len cap k0 (kk + 1) ys w2.heap.size 17 17 (List.replicate 17 zeroRule)) := by
        rw [made17] at hownm
        exact ⟨hownm, rfl, ⟨HL2.out.ds.src.kept hgrm (by simp) (fun _ _ _ => .inr (by simp)), grown_trans HL2.out.ds.gr (grown_none hgrm _)⟩, hz2', (hownm.lt w2.heap.size (by simp [Value.ownBlock])).2⟩
      have hmk' : (Instr.makeSlice 24 (.int .i64 17) (.int .i64 17)).run Tryz.prog w2 = .ok (.slice (some ⟨w2.heap.size, 0, none⟩) 17 17) wm := hmk
      clear hownm hgrm HL2 e0 hmk
      go_wp2_with fail
      go_ret
      exact ⟨_, 17, 17, kk + 1, _, rfl, by omega, by omega, HN.out⟩
    · have b1 : (v == 1) = false := by simpa using e1
      by_cases e2 : v = 2
      · subst e2
        clear b0 b1 e0 e1
        by_cases hn0 : 0 < n
        · have hn0' : (0 : Int) < (n : Int) := by omega
          obtain ⟨b, off, x, hbo, hx, hr⟩ := (HL2.out.ow.read HL2.out.ln).at hn0
          cases hbo
          obtain ⟨y0, y1, y2, y3, y4, y5, y6, y7⟩ := hr
          simp only [Nat.zero_mul, Nat.add_zero, Nat.zero_add] at y0 y1 y2 y3 y4 y5 y6 y7
          clear hx
          go_wp2_with (first
            | (at_builtin; refine wpList_append_own _ rfl _ _ 24 rfl w.heap.size 68 i0 (.agg #[.int .i64 0, .int .i64 0, .int .i64 0, .int .i64 0, .int .i64 0, .int .i64 0, .int .i64 0, .int .i64 0]) 8 64 hun hi hz0 hz1 hz2 rfl (by decide) _ n (flatR zs) rfl (?c0) ⟨w2.heap.size, 0, none⟩ 1 1 (row8 x) rfl rfl (cell_new8 w2 x _) (flatR_cells [x]) ?c3 ?c4 ?c5 ?_)
            | fail)
          case c0 => have h0 : w2.ownsRow w.heap.size 68 8 (.slice (some ⟨g, 0, none⟩) n c) n (flatR zs) := by have := HL2.out.ow; unfold Own8 at this; rw [HL2.out.ln] at this; exact this
                     exact h0.alloc _
          case c3 => unfold maxLen; omega
          case c4 => omega
          case c5 => simp; omega
          intro v' w9 hown' hgrow hnil
          have HN : Hid (∃ g' c', v' = .slice (some ⟨g', 0, none⟩) (n + 1) c' ∧ LP w w9 B a len cap k0 (kk + 1) ys g' (n + 1) c' (zs ++ [x])) := LP.next HL2.out HCode.out hB hown' hgrow hnil
          clear hown' hgrow hnil y0 y1 y2 y3 y4 y5 y6 y7
          obtain ⟨g', c', rfl, hl9⟩ := HN.out
          have HL9 : Hid (LP w w9 B a len cap k0 (kk + 1) ys g' (n + 1) c' (zs ++ [x])) := hl9
          clear hl9 HN
          go_wp2_with fail
          go_ret
          exact ⟨g', n + 1, c', kk + 1, zs ++ [x], rfl, by omega, by omega, HL9.out⟩
        · have hn0' : ¬ ((0 : Int) < (n : Int)) := by omega
          go_wp2_with fail
          go_ret
          exact ⟨g, n, c, kk + 1, zs, rfl, by omega, by omega, HL2.out⟩
      · have b2 : (v == 2) = false := by simpa using e2
        clear e0 e1 e2
        go_wp2_with fail
        go_ret
        exact ⟨g, n, c, kk + 1, zs, rfl, by omega, by omega, HL2.out⟩

end Go.Proofs.YtaeigimgobilaaaGreatDoor
