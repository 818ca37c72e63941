/-
  CONTRACTS on grants in results: read, marked, held against their marks, compared.
  Conditions: each contract bears its own.
  CONTRACTS: spec.l3Step, one step of the rules.
  Conditions: each contract bears its own.
  CONTRACTS: spec.l3Same, and spec.l3All, all that follows from the rules.
  Conditions: each contract bears its own.
-/
import Derived.Test.YtnfolmjdicfobaaPk16
import Derived.Test.YtnfolmjdicfobaaPk04
namespace Go.Proofs.Ytnfolmjdicfobaa
open Go.RowKit
set_option linter.unusedVariables false
set_option linter.unusedSimpArgs false

/-- A slice of grants, read. -/
def GrV (w : World) (a : Option Addr) (zs : List GrI) : Prop := ∀ k p, zs[k]? = some p → ∃ g, a = some ⟨g, 0, none⟩ ∧ GrAt w g (k * 3) p

theorem GrV.below {w w' : World} {a : Option Addr} {zs : List GrI} (h : GrV w a zs) (hb : Below w.heap.size w w') : GrV w' a zs := fun k p e => by
  obtain ⟨g, ha, h1⟩ := h k p e
  exact ⟨g, ha, h1.below hb (World.block_lt_of_cell? w ⟨g, k * 3, none⟩ h1.1)⟩

theorem GrV.kept {w w' : World} {a : Option Addr} {zs : List GrI} {row : Option Nat} (h : GrV w a zs) (hg : w.grownBy w' row) (hne : ∀ g, a = some ⟨g, 0, none⟩ → some g ≠ row) : GrV w' a zs := fun k p e => by
  obtain ⟨g, ha, h1, h2, h3⟩ := h k p e
  exact ⟨g, ha, hg.cell h1 (hne g ha), hg.cell h2 (hne g ha), hg.cell h3 (hne g ha)⟩

theorem GrV.grIn {w : World} {a : Option Addr} {n : Nat} {zs : List GrI} (hn : zs.length = n) (h : GrV w a zs) : GrIn w a n zs := by
  refine ⟨hn, fun hp => ?_⟩
  obtain ⟨g, ha, _⟩ := h 0 _ (List.getElem?_eq_getElem (by omega))
  refine ⟨g, 0, ha, fun k x e => ?_⟩
  obtain ⟨g', ha', hx⟩ := h k x e
  rw [ha] at ha'
  cases ha'
  rw [Nat.zero_add]
  exact hx

theorem Own3.view {w : World} {B : Nat} {a : Option Addr} {n cap : Nat} {zs : List GrI} (h : Own3 w B (.slice a n cap) zs) : GrV w a zs := by
  intro k p e
  have hk : k < zs.length := by
    by_cases q : k < zs.length
    · exact q
    · rw [List.getElem?_eq_none (by omega)] at e; cases e
  have h0 : w.ownsRow B 140 3 (.slice a n cap) zs.length (flat3 zs) := h
  rcases h0.2 with ⟨h', h''⟩ | ⟨g, cap', cur, h', _⟩
  · omega
  · simp at h'
    obtain ⟨rfl, rfl, rfl⟩ := h'
    obtain ⟨f1, f2, f3⟩ := flat3_at zs k p e
    refine ⟨g, rfl, ?_, ?_, ?_⟩
    · rw [h0.cellAt (k * 3) (by omega)]; exact f1
    · rw [h0.cellAt (k * 3 + 1) (by omega)]; exact f2
    · rw [h0.cellAt (k * 3 + 2) (by omega)]; exact f3

theorem Own3.form {w : World} {B : Nat} {v : Value} {zs : List GrI} (h : Own3 w B v zs) : (v = .slice none 0 0 ∧ zs = []) ∨ ∃ g cap, v = .slice (some ⟨g, 0, none⟩) zs.length cap ∧ B ≤ g ∧ g < w.heap.size ∧ zs.length ≤ cap ∧ cap ≤ maxLen := by
  have h0 : w.ownsRow B 140 3 v zs.length (flat3 zs) := h
  rcases h0.2 with ⟨h', h''⟩ | ⟨g, cap', cur, h', hb, hg, hc, hm, _⟩
  · exact .inl ⟨h', List.length_eq_zero_iff.1 h''⟩
  · exact .inr ⟨g, cap', h', hb, (Array.getElem?_eq_some_iff.1 hg).1, hc, hm⟩

theorem Own3.slice {w : World} {B : Nat} {v : Value} {zs : List GrI} (h : Own3 w B v zs) : ∃ a cap, v = .slice a zs.length cap := by
  rcases h.form with ⟨rfl, rfl⟩ | ⟨g, cap, rfl, _⟩
  · exact ⟨none, 0, rfl⟩
  · exact ⟨_, _, rfl⟩

theorem Own3.alloc {w : World} {B : Nat} {v : Value} {zs : List GrI} (h : Own3 w B v zs) (o : Obj) : Own3 (w.alloc o) B v zs := World.ownsRow.alloc h o

/-- The marks of n grants. -/
def mk3 (n : Nat) : List GrI := (List.range n).map fun j => ((((1 + 3 * j : Nat) : Int), ((2 + 3 * j : Nat) : Int)), ((3 + 3 * j : Nat) : Int))
theorem mk3_len (n : Nat) : (mk3 n).length = n := by simp [mk3]
theorem mk3_at (n j : Nat) (h : j < n) : (mk3 n)[j]? = some ((((1 + 3 * j : Nat) : Int), ((2 + 3 * j : Nat) : Int)), ((3 + 3 * j : Nat) : Int)) := by simp [mk3, h]

theorem flat3_set (a : List GrI) (k : Nat) (p : GrI) : flat3 (a.set k p) = (((flat3 a).set (k * 3) (.int .i64 p.1.1)).set (k * 3 + 1) (.int .i64 p.1.2)).set (k * 3 + 2) (.int .i64 p.2) := by
  induction a generalizing k with
  | nil => simp [flat3]
  | cons q qs ih =>
    cases k with
    | zero => simp [flat3]
    | succ k =>
      rw [show (k + 1) * 3 = k * 3 + 1 + 1 + 1 by omega]
      simp [flat3, ih]

theorem Own3.put {w : World} {B g cap : Nat} {zs : List GrI} {n : Nat} (hn : n = zs.length) (h : Own3 w B (.slice (some ⟨g, 0, none⟩) n cap) zs) (j : Nat) (p : GrI) :
    Own3 (((w.setCell ⟨g, j * 3, none⟩ (.int .i64 p.1.1)).setCell ⟨g, j * 3 + 1, none⟩ (.int .i64 p.1.2)).setCell ⟨g, j * 3 + 2, none⟩ (.int .i64 p.2)) B (.slice (some ⟨g, 0, none⟩) n cap) (zs.set j p) ∧ w.grownBy (((w.setCell ⟨g, j * 3, none⟩ (.int .i64 p.1.1)).setCell ⟨g, j * 3 + 1, none⟩ (.int .i64 p.1.2)).setCell ⟨g, j * 3 + 2, none⟩ (.int .i64 p.2)) (some g) := by
  subst hn
  have h0 : w.ownsRow B 140 3 (.slice (some ⟨g, 0, none⟩) zs.length cap) zs.length (flat3 zs) := h
  have h1 := h0.stored (j * 3) (.int .i64 p.1.1)
  have h2 := h1.1.stored (j * 3 + 1) (.int .i64 p.1.2)
  have h3 := h2.1.stored (j * 3 + 2) (.int .i64 p.2)
  refine ⟨?_, grown_tr (grown_tr h1.2 h2.2) h3.2⟩
  show World.ownsRow _ B 140 3 _ (zs.set j p).length (flat3 (zs.set j p))
  rw [flat3_set, List.length_set]
  exact h3.1

theorem Own3.cell {w : World} {B g cap : Nat} {zs : List GrI} {n : Nat} (hn : n = zs.length) (h : Own3 w B (.slice (some ⟨g, 0, none⟩) n cap) zs) (j : Nat) (hj : j < n * 3) : (∃ v, w.cell? ⟨g, j, none⟩ = some v) ∧ w.frozen? ⟨g, j, none⟩ = false := by
  subst hn
  have h0 : w.ownsRow B 140 3 (.slice (some ⟨g, 0, none⟩) zs.length cap) zs.length (flat3 zs) := h
  exact ⟨⟨_, (h0.cellAt j hj).trans (List.getElem?_eq_getElem (by rw [flat3_len]; exact hj))⟩, h0.frozenAt j⟩

end Go.Proofs.Ytnfolmjdicfobaa

namespace Go.Proofs.Ytnfolmjdicfobaa
open Go.RowKit
set_option linter.unusedVariables false
set_option linter.unusedSimpArgs false

theorem flat3_cell {w : World} {b off n : Nat} {gs : List GrI} (h : GrIn w (some ⟨b, off, none⟩) n gs) : ∀ j u, (flat3 gs)[j]? = some u → w.cell? ((⟨b, off, none⟩ : Addr).add j) = some u := by
  intro j u hj
  have hjl : j < gs.length * 3 := by
    by_cases q : j < gs.length * 3
    · exact q
    · rw [List.getElem?_eq_none (by rw [flat3_len]; omega)] at hj; cases hj
  have hk : j / 3 < n := by rw [← h.1]; omega
  obtain ⟨b', off', x, e, hx, ⟨c0, c1, c2⟩, _⟩ := h.at hk
  cases e
  obtain ⟨f0, f1, f2⟩ := flat3_at gs (j / 3) x hx
  rw [Go.WideShapes.add_plain]
  have hm : j = j / 3 * 3 ∨ j = j / 3 * 3 + 1 ∨ j = j / 3 * 3 + 2 := by omega
  rcases hm with e | e | e
  · rw [e, f0] at hj; rw [e, ← hj]; exact c0
  · rw [e, f1] at hj; rw [e, ← hj, ← Nat.add_assoc]; exact c1
  · rw [e, f2] at hj; rw [e, ← hj, ← Nat.add_assoc]; exact c2

set_option maxHeartbeats 1000000 in
theorem l3Step_c (b0 off0 n c : Nat) (gs : List GrI) (a : Option Addr) (m d : Nat) (zs : List RuleI) (w : World) (hg : GrIn w (some ⟨b0, off0, none⟩) n gs) (hs : SG gs) (hr : RulesIn w a m zs) (hm : m ≤ 1000) (hz : ∀ z ∈ zs, okR z ∧ 1 ≤ z.k ∧ z.k ≤ 4) :
    Calls Try.prog 96 #[.slice a m d, .slice (some ⟨b0, off0, none⟩) n c] w fun e w' => ∃ g l cap, e = .returned (.slice (some ⟨g, 0, none⟩) l cap) ∧ (stepG zs gs).length = l ∧ Own3 w' w.heap.size (.slice (some ⟨g, 0, none⟩) l cap) (stepG zs gs) ∧ Below w.heap.size w w' := by
  have hn : n ≤ 40 := by rw [← hg.1]; exact sg_len hs
  obtain ⟨i0, hi, hz0, hz1, hz2⟩ := info_parts Try.info140
  have HG : Hid (GrIn w (some ⟨b0, off0, none⟩) n gs) := hg
  have HS : Hid (SG gs) := hs
  have HR : Hid (RulesIn w a m zs) := hr
  have HZ : Hid (∀ z ∈ zs, okR z ∧ 1 ≤ z.k ∧ z.k ≤ 4) := hz
  clear hg hs hr hz
  have hn' : (n : Int) ≤ 40 := by omega
  have hm' : (m : Int) ≤ 1000 := by omega
  go_enter Try.func96, Try.ntmps96
  go_wp2_with (first | (at_builtin; refine wpList_append_own _ rfl _ _ 110 rfl w.heap.size 140 i0 (.agg #[.int .i64 0, .int .i64 0, .int .i64 0]) 3 24 Try.under110 hi hz0 hz1 hz2 rfl (by decide) (.slice (some ⟨w.heap.size, 0, none⟩) 0 0) 0 [] rfl ?c0 ⟨b0, off0, none⟩ n c (flat3 gs) rfl ?cl ?c1 ?c2 ?c3 ?c4 ?c5 ?_))
  case c0 => exact World.ownsRow_lit w #[] 0 (Nat.le_refl _) (Nat.zero_le _) rfl
  case cl => rw [flat3_len, HG.out.1]
  case c1 => exact flat3_cell (HG.out.below ((Below.refl _ _).alloc (Nat.le_refl _) _))
  case c2 => exact flat3_one gs
  case c3 => unfold maxLen; omega
  case c4 => omega
  case c5 => simp
  · intro v1 w1 hown hgrow hnil
    have R1 : Own3 w1 w.heap.size v1 gs := by
      unfold Own3
      rw [HG.out.1]
      simpa using hown
    have R2 : Hid (Below w.heap.size w w1) := ((Below.refl _ _).alloc (Nat.le_refl _) _).grown hgrow (by simp) (fun j hj => by simp [Value.ownBlock] at hj; omega)
    have hnn : v1 ≠ .slice none 0 0 := by first | exact hnil | simpa using hnil
    obtain ⟨g1, cap1, rfl⟩ := R1.shape hnn
    have HO : Hid (Own3 w1 w.heap.size (.slice (some ⟨g1, 0, none⟩) gs.length cap1) gs) := R1
    clear R1 hown hgrow hnil hnn
    go_wp2
    go_loopw [5, 6] (fun v i wr => ∃ k l g cap : Nat, k ≤ m ∧ i = .int .i64 (k : Int) ∧ v = .slice (some ⟨g, 0, none⟩) l cap ∧ (stepTo zs gs k).length = l ∧ Own3 wr w.heap.size (.slice (some ⟨g, 0, none⟩) l cap) (stepTo zs gs k) ∧ Below w.heap.size w wr) (fun _ i _ => m - (intOf i).toNat)
    case atStart => exact ⟨0, _, g1, cap1, Nat.zero_le _, rfl, rfl, by rw [stepTo_zero], by rw [stepTo_zero]; exact HO.out, R2.out⟩
    case round =>
      obtain ⟨k, l, g, cap, hk, rfl, rfl, hl, hown, hnx⟩ := hrel
      by_cases hlt : k < m
      · obtain ⟨b, off, z, e, hzk, hra⟩ := (HR.out.below hnx).at hlt
        subst e
        have hzm : z ∈ zs := List.mem_of_getElem? hzk
        have HE : Hid (stepTo zs gs (k + 1) = addG (stepTo zs gs k) (z.ho, z.hn) (byF (ofG gs) z)) := stepTo_succ hzk gs
        have HBY : Hid (∀ W : World, ((∀ b o, b < wr.heap.size → W.cell? ⟨b, o, none⟩ = wr.cell? ⟨b, o, none⟩) ∧ Below wr.heap.size wr W) → Calls Try.prog 110 #[.slice (some ⟨b0, off0, none⟩) n c, .pointer (some ⟨b, off + k * 8, none⟩)] W fun e w' => e = .returned (.int .i64 (byF (ofG gs) z)) ∧ Below W.heap.size W w') := fun W hW =>
          l3By_c _ _ _ gs b (off + k * 8) z W ((HG.out.below hnx).below hW.2) (by omega) (hra.below hW.2) (ofG_set HS.out) (HZ.out z hzm).1 (HZ.out z hzm).2
        have HAD : Hid (∀ W : World, ((∀ b o, b < wr.heap.size → W.cell? ⟨b, o, none⟩ = wr.cell? ⟨b, o, none⟩) ∧ Below wr.heap.size wr W) → Calls Try.prog 109 #[.slice (some ⟨g, 0, none⟩) l cap, .agg #[.int .i64 z.ho, .int .i64 z.hn], .int .i64 (byF (ofG gs) z)] W fun e w' => ∃ g' m' cap', e = .returned (.slice (some ⟨g', 0, none⟩) m' cap') ∧ (stepTo zs gs (k + 1)).length = m' ∧ Own3 w' w.heap.size (.slice (some ⟨g', 0, none⟩) m' cap') (stepTo zs gs (k + 1)) ∧ Below W.heap.size W w') := fun W hW => by
          rw [HE.out]
          exact l3Add_c w.heap.size g l cap _ (z.ho, z.hn) _ W hl (hown.below hW.2) (sg_stepTo (fun z h => (HZ.out z h).1) HS.out k) (Nat.le_trans hnx.size hW.2.size)
        obtain ⟨h0, h1, h2, _⟩ := hra
        have hbb : b < wr.heap.size := World.block_lt_of_cell? wr ⟨b, off + k * 8, none⟩ h0
        have hlt' : (k : Int) < (m : Int) := by omega
        clear hown hl HE hzm hzk
        go_wp2_with fail
        go_region_held3 (fun w' => (∀ b o, b < wr.heap.size → w'.cell? ⟨b, o, none⟩ = wr.cell? ⟨b, o, none⟩) ∧ Below wr.heap.size wr w') (first | exact hS | exact kp_drew _)
          (first
            | (go_at_call 110; refine (HBY.out _ (by assumption)).mono ?_; rintro e w' ⟨rfl, hb1⟩; have hS := kp_step (by assumption) hb1)
            | (go_at_call 109; refine (HAD.out _ (by assumption)).mono ?_; rintro e w' ⟨g', m', cap', rfl, hl', hown', hb1⟩; have hS := kp_step (by assumption) hb1))
        go_wp2
        exact ⟨⟨k + 1, m', g', cap', by omega, by go_num, rfl, hl', hown', hnx.trans (hS.2.mono hnx.size)⟩, by simp [intOf]; omega⟩
      · have hkn : k = m := by omega
        subst hkn
        have E : Hid (stepTo zs gs k = stepG zs gs) := by show stepTo zs gs k = _; rw [stepG, HR.out.1]
        have HO2 : Hid (Own3 wr w.heap.size (.slice (some ⟨g, 0, none⟩) l cap) (stepG zs gs)) := by rw [← E.out]; exact hown
        have HL : Hid ((stepG zs gs).length = l) := by rw [← E.out]; exact hl
        clear hown hl E
        go_wp2
        go_ret
        exact ⟨g, l, cap, rfl, HL.out, HO2.out, hnx⟩

end Go.Proofs.Ytnfolmjdicfobaa

namespace Go.Proofs.Ytnfolmjdicfobaa
open Go.RowKit
set_option linter.unusedVariables false
set_option linter.unusedSimpArgs false

def eqGr (p q : GrI) : Bool := p.1.1 == q.1.1 && p.1.2 == q.1.2 && p.2 == q.2
theorem eqGr_iff (p q : GrI) : eqGr p q = true ↔ p = q := by
  obtain ⟨⟨a, b⟩, c⟩ := p
  obtain ⟨⟨d, e⟩, f⟩ := q
  simp [eqGr, and_assoc]

set_option maxHeartbeats 400000 in
theorem gr_neq (p q : GrI) (w : World) : (binOp .neq 140 (.agg #[.int .i64 p.1.1, .int .i64 p.1.2, .int .i64 p.2]) (.agg #[.int .i64 q.1.1, .int .i64 q.1.2, .int .i64 q.2])).run Try.prog w = .ok (.bool (!eqGr p q)) w := by
  obtain ⟨⟨a0, a1⟩, a2⟩ := p
  obtain ⟨⟨b0, b1⟩, b2⟩ := q
  simp only [eqGr]
  cases e0 : (a0 == b0)
  · simp [go_sem, e0]
  cases e1 : (a1 == b1)
  · simp [go_sem, e0, e1]
  cases e2 : (a2 == b2)
  · simp [go_sem, e0, e1, e2]
  · simp [go_sem, e0, e1, e2]

attribute [local go_sem ↓] gr_neq

theorem bd0 (w : World) (m : Nat) : Below w.heap.size w (w.drewN m) := bdN (Below.refl _ _) _

set_option maxHeartbeats 1000000 in
theorem l3Same_c (a b : Option Addr) (n m c d : Nat) (xs ys : List GrI) (w : World) (hx : GrIn w a n xs) (hy : GrIn w b m ys) (hn : n ≤ 1000) (hm : m ≤ 1000) :
    Calls Try.prog 97 #[.slice a n c, .slice b m d] w fun e w' => e = .returned (.bool (decide (xs = ys))) ∧ Below w.heap.size w w' := by
  have HX : Hid (GrIn w a n xs) := hx
  have HY : Hid (GrIn w b m ys) := hy
  clear hx hy
  have hn' : (n : Int) ≤ 1000 := by omega
  have hm' : (m : Int) ≤ 1000 := by omega
  by_cases hnm : n = m
  · subst hnm
    go_enter Try.func97, Try.ntmps97
    go_wp2
    go_loopw [5] (fun i wr => ∃ k : Nat, k ≤ n ∧ i = .int .i64 (k : Int) ∧ xs.take k = ys.take k ∧ ∃ q, wr = w.drewN q) (fun i _ => n - (intOf i).toNat)
    case atStart => exact ⟨0, Nat.zero_le _, rfl, by simp, 0, rfl⟩
    case round =>
      obtain ⟨k, hk, rfl, htk, q, rfl⟩ := hrel
      have HT : Hid (xs.take k = ys.take k) := htk
      clear htk
      by_cases hlt : k < n
      · obtain ⟨b1, o1, x, e1, hx1, ⟨c0, c1, c2⟩, _⟩ := HX.out.at hlt
        obtain ⟨b2, o2, y, e2, hy1, ⟨d0, d1, d2⟩, _⟩ := HY.out.at hlt
        subst e1 e2
        have hkx : k < xs.length := by rw [HX.out.1]; exact hlt
        have hky : k < ys.length := by rw [HY.out.1]; exact hlt
        have ex : xs[k] = x := by rw [List.getElem?_eq_getElem hkx] at hx1; exact Option.some.inj hx1
        have ey : ys[k] = y := by rw [List.getElem?_eq_getElem hky] at hy1; exact Option.some.inj hy1
        have hlt' : (k : Int) < (n : Int) := by omega
        cases he : eqGr x y
        · have HN : Hid (decide (xs = ys) = false) := by
            show decide (xs = ys) = false
            refine decide_eq_false (fun e => ?_)
            subst e
            have : x = y := by rw [← ex, ← ey]
            rw [(eqGr_iff _ _).2 this] at he
            cases he
          clear ex ey hx1 hy1 hkx hky
          go_wp2
          go_quiet (fail)
          go_wp2
          go_ret
          exact ⟨by rw [HN.out]; rfl, bdN (bd0 _ _) _⟩
        · have HN : Hid (xs.take (k + 1) = ys.take (k + 1)) := by
            show xs.take (k + 1) = ys.take (k + 1)
            rw [List.take_succ_eq_append_getElem hkx, List.take_succ_eq_append_getElem hky, HT.out, ex, ey, (eqGr_iff _ _).1 he]
          clear ex ey hx1 hy1 hkx hky
          go_wp2
          go_quiet (fail)
          go_wp2
          exact ⟨⟨k + 1, by omega, by go_num, HN.out, _, rfl⟩, by simp [intOf]; omega⟩
      · have hkn : k = n := by omega
        subst hkn
        have HE : Hid (decide (xs = ys) = true) := by
          show decide (xs = ys) = true
          have h1 := HT.out
          rw [List.take_of_length_le (by rw [HX.out.1]; exact Nat.le_refl _), List.take_of_length_le (by rw [HY.out.1]; exact Nat.le_refl _)] at h1
          exact decide_eq_true h1
        go_wp2
        go_ret
        exact ⟨by rw [HE.out]; rfl, bd0 _ _⟩
  · have HN : Hid (decide (xs = ys) = false) := by
      show decide (xs = ys) = false
      refine decide_eq_false (fun e => hnm ?_)
      rw [← HX.out.1, ← HY.out.1, e]
    have hne : ((n : Int) == (m : Int)) = false := by simp; omega
    have hne2 : ((n : Int) != (m : Int)) = true := by simp; omega
    go_enter Try.func97, Try.ntmps97
    go_wp2
    go_ret
    exact ⟨by rw [HN.out]; rfl, Below.refl _ _⟩

/-- The sum of the sets of a slice of grants. -/
def sumV (w : World) : Value → Int
  | .slice (some a) n _ => ((List.range n).map (fun k => intOf ((w.cell? ⟨a.block, a.off + k * 3 + 2, none⟩).getD undef))).sum
  | _ => 0

theorem sumV_at {w : World} {b off n c : Nat} {gs : List GrI} (h : GrIn w (some ⟨b, off, none⟩) n gs) : sumV w (.slice (some ⟨b, off, none⟩) n c) = sumG gs := by
  suffices key : (List.range n).map (fun k => intOf ((w.cell? ⟨b, off + k * 3 + 2, none⟩).getD undef)) = gs.map Prod.snd by
    show ((List.range n).map (fun k => intOf ((w.cell? ⟨b, off + k * 3 + 2, none⟩).getD undef))).sum = (gs.map Prod.snd).sum
    rw [key]
  apply List.ext_getElem
  · simp [h.1]
  · intro k h1 h2
    have hk : k < n := by simpa using h1
    obtain ⟨b', off', x, e, hx, ⟨_, _, c2⟩, _⟩ := h.at hk
    cases e
    have hkx : k < gs.length := by rw [h.1]; exact hk
    have ex : gs[k] = x := by rw [List.getElem?_eq_getElem hkx] at hx; exact Option.some.inj hx
    simp [c2, ex, intOf]

set_option maxHeartbeats 1000000 in
theorem l3All_c (a : Option Addr) (m d : Nat) (zs : List RuleI) (w : World) (hr : RulesIn w a m zs) (hm : m ≤ 1000) (hz : ∀ z ∈ zs, okR z ∧ 1 ≤ z.k ∧ z.k ≤ 4) :
    Calls Try.prog 76 #[.slice a m d] w fun e w' => ∃ g l cap gs, e = .returned (.slice (some ⟨g, 0, none⟩) l cap) ∧ gs.length = l ∧ AllG zs gs ∧ (∃ n, gs = itG zs n) ∧ Own3 w' w.heap.size (.slice (some ⟨g, 0, none⟩) l cap) gs ∧ Below w.heap.size w w' := by
  have HR : Hid (RulesIn w a m zs) := hr
  have HZ : Hid (∀ z ∈ zs, okR z ∧ 1 ≤ z.k ∧ z.k ≤ 4) := hz
  clear hr hz
  go_enter Try.func76, Try.ntmps76
  go_wp2_with fail
  go_loopw [3] (fun v wr => ∃ k l g cap : Nat, v = .slice (some ⟨g, 0, none⟩) l cap ∧ (itG zs k).length = l ∧ Own3 wr w.heap.size (.slice (some ⟨g, 0, none⟩) l cap) (itG zs k) ∧ Below w.heap.size w wr) (fun v wr => (10200 - sumV wr v).toNat)
  case atStart => exact ⟨0, 0, w.heap.size, 0, rfl, rfl, World.ownsRow_lit w #[] 0 (Nat.le_refl _) (Nat.zero_le _) rfl, (Below.refl _ _).alloc (Nat.le_refl _) _⟩
  case round =>
    obtain ⟨k, l, g, cap, rfl, hl, hown, hnx⟩ := hrel
    have HO : Hid (Own3 wr w.heap.size (.slice (some ⟨g, 0, none⟩) l cap) (itG zs k)) := hown
    have HL : Hid ((itG zs k).length = l) := hl
    have HK : Hid (∀ z ∈ zs, okR z) := fun z h => (HZ.out z h).1
    have HM : Hid (sumV wr (.slice (some ⟨g, 0, none⟩) l cap) = sumG (itG zs k)) := sumV_at (hown.read hl)
    have hl40 : l ≤ 40 := by rw [← hl]; exact sg_len (sg_it HK.out k)
    clear hown hl
    have HST : Hid (Calls Try.prog 96 #[.slice a m d, .slice (some ⟨g, 0, none⟩) l cap] wr fun e w' => ∃ g' l' cap', e = .returned (.slice (some ⟨g', 0, none⟩) l' cap') ∧ (stepG zs (itG zs k)).length = l' ∧ Own3 w' wr.heap.size (.slice (some ⟨g', 0, none⟩) l' cap') (stepG zs (itG zs k)) ∧ Below wr.heap.size wr w') :=
      l3Step_c g 0 l cap (itG zs k) a m d zs wr (HO.out.read HL.out) (sg_it HK.out k) (HR.out.below hnx) hm HZ.out
    go_upto_region 3 with (first | (go_at_call 96; refine HST.out.mono ?_; rintro e w2 ⟨g2, l2, cap2, rfl, hl2, hown2, hb2⟩))
    have HL2 : Hid ((stepG zs (itG zs k)).length = l2) := hl2
    have HO2 : Hid (Own3 w2 wr.heap.size (.slice (some ⟨g2, 0, none⟩) l2 cap2) (stepG zs (itG zs k))) := hown2
    have hl240 : l2 ≤ 40 := by rw [← hl2]; exact sg_len (sg_step HK.out (sg_it HK.out k))
    clear hl2 hown2 HST
    have HSA : Hid (Calls Try.prog 97 #[.slice (some ⟨g2, 0, none⟩) l2 cap2, .slice (some ⟨g, 0, none⟩) l cap] w2 fun e w' => e = .returned (.bool (decide (stepG zs (itG zs k) = itG zs k))) ∧ Below w2.heap.size w2 w') :=
      l3Same_c _ _ _ _ _ _ _ _ w2 (HO2.out.read HL2.out) ((HO.out.read HL.out).below hb2) (by omega) (by omega)
    by_cases hfix : stepG zs (itG zs k) = itG zs k
    · have HF : Hid (stepG zs (itG zs k) = itG zs k) := hfix
      rw [decide_eq_true hfix] at HSA
      clear hfix
      go_wp2_with (first | (go_at_call 97; refine HSA.out.mono ?_; rintro e w3 ⟨rfl, hb3⟩))
      go_ret
      have hb : Below wr.heap.size wr w3 := hb2.trans (hb3.mono hb2.size)
      exact ⟨g, l, cap, itG zs k, rfl, HL.out, allG_it HK.out HF.out, ⟨k, rfl⟩, HO.out.below hb, hnx.trans (hb.mono hnx.size)⟩
    · have HF : Hid (sumG (itG zs k) < sumG (itG zs (k + 1)) ∧ sumG (itG zs (k + 1)) ≤ 10200) := by
        have h1 := sum_step HK.out (sg_it HK.out k)
        have h2 := (sum_le (sg_it HK.out (k + 1))).2
        have h3 : sumG (itG zs k) ≠ sumG (stepG zs (itG zs k)) := fun e => hfix (h1.2 e)
        have h4 := h1.1
        show sumG (itG zs k) < sumG (itG zs (k + 1)) ∧ sumG (itG zs (k + 1)) ≤ 10200
        simp only [itG] at h2 ⊢
        omega
      rw [decide_eq_false hfix] at HSA
      clear hfix
      go_wp2_with (first | (go_at_call 97; refine HSA.out.mono ?_; rintro e w3 ⟨rfl, hb3⟩))
      have ho3 : Own3 w3 w.heap.size (.slice (some ⟨g2, 0, none⟩) l2 cap2) (itG zs (k + 1)) := own3_lower (HO2.out.below hb3) hnx.size
      have hs3 : sumV w3 (.slice (some ⟨g2, 0, none⟩) l2 cap2) = sumG (itG zs (k + 1)) := sumV_at (ho3.read HL2.out)
      have hb : Below wr.heap.size wr w3 := hb2.trans (hb3.mono hb2.size)
      go_roundw
      case rel => exact ⟨k + 1, l2, g2, cap2, rfl, HL2.out, ho3, hnx.trans (hb.mono hnx.size)⟩
      case measure =>
        have h1 := HM.out
        have h2 := HF.out
        show (10200 - sumV w3 (.slice (some ⟨g2, 0, none⟩) l2 cap2)).toNat < (10200 - sumV wr (.slice (some ⟨g, 0, none⟩) l cap)).toNat
        rw [hs3, h1]
        omega

end Go.Proofs.Ytnfolmjdicfobaa
