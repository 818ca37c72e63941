/-
  CONTRACTS: spec.l3Same, and spec.l3All, all that follows from the rules.
  Conditions: each contract bears its own.
-/
import Derived.Test.YtpeddanicenohaaGreatGr5
namespace Go.Proofs.YtpeddanicenohaaGreat
open Go.RowKit
set_option linter.unusedVariables false
set_option linter.unusedSimpArgs false

def eqGr (p q : GrI) : Bool := p.1.1 == q.1.1 && p.1.2 == q.1.2 && p.2 == q.2
theorem eqGr_iff (p q : GrI) : eqGr p q = true ↔ p = q := by
  obtain ⟨⟨a, b⟩, c⟩ := p
  obtain ⟨⟨d, e⟩, f⟩ := q
  simp [eqGr, and_assoc]

set_option maxHeartbeats 400000 in
theorem gr_neq (p q : GrI) (w : World) : (binOp .neq 38 (.agg #[.int .i64 p.1.1, .int .i64 p.1.2, .int .i64 p.2]) (.agg #[.int .i64 q.1.1, .int .i64 q.1.2, .int .i64 q.2])).run Tryz.prog w = .ok (.bool (!eqGr p q)) w := by
  obtain ⟨⟨a0, a1⟩, a2⟩ := p
  obtain ⟨⟨b0, b1⟩, b2⟩ := q
  simp only [eqGr]
  cases e0 : (a0 == b0)
  · simp [go_sem, e0]
  cases e1 : (a1 == b1)
  · simp [go_sem, e0, e1]
  cases e2 : (a2 == b2)
  · simp [go_sem, e0, e1, e2]
  · simp [go_sem, e0, e1, e2]

attribute [local go_sem ↓] gr_neq

theorem bd0 (w : World) (m : Nat) : Below w.heap.size w (w.drewN m) := bdN (Below.refl _ _) _

set_option maxHeartbeats 1000000 in
theorem l3Same_c (a b : Option Addr) (n m c d : Nat) (xs ys : List GrI) (w : World) (hx : GrIn w a n xs) (hy : GrIn w b m ys) (hn : n ≤ 1000) (hm : m ≤ 1000) :
    Calls Tryz.prog 63 #[.slice a n c, .slice b m d] w fun e w' => e = .returned (.bool (decide (xs = ys))) ∧ Below w.heap.size w w' := by
  have HX : Hid (GrIn w a n xs) := hx
  have HY : Hid (GrIn w b m ys) := hy
  clear hx hy
  have hn' : (n : Int) ≤ 1000 := by omega
  have hm' : (m : Int) ≤ 1000 := by omega
  by_cases hnm : n = m
  · subst hnm
    go_enter Tryz.func63, Tryz.ntmps63
    go_wp2
    go_loopw [5] (fun i wr => ∃ k : Nat, k ≤ n ∧ i = .int .i64 (k : Int) ∧ xs.take k = ys.take k ∧ ∃ q, wr = w.drewN q) (fun i _ => n - (intOf i).toNat)
    case atStart => exact ⟨0, Nat.zero_le _, rfl, by simp, 0, rfl⟩
    case round =>
      obtain ⟨k, hk, rfl, htk, q, rfl⟩ := hrel
      have HT : Hid (xs.take k = ys.take k) := htk
      clear htk
      by_cases hlt : k < n
      · obtain ⟨b1, o1, x, e1, hx1, ⟨c0, c1, c2⟩, _⟩ := HX.out.at hlt
        obtain ⟨b2, o2, y, e2, hy1, ⟨d0, d1, d2⟩, _⟩ := HY.out.at hlt
        subst e1 e2
        have hkx : k < xs.length := by rw [HX.out.1]; exact hlt
        have hky : k < ys.length := by rw [HY.out.1]; exact hlt
        have ex : xs[k] = x := by rw [List.getElem?_eq_getElem hkx] at hx1; exact Option.some.inj hx1
        have ey : ys[k] = y := by rw [List.getElem?_eq_getElem hky] at hy1; exact Option.some.inj hy1
        have hlt' : (k : Int) < (n : Int) := by omega
        cases he : eqGr x y
        · have HN : Hid (decide (xs = ys) = false) := by
            show decide (xs = ys) = false
            refine decide_eq_false (fun e => ?_)
            subst e
            have : x = y := by rw [← ex, ← ey]
            rw [(eqGr_iff _ _).2 this] at he
            cases he
          clear ex ey hx1 hy1 hkx hky
          go_wp2
          go_quiet (fail)
          go_wp2
          go_ret
          exact ⟨by rw [HN.out]; rfl, bdN (bd0 _ _) _⟩
        · have HN : Hid (xs.take (k + 1) = ys.take (k + 1)) := by
            show xs.take (k + 1) = ys.take (k + 1)
            rw [List.take_succ_eq_append_getElem hkx, List.take_succ_eq_append_getElem hky, HT.out, ex, ey, (eqGr_iff _ _).1 he]
          clear ex ey hx1 hy1 hkx hky
          go_wp2
          go_quiet (fail)
          go_wp2
          exact ⟨⟨k + 1, by omega, by go_num, HN.out, _, rfl⟩, by simp [intOf]; omega⟩
      · have hkn : k = n := by omega
        subst hkn
        have HE : Hid (decide (xs = ys) = true) := by
          show decide (xs = ys) = true
          have h1 := HT.out
          rw [List.take_of_length_le (by rw [HX.out.1]; exact Nat.le_refl _), List.take_of_length_le (by rw [HY.out.1]; exact Nat.le_refl _)] at h1
          exact decide_eq_true h1
        go_wp2
        go_ret
        exact ⟨by rw [HE.out]; rfl, bd0 _ _⟩
  · have HN : Hid (decide (xs = ys) = false) := by
      show decide (xs = ys) = false
      refine decide_eq_false (fun e => hnm ?_)
      rw [← HX.out.1, ← HY.out.1, e]
    have hne : ((n : Int) == (m : Int)) = false := by simp; omega
    have hne2 : ((n : Int) != (m : Int)) = true := by simp; omega
    go_enter Tryz.func63, Tryz.ntmps63
    go_wp2
    go_ret
    exact ⟨by rw [HN.out]; rfl, Below.refl _ _⟩

/-- The sum of the sets of a slice of grants. -/
def sumV (w : World) : Value → Int
  | .slice (some a) n _ => ((List.range n).map (fun k => intOf ((w.cell? ⟨a.block, a.off + k * 3 + 2, none⟩).getD undef))).sum
  | _ => 0

theorem sumV_at {w : World} {b off n c : Nat} {gs : List GrI} (h : GrIn w (some ⟨b, off, none⟩) n gs) : sumV w (.slice (some ⟨b, off, none⟩) n c) = sumG gs := by
  suffices key : (List.range n).map (fun k => intOf ((w.cell? ⟨b, off + k * 3 + 2, none⟩).getD undef)) = gs.map Prod.snd by
    show ((List.range n).map (fun k => intOf ((w.cell? ⟨b, off + k * 3 + 2, none⟩).getD undef))).sum = (gs.map Prod.snd).sum
    rw [key]
  apply List.ext_getElem
  · simp [h.1]
  · intro k h1 h2
    have hk : k < n := by simpa using h1
    obtain ⟨b', off', x, e, hx, ⟨_, _, c2⟩, _⟩ := h.at hk
    cases e
    have hkx : k < gs.length := by rw [h.1]; exact hk
    have ex : gs[k] = x := by rw [List.getElem?_eq_getElem hkx] at hx; exact Option.some.inj hx
    simp [c2, ex, intOf]

set_option maxHeartbeats 1000000 in
theorem l3All_c (a : Option Addr) (m d : Nat) (zs : List RuleI) (w : World) (hr : RulesIn w a m zs) (hm : m ≤ 1000) (hz : ∀ z ∈ zs, okR z ∧ 1 ≤ z.k ∧ z.k ≤ 4) :
    Calls Tryz.prog 43 #[.slice a m d] w fun e w' => ∃ g l cap gs, e = .returned (.slice (some ⟨g, 0, none⟩) l cap) ∧ gs.length = l ∧ AllG zs gs ∧ (∃ n, gs = itG zs n) ∧ Own3 w' w.heap.size (.slice (some ⟨g, 0, none⟩) l cap) gs ∧ Below w.heap.size w w' := by
  have HR : Hid (RulesIn w a m zs) := hr
  have HZ : Hid (∀ z ∈ zs, okR z ∧ 1 ≤ z.k ∧ z.k ≤ 4) := hz
  clear hr hz
  go_enter Tryz.func43, Tryz.ntmps43
  go_wp2_with fail
  go_loopw [3] (fun v wr => ∃ k l g cap : Nat, v = .slice (some ⟨g, 0, none⟩) l cap ∧ (itG zs k).length = l ∧ Own3 wr w.heap.size (.slice (some ⟨g, 0, none⟩) l cap) (itG zs k) ∧ Below w.heap.size w wr) (fun v wr => (10200 - sumV wr v).toNat)
  case atStart => exact ⟨0, 0, w.heap.size, 0, rfl, rfl, World.ownsRow_lit w #[] 0 (Nat.le_refl _) (Nat.zero_le _) rfl, (Below.refl _ _).alloc (Nat.le_refl _) _⟩
  case round =>
    obtain ⟨k, l, g, cap, rfl, hl, hown, hnx⟩ := hrel
    have HO : Hid (Own3 wr w.heap.size (.slice (some ⟨g, 0, none⟩) l cap) (itG zs k)) := hown
    have HL : Hid ((itG zs k).length = l) := hl
    have HK : Hid (∀ z ∈ zs, okR z) := fun z h => (HZ.out z h).1
    have HM : Hid (sumV wr (.slice (some ⟨g, 0, none⟩) l cap) = sumG (itG zs k)) := sumV_at (hown.read hl)
    have hl40 : l ≤ 40 := by rw [← hl]; exact sg_len (sg_it HK.out k)
    clear hown hl
    have HST : Hid (Calls Tryz.prog 22 #[.slice a m d, .slice (some ⟨g, 0, none⟩) l cap] wr fun e w' => ∃ g' l' cap', e = .returned (.slice (some ⟨g', 0, none⟩) l' cap') ∧ (stepG zs (itG zs k)).length = l' ∧ Own3 w' wr.heap.size (.slice (some ⟨g', 0, none⟩) l' cap') (stepG zs (itG zs k)) ∧ Below wr.heap.size wr w') :=
      l3Step_c g 0 l cap (itG zs k) a m d zs wr (HO.out.read HL.out) (sg_it HK.out k) (HR.out.below hnx) hm HZ.out
    go_upto_region 3 with (first | (go_at_call 22; refine HST.out.mono ?_; rintro e w2 ⟨g2, l2, cap2, rfl, hl2, hown2, hb2⟩))
    have HL2 : Hid ((stepG zs (itG zs k)).length = l2) := hl2
    have HO2 : Hid (Own3 w2 wr.heap.size (.slice (some ⟨g2, 0, none⟩) l2 cap2) (stepG zs (itG zs k))) := hown2
    have hl240 : l2 ≤ 40 := by rw [← hl2]; exact sg_len (sg_step HK.out (sg_it HK.out k))
    clear hl2 hown2 HST
    have HSA : Hid (Calls Tryz.prog 63 #[.slice (some ⟨g2, 0, none⟩) l2 cap2, .slice (some ⟨g, 0, none⟩) l cap] w2 fun e w' => e = .returned (.bool (decide (stepG zs (itG zs k) = itG zs k))) ∧ Below w2.heap.size w2 w') :=
      l3Same_c _ _ _ _ _ _ _ _ w2 (HO2.out.read HL2.out) ((HO.out.read HL.out).below hb2) (by omega) (by omega)
    by_cases hfix : stepG zs (itG zs k) = itG zs k
    · have HF : Hid (stepG zs (itG zs k) = itG zs k) := hfix
      rw [decide_eq_true hfix] at HSA
      clear hfix
      go_wp2_with (first | (go_at_call 63; refine HSA.out.mono ?_; rintro e w3 ⟨rfl, hb3⟩))
      go_ret
      have hb : Below wr.heap.size wr w3 := hb2.trans (hb3.mono hb2.size)
      exact ⟨g, l, cap, itG zs k, rfl, HL.out, allG_it HK.out HF.out, ⟨k, rfl⟩, HO.out.below hb, hnx.trans (hb.mono hnx.size)⟩
    · have HF : Hid (sumG (itG zs k) < sumG (itG zs (k + 1)) ∧ sumG (itG zs (k + 1)) ≤ 10200) := by
        have h1 := sum_step HK.out (sg_it HK.out k)
        have h2 := (sum_le (sg_it HK.out (k + 1))).2
        have h3 : sumG (itG zs k) ≠ sumG (stepG zs (itG zs k)) := fun e => hfix (h1.2 e)
        have h4 := h1.1
        show sumG (itG zs k) < sumG (itG zs (k + 1)) ∧ sumG (itG zs (k + 1)) ≤ 10200
        simp only [itG] at h2 ⊢
        omega
      rw [decide_eq_false hfix] at HSA
      clear hfix
      go_wp2_with (first | (go_at_call 63; refine HSA.out.mono ?_; rintro e w3 ⟨rfl, hb3⟩))
      have ho3 : Own3 w3 w.heap.size (.slice (some ⟨g2, 0, none⟩) l2 cap2) (itG zs (k + 1)) := own3_lower (HO2.out.below hb3) hnx.size
      have hs3 : sumV w3 (.slice (some ⟨g2, 0, none⟩) l2 cap2) = sumG (itG zs (k + 1)) := sumV_at (ho3.read HL2.out)
      have hb : Below wr.heap.size wr w3 := hb2.trans (hb3.mono hb2.size)
      go_roundw
      case rel => exact ⟨k + 1, l2, g2, cap2, rfl, HL2.out, ho3, hnx.trans (hb.mono hnx.size)⟩
      case measure =>
        have h1 := HM.out
        have h2 := HF.out
        show (10200 - sumV w3 (.slice (some ⟨g2, 0, none⟩) l2 cap2)).toNat < (10200 - sumV wr (.slice (some ⟨g, 0, none⟩) l cap)).toNat
        rw [hs3, h1]
        omega

end Go.Proofs.YtpeddanicenohaaGreat
