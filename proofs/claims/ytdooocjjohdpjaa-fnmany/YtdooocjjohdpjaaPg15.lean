/-
  CONTRACTS: spec.l3Same, and spec.l3All, all that follows from the rules.
  Conditions: each contract bears its own.
  CONTRACTS on rules in impl: bodyOf; the type switch.
  Conditions: each contract bears its own.
  CONTRACT: (impl.grantMap).told: whom a rule gives its head, by what is in the map.
  Conditions: each contract bears its own.
  CONTRACTS: spec.l2Roles, spec.RolesIn.
  Conditions: each contract bears its own.
-/
import Derived.Test.YtdooocjjohdpjaaPg08
import Derived.Test.YtdooocjjohdpjaaPg01
import Derived.Test.YtdooocjjohdpjaaPg14
import Derived.Deep.RegionHeld3
import Derived.Deep.RegionWith
import Derived.Test.YtdooocjjohdpjaaPg05
import Derived.Test.YtdooocjjohdpjaaPg04
namespace Go.Proofs.Ytdooocjjohdpjaa
open Go.RowKit
set_option linter.unusedVariables false
set_option linter.unusedSimpArgs false

def eqGr (p q : GrI) : Bool := p.1.1 == q.1.1 && p.1.2 == q.1.2 && p.2 == q.2
theorem eqGr_iff (p q : GrI) : eqGr p q = true ↔ p = q := by
  obtain ⟨⟨a, b⟩, c⟩ := p
  obtain ⟨⟨d, e⟩, f⟩ := q
  simp [eqGr, and_assoc]

set_option maxHeartbeats 400000 in
theorem gr_neq (p q : GrI) (w : World) : (binOp .neq 37 (.agg #[.int .i64 p.1.1, .int .i64 p.1.2, .int .i64 p.2]) (.agg #[.int .i64 q.1.1, .int .i64 q.1.2, .int .i64 q.2])).run Try.prog w = .ok (.bool (!eqGr p q)) w := by
  obtain ⟨⟨a0, a1⟩, a2⟩ := p
  obtain ⟨⟨b0, b1⟩, b2⟩ := q
  simp only [eqGr]
  cases e0 : (a0 == b0)
  · simp [go_sem, e0]
  cases e1 : (a1 == b1)
  · simp [go_sem, e0, e1]
  cases e2 : (a2 == b2)
  · simp [go_sem, e0, e1, e2]
  · simp [go_sem, e0, e1, e2]

attribute [local go_sem ↓] gr_neq

theorem bd0 (w : World) (m : Nat) : Below w.heap.size w (w.drewN m) := bdN (Below.refl _ _) _

set_option maxHeartbeats 1000000 in
theorem l3Same_c (a b : Option Addr) (n m c d : Nat) (xs ys : List GrI) (w : World) (hx : GrIn w a n xs) (hy : GrIn w b m ys) (hn : n ≤ 1000) (hm : m ≤ 1000) :
    Calls Try.prog 113 #[.slice a n c, .slice b m d] w fun e w' => e = .returned (.bool (decide (xs = ys))) ∧ Below w.heap.size w w' := by
  have HX : Hid (GrIn w a n xs) := hx
  have HY : Hid (GrIn w b m ys) := hy
  clear hx hy
  have hn' : (n : Int) ≤ 1000 := by omega
  have hm' : (m : Int) ≤ 1000 := by omega
  by_cases hnm : n = m
  · subst hnm
    go_enter Try.func113, Try.ntmps113
    go_wp2
    go_loopw [5] (fun i wr => ∃ k : Nat, k ≤ n ∧ i = .int .i64 (k : Int) ∧ xs.take k = ys.take k ∧ ∃ q, wr = w.drewN q) (fun i _ => n - (intOf i).toNat)
    case atStart => exact ⟨0, Nat.zero_le _, rfl, by simp, 0, rfl⟩
    case round =>
      obtain ⟨k, hk, rfl, htk, q, rfl⟩ := hrel
      have HT : Hid (xs.take k = ys.take k) := htk
      clear htk
      by_cases hlt : k < n
      · obtain ⟨b1, o1, x, e1, hx1, ⟨c0, c1, c2⟩, _⟩ := HX.out.at hlt
        obtain ⟨b2, o2, y, e2, hy1, ⟨d0, d1, d2⟩, _⟩ := HY.out.at hlt
        subst e1 e2
        have hkx : k < xs.length := by rw [HX.out.1]; exact hlt
        have hky : k < ys.length := by rw [HY.out.1]; exact hlt
        have ex : xs[k] = x := by rw [List.getElem?_eq_getElem hkx] at hx1; exact Option.some.inj hx1
        have ey : ys[k] = y := by rw [List.getElem?_eq_getElem hky] at hy1; exact Option.some.inj hy1
        have hlt' : (k : Int) < (n : Int) := by omega
        cases he : eqGr x y
        · have HN : Hid (decide (xs = ys) = false) := by
            show decide (xs = ys) = false
            refine decide_eq_false (fun e => ?_)
            subst e
            have : x = y := by rw [← ex, ← ey]
            rw [(eqGr_iff _ _).2 this] at he
            cases he
          clear ex ey hx1 hy1 hkx hky
          go_wp2
          go_quiet (fail)
          go_wp2
          go_ret
          exact ⟨by rw [HN.out]; rfl, bdN (bd0 _ _) _⟩
        · have HN : Hid (xs.take (k + 1) = ys.take (k + 1)) := by
            show xs.take (k + 1) = ys.take (k + 1)
            rw [List.take_succ_eq_append_getElem hkx, List.take_succ_eq_append_getElem hky, HT.out, ex, ey, (eqGr_iff _ _).1 he]
          clear ex ey hx1 hy1 hkx hky
          go_wp2
          go_quiet (fail)
          go_wp2
          exact ⟨⟨k + 1, by omega, by go_num, HN.out, _, rfl⟩, by simp [intOf]; omega⟩
      · have hkn : k = n := by omega
        subst hkn
        have HE : Hid (decide (xs = ys) = true) := by
          show decide (xs = ys) = true
          have h1 := HT.out
          rw [List.take_of_length_le (by rw [HX.out.1]; exact Nat.le_refl _), List.take_of_length_le (by rw [HY.out.1]; exact Nat.le_refl _)] at h1
          exact decide_eq_true h1
        go_wp2
        go_ret
        exact ⟨by rw [HE.out]; rfl, bd0 _ _⟩
  · have HN : Hid (decide (xs = ys) = false) := by
      show decide (xs = ys) = false
      refine decide_eq_false (fun e => hnm ?_)
      rw [← HX.out.1, ← HY.out.1, e]
    have hne : ((n : Int) == (m : Int)) = false := by simp; omega
    have hne2 : ((n : Int) != (m : Int)) = true := by simp; omega
    go_enter Try.func113, Try.ntmps113
    go_wp2
    go_ret
    exact ⟨by rw [HN.out]; rfl, Below.refl _ _⟩

/-- The sum of the sets of a slice of grants. -/
def sumV (w : World) : Value → Int
  | .slice (some a) n _ => ((List.range n).map (fun k => intOf ((w.cell? ⟨a.block, a.off + k * 3 + 2, none⟩).getD undef))).sum
  | _ => 0

theorem sumV_at {w : World} {b off n c : Nat} {gs : List GrI} (h : GrIn w (some ⟨b, off, none⟩) n gs) : sumV w (.slice (some ⟨b, off, none⟩) n c) = sumG gs := by
  suffices key : (List.range n).map (fun k => intOf ((w.cell? ⟨b, off + k * 3 + 2, none⟩).getD undef)) = gs.map Prod.snd by
    show ((List.range n).map (fun k => intOf ((w.cell? ⟨b, off + k * 3 + 2, none⟩).getD undef))).sum = (gs.map Prod.snd).sum
    rw [key]
  apply List.ext_getElem
  · simp [h.1]
  · intro k h1 h2
    have hk : k < n := by simpa using h1
    obtain ⟨b', off', x, e, hx, ⟨_, _, c2⟩, _⟩ := h.at hk
    cases e
    have hkx : k < gs.length := by rw [h.1]; exact hk
    have ex : gs[k] = x := by rw [List.getElem?_eq_getElem hkx] at hx; exact Option.some.inj hx
    simp [c2, ex, intOf]

set_option maxHeartbeats 1000000 in
theorem l3All_c (a : Option Addr) (m d : Nat) (zs : List RuleI) (w : World) (hr : RulesIn w a m zs) (hm : m ≤ 1000) (hz : ∀ z ∈ zs, okR z ∧ 1 ≤ z.k ∧ z.k ≤ 4) :
    Calls Try.prog 60 #[.slice a m d] w fun e w' => ∃ g l cap gs, e = .returned (.slice (some ⟨g, 0, none⟩) l cap) ∧ gs.length = l ∧ AllG zs gs ∧ (∃ n, gs = itG zs n) ∧ Own3 w' w.heap.size (.slice (some ⟨g, 0, none⟩) l cap) gs ∧ Below w.heap.size w w' := by
  have HR : Hid (RulesIn w a m zs) := hr
  have HZ : Hid (∀ z ∈ zs, okR z ∧ 1 ≤ z.k ∧ z.k ≤ 4) := hz
  clear hr hz
  go_enter Try.func60, Try.ntmps60
  go_wp2_with fail
  go_loopw [3] (fun v wr => ∃ k l g cap : Nat, v = .slice (some ⟨g, 0, none⟩) l cap ∧ (itG zs k).length = l ∧ Own3 wr w.heap.size (.slice (some ⟨g, 0, none⟩) l cap) (itG zs k) ∧ Below w.heap.size w wr) (fun v wr => (10200 - sumV wr v).toNat)
  case atStart => exact ⟨0, 0, w.heap.size, 0, rfl, rfl, World.ownsRow_lit w #[] 0 (Nat.le_refl _) (Nat.zero_le _) rfl, (Below.refl _ _).alloc (Nat.le_refl _) _⟩
  case round =>
    obtain ⟨k, l, g, cap, rfl, hl, hown, hnx⟩ := hrel
    have HO : Hid (Own3 wr w.heap.size (.slice (some ⟨g, 0, none⟩) l cap) (itG zs k)) := hown
    have HL : Hid ((itG zs k).length = l) := hl
    have HK : Hid (∀ z ∈ zs, okR z) := fun z h => (HZ.out z h).1
    have HM : Hid (sumV wr (.slice (some ⟨g, 0, none⟩) l cap) = sumG (itG zs k)) := sumV_at (hown.read hl)
    have hl40 : l ≤ 40 := by rw [← hl]; exact sg_len (sg_it HK.out k)
    clear hown hl
    have HST : Hid (Calls Try.prog 62 #[.slice a m d, .slice (some ⟨g, 0, none⟩) l cap] wr fun e w' => ∃ g' l' cap', e = .returned (.slice (some ⟨g', 0, none⟩) l' cap') ∧ (stepG zs (itG zs k)).length = l' ∧ Own3 w' wr.heap.size (.slice (some ⟨g', 0, none⟩) l' cap') (stepG zs (itG zs k)) ∧ Below wr.heap.size wr w') :=
      l3Step_c g 0 l cap (itG zs k) a m d zs wr (HO.out.read HL.out) (sg_it HK.out k) (HR.out.below hnx) hm HZ.out
    go_upto_region 3 with (first | (go_at_call 62; refine HST.out.mono ?_; rintro e w2 ⟨g2, l2, cap2, rfl, hl2, hown2, hb2⟩))
    have HL2 : Hid ((stepG zs (itG zs k)).length = l2) := hl2
    have HO2 : Hid (Own3 w2 wr.heap.size (.slice (some ⟨g2, 0, none⟩) l2 cap2) (stepG zs (itG zs k))) := hown2
    have hl240 : l2 ≤ 40 := by rw [← hl2]; exact sg_len (sg_step HK.out (sg_it HK.out k))
    clear hl2 hown2 HST
    have HSA : Hid (Calls Try.prog 113 #[.slice (some ⟨g2, 0, none⟩) l2 cap2, .slice (some ⟨g, 0, none⟩) l cap] w2 fun e w' => e = .returned (.bool (decide (stepG zs (itG zs k) = itG zs k))) ∧ Below w2.heap.size w2 w') :=
      l3Same_c _ _ _ _ _ _ _ _ w2 (HO2.out.read HL2.out) ((HO.out.read HL.out).below hb2) (by omega) (by omega)
    by_cases hfix : stepG zs (itG zs k) = itG zs k
    · have HF : Hid (stepG zs (itG zs k) = itG zs k) := hfix
      rw [decide_eq_true hfix] at HSA
      clear hfix
      go_wp2_with (first | (go_at_call 113; refine HSA.out.mono ?_; rintro e w3 ⟨rfl, hb3⟩))
      go_ret
      have hb : Below wr.heap.size wr w3 := hb2.trans (hb3.mono hb2.size)
      exact ⟨g, l, cap, itG zs k, rfl, HL.out, allG_it HK.out HF.out, ⟨k, rfl⟩, HO.out.below hb, hnx.trans (hb.mono hnx.size)⟩
    · have HF : Hid (sumG (itG zs k) < sumG (itG zs (k + 1)) ∧ sumG (itG zs (k + 1)) ≤ 10200) := by
        have h1 := sum_step HK.out (sg_it HK.out k)
        have h2 := (sum_le (sg_it HK.out (k + 1))).2
        have h3 : sumG (itG zs k) ≠ sumG (stepG zs (itG zs k)) := fun e => hfix (h1.2 e)
        have h4 := h1.1
        show sumG (itG zs k) < sumG (itG zs (k + 1)) ∧ sumG (itG zs (k + 1)) ≤ 10200
        simp only [itG] at h2 ⊢
        omega
      rw [decide_eq_false hfix] at HSA
      clear hfix
      go_wp2_with (first | (go_at_call 113; refine HSA.out.mono ?_; rintro e w3 ⟨rfl, hb3⟩))
      have ho3 : Own3 w3 w.heap.size (.slice (some ⟨g2, 0, none⟩) l2 cap2) (itG zs (k + 1)) := own3_lower (HO2.out.below hb3) hnx.size
      have hs3 : sumV w3 (.slice (some ⟨g2, 0, none⟩) l2 cap2) = sumG (itG zs (k + 1)) := sumV_at (ho3.read HL2.out)
      have hb : Below wr.heap.size wr w3 := hb2.trans (hb3.mono hb2.size)
      go_roundw
      case rel => exact ⟨k + 1, l2, g2, cap2, rfl, HL2.out, ho3, hnx.trans (hb.mono hnx.size)⟩
      case measure =>
        have h1 := HM.out
        have h2 := HF.out
        show (10200 - sumV w3 (.slice (some ⟨g2, 0, none⟩) l2 cap2)).toNat < (10200 - sumV wr (.slice (some ⟨g, 0, none⟩) l cap)).toNat
        rw [hs3, h1]
        omega

end Go.Proofs.Ytdooocjjohdpjaa

namespace Go.Proofs.Ytdooocjjohdpjaa
open Go.RowKit
set_option linter.unusedVariables false
set_option linter.unusedSimpArgs false

set_option maxHeartbeats 400000 in
theorem bodyOf_1 (r : RuleI) (h : r.k = 1) (w : World) :
    Calls Try.prog 71 #[.agg #[.int .i64 r.k, .int .i64 r.ho, .int .i64 r.hn, .int .i64 r.w, .int .i64 r.oo, .int .i64 r.on, .int .i64 r.to, .int .i64 r.tn]] w fun e w' =>
      e = .returned (.iface 161 (.agg #[.int .i64 r.w])) ∧ Below w.heap.size w w' := by
  go_enter Try.func71, Try.ntmps71
  go_wp2
  go_ret
  exact ⟨rfl, by go_grown⟩

set_option maxHeartbeats 400000 in
theorem bodyOf_2 (r : RuleI) (h : r.k = 2) (w : World) :
    Calls Try.prog 71 #[.agg #[.int .i64 r.k, .int .i64 r.ho, .int .i64 r.hn, .int .i64 r.w, .int .i64 r.oo, .int .i64 r.on, .int .i64 r.to, .int .i64 r.tn]] w fun e w' =>
      e = .returned (.iface 163 (.agg #[.int .i64 r.oo, .int .i64 r.on])) ∧ Below w.heap.size w w' := by
  go_enter Try.func71, Try.ntmps71
  go_wp2
  go_ret
  exact ⟨rfl, by go_grown⟩

set_option maxHeartbeats 400000 in
theorem bodyOf_3 (r : RuleI) (h : r.k = 3) (w : World) :
    Calls Try.prog 71 #[.agg #[.int .i64 r.k, .int .i64 r.ho, .int .i64 r.hn, .int .i64 r.w, .int .i64 r.oo, .int .i64 r.on, .int .i64 r.to, .int .i64 r.tn]] w fun e w' =>
      e = .returned (.iface 165 (.agg #[.int .i64 r.oo, .int .i64 r.on, .int .i64 r.tn])) ∧ Below w.heap.size w w' := by
  go_enter Try.func71, Try.ntmps71
  go_wp2
  go_ret
  exact ⟨rfl, by go_grown⟩

set_option maxHeartbeats 400000 in
theorem bodyOf_4 (r : RuleI) (h : r.k = 4) (w : World) :
    Calls Try.prog 71 #[.agg #[.int .i64 r.k, .int .i64 r.ho, .int .i64 r.hn, .int .i64 r.w, .int .i64 r.oo, .int .i64 r.on, .int .i64 r.to, .int .i64 r.tn]] w fun e w' =>
      e = .returned (.iface 167 (.agg #[.int .i64 r.oo, .int .i64 r.on, .int .i64 r.to, .int .i64 r.tn])) ∧ Below w.heap.size w w' := by
  go_enter Try.func71, Try.ntmps71
  go_wp2
  go_ret
  exact ⟨rfl, by go_grown⟩

set_option maxHeartbeats 400000 in
theorem bodyOf_0 (r : RuleI) (h : ¬ (1 ≤ r.k ∧ r.k ≤ 4)) (w : World) :
    Calls Try.prog 71 #[.agg #[.int .i64 r.k, .int .i64 r.ho, .int .i64 r.hn, .int .i64 r.w, .int .i64 r.oo, .int .i64 r.on, .int .i64 r.to, .int .i64 r.tn]] w fun e w' =>
      e = .returned .nilIface ∧ Below w.heap.size w w' := by
  have h1 : (r.k == 1) = false := by simp; omega
  have h2 : (r.k == 2) = false := by simp; omega
  have h3 : (r.k == 3) = false := by simp; omega
  have h4 : (r.k == 4) = false := by simp; omega
  clear h
  go_enter Try.func71, Try.ntmps71
  go_wp2
  go_ret
  exact ⟨rfl, by go_grown⟩

theorem bcell2 {W w1 : World} (hb : Below W.heap.size W w1) : (∀ b o, b < W.heap.size → w1.cell? ⟨b, o, none⟩ = W.cell? ⟨b, o, none⟩) ∧ (∀ b o, b < W.heap.size → w1.frozen? ⟨b, o, none⟩ = W.frozen? ⟨b, o, none⟩) :=
  ⟨fun b o h => hb.cell (p := ⟨b, o, none⟩) h, fun b o h => hb.frozen (p := ⟨b, o, none⟩) h⟩

/-! The type switch: which body it is. -/
theorem ta11 (cs : Array Value) (w : World) : (Instr.typeAssert (.iface 161 (.agg cs)) 106 161 true).run Try.prog w = .ok (.tuple #[.agg cs, .bool true]) w := by kernel_rfl
theorem ta12 (cs : Array Value) (w : World) : (Instr.typeAssert (.iface 161 (.agg cs)) 106 163 true).run Try.prog w = .ok (.tuple #[.agg #[.int .i64 0, .int .i64 0], .bool false]) w := by kernel_rfl
theorem ta13 (cs : Array Value) (w : World) : (Instr.typeAssert (.iface 161 (.agg cs)) 106 165 true).run Try.prog w = .ok (.tuple #[.agg #[.int .i64 0, .int .i64 0, .int .i64 0], .bool false]) w := by kernel_rfl
theorem ta14 (cs : Array Value) (w : World) : (Instr.typeAssert (.iface 161 (.agg cs)) 106 167 true).run Try.prog w = .ok (.tuple #[.agg #[.int .i64 0, .int .i64 0, .int .i64 0, .int .i64 0], .bool false]) w := by kernel_rfl
theorem ta21 (cs : Array Value) (w : World) : (Instr.typeAssert (.iface 163 (.agg cs)) 106 161 true).run Try.prog w = .ok (.tuple #[.agg #[.int .i64 0], .bool false]) w := by kernel_rfl
theorem ta22 (cs : Array Value) (w : World) : (Instr.typeAssert (.iface 163 (.agg cs)) 106 163 true).run Try.prog w = .ok (.tuple #[.agg cs, .bool true]) w := by kernel_rfl
theorem ta23 (cs : Array Value) (w : World) : (Instr.typeAssert (.iface 163 (.agg cs)) 106 165 true).run Try.prog w = .ok (.tuple #[.agg #[.int .i64 0, .int .i64 0, .int .i64 0], .bool false]) w := by kernel_rfl
theorem ta24 (cs : Array Value) (w : World) : (Instr.typeAssert (.iface 163 (.agg cs)) 106 167 true).run Try.prog w = .ok (.tuple #[.agg #[.int .i64 0, .int .i64 0, .int .i64 0, .int .i64 0], .bool false]) w := by kernel_rfl
theorem ta31 (cs : Array Value) (w : World) : (Instr.typeAssert (.iface 165 (.agg cs)) 106 161 true).run Try.prog w = .ok (.tuple #[.agg #[.int .i64 0], .bool false]) w := by kernel_rfl
theorem ta32 (cs : Array Value) (w : World) : (Instr.typeAssert (.iface 165 (.agg cs)) 106 163 true).run Try.prog w = .ok (.tuple #[.agg #[.int .i64 0, .int .i64 0], .bool false]) w := by kernel_rfl
theorem ta33 (cs : Array Value) (w : World) : (Instr.typeAssert (.iface 165 (.agg cs)) 106 165 true).run Try.prog w = .ok (.tuple #[.agg cs, .bool true]) w := by kernel_rfl
theorem ta34 (cs : Array Value) (w : World) : (Instr.typeAssert (.iface 165 (.agg cs)) 106 167 true).run Try.prog w = .ok (.tuple #[.agg #[.int .i64 0, .int .i64 0, .int .i64 0, .int .i64 0], .bool false]) w := by kernel_rfl
theorem ta41 (cs : Array Value) (w : World) : (Instr.typeAssert (.iface 167 (.agg cs)) 106 161 true).run Try.prog w = .ok (.tuple #[.agg #[.int .i64 0], .bool false]) w := by kernel_rfl
theorem ta42 (cs : Array Value) (w : World) : (Instr.typeAssert (.iface 167 (.agg cs)) 106 163 true).run Try.prog w = .ok (.tuple #[.agg #[.int .i64 0, .int .i64 0], .bool false]) w := by kernel_rfl
theorem ta43 (cs : Array Value) (w : World) : (Instr.typeAssert (.iface 167 (.agg cs)) 106 165 true).run Try.prog w = .ok (.tuple #[.agg #[.int .i64 0, .int .i64 0, .int .i64 0], .bool false]) w := by kernel_rfl
theorem ta44 (cs : Array Value) (w : World) : (Instr.typeAssert (.iface 167 (.agg cs)) 106 167 true).run Try.prog w = .ok (.tuple #[.agg cs, .bool true]) w := by kernel_rfl
theorem below_new3 {w w1 : World} {o1 o2 o3 : Obj} (h : Below (((w.alloc o1).alloc o2).alloc o3).heap.size (((w.alloc o1).alloc o2).alloc o3) w1) : Below w.heap.size w w1 := below_new (below_new (below_new h))

end Go.Proofs.Ytdooocjjohdpjaa

namespace Go.Proofs.Ytdooocjjohdpjaa
open Go.RowKit Go.Maps
set_option linter.unusedVariables false
set_option linter.unusedSimpArgs false

attribute [local go_sem] ta11 ta12 ta13 ta14 ta21 ta22 ta23 ta24 ta31 ta32 ta33 ta34 ta41 ta42 ta43 ta44

theorem look_gm (w : World) {ops : Array Oper} {rest : List Oper} {o : Oper} {a : Act} {Q : Exit → Act → World → Prop} (hg : o.guard = none) (m x : Operand) (hop : o.op = Op.lookup 87 m x false)
    (b : Nat) (f : RoI → Int) (r : RoI) (hm : a.eval m = .map (some b)) (hx : a.eval x = .agg #[.int .i64 r.1, .int .i64 r.2]) {w1 : World} (hG : GM w1 b f) (hB : Below w1.heap.size w1 w) (hr : roW r)
    (hK : wpList Try.prog ops Q rest (a.put o.dst (.int .u8 (f r))) w) : wpList Try.prog ops Q (o :: rest) a w := by
  refine wpList_plain hg fun K' hK' => ?_
  have hrun := gm_look (hG.below hG.lt hB) hr
  unfold Oper.wp
  simp only [roV] at hrun
  simp [execOp, hop, hm, hx, hrun, Result.andThen]
  exact hK' _ _ hK

theorem bn_new {w w1 : World} {o : Obj} (h : Below (w.alloc o).heap.size (w.alloc o) w1) : Below w.heap.size w w1 := ((Below.refl _ _).alloc (Nat.le_refl _) _).trans (h.mono (by simp))

theorem rule_has {r : RuleI} (h : ruleCode r = 0) : 1 ≤ r.k ∧ r.k ≤ 4 ∧ roleB r.ho r.hn = true ∧ hasB r = true := by
  unfold ruleCode at h
  split at h
  · cases h
  · rename_i h1
    split at h
    · cases h
    · rename_i h2
      split at h
      · cases h
      · split at h
        · cases h
        · rename_i h4
          exact ⟨by omega, by omega, by simpa using h2, by simpa using h4⟩


set_option maxRecDepth 100000 in
set_option maxHeartbeats 400000 in
theorem told_1 (b : Nat) (f : RoI → Int) (r : RuleI) (w : World) (h : GM w b f) (hc : ruleCode r = 0) (e1 : r.k = 1) :
    Calls Try.prog 107 #[.map (some b), .agg #[.int .i64 r.k, .int .i64 r.ho, .int .i64 r.hn, .int .i64 r.w, .int .i64 r.oo, .int .i64 r.on, .int .i64 r.to, .int .i64 r.tn]] w fun e w' => e = .returned (.int .u8 (byF f r)) ∧ Below w.heap.size w w' := by
  have hh := (rule_has hc).2.2.2
  have hp : 1 ≤ r.w ∧ r.w ≤ 8 := by simpa [hasB, e1, prinB] using hh
  have eb : byF f r = bitI r.w := by simp [byF, e1]
  rw [eb]
  have E1 : Hid _ := e1
  clear hh eb hc e1
  go_enter Try.func107, Try.ntmps107
  go_wp2_with (first | (go_at_call 71; refine (bodyOf_1 r E1.out _).mono ?_; rintro e w1 ⟨rfl, hb0⟩; have hb := bn_new hb0; clear hb0) | (go_at_call 141; refine (bitOf_c r.w hp.1 hp.2 _).mono ?_; rintro e w2 ⟨rfl, rfl⟩) | go_in)
  go_ret
  exact ⟨rfl, hb.alloc hb.size _⟩

set_option maxRecDepth 100000 in
set_option maxHeartbeats 400000 in
theorem told_2 (b : Nat) (f : RoI → Int) (r : RuleI) (w : World) (h : GM w b f) (hc : ruleCode r = 0) (e1 : r.k = 2) :
    Calls Try.prog 107 #[.map (some b), .agg #[.int .i64 r.k, .int .i64 r.ho, .int .i64 r.hn, .int .i64 r.w, .int .i64 r.oo, .int .i64 r.on, .int .i64 r.to, .int .i64 r.tn]] w fun e w' => e = .returned (.int .u8 (byF f r)) ∧ Below w.heap.size w w' := by
  have hh := (rule_has hc).2.2.2
  have hp : roleB r.oo r.on = true := by simpa [hasB, e1] using hh
  have eb : byF f r = f (r.oo, r.on) := by simp [byF, e1]
  rw [eb]
  have E1 : Hid _ := e1
  clear hh eb hc e1
  go_enter Try.func107, Try.ntmps107
  go_wp2_with (first | (go_at_call 71; refine (bodyOf_2 r E1.out _).mono ?_; rintro e w1 ⟨rfl, hb0⟩; have hb := bn_new hb0; clear hb0) | (at_lookup; refine look_gm _ rfl _ _ rfl b f (r.oo, r.on) rfl rfl h (hb.alloc hb.size _) (roW_of hp) ?_) | go_in)
  go_ret
  exact ⟨rfl, hb.alloc hb.size _⟩


set_option maxRecDepth 100000 in
set_option maxHeartbeats 400000 in
theorem told_3 (b : Nat) (f : RoI → Int) (r : RuleI) (w : World) (h : GM w b f) (hc : ruleCode r = 0) (e1 : r.k = 3) :
    Calls Try.prog 107 #[.map (some b), .agg #[.int .i64 r.k, .int .i64 r.ho, .int .i64 r.hn, .int .i64 r.w, .int .i64 r.oo, .int .i64 r.on, .int .i64 r.to, .int .i64 r.tn]] w fun e w' => e = .returned (.int .u8 (byF f r)) ∧ Below w.heap.size w w' := by
  have hh := (rule_has hc).2.2.2
  have hp : roleB r.oo r.on = true ∧ 1 ≤ r.tn ∧ r.tn ≤ 5 := by simpa [hasB, e1, nameB] using hh
  have eb : byF f r = linkTo f r.tn (listTo (f (r.oo, r.on)) 8) (listTo (f (r.oo, r.on)) 8).length := by simp [byF, e1]
  rw [eb]
  have E1 : Hid _ := e1
  clear hh eb hc e1
  go_enter Try.func107, Try.ntmps107
  go_wp2_with (first | (go_at_call 71; refine (bodyOf_3 r E1.out _).mono ?_; rintro e w1 ⟨rfl, hb0⟩; have hb := bn_new hb0; clear hb0) | go_in)
  have hB1 := hb.alloc hb.size (.cells #[.int .i64 r.oo, .int .i64 r.on, .int .i64 r.tn] 165)
  have hG1 := h.below h.lt hB1
  have hl := gm_look (w := (w1.alloc (.cells #[.int .i64 r.oo, .int .i64 r.on, .int .i64 r.tn] 165)).drew) (gm_heap hG1 rfl) (roW_of (r := (r.oo, r.on)) hp.1)
  simp only [roV] at hl
  have HG : Hid (GM (w1.alloc (.cells #[.int .i64 r.oo, .int .i64 r.on, .int .i64 r.tn] 165)).drew b f) := gm_heap hG1 rfl
  have HB : Hid (Below w.heap.size w (w1.alloc (.cells #[.int .i64 r.oo, .int .i64 r.on, .int .i64 r.tn] 165)).drew) := hB1.drew
  have HS : Hid (setB (f (r.oo, r.on))) := h.fn.st _
  clear hB1 hG1 h hb
  go_region_with (first | (go_at_call 142; refine (linked_c b f (f (r.oo, r.on)) r.tn _ HG.out HS.out hp.2.1 hp.2.2).mono ?_; rintro e w2 ⟨rfl, hb2⟩))
  all_goals go_wp2
  all_goals go_ret
  all_goals exact ⟨rfl, HB.out.trans (hb2.mono HB.out.size)⟩

set_option maxRecDepth 100000 in
set_option maxHeartbeats 400000 in
theorem told_4 (b : Nat) (f : RoI → Int) (r : RuleI) (w : World) (h : GM w b f) (hc : ruleCode r = 0) (e1 : r.k = 4) :
    Calls Try.prog 107 #[.map (some b), .agg #[.int .i64 r.k, .int .i64 r.ho, .int .i64 r.hn, .int .i64 r.w, .int .i64 r.oo, .int .i64 r.on, .int .i64 r.to, .int .i64 r.tn]] w fun e w' => e = .returned (.int .u8 (byF f r)) ∧ Below w.heap.size w w' := by
  have hh := (rule_has hc).2.2.2
  have hp : roleB r.oo r.on = true ∧ roleB r.to r.tn = true := by simpa [hasB, e1] using hh
  have eb : byF f r = bits .and .u8 (f (r.oo, r.on)) (f (r.to, r.tn)) := by simp [byF, e1, u8_and _ _ (h.fn.st _) (h.fn.st _)]
  rw [eb]
  have E1 : Hid _ := e1
  clear hh eb hc e1
  go_enter Try.func107, Try.ntmps107
  go_wp2_with (first | (go_at_call 71; refine (bodyOf_4 r E1.out _).mono ?_; rintro e w1 ⟨rfl, hb0⟩; have hb := bn_new hb0; clear hb0) | go_in)
  have hB1 := hb.alloc hb.size (.cells #[.int .i64 r.oo, .int .i64 r.on, .int .i64 r.to, .int .i64 r.tn] 167)
  have hG1 := h.below h.lt hB1
  have hl1 := fun m => gm_look (w := (w1.alloc (.cells #[.int .i64 r.oo, .int .i64 r.on, .int .i64 r.to, .int .i64 r.tn] 167)).drewN m) (gm_heap hG1 rfl) (roW_of (r := (r.oo, r.on)) hp.1)
  have hl2 := fun m => gm_look (w := (w1.alloc (.cells #[.int .i64 r.oo, .int .i64 r.on, .int .i64 r.to, .int .i64 r.tn] 167)).drewN m) (gm_heap hG1 rfl) (roW_of (r := (r.to, r.tn)) hp.2)
  simp only [roV] at hl1 hl2
  have HB : Hid (Below w.heap.size w (w1.alloc (.cells #[.int .i64 r.oo, .int .i64 r.on, .int .i64 r.to, .int .i64 r.tn] 167))) := hB1
  clear hB1 hG1 h hb
  go_quiet (fail)
  go_wp2
  go_ret
  exact ⟨rfl, bdN HB.out _⟩

end Go.Proofs.Ytdooocjjohdpjaa

namespace Go.Proofs.Ytdooocjjohdpjaa
open Go.RowKit
set_option linter.unusedVariables false
set_option linter.unusedSimpArgs false

/-- The same members. -/
def SameM (ys : List RoI) (xs : List RoI) : Prop := ∀ x, x ∈ ys ↔ x ∈ xs

theorem SameM.put {ys zs xs : List RoI} {r : RoI} (h : SameM zs xs) (k : ∀ x, x ∈ ys ↔ x = r ∨ x ∈ zs) : SameM ys (xs ++ [r]) := fun x => by
  rw [k x, h x, List.mem_append]
  simp
  constructor
  · rintro (h | h)
    · exact .inr h
    · exact .inl h
  · rintro (h | h)
    · exact .inr h
    · exact .inl h

/-- What stands while the roles are gathered. -/
structure PutS (w wr : World) (v : Value) (xs : List RoI) : Prop where
  ex : ∃ (g m cap : Nat) (ys : List RoI), v = .slice (some ⟨g, 0, none⟩) m cap ∧ m = ys.length ∧ m ≤ xs.length ∧ Owns2 wr w.heap.size (.slice (some ⟨g, 0, none⟩) m cap) ys ∧ SS ys ∧ SameM ys xs
  bel : Below w.heap.size w wr

set_option maxHeartbeats 400000 in
theorem put_s (w wr : World) (v : Value) (xs : List RoI) (r : RoI) (h : PutS w wr v xs) (hx : xs.length ≤ 900) :
    Calls Try.prog 126 #[v, .agg #[.int .i64 r.1, .int .i64 r.2]] wr fun e w' => ∃ v', e = .returned v' ∧ PutS w w' v' (xs ++ [r]) ∧ Below wr.heap.size wr w' := by
  obtain ⟨⟨g, m, cap, ys, rfl, hm, hmx, hown, hss, hsm⟩, hb⟩ := h
  refine (l2Put_c w.heap.size _ m cap ys r wr hm (by omega) hown hss hb.size (by simp)).mono ?_
  rintro e w' ⟨g', m', cap', ys', rfl, h1, h2, h3, h4, h5, h6⟩
  exact ⟨_, rfl, ⟨⟨g', m', cap', ys', rfl, h1, by simp; omega, h3, h4, hsm.put h5⟩, hb.trans (h6.mono hb.size)⟩, h6⟩

set_option maxRecDepth 20000 in
set_option maxHeartbeats 2000000 in
theorem l2Roles_c (a : Option Addr) (n cap : Nat) (zs : List RuleI) (w : World) (hn : n ≤ 16) (h : RulesIn w a n zs) :
    Calls Try.prog 74 #[.slice a n cap] w fun e w' => ∃ v, e = .returned v ∧ PutS w w' v (rawTo zs n) := by
  have H : Hid (RulesIn w a n zs) := h
  have hz : Hid (zs.length = n) := h.1
  clear h
  have hn' : (n : Int) ≤ 16 := by omega
  go_enter Try.func74, Try.ntmps74
  go_wp2
  go_loopw [3, 4] (fun s i wr => ∃ (k : Nat) (v : Value), k ≤ n ∧ i = .int .i64 (k : Int) ∧ v = s ∧ PutS w wr v (rawTo zs k)) (fun _ i _ => n - (intOf i).toNat)
  case atStart => exact ⟨0, _, Nat.zero_le _, rfl, rfl, ⟨w.heap.size, 0, 0, [], rfl, rfl, Nat.zero_le _, World.ownsRow_lit w #[] 0 (Nat.le_refl _) (Nat.zero_le _) rfl, List.Pairwise.nil, fun x => by simp [rawTo]⟩, (Below.refl _ _).alloc (Nat.le_refl _) _⟩
  case round =>
    obtain ⟨k, v, hk, rfl, rfl, hp⟩ := hrel
    have HP : Hid (PutS w wr v (rawTo zs k)) := hp
    have hlen := rawTo_len zs k
    clear hp
    by_cases hlt : k < n
    · obtain ⟨b, off, r, rfl, hs, hr⟩ := H.out.at hlt
      have HN : Hid (rawTo zs (k + 1) = rawTo zs k ++ rawR r) := rawTo_succ hs
      have HR : Hid (RuleAt w b (off + k * 8) r) := hr
      clear hs hr
      have hlt' : (k : Int) < (n : Int) := by omega
      obtain ⟨h0, h1, h2, h3, h4, h5, h6, h7⟩ := HR.out.below HP.out.bel
      by_cases k1 : r.k = 1
      · have b1 : (r.k != 1) = false := by simp [k1]
        have b4 : (r.k == 4) = false := by simp [k1]
        have HE : Hid (rawR r = [(r.ho, r.hn)]) := by show rawR r = _; simp [rawR, bodyR, k1]
        clear k1
        go_wp2_with fail
        refine (put_s w wr v _ (r.ho, r.hn) HP.out (by omega)).mono ?_
        rintro e w1 ⟨v1, rfl, hp1, hb1⟩
        have HP1 : Hid (PutS w w1 v1 (rawTo zs k ++ [(r.ho, r.hn)])) := hp1
        clear hp1 hb1 h0 h1 h2 h3 h4 h5 h6 h7
        obtain ⟨h0, h1, h2, h3, h4, h5, h6, h7⟩ := HR.out.below HP1.out.bel
        go_wp2
        refine ⟨⟨k + 1, _, by omega, by go_num, rfl, ?_⟩, by simp [intOf]; omega⟩
        rw [HN.out, HE.out]
        exact HP1.out
      · have b1 : (r.k != 1) = true := by simp [k1]
        by_cases k4 : r.k = 4
        · have b4 : (r.k == 4) = true := by simp [k4]
          have HE : Hid (rawR r = [(r.ho, r.hn), (r.oo, r.on), (r.to, r.tn)]) := by show rawR r = _; simp [rawR, bodyR, k4]
          clear k1 k4
          go_wp2_with fail
          refine (put_s w wr v _ (r.ho, r.hn) HP.out (by omega)).mono ?_
          rintro e w1 ⟨v1, rfl, hp1, hb1⟩
          have HP1 : Hid (PutS w w1 v1 (rawTo zs k ++ [(r.ho, r.hn)])) := hp1
          clear hp1 hb1 h0 h1 h2 h3 h4 h5 h6 h7
          obtain ⟨h0, h1, h2, h3, h4, h5, h6, h7⟩ := HR.out.below HP1.out.bel
          go_wp2_with fail
          refine (put_s w w1 v1 _ (r.oo, r.on) HP1.out (by simp; omega)).mono ?_
          rintro e w2 ⟨v2, rfl, hp2, hb2⟩
          have HP2 : Hid (PutS w w2 v2 (rawTo zs k ++ [(r.ho, r.hn)] ++ [(r.oo, r.on)])) := hp2
          clear hp2 hb2 h0 h1 h2 h3 h4 h5 h6 h7
          obtain ⟨h0, h1, h2, h3, h4, h5, h6, h7⟩ := HR.out.below HP2.out.bel
          go_wp2_with fail
          refine (put_s w w2 v2 _ (r.to, r.tn) HP2.out (by simp; omega)).mono ?_
          rintro e w3 ⟨v3, rfl, hp3, hb3⟩
          have HP3 : Hid (PutS w w3 v3 (rawTo zs k ++ [(r.ho, r.hn)] ++ [(r.oo, r.on)] ++ [(r.to, r.tn)])) := hp3
          clear hp3 hb3 h0 h1 h2 h3 h4 h5 h6 h7
          go_wp2
          refine ⟨⟨k + 1, _, by omega, by go_num, rfl, ?_⟩, by simp [intOf]; omega⟩
          rw [HN.out, HE.out]
          simpa using HP3.out
        · have b4 : (r.k == 4) = false := by simp [k4]
          have HE : Hid (rawR r = [(r.ho, r.hn), (r.oo, r.on)]) := by show rawR r = _; simp [rawR, bodyR, k4, k1]
          clear k1 k4
          go_wp2_with fail
          refine (put_s w wr v _ (r.ho, r.hn) HP.out (by omega)).mono ?_
          rintro e w1 ⟨v1, rfl, hp1, hb1⟩
          have HP1 : Hid (PutS w w1 v1 (rawTo zs k ++ [(r.ho, r.hn)])) := hp1
          clear hp1 hb1 h0 h1 h2 h3 h4 h5 h6 h7
          obtain ⟨h0, h1, h2, h3, h4, h5, h6, h7⟩ := HR.out.below HP1.out.bel
          go_wp2_with fail
          refine (put_s w w1 v1 _ (r.oo, r.on) HP1.out (by simp; omega)).mono ?_
          rintro e w2 ⟨v2, rfl, hp2, hb2⟩
          have HP2 : Hid (PutS w w2 v2 (rawTo zs k ++ [(r.ho, r.hn)] ++ [(r.oo, r.on)])) := hp2
          clear hp2 hb2 h0 h1 h2 h3 h4 h5 h6 h7
          obtain ⟨h0, h1, h2, h3, h4, h5, h6, h7⟩ := HR.out.below HP2.out.bel
          go_wp2
          refine ⟨⟨k + 1, _, by omega, by go_num, rfl, ?_⟩, by simp [intOf]; omega⟩
          rw [HN.out, HE.out]
          simpa using HP2.out
    · have hkn : k = n := by omega
      subst hkn
      go_wp2
      go_ret
      exact ⟨_, rfl, HP.out⟩

/-- What a call of RolesIn gives: a code, or the roles, strictly rising, in memory of their own. -/
def GivesR (f : Nat) (a : Option Addr) (n cap : Nat) (c : Int) (ys : List RoI) (w : World) : Prop := Calls Try.prog f #[.slice a n cap] w fun e w' => ∃ (a' : Option Addr) (cap' : Nat), e = .returned (.agg #[.int .i64 c, .slice a' ys.length cap']) ∧ Owns2 w' w.heap.size (.slice a' ys.length cap') ys ∧ Below w.heap.size w w'

set_option maxHeartbeats 1000000 in
theorem specRolesIn_bad (a : Option Addr) (n cap : Nat) (zs : List RuleI) (c : Int) (w : World) (hn : n ≤ 1048576) (h : RulesIn w a n zs) (hc : polCode zs = c) (h0 : c ≠ 0) : GivesR 26 a n cap c [] w := by
  have H : Hid (RulesIn (w.alloc (.cells #[.int .i64 0, .slice none 0 0] 47)) a n zs) := h.below ((Below.refl _ _).alloc (Nat.le_refl _) _)
  have HC : Hid (polCode zs = c) := hc
  clear h hc
  have hcn : (c != 0) = true := by simpa using h0
  unfold GivesR
  go_enter Try.func26, Try.ntmps26
  go_wp2_with fail
  refine (l2Fault_c a n cap zs _ hn H.out).mono ?_
  rintro e w1 ⟨rfl, hb1⟩
  rw [HC.out]
  have hBx : Below w.heap.size w w1 := below_new hb1
  have hw : w.heap.size < w1.heap.size := by have := hb1.size; simp only [World.size_alloc] at this; omega
  have c0 : w1.cell? ⟨w.heap.size, 0, none⟩ = some (.int .i64 0) := (hb1.cell (p := ⟨w.heap.size, 0, none⟩) (by simp)).trans (by simp)
  have c1 : w1.cell? ⟨w.heap.size, 1, none⟩ = some (.slice none 0 0) := (hb1.cell (p := ⟨w.heap.size, 1, none⟩) (by simp)).trans (by simp)
  have f0 : w1.frozen? ⟨w.heap.size, 0, none⟩ = false := (hb1.frozen (p := ⟨w.heap.size, 0, none⟩) (by simp)).trans (by simp [go_sem])
  have f1 : w1.frozen? ⟨w.heap.size, 1, none⟩ = false := (hb1.frozen (p := ⟨w.heap.size, 1, none⟩) (by simp)).trans (by simp [go_sem])
  clear hb1
  go_wp2
  refine bodyPost_ret (v := .agg #[.int .i64 c, .slice none 0 0]) (by simp [results, Try.results26, go_sem, c0, c1, hw]) rfl ⟨none, 0, rfl, World.ownsRow_nil _ _ _ _, ?_⟩
  exact hBx |>.setCell (Nat.le_refl _) _ |>.setCell (Nat.le_refl _) _

set_option maxHeartbeats 1000000 in
theorem specRolesIn_ok (a : Option Addr) (n cap : Nat) (zs : List RuleI) (w : World) (h : RulesIn w a n zs) (hc : polCode zs = 0) :
    Calls Try.prog 26 #[.slice a n cap] w fun e w' => ∃ (ys : List RoI) (a' : Option Addr) (cap' : Nat), SS ys ∧ SameM ys (rawTo zs n) ∧ e = .returned (.agg #[.int .i64 0, .slice a' ys.length cap']) ∧ Owns2 w' w.heap.size (.slice a' ys.length cap') ys ∧ Below w.heap.size w w' := by
  have hn : n ≤ 16 := by
    have := h.1
    unfold polCode at hc
    split at hc
    · simp at hc
    · omega
  have H : Hid (RulesIn (w.alloc (.cells #[.int .i64 0, .slice none 0 0] 47)) a n zs) := h.below ((Below.refl _ _).alloc (Nat.le_refl _) _)
  have HC : Hid (polCode zs = 0) := hc
  clear h hc
  go_enter Try.func26, Try.ntmps26
  go_wp2_with fail
  refine (l2Fault_c a n cap zs _ (by omega) H.out).mono ?_
  rintro e w1 ⟨rfl, hb1⟩
  rw [HC.out]
  have HX : Hid (RulesIn w1 a n zs) := H.out.below hb1
  have B1 : Hid (Below (w.alloc (.cells #[.int .i64 0, .slice none 0 0] 47)).heap.size (w.alloc (.cells #[.int .i64 0, .slice none 0 0] 47)) w1) := hb1
  clear hb1
  go_wp2_with fail
  refine (l2Roles_c a n cap zs w1 hn HX.out).mono ?_
  rintro e w2 ⟨v, rfl, hp⟩
  obtain ⟨⟨g, m, cap', ys, rfl, h1, h2, h3, h4, h5⟩, hb2⟩ := hp
  have hz1 := B1.out.size
  have hz2 := hb2.size
  simp only [World.size_alloc] at hz1
  have B2 : Below (w.alloc (.cells #[.int .i64 0, .slice none 0 0] 47)).heap.size (w.alloc (.cells #[.int .i64 0, .slice none 0 0] 47)) w2 := B1.out.trans (hb2.mono (by simp; omega))
  have hBx : Below w.heap.size w w2 := below_new B2
  have hw : w.heap.size < w2.heap.size := by omega
  have c0 : w2.cell? ⟨w.heap.size, 0, none⟩ = some (.int .i64 0) := (B2.cell (p := ⟨w.heap.size, 0, none⟩) (by simp)).trans (by simp)
  have c1 : w2.cell? ⟨w.heap.size, 1, none⟩ = some (.slice none 0 0) := (B2.cell (p := ⟨w.heap.size, 1, none⟩) (by simp)).trans (by simp)
  have f0 : w2.frozen? ⟨w.heap.size, 0, none⟩ = false := (B2.frozen (p := ⟨w.heap.size, 0, none⟩) (by simp)).trans (by simp [go_sem])
  have f1 : w2.frozen? ⟨w.heap.size, 1, none⟩ = false := (B2.frozen (p := ⟨w.heap.size, 1, none⟩) (by simp)).trans (by simp [go_sem])
  have HF : Hid (m = ys.length ∧ Owns2 w2 w1.heap.size (.slice (some ⟨g, 0, none⟩) m cap') ys ∧ SS ys ∧ SameM ys (rawTo zs n)) := ⟨h1, h3, h4, h5⟩
  clear B2 hb2 h1 h2 h3 h4 h5 B1
  go_wp2
  obtain ⟨h1, h3, h4, h5⟩ := HF.out
  subst h1
  refine bodyPost_ret (v := .agg #[.int .i64 0, .slice (some ⟨g, 0, none⟩) ys.length cap']) (by simp [results, Try.results26, go_sem, c0, c1, hw]) rfl ⟨ys, some ⟨g, 0, none⟩, cap', h4, h5, rfl, ?_, ?_⟩
  · have h6 : Owns2 w2 (w.heap.size + 1) (.slice (some ⟨g, 0, none⟩) ys.length cap') ys := owns_lower h3 (by omega)
    have h7 := ownsRow_setCell_below (ownsRow_setCell_below h6 (a := ⟨w.heap.size, 0, none⟩) (by simp) (.int .i64 0)) (a := ⟨w.heap.size, 1, none⟩) (by simp) (.slice (some ⟨g, 0, none⟩) ys.length cap')
    exact owns_lower h7 (by omega)
  · exact hBx |>.setCell (Nat.le_refl _) _ |>.setCell (Nat.le_refl _) _

end Go.Proofs.Ytdooocjjohdpjaa
