/-
  CONTRACTS: spec.l3Same, and spec.l3All, all that follows from the rules.
  Conditions: each contract bears its own.
  CONTRACTS on rules in impl: bodyOf; the type switch.
  Conditions: each contract bears its own.
  CONTRACT: (impl.grantMap).told: whom a rule gives its head, by what is in the map.
  Conditions: each contract bears its own.
  CONTRACTS: spec.l2Roles, spec.RolesIn.
  Conditions: each contract bears its own.
-/
import Derived.Test.YtnfolmjdicfobaaGreatDoorPl08
import Derived.Test.YtnfolmjdicfobaaGreatDoorPl01
import Derived.Test.YtnfolmjdicfobaaGreatDoorPl14
import Derived.Deep.RegionHeld3
import Derived.Deep.RegionWith
import Derived.Test.YtnfolmjdicfobaaGreatDoorPl05
import Derived.Test.YtnfolmjdicfobaaGreatDoorPl04
namespace Go.Proofs.YtnfolmjdicfobaaGreatDoor
open Go.RowKit
set_option linter.unusedVariables false
set_option linter.unusedSimpArgs false

def eqGr (p q : GrI) : Bool := p.1.1 == q.1.1 && p.1.2 == q.1.2 && p.2 == q.2
theorem eqGr_iff (p q : GrI) : eqGr p q = true ↔ p = q := by
  obtain ⟨⟨a, b⟩, c⟩ := p
  obtain ⟨⟨d, e⟩, f⟩ := q
  simp [eqGr, and_assoc]

set_option maxHeartbeats 400000 in
theorem gr_neq (p q : GrI) (w : World) : (binOp .neq 196 (.agg #[.int .i64 p.1.1, .int .i64 p.1.2, .int .i64 p.2]) (.agg #[.int .i64 q.1.1, .int .i64 q.1.2, .int .i64 q.2])).run Tryz.prog w = .ok (.bool (!eqGr p q)) w := by
  obtain ⟨⟨a0, a1⟩, a2⟩ := p
  obtain ⟨⟨b0, b1⟩, b2⟩ := q
  simp only [eqGr]
  cases e0 : (a0 == b0)
  · simp [go_sem, e0]
  cases e1 : (a1 == b1)
  · simp [go_sem, e0, e1]
  cases e2 : (a2 == b2)
  · simp [go_sem, e0, e1, e2]
  · simp [go_sem, e0, e1, e2]

attribute [local go_sem ↓] gr_neq

theorem bd0 (w : World) (m : Nat) : Below w.heap.size w (w.drewN m) := bdN (Below.refl _ _) _

set_option maxHeartbeats 1000000 in
theorem l3Same_c (a b : Option Addr) (n m c d : Nat) (xs ys : List GrI) (w : World) (hx : GrIn w a n xs) (hy : GrIn w b m ys) (hn : n ≤ 1000) (hm : m ≤ 1000) :
    Calls Tryz.prog 145 #[.slice a n c, .slice b m d] w fun e w' => e = .returned (.bool (decide (xs = ys))) ∧ Below w.heap.size w w' := by
  have HX : Hid (GrIn w a n xs) := hx
  have HY : Hid (GrIn w b m ys) := hy
  clear hx hy
  have hn' : (n : Int) ≤ 1000 := by omega
  have hm' : (m : Int) ≤ 1000 := by omega
  by_cases hnm : n = m
  · subst hnm
    go_enter Tryz.func145, Tryz.ntmps145
    go_wp2
    go_loopw [5] (fun i wr => ∃ k : Nat, k ≤ n ∧ i = .int .i64 (k : Int) ∧ xs.take k = ys.take k ∧ ∃ q, wr = w.drewN q) (fun i _ => n - (intOf i).toNat)
    case atStart => exact ⟨0, Nat.zero_le _, rfl, by simp, 0, rfl⟩
    case round =>
      obtain ⟨k, hk, rfl, htk, q, rfl⟩ := hrel
      have HT : Hid (xs.take k = ys.take k) := htk
      clear htk
      by_cases hlt : k < n
      · obtain ⟨b1, o1, x, e1, hx1, ⟨c0, c1, c2⟩, _⟩ := HX.out.at hlt
        obtain ⟨b2, o2, y, e2, hy1, ⟨d0, d1, d2⟩, _⟩ := HY.out.at hlt
        subst e1 e2
        have hkx : k < xs.length := by rw [HX.out.1]; exact hlt
        have hky : k < ys.length := by rw [HY.out.1]; exact hlt
        have ex : xs[k] = x := by rw [List.getElem?_eq_getElem hkx] at hx1; exact Option.some.inj hx1
        have ey : ys[k] = y := by rw [List.getElem?_eq_getElem hky] at hy1; exact Option.some.inj hy1
        have hlt' : (k : Int) < (n : Int) := by omega
        cases he : eqGr x y
        · have HN : Hid (decide (xs = ys) = false) := by
            show decide (xs = ys) = false
            refine decide_eq_false (fun e => ?_)
            subst e
            have : x = y := by rw [← ex, ← ey]
            rw [(eqGr_iff _ _).2 this] at he
            cases he
          clear ex ey hx1 hy1 hkx hky
          go_wp2
          go_quiet (fail)
          go_wp2
          go_ret
          exact ⟨by rw [HN.out]; rfl, bdN (bd0 _ _) _⟩
        · have HN : Hid (xs.take (k + 1) = ys.take (k + 1)) := by
            show xs.take (k + 1) = ys.take (k + 1)
            rw [List.take_succ_eq_append_getElem hkx, List.take_succ_eq_append_getElem hky, HT.out, ex, ey, (eqGr_iff _ _).1 he]
          clear ex ey hx1 hy1 hkx hky
          go_wp2
          go_quiet (fail)
          go_wp2
          exact ⟨⟨k + 1, by omega, by go_num, HN.out, _, rfl⟩, by simp [intOf]; omega⟩
      · have hkn : k = n := by omega
        subst hkn
        have HE : Hid (decide (xs = ys) = true) := by
          show decide (xs = ys) = true
          have h1 := HT.out
          rw [List.take_of_length_le (by rw [HX.out.1]; exact Nat.le_refl _), List.take_of_length_le (by rw [HY.out.1]; exact Nat.le_refl _)] at h1
          exact decide_eq_true h1
        go_wp2
        go_ret
        exact ⟨by rw [HE.out]; rfl, bd0 _ _⟩
  · have HN : Hid (decide (xs = ys) = false) := by
      show decide (xs = ys) = false
      refine decide_eq_false (fun e => hnm ?_)
      rw [← HX.out.1, ← HY.out.1, e]
    have hne : ((n : Int) == (m : Int)) = false := by simp; omega
    have hne2 : ((n : Int) != (m : Int)) = true := by simp; omega
    go_enter Tryz.func145, Tryz.ntmps145
    go_wp2
    go_ret
    exact ⟨by rw [HN.out]; rfl, Below.refl _ _⟩

/-- The sum of the sets of a slice of grants. -/
def sumV (w : World) : Value → Int
  | .slice (some a) n _ => ((List.range n).map (fun k => intOf ((w.cell? ⟨a.block, a.off + k * 3 + 2, none⟩).getD undef))).sum
  | _ => 0

theorem sumV_at {w : World} {b off n c : Nat} {gs : List GrI} (h : GrIn w (some ⟨b, off, none⟩) n gs) : sumV w (.slice (some ⟨b, off, none⟩) n c) = sumG gs := by
  suffices key : (List.range n).map (fun k => intOf ((w.cell? ⟨b, off + k * 3 + 2, none⟩).getD undef)) = gs.map Prod.snd by
    show ((List.range n).map (fun k => intOf ((w.cell? ⟨b, off + k * 3 + 2, none⟩).getD undef))).sum = (gs.map Prod.snd).sum
    rw [key]
  apply List.ext_getElem
  · simp [h.1]
  · intro k h1 h2
    have hk : k < n := by simpa using h1
    obtain ⟨b', off', x, e, hx, ⟨_, _, c2⟩, _⟩ := h.at hk
    cases e
    have hkx : k < gs.length := by rw [h.1]; exact hk
    have ex : gs[k] = x := by rw [List.getElem?_eq_getElem hkx] at hx; exact Option.some.inj hx
    simp [c2, ex, intOf]

set_option maxHeartbeats 1000000 in
theorem l3All_c (a : Option Addr) (m d : Nat) (zs : List RuleI) (w : World) (hr : RulesIn w a m zs) (hm : m ≤ 1000) (hz : ∀ z ∈ zs, okR z ∧ 1 ≤ z.k ∧ z.k ≤ 4) :
    Calls Tryz.prog 112 #[.slice a m d] w fun e w' => ∃ g l cap gs, e = .returned (.slice (some ⟨g, 0, none⟩) l cap) ∧ gs.length = l ∧ AllG zs gs ∧ (∃ n, gs = itG zs n) ∧ Own3 w' w.heap.size (.slice (some ⟨g, 0, none⟩) l cap) gs ∧ Below w.heap.size w w' := by
  have HR : Hid (RulesIn w a m zs) := hr
  have HZ : Hid (∀ z ∈ zs, okR z ∧ 1 ≤ z.k ∧ z.k ≤ 4) := hz
  clear hr hz
  go_enter Tryz.func112, Tryz.ntmps112
  go_wp2_with fail
  go_loopw [3] (fun v wr => ∃ k l g cap : Nat, v = .slice (some ⟨g, 0, none⟩) l cap ∧ (itG zs k).length = l ∧ Own3 wr w.heap.size (.slice (some ⟨g, 0, none⟩) l cap) (itG zs k) ∧ Below w.heap.size w wr) (fun v wr => (10200 - sumV wr v).toNat)
  case atStart => exact ⟨0, 0, w.heap.size, 0, rfl, rfl, World.ownsRow_lit w #[] 0 (Nat.le_refl _) (Nat.zero_le _) rfl, (Below.refl _ _).alloc (Nat.le_refl _) _⟩
  case round =>
    obtain ⟨k, l, g, cap, rfl, hl, hown, hnx⟩ := hrel
    have HO : Hid (Own3 wr w.heap.size (.slice (some ⟨g, 0, none⟩) l cap) (itG zs k)) := hown
    have HL : Hid ((itG zs k).length = l) := hl
    have HK : Hid (∀ z ∈ zs, okR z) := fun z h => (HZ.out z h).1
    have HM : Hid (sumV wr (.slice (some ⟨g, 0, none⟩) l cap) = sumG (itG zs k)) := sumV_at (hown.read hl)
    have hl40 : l ≤ 40 := by rw [← hl]; exact sg_len (sg_it HK.out k)
    clear hown hl
    have HST : Hid (Calls Tryz.prog 144 #[.slice a m d, .slice (some ⟨g, 0, none⟩) l cap] wr fun e w' => ∃ g' l' cap', e = .returned (.slice (some ⟨g', 0, none⟩) l' cap') ∧ (stepG zs (itG zs k)).length = l' ∧ Own3 w' wr.heap.size (.slice (some ⟨g', 0, none⟩) l' cap') (stepG zs (itG zs k)) ∧ Below wr.heap.size wr w') :=
      l3Step_c g 0 l cap (itG zs k) a m d zs wr (HO.out.read HL.out) (sg_it HK.out k) (HR.out.below hnx) hm HZ.out
    go_upto_region 3 with (first | (go_at_call 144; refine HST.out.mono ?_; rintro e w2 ⟨g2, l2, cap2, rfl, hl2, hown2, hb2⟩))
    have HL2 : Hid ((stepG zs (itG zs k)).length = l2) := hl2
    have HO2 : Hid (Own3 w2 wr.heap.size (.slice (some ⟨g2, 0, none⟩) l2 cap2) (stepG zs (itG zs k))) := hown2
    have hl240 : l2 ≤ 40 := by rw [← hl2]; exact sg_len (sg_step HK.out (sg_it HK.out k))
    clear hl2 hown2 HST
    have HSA : Hid (Calls Tryz.prog 145 #[.slice (some ⟨g2, 0, none⟩) l2 cap2, .slice (some ⟨g, 0, none⟩) l cap] w2 fun e w' => e = .returned (.bool (decide (stepG zs (itG zs k) = itG zs k))) ∧ Below w2.heap.size w2 w') :=
      l3Same_c _ _ _ _ _ _ _ _ w2 (HO2.out.read HL2.out) ((HO.out.read HL.out).below hb2) (by omega) (by omega)
    by_cases hfix : stepG zs (itG zs k) = itG zs k
    · have HF : Hid (stepG zs (itG zs k) = itG zs k) := hfix
      rw [decide_eq_true hfix] at HSA
      clear hfix
      go_wp2_with (first | (go_at_call 145; refine HSA.out.mono ?_; rintro e w3 ⟨rfl, hb3⟩))
      go_ret
      have hb : Below wr.heap.size wr w3 := hb2.trans (hb3.mono hb2.size)
      exact ⟨g, l, cap, itG zs k, rfl, HL.out, allG_it HK.out HF.out, ⟨k, rfl⟩, HO.out.below hb, hnx.trans (hb.mono hnx.size)⟩
    · have HF : Hid (sumG (itG zs k) < sumG (itG zs (k + 1)) ∧ sumG (itG zs (k + 1)) ≤ 10200) := by
        have h1 := sum_step HK.out (sg_it HK.out k)
        have h2 := (sum_le (sg_it HK.out (k + 1))).2
        have h3 : sumG (itG zs k) ≠ sumG (stepG zs (itG zs k)) := fun e => hfix (h1.2 e)
        have h4 := h1.1
        show sumG (itG zs k) < sumG (itG zs (k + 1)) ∧ sumG (itG zs (k + 1)) ≤ 10200
        simp only [itG] at h2 ⊢
        omega
      rw [decide_eq_false hfix] at HSA
      clear hfix
      go_wp2_with (first | (go_at_call 145; refine HSA.out.mono ?_; rintro e w3 ⟨rfl, hb3⟩))
      have ho3 : Own3 w3 w.heap.size (.slice (some ⟨g2, 0, none⟩) l2 cap2) (itG zs (k + 1)) := own3_lower (HO2.out.below hb3) hnx.size
      have hs3 : sumV w3 (.slice (some ⟨g2, 0, none⟩) l2 cap2) = sumG (itG zs (k + 1)) := sumV_at (ho3.read HL2.out)
      have hb : Below wr.heap.size wr w3 := hb2.trans (hb3.mono hb2.size)
      go_roundw
      case rel => exact ⟨k + 1, l2, g2, cap2, rfl, HL2.out, ho3, hnx.trans (hb.mono hnx.size)⟩
      case measure =>
        have h1 := HM.out
        have h2 := HF.out
        show (10200 - sumV w3 (.slice (some ⟨g2, 0, none⟩) l2 cap2)).toNat < (10200 - sumV wr (.slice (some ⟨g, 0, none⟩) l cap)).toNat
        rw [hs3, h1]
        omega

end Go.Proofs.YtnfolmjdicfobaaGreatDoor

namespace Go.Proofs.YtnfolmjdicfobaaGreatDoor
open Go.RowKit
set_option linter.unusedVariables false
set_option linter.unusedSimpArgs false

set_option maxHeartbeats 400000 in
theorem bodyOf_1 (r : RuleI) (h : r.k = 1) (w : World) :
    Calls Tryz.prog 118 #[.agg #[.int .i64 r.k, .int .i64 r.ho, .int .i64 r.hn, .int .i64 r.w, .int .i64 r.oo, .int .i64 r.on, .int .i64 r.to, .int .i64 r.tn]] w fun e w' =>
      e = .returned (.iface 200 (.agg #[.int .i64 r.w])) ∧ Below w.heap.size w w' := by
  go_enter Tryz.func118, Tryz.ntmps118
  go_wp2
  go_ret
  exact ⟨rfl, by go_grown⟩

set_option maxHeartbeats 400000 in
theorem bodyOf_2 (r : RuleI) (h : r.k = 2) (w : World) :
    Calls Tryz.prog 118 #[.agg #[.int .i64 r.k, .int .i64 r.ho, .int .i64 r.hn, .int .i64 r.w, .int .i64 r.oo, .int .i64 r.on, .int .i64 r.to, .int .i64 r.tn]] w fun e w' =>
      e = .returned (.iface 202 (.agg #[.int .i64 r.oo, .int .i64 r.on])) ∧ Below w.heap.size w w' := by
  go_enter Tryz.func118, Tryz.ntmps118
  go_wp2
  go_ret
  exact ⟨rfl, by go_grown⟩

set_option maxHeartbeats 400000 in
theorem bodyOf_3 (r : RuleI) (h : r.k = 3) (w : World) :
    Calls Tryz.prog 118 #[.agg #[.int .i64 r.k, .int .i64 r.ho, .int .i64 r.hn, .int .i64 r.w, .int .i64 r.oo, .int .i64 r.on, .int .i64 r.to, .int .i64 r.tn]] w fun e w' =>
      e = .returned (.iface 204 (.agg #[.int .i64 r.oo, .int .i64 r.on, .int .i64 r.tn])) ∧ Below w.heap.size w w' := by
  go_enter Tryz.func118, Tryz.ntmps118
  go_wp2
  go_ret
  exact ⟨rfl, by go_grown⟩

set_option maxHeartbeats 400000 in
theorem bodyOf_4 (r : RuleI) (h : r.k = 4) (w : World) :
    Calls Tryz.prog 118 #[.agg #[.int .i64 r.k, .int .i64 r.ho, .int .i64 r.hn, .int .i64 r.w, .int .i64 r.oo, .int .i64 r.on, .int .i64 r.to, .int .i64 r.tn]] w fun e w' =>
      e = .returned (.iface 206 (.agg #[.int .i64 r.oo, .int .i64 r.on, .int .i64 r.to, .int .i64 r.tn])) ∧ Below w.heap.size w w' := by
  go_enter Tryz.func118, Tryz.ntmps118
  go_wp2
  go_ret
  exact ⟨rfl, by go_grown⟩

set_option maxHeartbeats 400000 in
theorem bodyOf_0 (r : RuleI) (h : ¬ (1 ≤ r.k ∧ r.k ≤ 4)) (w : World) :
    Calls Tryz.prog 118 #[.agg #[.int .i64 r.k, .int .i64 r.ho, .int .i64 r.hn, .int .i64 r.w, .int .i64 r.oo, .int .i64 r.on, .int .i64 r.to, .int .i64 r.tn]] w fun e w' =>
      e = .returned .nilIface ∧ Below w.heap.size w w' := by
  have h1 : (r.k == 1) = false := by simp; omega
  have h2 : (r.k == 2) = false := by simp; omega
  have h3 : (r.k == 3) = false := by simp; omega
  have h4 : (r.k == 4) = false := by simp; omega
  clear h
  go_enter Tryz.func118, Tryz.ntmps118
  go_wp2
  go_ret
  exact ⟨rfl, by go_grown⟩

theorem bcell2 {W w1 : World} (hb : Below W.heap.size W w1) : (∀ b o, b < W.heap.size → w1.cell? ⟨b, o, none⟩ = W.cell? ⟨b, o, none⟩) ∧ (∀ b o, b < W.heap.size → w1.frozen? ⟨b, o, none⟩ = W.frozen? ⟨b, o, none⟩) :=
  ⟨fun b o h => hb.cell (p := ⟨b, o, none⟩) h, fun b o h => hb.frozen (p := ⟨b, o, none⟩) h⟩

/-! The type switch: which body it is. -/
theorem ta11 (cs : Array Value) (w : World) : (Instr.typeAssert (.iface 200 (.agg cs)) 166 200 true).run Tryz.prog w = .ok (.tuple #[.agg cs, .bool true]) w := by kernel_rfl
theorem ta12 (cs : Array Value) (w : World) : (Instr.typeAssert (.iface 200 (.agg cs)) 166 202 true).run Tryz.prog w = .ok (.tuple #[.agg #[.int .i64 0, .int .i64 0], .bool false]) w := by kernel_rfl
theorem ta13 (cs : Array Value) (w : World) : (Instr.typeAssert (.iface 200 (.agg cs)) 166 204 true).run Tryz.prog w = .ok (.tuple #[.agg #[.int .i64 0, .int .i64 0, .int .i64 0], .bool false]) w := by kernel_rfl
theorem ta14 (cs : Array Value) (w : World) : (Instr.typeAssert (.iface 200 (.agg cs)) 166 206 true).run Tryz.prog w = .ok (.tuple #[.agg #[.int .i64 0, .int .i64 0, .int .i64 0, .int .i64 0], .bool false]) w := by kernel_rfl
theorem ta21 (cs : Array Value) (w : World) : (Instr.typeAssert (.iface 202 (.agg cs)) 166 200 true).run Tryz.prog w = .ok (.tuple #[.agg #[.int .i64 0], .bool false]) w := by kernel_rfl
theorem ta22 (cs : Array Value) (w : World) : (Instr.typeAssert (.iface 202 (.agg cs)) 166 202 true).run Tryz.prog w = .ok (.tuple #[.agg cs, .bool true]) w := by kernel_rfl
theorem ta23 (cs : Array Value) (w : World) : (Instr.typeAssert (.iface 202 (.agg cs)) 166 204 true).run Tryz.prog w = .ok (.tuple #[.agg #[.int .i64 0, .int .i64 0, .int .i64 0], .bool false]) w := by kernel_rfl
theorem ta24 (cs : Array Value) (w : World) : (Instr.typeAssert (.iface 202 (.agg cs)) 166 206 true).run Tryz.prog w = .ok (.tuple #[.agg #[.int .i64 0, .int .i64 0, .int .i64 0, .int .i64 0], .bool false]) w := by kernel_rfl
theorem ta31 (cs : Array Value) (w : World) : (Instr.typeAssert (.iface 204 (.agg cs)) 166 200 true).run Tryz.prog w = .ok (.tuple #[.agg #[.int .i64 0], .bool false]) w := by kernel_rfl
theorem ta32 (cs : Array Value) (w : World) : (Instr.typeAssert (.iface 204 (.agg cs)) 166 202 true).run Tryz.prog w = .ok (.tuple #[.agg #[.int .i64 0, .int .i64 0], .bool false]) w := by kernel_rfl
theorem ta33 (cs : Array Value) (w : World) : (Instr.typeAssert (.iface 204 (.agg cs)) 166 204 true).run Tryz.prog w = .ok (.tuple #[.agg cs, .bool true]) w := by kernel_rfl
theorem ta34 (cs : Array Value) (w : World) : (Instr.typeAssert (.iface 204 (.agg cs)) 166 206 true).run Tryz.prog w = .ok (.tuple #[.agg #[.int .i64 0, .int .i64 0, .int .i64 0, .int .i64 0], .bool false]) w := by kernel_rfl
theorem ta41 (cs : Array Value) (w : World) : (Instr.typeAssert (.iface 206 (.agg cs)) 166 200 true).run Tryz.prog w = .ok (.tuple #[.agg #[.int .i64 0], .bool false]) w := by kernel_rfl
theorem ta42 (cs : Array Value) (w : World) : (Instr.typeAssert (.iface 206 (.agg cs)) 166 202 true).run Tryz.prog w = .ok (.tuple #[.agg #[.int .i64 0, .int .i64 0], .bool false]) w := by kernel_rfl
theorem ta43 (cs : Array Value) (w : World) : (Instr.typeAssert (.iface 206 (.agg cs)) 166 204 true).run Tryz.prog w = .ok (.tuple #[.agg #[.int .i64 0, .int .i64 0, .int .i64 0], .bool false]) w := by kernel_rfl
theorem ta44 (cs : Array Value) (w : World) : (Instr.typeAssert (.iface 206 (.agg cs)) 166 206 true).run Tryz.prog w = .ok (.tuple #[.agg cs, .bool true]) w := by kernel_rfl
theorem below_new3 {w w1 : World} {o1 o2 o3 : Obj} (h : Below (((w.alloc o1).alloc o2).alloc o3).heap.size (((w.alloc o1).alloc o2).alloc o3) w1) : Below w.heap.size w w1 := below_new (below_new (below_new h))

end Go.Proofs.YtnfolmjdicfobaaGreatDoor

namespace Go.Proofs.YtnfolmjdicfobaaGreatDoor
open Go.RowKit Go.Maps
set_option linter.unusedVariables false
set_option linter.unusedSimpArgs false

attribute [local go_sem] ta11 ta12 ta13 ta14 ta21 ta22 ta23 ta24 ta31 ta32 ta33 ta34 ta41 ta42 ta43 ta44

theorem look_gm (w : World) {ops : Array Oper} {rest : List Oper} {o : Oper} {a : Act} {Q : Exit → Act → World → Prop} (hg : o.guard = none) (m x : Operand) (hop : o.op = Op.lookup 128 m x false)
    (b : Nat) (f : RoI → Int) (r : RoI) (hm : a.eval m = .map (some b)) (hx : a.eval x = .agg #[.int .i64 r.1, .int .i64 r.2]) {w1 : World} (hG : GM w1 b f) (hB : Below w1.heap.size w1 w) (hr : roW r)
    (hK : wpList Tryz.prog ops Q rest (a.put o.dst (.int .u8 (f r))) w) : wpList Tryz.prog ops Q (o :: rest) a w := by
  refine wpList_plain hg fun K' hK' => ?_
  have hrun := gm_look (hG.below hG.lt hB) hr
  unfold Oper.wp
  simp only [roV] at hrun
  simp [execOp, hop, hm, hx, hrun, Result.andThen]
  exact hK' _ _ hK

theorem bn_new {w w1 : World} {o : Obj} (h : Below (w.alloc o).heap.size (w.alloc o) w1) : Below w.heap.size w w1 := ((Below.refl _ _).alloc (Nat.le_refl _) _).trans (h.mono (by simp))

theorem rule_has {r : RuleI} (h : ruleCode r = 0) : 1 ≤ r.k ∧ r.k ≤ 4 ∧ roleB r.ho r.hn = true ∧ hasB r = true := by
  unfold ruleCode at h
  split at h
  · cases h
  · rename_i h1
    split at h
    · cases h
    · rename_i h2
      split at h
      · cases h
      · split at h
        · cases h
        · rename_i h4
          exact ⟨by omega, by omega, by simpa using h2, by simpa using h4⟩


set_option maxRecDepth 100000 in
set_option maxHeartbeats 400000 in
theorem told_1 (b : Nat) (f : RoI → Int) (r : RuleI) (w : World) (h : GM w b f) (hc : ruleCode r = 0) (e1 : r.k = 1) :
    Calls Tryz.prog 126 #[.map (some b), .agg #[.int .i64 r.k, .int .i64 r.ho, .int .i64 r.hn, .int .i64 r.w, .int .i64 r.oo, .int .i64 r.on, .int .i64 r.to, .int .i64 r.tn]] w fun e w' => e = .returned (.int .u8 (byF f r)) ∧ Below w.heap.size w w' := by
  have hh := (rule_has hc).2.2.2
  have hp : 1 ≤ r.w ∧ r.w ≤ 8 := by simpa [hasB, e1, prinB] using hh
  have eb : byF f r = bitI r.w := by simp [byF, e1]
  rw [eb]
  have E1 : Hid _ := e1
  clear hh eb hc e1
  go_enter Tryz.func126, Tryz.ntmps126
  go_wp2_with (first | (go_at_call 118; refine (bodyOf_1 r E1.out _).mono ?_; rintro e w1 ⟨rfl, hb0⟩; have hb := bn_new hb0; clear hb0) | (go_at_call 129; refine (bitOf_c r.w hp.1 hp.2 _).mono ?_; rintro e w2 ⟨rfl, rfl⟩) | go_in)
  go_ret
  exact ⟨rfl, hb.alloc hb.size _⟩

set_option maxRecDepth 100000 in
set_option maxHeartbeats 400000 in
theorem told_2 (b : Nat) (f : RoI → Int) (r : RuleI) (w : World) (h : GM w b f) (hc : ruleCode r = 0) (e1 : r.k = 2) :
    Calls Tryz.prog 126 #[.map (some b), .agg #[.int .i64 r.k, .int .i64 r.ho, .int .i64 r.hn, .int .i64 r.w, .int .i64 r.oo, .int .i64 r.on, .int .i64 r.to, .int .i64 r.tn]] w fun e w' => e = .returned (.int .u8 (byF f r)) ∧ Below w.heap.size w w' := by
  have hh := (rule_has hc).2.2.2
  have hp : roleB r.oo r.on = true := by simpa [hasB, e1] using hh
  have eb : byF f r = f (r.oo, r.on) := by simp [byF, e1]
  rw [eb]
  have E1 : Hid _ := e1
  clear hh eb hc e1
  go_enter Tryz.func126, Tryz.ntmps126
  go_wp2_with (first | (go_at_call 118; refine (bodyOf_2 r E1.out _).mono ?_; rintro e w1 ⟨rfl, hb0⟩; have hb := bn_new hb0; clear hb0) | (at_lookup; refine look_gm _ rfl _ _ rfl b f (r.oo, r.on) rfl rfl h (hb.alloc hb.size _) (roW_of hp) ?_) | go_in)
  go_ret
  exact ⟨rfl, hb.alloc hb.size _⟩


set_option maxRecDepth 100000 in
set_option maxHeartbeats 400000 in
theorem told_3 (b : Nat) (f : RoI → Int) (r : RuleI) (w : World) (h : GM w b f) (hc : ruleCode r = 0) (e1 : r.k = 3) :
    Calls Tryz.prog 126 #[.map (some b), .agg #[.int .i64 r.k, .int .i64 r.ho, .int .i64 r.hn, .int .i64 r.w, .int .i64 r.oo, .int .i64 r.on, .int .i64 r.to, .int .i64 r.tn]] w fun e w' => e = .returned (.int .u8 (byF f r)) ∧ Below w.heap.size w w' := by
  have hh := (rule_has hc).2.2.2
  have hp : roleB r.oo r.on = true ∧ 1 ≤ r.tn ∧ r.tn ≤ 5 := by simpa [hasB, e1, nameB] using hh
  have eb : byF f r = linkTo f r.tn (listTo (f (r.oo, r.on)) 8) (listTo (f (r.oo, r.on)) 8).length := by simp [byF, e1]
  rw [eb]
  have E1 : Hid _ := e1
  clear hh eb hc e1
  go_enter Tryz.func126, Tryz.ntmps126
  go_wp2_with (first | (go_at_call 118; refine (bodyOf_3 r E1.out _).mono ?_; rintro e w1 ⟨rfl, hb0⟩; have hb := bn_new hb0; clear hb0) | go_in)
  have hB1 := hb.alloc hb.size (.cells #[.int .i64 r.oo, .int .i64 r.on, .int .i64 r.tn] 204)
  have hG1 := h.below h.lt hB1
  have hl := gm_look (w := (w1.alloc (.cells #[.int .i64 r.oo, .int .i64 r.on, .int .i64 r.tn] 204)).drew) (gm_heap hG1 rfl) (roW_of (r := (r.oo, r.on)) hp.1)
  simp only [roV] at hl
  have HG : Hid (GM (w1.alloc (.cells #[.int .i64 r.oo, .int .i64 r.on, .int .i64 r.tn] 204)).drew b f) := gm_heap hG1 rfl
  have HB : Hid (Below w.heap.size w (w1.alloc (.cells #[.int .i64 r.oo, .int .i64 r.on, .int .i64 r.tn] 204)).drew) := hB1.drew
  have HS : Hid (setB (f (r.oo, r.on))) := h.fn.st _
  clear hB1 hG1 h hb
  go_region_with (first | (go_at_call 152; refine (linked_c b f (f (r.oo, r.on)) r.tn _ HG.out HS.out hp.2.1 hp.2.2).mono ?_; rintro e w2 ⟨rfl, hb2⟩))
  all_goals go_wp2
  all_goals go_ret
  all_goals exact ⟨rfl, HB.out.trans (hb2.mono HB.out.size)⟩

set_option maxRecDepth 100000 in
set_option maxHeartbeats 400000 in
theorem told_4 (b : Nat) (f : RoI → Int) (r : RuleI) (w : World) (h : GM w b f) (hc : ruleCode r = 0) (e1 : r.k = 4) :
    Calls Tryz.prog 126 #[.map (some b), .agg #[.int .i64 r.k, .int .i64 r.ho, .int .i64 r.hn, .int .i64 r.w, .int .i64 r.oo, .int .i64 r.on, .int .i64 r.to, .int .i64 r.tn]] w fun e w' => e = .returned (.int .u8 (byF f r)) ∧ Below w.heap.size w w' := by
  have hh := (rule_has hc).2.2.2
  have hp : roleB r.oo r.on = true ∧ roleB r.to r.tn = true := by simpa [hasB, e1] using hh
  have eb : byF f r = bits .and .u8 (f (r.oo, r.on)) (f (r.to, r.tn)) := by simp [byF, e1, u8_and _ _ (h.fn.st _) (h.fn.st _)]
  rw [eb]
  have E1 : Hid _ := e1
  clear hh eb hc e1
  go_enter Tryz.func126, Tryz.ntmps126
  go_wp2_with (first | (go_at_call 118; refine (bodyOf_4 r E1.out _).mono ?_; rintro e w1 ⟨rfl, hb0⟩; have hb := bn_new hb0; clear hb0) | go_in)
  have hB1 := hb.alloc hb.size (.cells #[.int .i64 r.oo, .int .i64 r.on, .int .i64 r.to, .int .i64 r.tn] 206)
  have hG1 := h.below h.lt hB1
  have hl1 := fun m => gm_look (w := (w1.alloc (.cells #[.int .i64 r.oo, .int .i64 r.on, .int .i64 r.to, .int .i64 r.tn] 206)).drewN m) (gm_heap hG1 rfl) (roW_of (r := (r.oo, r.on)) hp.1)
  have hl2 := fun m => gm_look (w := (w1.alloc (.cells #[.int .i64 r.oo, .int .i64 r.on, .int .i64 r.to, .int .i64 r.tn] 206)).drewN m) (gm_heap hG1 rfl) (roW_of (r := (r.to, r.tn)) hp.2)
  simp only [roV] at hl1 hl2
  have HB : Hid (Below w.heap.size w (w1.alloc (.cells #[.int .i64 r.oo, .int .i64 r.on, .int .i64 r.to, .int .i64 r.tn] 206))) := hB1
  clear hB1 hG1 h hb
  go_quiet (fail)
  go_wp2
  go_ret
  exact ⟨rfl, bdN HB.out _⟩

end Go.Proofs.YtnfolmjdicfobaaGreatDoor

namespace Go.Proofs.YtnfolmjdicfobaaGreatDoor
open Go.RowKit
set_option linter.unusedVariables false
set_option linter.unusedSimpArgs false

/-- The same members. -/
def SameM (ys : List RoI) (xs : List RoI) : Prop := ∀ x, x ∈ ys ↔ x ∈ xs

theorem SameM.put {ys zs xs : List RoI} {r : RoI} (h : SameM zs xs) (k : ∀ x, x ∈ ys ↔ x = r ∨ x ∈ zs) : SameM ys (xs ++ [r]) := fun x => by
  rw [k x, h x, List.mem_append]
  simp
  constructor
  · rintro (h | h)
    · exact .inr h
    · exact .inl h
  · rintro (h | h)
    · exact .inr h
    · exact .inl h

/-- What stands while the roles are gathered. -/
structure PutS (w wr : World) (v : Value) (xs : List RoI) : Prop where
  ex : ∃ (g m cap : Nat) (ys : List RoI), v = .slice (some ⟨g, 0, none⟩) m cap ∧ m = ys.length ∧ m ≤ xs.length ∧ Owns2 wr w.heap.size (.slice (some ⟨g, 0, none⟩) m cap) ys ∧ SS ys ∧ SameM ys xs
  bel : Below w.heap.size w wr

/-- What a call of RolesIn gives: a code, or the roles, strictly rising, in memory of their own. -/
def GivesR (f : Nat) (a : Option Addr) (n cap : Nat) (c : Int) (ys : List RoI) (w : World) : Prop := Calls Tryz.prog f #[.slice a n cap] w fun e w' => ∃ (a' : Option Addr) (cap' : Nat), e = .returned (.agg #[.int .i64 c, .slice a' ys.length cap']) ∧ Owns2 w' w.heap.size (.slice a' ys.length cap') ys ∧ Below w.heap.size w w'

end Go.Proofs.YtnfolmjdicfobaaGreatDoor
