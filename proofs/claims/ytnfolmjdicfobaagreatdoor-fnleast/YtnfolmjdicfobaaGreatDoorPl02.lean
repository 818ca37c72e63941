/-
  CONTRACTS on lists of rules: '==' of two rules; slices.Index and slices.Contains over rules.
  Conditions: each contract bears its own.
  CONTRACTS: laws.toRuleS (a copy of a slice of rules) and laws.eqRuleS (two that are alike).
  Conditions: each contract bears its own.
  PLAIN FACTS on the bits of a set (0 to 255): no Go text is walked here.
  Conditions: each fact bears its own.
  CONTRACTS of small functions of the model of chapter 1 (spec.l1Has, spec.l1List) and of impl's, for sets of 0 to 255.
  Conditions: each contract bears its own.
-/
import Derived.Test.YtnfolmjdicfobaaGreatDoorPl01
import Derived.WalkSmall
import Derived.BigQuiet
import Derived.Deep.QuietTactic
import Derived.Deep.RegionHeld3
import Derived.WalkKit
import Derived.Laws.BitsAllLaws
import Derived.Test.YtnfolmjdicfobaaGreatDoorChecked
import Derived.ProofKit
import Derived.Outline
namespace Go.Proofs.YtnfolmjdicfobaaGreatDoor
open Go.RowKit
set_option linter.unusedVariables false
set_option linter.unusedSimpArgs false

def sameB (r s : RuleI) : Bool := decide (r = s)
theorem sameB_mk (a0 a1 a2 a3 a4 a5 a6 a7 b0 b1 b2 b3 b4 b5 b6 b7 : Int) : sameB ⟨a0, a1, a2, a3, a4, a5, a6, a7⟩ ⟨b0, b1, b2, b3, b4, b5, b6, b7⟩ = (a0 == b0 && (a1 == b1 && a2 == b2) && a3 == b3 && (a4 == b4 && a5 == b5) && (a6 == b6 && a7 == b7)) := by
  unfold sameB
  rw [Bool.eq_iff_iff]
  simp only [decide_eq_true_eq, RuleI.mk.injEq, Bool.and_eq_true, beq_iff_eq]
  constructor
  · rintro ⟨h0, h1, h2, h3, h4, h5, h6, h7⟩; exact ⟨⟨⟨⟨h0, h1, h2⟩, h3⟩, h4, h5⟩, h6, h7⟩
  · rintro ⟨⟨⟨⟨h0, h1, h2⟩, h3⟩, h4, h5⟩, h6, h7⟩; exact ⟨h0, h1, h2, h3, h4, h5, h6, h7⟩

set_option maxHeartbeats 1000000 in
theorem rule_eql (r s : RuleI) (w : World) : (binOp .eql 81 (.agg #[.int .i64 r.k, .int .i64 r.ho, .int .i64 r.hn, .int .i64 r.w, .int .i64 r.oo, .int .i64 r.on, .int .i64 r.to, .int .i64 r.tn]) (.agg #[.int .i64 s.k, .int .i64 s.ho, .int .i64 s.hn, .int .i64 s.w, .int .i64 s.oo, .int .i64 s.on, .int .i64 s.to, .int .i64 s.tn])).run Tryz.prog w = .ok (.bool (sameB r s)) w := by
  obtain ⟨a0, a1, a2, a3, a4, a5, a6, a7⟩ := r
  obtain ⟨b0, b1, b2, b3, b4, b5, b6, b7⟩ := s
  simp only
  rw [sameB_mk]
  cases e0 : (a0 == b0)
  · simp [go_sem, e0]
  cases e1 : (a1 == b1)
  · simp [go_sem, e0, e1]
  cases e2 : (a2 == b2)
  · simp [go_sem, e0, e1, e2]
  cases e3 : (a3 == b3)
  · simp [go_sem, e0, e1, e2, e3]
  cases e4 : (a4 == b4)
  · simp [go_sem, e0, e1, e2, e3, e4]
  cases e5 : (a5 == b5)
  · simp [go_sem, e0, e1, e2, e3, e4, e5]
  cases e6 : (a6 == b6)
  · simp [go_sem, e0, e1, e2, e3, e4, e5, e6]
  cases e7 : (a7 == b7)
  · simp [go_sem, e0, e1, e2, e3, e4, e5, e6, e7]
  · simp [go_sem, e0, e1, e2, e3, e4, e5, e6, e7]

end Go.Proofs.YtnfolmjdicfobaaGreatDoor

namespace Go.Proofs.YtnfolmjdicfobaaGreatDoor
open Go.RowKit
set_option linter.unusedVariables false
set_option linter.unusedSimpArgs false

theorem Tryz.info81 : (Tryz.prog.info? 81).map (fun i => (i.zero, i.size, i.bytes)) = some (some (.agg #[.int .i64 0, .int .i64 0, .int .i64 0, .int .i64 0, .int .i64 0, .int .i64 0, .int .i64 0, .int .i64 0]), 8, 64) := by kernel_rfl

/-- A block of n rules that may be written. -/
def RoomAt (w : World) (g n : Nat) : Prop := (∀ j, j < n * 8 → ∃ v, w.cell? ⟨g, j, none⟩ = some v) ∧ ∀ j, w.frozen? ⟨g, j, none⟩ = false

/-- A rule stored into a block, cell by cell. -/
abbrev put8 (w : World) (g o : Nat) (s : RuleI) : World := ((((((((w.setCell ⟨g, o, none⟩ (.int .i64 s.k)).setCell ⟨g, o + 1, none⟩ (.int .i64 s.ho)).setCell ⟨g, o + 2, none⟩ (.int .i64 s.hn)).setCell ⟨g, o + 3, none⟩ (.int .i64 s.w)).setCell ⟨g, o + 4, none⟩ (.int .i64 s.oo)).setCell ⟨g, o + 5, none⟩ (.int .i64 s.on)).setCell ⟨g, o + 6, none⟩ (.int .i64 s.to)).setCell ⟨g, o + 7, none⟩ (.int .i64 s.tn))

theorem put8_other (w : World) (g o : Nat) (s : RuleI) (a : Addr) (h : ∀ j, j < 8 → a ≠ ⟨g, o + j, none⟩) : (put8 w g o s).cell? a = w.cell? a := by
  rw [World.cell?_setCell_other (h := Ne.symm (h 7 (by omega))), World.cell?_setCell_other (h := Ne.symm (h 6 (by omega))), World.cell?_setCell_other (h := Ne.symm (h 5 (by omega))), World.cell?_setCell_other (h := Ne.symm (h 4 (by omega))), World.cell?_setCell_other (h := Ne.symm (h 3 (by omega))), World.cell?_setCell_other (h := Ne.symm (h 2 (by omega))), World.cell?_setCell_other (h := Ne.symm (h 1 (by omega))), World.cell?_setCell_other (h := Ne.symm (a := a) (b := ⟨g, o, none⟩) (by simpa using h 0 (by omega)))]

theorem put8_rule (w : World) (g o : Nat) (s : RuleI) (h : ∀ j, j < 8 → ∃ v, w.cell? ⟨g, o + j, none⟩ = some v) : RuleAt (put8 w g o s) g o s := by
  obtain ⟨v0, h0⟩ := h 0 (by omega)
  obtain ⟨v1, h1⟩ := h 1 (by omega)
  obtain ⟨v2, h2⟩ := h 2 (by omega)
  obtain ⟨v3, h3⟩ := h 3 (by omega)
  obtain ⟨v4, h4⟩ := h 4 (by omega)
  obtain ⟨v5, h5⟩ := h 5 (by omega)
  obtain ⟨v6, h6⟩ := h 6 (by omega)
  obtain ⟨v7, h7⟩ := h 7 (by omega)
  rw [Nat.add_zero] at h0
  refine ⟨?_, ?_, ?_, ?_, ?_, ?_, ?_, ?_⟩ <;> simp [go_sem, h0, h1, h2, h3, h4, h5, h6, h7]

theorem put8_room {w : World} {g n k : Nat} {zs : List RuleI} {s : RuleI} (hroom : RoomAt w g n) (hd : RulesAt w g 0 (zs.take k)) (hs : zs[k]? = some s) (hk : k < n) :
    RoomAt (put8 w g (k * 8) s) g n ∧ RulesAt (put8 w g (k * 8) s) g 0 (zs.take (k + 1)) := by
  have hr := put8_rule w g (k * 8) s (fun j hj => hroom.1 (k * 8 + j) (by omega))
  refine ⟨⟨fun j hj => ?_, fun j => ?_⟩, fun i r e => ?_⟩
  · by_cases h : k * 8 ≤ j ∧ j < k * 8 + 8
    · have hj' : j = k * 8 ∨ j = k * 8 + 1 ∨ j = k * 8 + 2 ∨ j = k * 8 + 3 ∨ j = k * 8 + 4 ∨ j = k * 8 + 5 ∨ j = k * 8 + 6 ∨ j = k * 8 + 7 := by omega
      obtain ⟨h0, h1, h2, h3, h4, h5, h6, h7⟩ := hr
      rcases hj' with rfl | rfl | rfl | rfl | rfl | rfl | rfl | rfl
      · exact ⟨_, h0⟩
      · exact ⟨_, h1⟩
      · exact ⟨_, h2⟩
      · exact ⟨_, h3⟩
      · exact ⟨_, h4⟩
      · exact ⟨_, h5⟩
      · exact ⟨_, h6⟩
      · exact ⟨_, h7⟩
    · rw [put8_other w g (k * 8) s ⟨g, j, none⟩ (fun i hi e => by have e2 := congrArg Addr.off e; simp only at e2; omega)]
      exact hroom.1 j hj
  · simp only [World.frozen?_setCell]
    exact hroom.2 j
  · rw [List.getElem?_take] at e
    split at e
    · by_cases hik : i = k
      · subst hik
        rw [hs] at e
        cases e
        rw [Nat.zero_add]
        exact hr
      · have hi : i < k := by omega
        have h1 := hd i r (by rw [List.getElem?_take, if_pos hi]; exact e)
        obtain ⟨h0, h1, h2, h3, h4, h5, h6, h7⟩ := h1
        refine ⟨?_, ?_, ?_, ?_, ?_, ?_, ?_, ?_⟩
        · rw [put8_other w g (k * 8) s ⟨g, 0 + i * 8, none⟩ (fun j hj e => by have e2 := congrArg Addr.off e; simp only at e2; omega)]; exact h0
        · rw [put8_other w g (k * 8) s ⟨g, 0 + i * 8 + 1, none⟩ (fun j hj e => by have e2 := congrArg Addr.off e; simp only at e2; omega)]; exact h1
        · rw [put8_other w g (k * 8) s ⟨g, 0 + i * 8 + 2, none⟩ (fun j hj e => by have e2 := congrArg Addr.off e; simp only at e2; omega)]; exact h2
        · rw [put8_other w g (k * 8) s ⟨g, 0 + i * 8 + 3, none⟩ (fun j hj e => by have e2 := congrArg Addr.off e; simp only at e2; omega)]; exact h3
        · rw [put8_other w g (k * 8) s ⟨g, 0 + i * 8 + 4, none⟩ (fun j hj e => by have e2 := congrArg Addr.off e; simp only at e2; omega)]; exact h4
        · rw [put8_other w g (k * 8) s ⟨g, 0 + i * 8 + 5, none⟩ (fun j hj e => by have e2 := congrArg Addr.off e; simp only at e2; omega)]; exact h5
        · rw [put8_other w g (k * 8) s ⟨g, 0 + i * 8 + 6, none⟩ (fun j hj e => by have e2 := congrArg Addr.off e; simp only at e2; omega)]; exact h6
        · rw [put8_other w g (k * 8) s ⟨g, 0 + i * 8 + 7, none⟩ (fun j hj e => by have e2 := congrArg Addr.off e; simp only at e2; omega)]; exact h7
    · cases e

theorem put8_below {w0 w : World} {B g o : Nat} (h : Below B w0 w) (hg : B ≤ g) (s : RuleI) : Below B w0 (put8 w g o s) :=
  h.setCell hg _ |>.setCell hg _ |>.setCell hg _ |>.setCell hg _ |>.setCell hg _ |>.setCell hg _ |>.setCell hg _ |>.setCell hg _

set_option maxHeartbeats 1000000 in
theorem toRules_room (a : Option Addr) (n cap : Nat) (zs : List RuleI) (w : World) (hn : n ≤ 1048576) (h : RulesIn w a n zs) :
    Calls Tryz.prog 51 #[.slice a n cap] w fun e w' => e = .returned (.slice (some ⟨w.heap.size, 0, none⟩) n n) ∧ RulesAt w' w.heap.size 0 zs ∧ w.heap.size < w'.heap.size ∧ Below w.heap.size w w' ∧ RoomAt w' w.heap.size n := by
  obtain ⟨i0, hi, hz0, hz1, hz2⟩ := info_parts Tryz.info81
  obtain ⟨wm, hmk, hownm, hgrm⟩ := run_make_full (P := Tryz.prog) (w := w) w.heap.size 24 81 i0 (.agg #[.int .i64 0, .int .i64 0, .int .i64 0, .int .i64 0, .int .i64 0, .int .i64 0, .int .i64 0, .int .i64 0]) 8 Tryz.underlying24 hi hz0 hz1 .i64 .i64 n (by rw [hz2]; omega) (by unfold maxLen; omega) (Nat.le_refl _)
  have H : Hid (RulesIn w a n zs) := h
  have hz : Hid (zs.length = n) := h.1
  clear h
  have HM : Hid (RoomAt wm w.heap.size n ∧ w.heap.size < wm.heap.size) := by
    refine ⟨⟨fun j hj => ?_, fun j => hownm.frozenAt j⟩, (hownm.lt _ rfl).2⟩
    have hl := hownm.1
    exact ⟨_, (hownm.cellAt j hj).trans (List.getElem?_eq_getElem (by omega))⟩
  clear hownm
  have HG : Hid (w.grownBy wm none) := hgrm
  clear hgrm
  have hn' : (n : Int) ≤ 1048576 := by omega
  go_enter Tryz.func51, Tryz.ntmps51
  go_wp2
  go_loopw [4] (fun i wr => ∃ k : Nat, k ≤ n ∧ i = .int .i64 (k : Int) ∧ RoomAt wr w.heap.size n ∧ RulesAt wr w.heap.size 0 (zs.take k) ∧ w.heap.size < wr.heap.size ∧ Below w.heap.size w wr)
    (fun i _ => n - (intOf i).toNat)
  case atStart => exact ⟨0, Nat.zero_le _, rfl, HM.out.1, fun k r e => by simp at e, HM.out.2, (Below.refl _ _).grown HG.out (Nat.le_refl _) (fun k e => by cases e)⟩
  case round =>
    obtain ⟨k, hk, rfl, hroom, hdone, hlt0, hnx⟩ := hrel
    by_cases hlt : k < n
    · obtain ⟨b, off, s, rfl, hs, hr⟩ := H.out.at hlt
      have HS : Hid (zs[k]? = some s) := hs
      clear hs
      have hb : b < w.heap.size := World.block_lt_of_cell? w ⟨b, off + k * 8, none⟩ hr.1
      have hr' := hr.below hnx
      have HD : Hid (RoomAt wr w.heap.size n ∧ RulesAt wr w.heap.size 0 (zs.take k)) := ⟨hroom, hdone⟩
      obtain ⟨h0, h1, h2, h3, h4, h5, h6, h7⟩ := hr'
      clear hroom hdone hr
      have hlt' : (k : Int) < (n : Int) := by omega
      go_wp2_with fail
      refine (toRule_c s _).mono ?_
      rintro e w1 ⟨rfl, hb1⟩
      obtain ⟨⟨hc, hf⟩, hd⟩ := HD.out
      have hz1 := hb1.size
      have HD1 : Hid (RoomAt w1 w.heap.size n ∧ RulesAt w1 w.heap.size 0 (zs.take k) ∧ Below w.heap.size w w1) :=
        ⟨⟨fun j hj => by obtain ⟨v, e⟩ := hc j hj; exact ⟨v, (hb1.cell (p := ⟨w.heap.size, j, none⟩) hlt0).trans e⟩, fun j => (hb1.frozen (p := ⟨w.heap.size, j, none⟩) hlt0).trans (hf j)⟩, hd.below hb1, hnx.trans (hb1.mono hnx.size)⟩
      clear hc hf hd HD h0 h1 h2 h3 h4 h5 h6 h7
      obtain ⟨v0, c0⟩ := HD1.out.1.1 (k * 8) (by omega)
      obtain ⟨v1, c1⟩ := HD1.out.1.1 (k * 8 + 1) (by omega)
      obtain ⟨v2, c2⟩ := HD1.out.1.1 (k * 8 + 2) (by omega)
      obtain ⟨v3, c3⟩ := HD1.out.1.1 (k * 8 + 3) (by omega)
      obtain ⟨v4, c4⟩ := HD1.out.1.1 (k * 8 + 4) (by omega)
      obtain ⟨v5, c5⟩ := HD1.out.1.1 (k * 8 + 5) (by omega)
      obtain ⟨v6, c6⟩ := HD1.out.1.1 (k * 8 + 6) (by omega)
      obtain ⟨v7, c7⟩ := HD1.out.1.1 (k * 8 + 7) (by omega)
      have f0 := HD1.out.1.2 (k * 8)
      have f1 := HD1.out.1.2 (k * 8 + 1)
      have f2 := HD1.out.1.2 (k * 8 + 2)
      have f3 := HD1.out.1.2 (k * 8 + 3)
      have f4 := HD1.out.1.2 (k * 8 + 4)
      have f5 := HD1.out.1.2 (k * 8 + 5)
      have f6 := HD1.out.1.2 (k * 8 + 6)
      have f7 := HD1.out.1.2 (k * 8 + 7)
      have RM : Hid (RoomAt (put8 w1 w.heap.size (k * 8) s) w.heap.size n ∧ RulesAt (put8 w1 w.heap.size (k * 8) s) w.heap.size 0 (zs.take (k + 1)) ∧ Below w.heap.size w (put8 w1 w.heap.size (k * 8) s)) := by
        have h2 := put8_room HD1.out.1 HD1.out.2.1 HS.out hlt
        exact ⟨h2.1, h2.2, put8_below HD1.out.2.2 (Nat.le_refl _) s⟩
      go_wp2
      exact ⟨⟨k + 1, by omega, by go_num, RM.out.1, RM.out.2.1, by simp only [World.size_setCell]; omega, RM.out.2.2⟩, by simp [intOf]; omega⟩
    · have hkn : k = n := by omega
      subst hkn
      rw [List.take_of_length_le (by rw [hz.out]; exact Nat.le_refl _)] at hdone
      go_wp2
      go_ret
      exact ⟨rfl, hdone, hlt0, hnx, hroom⟩

theorem toRules_c (a : Option Addr) (n cap : Nat) (zs : List RuleI) (w : World) (hn : n ≤ 1048576) (h : RulesIn w a n zs) :
    Calls Tryz.prog 51 #[.slice a n cap] w fun e w' => e = .returned (.slice (some ⟨w.heap.size, 0, none⟩) n n) ∧ RulesAt w' w.heap.size 0 zs ∧ w.heap.size < w'.heap.size ∧ Below w.heap.size w w' :=
  (toRules_room a n cap zs w hn h).mono fun e w' hh => ⟨hh.1, hh.2.1, hh.2.2.1, hh.2.2.2.1⟩

set_option maxHeartbeats 400000 in
theorem eqRole_same (o n : Int) (w : World) :
    Calls Tryz.prog 135 #[.agg #[.int .i64 o, .int .i64 n], .agg #[.int .i64 o, .int .i64 n]] w fun e w' => e = .returned (.bool true) ∧ Below w.heap.size w w' := by
  go_enter Tryz.func135, Tryz.ntmps135
  go_wp2
  go_ret
  exact ⟨rfl, by go_grown⟩

set_option maxHeartbeats 1000000 in
theorem eqRule_same (r : RuleI) (w : World) :
    Calls Tryz.prog 99 #[.agg #[.int .i64 r.k, .int .i64 r.ho, .int .i64 r.hn, .int .i64 r.w, .int .i64 r.oo, .int .i64 r.on, .int .i64 r.to, .int .i64 r.tn], .agg #[.int .i64 r.k, .int .i64 r.ho, .int .i64 r.hn, .int .i64 r.w, .int .i64 r.oo, .int .i64 r.on, .int .i64 r.to, .int .i64 r.tn]] w fun e w' => e = .returned (.bool true) ∧ Below w.heap.size w w' := by
  go_enter Tryz.func99, Tryz.ntmps99
  go_wp2
  go_ret
  exact ⟨rfl, by go_grown⟩

set_option maxHeartbeats 1000000 in
theorem eqRules_same (a b : Option Addr) (n c d : Nat) (zs : List RuleI) (w : World) (hn : n ≤ 1048576) (ha : RulesIn w a n zs) (hb : RulesIn w b n zs) :
    Calls Tryz.prog 54 #[.slice a n c, .slice b n d] w fun e w' => e = .returned (.bool true) ∧ Below w.heap.size w w' := by
  have HA : Hid (RulesIn w a n zs) := ha
  have HB : Hid (RulesIn w b n zs) := hb
  clear ha hb
  have hn' : (n : Int) ≤ 1048576 := by omega
  go_enter Tryz.func54, Tryz.ntmps54
  go_wp2
  go_loopw [5] (fun i wr => ∃ k : Nat, k ≤ n ∧ i = .int .i64 (k : Int) ∧ Below w.heap.size w wr) (fun i _ => n - (intOf i).toNat)
  case atStart => exact ⟨0, Nat.zero_le _, rfl, Below.refl _ _⟩
  case round =>
    obtain ⟨k, hk, rfl, hnx⟩ := hrel
    by_cases hlt : k < n
    · obtain ⟨b1, o1, s, e1, hs, hr⟩ := HA.out.at hlt
      obtain ⟨b2, o2, s2, e2, hs2, hr2⟩ := HB.out.at hlt
      obtain rfl : s = s2 := Option.some.inj (hs.symm.trans hs2)
      subst e1 e2
      clear hs hs2
      obtain ⟨h0, h1, h2, h3, h4, h5, h6, h7⟩ := hr.below hnx
      obtain ⟨g0, g1, g2, g3, g4, g5, g6, g7⟩ := hr2.below hnx
      clear hr hr2
      have hlt' : (k : Int) < (n : Int) := by omega
      have hb1 : b1 < wr.heap.size := World.block_lt_of_cell? wr ⟨b1, o1 + k * 8, none⟩ h0
      have hb2 : b2 < wr.heap.size := World.block_lt_of_cell? wr ⟨b2, o2 + k * 8, none⟩ g0
      go_wp2
      go_region_held3 (fun w' => (∀ b o, b < wr.heap.size → w'.cell? ⟨b, o, none⟩ = wr.cell? ⟨b, o, none⟩) ∧ Below wr.heap.size wr w') (first | exact hS | exact kp_drew _)
        (first | (go_at_call 99; refine (eqRule_same s _).mono ?_; rintro e w' ⟨rfl, hb1⟩; have hS := kp_step (by assumption) hb1))
      go_wp2
      exact ⟨⟨k + 1, by omega, by go_num, hnx.trans (hS.2.mono hnx.size)⟩, by simp [intOf]; omega⟩
    · have hkn : k = n := by omega
      subst hkn
      go_wp2
      go_ret
      exact ⟨rfl, hnx⟩

end Go.Proofs.YtnfolmjdicfobaaGreatDoor

namespace Go.Proofs.YtnfolmjdicfobaaGreatDoor
open Go.RowKit

/-- Principal p is in the set s. -/
def hasI (s p : Int) : Bool := s.toNat.testBit (p - 1).toNat

/-- The principals of s among 1 .. k. -/
def listTo (s : Int) : Nat → List Int
  | 0 => []
  | k + 1 => if hasI s ((k : Int) + 1) then listTo s k ++ [(k : Int) + 1] else listTo s k

theorem and_dec : ∀ n : Fin 256, ∀ k : Fin 8, (bits .and .u8 ((n.val : Nat) : Int) ((2 ^ k.val : Nat) : Int) = bits .and .i64 ((n.val : Nat) : Int) ((2 ^ k.val : Nat) : Int)) ∧ (bits .and .i64 ((n.val : Nat) : Int) ((2 ^ k.val : Nat) : Int) != 0) = n.val.testBit k.val := by
  decide +kernel

theorem and_i64 (s p : Int) (h0 : 0 ≤ s) (h1 : s ≤ 255) (p0 : 1 ≤ p) (p1 : p ≤ 8) :
    (bits .and .i64 s ((2 ^ (p - 1).toNat : Nat) : Int) != 0) = hasI s p := by
  obtain ⟨n, rfl⟩ := Int.eq_ofNat_of_zero_le h0
  have := (and_dec ⟨n, by omega⟩ ⟨(p - 1).toNat, by omega⟩).2
  simpa [hasI] using this

theorem and_u8 (s p : Int) (h0 : 0 ≤ s) (h1 : s ≤ 255) (p0 : 1 ≤ p) (p1 : p ≤ 8) :
    (bits .and .u8 s ((2 ^ (p - 1).toNat : Nat) : Int) != 0) = hasI s p := by
  obtain ⟨n, rfl⟩ := Int.eq_ofNat_of_zero_le h0
  have h := and_dec ⟨n, by omega⟩ ⟨(p - 1).toNat, by omega⟩
  have h2 := h.2
  rw [← h.1] at h2
  simpa [hasI] using h2

end Go.Proofs.YtnfolmjdicfobaaGreatDoor

namespace Go.Proofs.YtnfolmjdicfobaaGreatDoor
open Go.RowKit
set_option linter.unusedVariables false

set_option maxHeartbeats 400000 in
theorem l1Has_c (s p : Int) (h0 : 0 ≤ s) (h1 : s ≤ 255) (p0 : 1 ≤ p) (p1 : p ≤ 8) (w : World) :
    Calls Tryz.prog 103 #[.int .i64 s, .int .i64 p] w fun e w' => e = .returned (.bool (hasI s p)) ∧ w = w' := by
  have hp : p = 1 ∨ p = 2 ∨ p = 3 ∨ p = 4 ∨ p = 5 ∨ p = 6 ∨ p = 7 ∨ p = 8 := by omega
  rcases hp with rfl | rfl | rfl | rfl | rfl | rfl | rfl | rfl
  · have e1 := and_i64 s 1 h0 h1 (by omega) (by omega)
    simp at e1
    go_enter Tryz.func103, Tryz.ntmps103
    go_wp2
    go_ret
    exact ⟨rfl, rfl⟩
  · have e1 := and_i64 s 2 h0 h1 (by omega) (by omega)
    simp at e1
    go_enter Tryz.func103, Tryz.ntmps103
    go_wp2
    go_ret
    exact ⟨rfl, rfl⟩
  · have e1 := and_i64 s 3 h0 h1 (by omega) (by omega)
    simp at e1
    go_enter Tryz.func103, Tryz.ntmps103
    go_wp2
    go_ret
    exact ⟨rfl, rfl⟩
  · have e1 := and_i64 s 4 h0 h1 (by omega) (by omega)
    simp at e1
    go_enter Tryz.func103, Tryz.ntmps103
    go_wp2
    go_ret
    exact ⟨rfl, rfl⟩
  · have e1 := and_i64 s 5 h0 h1 (by omega) (by omega)
    simp at e1
    go_enter Tryz.func103, Tryz.ntmps103
    go_wp2
    go_ret
    exact ⟨rfl, rfl⟩
  · have e1 := and_i64 s 6 h0 h1 (by omega) (by omega)
    simp at e1
    go_enter Tryz.func103, Tryz.ntmps103
    go_wp2
    go_ret
    exact ⟨rfl, rfl⟩
  · have e1 := and_i64 s 7 h0 h1 (by omega) (by omega)
    simp at e1
    go_enter Tryz.func103, Tryz.ntmps103
    go_wp2
    go_ret
    exact ⟨rfl, rfl⟩
  · have e1 := and_i64 s 8 h0 h1 (by omega) (by omega)
    simp at e1
    go_enter Tryz.func103, Tryz.ntmps103
    go_wp2
    go_ret
    exact ⟨rfl, rfl⟩

theorem Tryz.info2 : (Tryz.prog.info? 2).map (fun i => (i.zero, i.size, i.bytes)) = some (some (.int .i64 0), 1, 8) := by kernel_rfl

theorem listTo_le (s : Int) (k : Nat) : (listTo s k).length ≤ k := by
  induction k with
  | zero => simp [listTo]
  | succ k ih =>
    simp only [listTo]
    split
    · simp; omega
    · omega

theorem listTo_hit (s : Int) (k : Nat) (h : hasI s ((k : Int) + 1) = true) : listTo s (k + 1) = listTo s k ++ [(k : Int) + 1] := by simp [listTo, h]
theorem listTo_miss (s : Int) (k : Nat) (h : hasI s ((k : Int) + 1) = false) : listTo s (k + 1) = listTo s k := by simp [listTo, h]

/-- An append of one more principal, behind the law of append. -/
theorem list_keep {B k : Nat} {s : Int} {w wr w1 : World} {u v' : Value} {o : Obj} (hB : B ≤ wr.heap.size) (hh : hasI s ((k : Int) + 1) = true)
    (hown : wr.ownsRow B 2 1 u (listTo s k).length ((listTo s k).map (Value.int .i64))) (hnx : Below B w wr)
    (hown' : w1.ownsRow B 2 1 v' ((listTo s k).length + 1) ((listTo s k).map (Value.int .i64) ++ [.int .i64 ((k : Int) + 1)])) (hgrow : (wr.alloc o).grownBy w1 u.ownBlock) :
    w1.ownsRow B 2 1 v' (listTo s (k + 1)).length ((listTo s (k + 1)).map (Value.int .i64)) ∧ Below B w w1 := by
  refine ⟨by rw [listTo_hit s k hh]; simpa using hown', (hnx.alloc (by omega) o).grown hgrow (by simp; omega) (fun j hj => by have := (hown.lt j hj).1; omega)⟩

theorem bcell {W w1 : World} (hb : Below W.heap.size W w1) : (∀ b o, b < W.heap.size → w1.cell? ⟨b, o, none⟩ = W.cell? ⟨b, o, none⟩) ∧ (∀ b o, b < W.heap.size → w1.frozen? ⟨b, o, none⟩ = W.frozen? ⟨b, o, none⟩) :=
  ⟨fun b o h => hb.cell (p := ⟨b, o, none⟩) h, fun b o h => hb.frozen (p := ⟨b, o, none⟩) h⟩

theorem owns_slice {w : World} {b : Nat} {t : TypeId} {v : Value} {n : Nat} {xs : List Value} (h : w.ownsRow b t 1 v n xs) : ∃ a cap, v = .slice a n cap := by
  rcases h.2 with ⟨h', h0⟩ | ⟨g, cap, cur, h', _⟩
  · exact ⟨none, 0, by rw [h0]; exact h'⟩
  · exact ⟨_, cap, h'⟩

theorem owns_shape {w : World} {b : Nat} {t : TypeId} {v : Value} {n : Nat} {xs : List Value} (h : w.ownsRow b t 1 v n xs) (hv : v ≠ .slice none 0 0) : ∃ g cap, v = .slice (some ⟨g, 0, none⟩) n cap := by
  rcases h.2 with ⟨h', _⟩ | ⟨g, cap, cur, h', _⟩
  · exact absurd h' hv
  · exact ⟨g, cap, h'⟩

set_option maxHeartbeats 400000 in
theorem l1List_c (s : Int) (h0 : 0 ≤ s) (h1 : s ≤ 255) (w : World) :
    Calls Tryz.prog 59 #[.int .i64 s] w fun e w' => ∃ g cap, e = .returned (.slice (some ⟨g, 0, none⟩) (listTo s 8).length cap) ∧
      w'.ownsRow w.heap.size 2 1 (.slice (some ⟨g, 0, none⟩) (listTo s 8).length cap) (listTo s 8).length ((listTo s 8).map (Value.int .i64)) ∧ Below w.heap.size w w' := by
  obtain ⟨i0, hi, hz0, hz1, hz2⟩ := info_parts Tryz.info2
  go_enter Tryz.func59, Tryz.ntmps59
  go_wp2
  go_loopw [3, 4] (fun v p wr => ∃ k : Nat, k ≤ 8 ∧ p = .int .i64 ((k : Int) + 1) ∧ wr.ownsRow w.heap.size 2 1 v (listTo s k).length ((listTo s k).map (Value.int .i64)) ∧ Below w.heap.size w wr ∧ v ≠ .slice none 0 0)
    (fun _ p _ => 9 - (intOf p).toNat)
  case atStart => exact ⟨0, Nat.zero_le _, rfl, World.ownsRow_lit w #[] 0 (Nat.le_refl _) (Nat.zero_le _) rfl, (Below.refl _ _).alloc (Nat.le_refl _) _, by simp⟩
  case round =>
    obtain ⟨k, hk, rfl, hown, hnx, hnn⟩ := hrel
    have hkl := listTo_le s k
    by_cases hlt : k < 8
    · have hlt' : (k : Int) + 1 ≤ 8 := by omega
      cases hh : hasI s ((k : Int) + 1) with
      | true =>
        have HH : Hid (hasI s ((k : Int) + 1) = true) := hh
        clear hh
        go_wp2_with (first
          | (at_builtin; refine wpList_append_own _ rfl _ _ 26 rfl w.heap.size 2 i0 (.int .i64 0) 1 8 Tryz.underlying26 hi hz0 hz1 hz2 rfl (by decide) _ _ _ rfl (hown.alloc _) ⟨wr.heap.size, 0, none⟩ 1 1 [.int .i64 ((k : Int) + 1)] rfl rfl ?c1 ?c2 ?c3 ?c4 ?c5 ?_)
          | (go_at_call 103; refine (l1Has_c s _ h0 h1 (by omega) (by omega) _).mono ?_; rintro e w' ⟨rfl, rfl⟩; rw [HH.out]))
        case c1 =>
          intro j u hj
          match j, hj with
          | 0, hj => simp at hj; subst hj; simp [Addr.add]
        case c2 => intro u hu; simp at hu; subst hu; rfl
        case c3 => unfold maxLen; omega
        case c4 => omega
        case c5 => have := hnx.size; simp; omega
        · intro v' w1 hown' hgrow hnil
          have hnn' : v' ≠ .slice none 0 0 := hnil
          clear hnil
          have R := list_keep (by have := hnx.size; omega) HH.out hown hnx hown' hgrow
          clear hown' hgrow hown
          go_wp2
          go_roundw
          case rel => exact ⟨k + 1, by omega, by go_num, R.1, R.2, hnn'⟩
          case measure => simp [intOf]; omega
      | false =>
        have HH : Hid (hasI s ((k : Int) + 1) = false) := hh
        clear hh
        go_wp2_with (go_at_call 103; refine (l1Has_c s _ h0 h1 (by omega) (by omega) _).mono ?_; rintro e w' ⟨rfl, rfl⟩; rw [HH.out])
        go_roundw
        case rel => exact ⟨k + 1, by omega, by go_num, by rw [listTo_miss s k HH.out]; exact hown, hnx, hnn⟩
        case measure => simp [intOf]; omega
    · have hk8 : k = 8 := by omega
      subst hk8
      obtain ⟨g, cap, hv⟩ := owns_shape hown hnn
      rw [hv] at hown ⊢
      clear hv hnn
      go_wp2
      go_ret
      exact ⟨g, cap, rfl, hown, hnx⟩

end Go.Proofs.YtnfolmjdicfobaaGreatDoor
