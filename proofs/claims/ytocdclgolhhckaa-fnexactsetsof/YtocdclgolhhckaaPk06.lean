/-
  CONTRACTS: laws.toRuleS (a copy of a slice of rules) and laws.eqRuleS (two that are alike).
  Conditions: each contract bears its own.
  CONTRACTS: laws.toGrantS (a copy of a slice of grants) and laws.eqGrantS (two that are alike).
  Conditions: each contract bears its own.
  CONTRACTS: laws.eqRoleS, laws.markRoleS, laws.heldRoleS, of results too; laws.markRuleS.
  Conditions: each contract bears its own.
-/
import Derived.Test.YtocdclgolhhckaaPk04
import Derived.Deep.RegionHeld3
import Derived.Test.YtocdclgolhhckaaPk05
import Derived.Test.YtocdclgolhhckaaPk01
import Derived.WalkSmall
namespace Go.Proofs.Ytocdclgolhhckaa
open Go.RowKit
set_option linter.unusedVariables false
set_option linter.unusedSimpArgs false

theorem Try.info80 : (Try.prog.info? 80).map (fun i => (i.zero, i.size, i.bytes)) = some (some (.agg #[.int .i64 0, .int .i64 0, .int .i64 0, .int .i64 0, .int .i64 0, .int .i64 0, .int .i64 0, .int .i64 0]), 8, 64) := by kernel_rfl

/-- A block of n rules that may be written. -/
def RoomAt (w : World) (g n : Nat) : Prop := (∀ j, j < n * 8 → ∃ v, w.cell? ⟨g, j, none⟩ = some v) ∧ ∀ j, w.frozen? ⟨g, j, none⟩ = false

/-- A rule stored into a block, cell by cell. -/
abbrev put8 (w : World) (g o : Nat) (s : RuleI) : World := ((((((((w.setCell ⟨g, o, none⟩ (.int .i64 s.k)).setCell ⟨g, o + 1, none⟩ (.int .i64 s.ho)).setCell ⟨g, o + 2, none⟩ (.int .i64 s.hn)).setCell ⟨g, o + 3, none⟩ (.int .i64 s.w)).setCell ⟨g, o + 4, none⟩ (.int .i64 s.oo)).setCell ⟨g, o + 5, none⟩ (.int .i64 s.on)).setCell ⟨g, o + 6, none⟩ (.int .i64 s.to)).setCell ⟨g, o + 7, none⟩ (.int .i64 s.tn))

theorem put8_other (w : World) (g o : Nat) (s : RuleI) (a : Addr) (h : ∀ j, j < 8 → a ≠ ⟨g, o + j, none⟩) : (put8 w g o s).cell? a = w.cell? a := by
  rw [World.cell?_setCell_other (h := Ne.symm (h 7 (by omega))), World.cell?_setCell_other (h := Ne.symm (h 6 (by omega))), World.cell?_setCell_other (h := Ne.symm (h 5 (by omega))), World.cell?_setCell_other (h := Ne.symm (h 4 (by omega))), World.cell?_setCell_other (h := Ne.symm (h 3 (by omega))), World.cell?_setCell_other (h := Ne.symm (h 2 (by omega))), World.cell?_setCell_other (h := Ne.symm (h 1 (by omega))), World.cell?_setCell_other (h := Ne.symm (a := a) (b := ⟨g, o, none⟩) (by simpa using h 0 (by omega)))]

theorem put8_rule (w : World) (g o : Nat) (s : RuleI) (h : ∀ j, j < 8 → ∃ v, w.cell? ⟨g, o + j, none⟩ = some v) : RuleAt (put8 w g o s) g o s := by
  obtain ⟨v0, h0⟩ := h 0 (by omega)
  obtain ⟨v1, h1⟩ := h 1 (by omega)
  obtain ⟨v2, h2⟩ := h 2 (by omega)
  obtain ⟨v3, h3⟩ := h 3 (by omega)
  obtain ⟨v4, h4⟩ := h 4 (by omega)
  obtain ⟨v5, h5⟩ := h 5 (by omega)
  obtain ⟨v6, h6⟩ := h 6 (by omega)
  obtain ⟨v7, h7⟩ := h 7 (by omega)
  rw [Nat.add_zero] at h0
  refine ⟨?_, ?_, ?_, ?_, ?_, ?_, ?_, ?_⟩ <;> simp [go_sem, h0, h1, h2, h3, h4, h5, h6, h7]

theorem put8_room {w : World} {g n k : Nat} {zs : List RuleI} {s : RuleI} (hroom : RoomAt w g n) (hd : RulesAt w g 0 (zs.take k)) (hs : zs[k]? = some s) (hk : k < n) :
    RoomAt (put8 w g (k * 8) s) g n ∧ RulesAt (put8 w g (k * 8) s) g 0 (zs.take (k + 1)) := by
  have hr := put8_rule w g (k * 8) s (fun j hj => hroom.1 (k * 8 + j) (by omega))
  refine ⟨⟨fun j hj => ?_, fun j => ?_⟩, fun i r e => ?_⟩
  · by_cases h : k * 8 ≤ j ∧ j < k * 8 + 8
    · have hj' : j = k * 8 ∨ j = k * 8 + 1 ∨ j = k * 8 + 2 ∨ j = k * 8 + 3 ∨ j = k * 8 + 4 ∨ j = k * 8 + 5 ∨ j = k * 8 + 6 ∨ j = k * 8 + 7 := by omega
      obtain ⟨h0, h1, h2, h3, h4, h5, h6, h7⟩ := hr
      rcases hj' with rfl | rfl | rfl | rfl | rfl | rfl | rfl | rfl
      · exact ⟨_, h0⟩
      · exact ⟨_, h1⟩
      · exact ⟨_, h2⟩
      · exact ⟨_, h3⟩
      · exact ⟨_, h4⟩
      · exact ⟨_, h5⟩
      · exact ⟨_, h6⟩
      · exact ⟨_, h7⟩
    · rw [put8_other w g (k * 8) s ⟨g, j, none⟩ (fun i hi e => by have e2 := congrArg Addr.off e; simp only at e2; omega)]
      exact hroom.1 j hj
  · simp only [World.frozen?_setCell]
    exact hroom.2 j
  · rw [List.getElem?_take] at e
    split at e
    · by_cases hik : i = k
      · subst hik
        rw [hs] at e
        cases e
        rw [Nat.zero_add]
        exact hr
      · have hi : i < k := by omega
        have h1 := hd i r (by rw [List.getElem?_take, if_pos hi]; exact e)
        obtain ⟨h0, h1, h2, h3, h4, h5, h6, h7⟩ := h1
        refine ⟨?_, ?_, ?_, ?_, ?_, ?_, ?_, ?_⟩
        · rw [put8_other w g (k * 8) s ⟨g, 0 + i * 8, none⟩ (fun j hj e => by have e2 := congrArg Addr.off e; simp only at e2; omega)]; exact h0
        · rw [put8_other w g (k * 8) s ⟨g, 0 + i * 8 + 1, none⟩ (fun j hj e => by have e2 := congrArg Addr.off e; simp only at e2; omega)]; exact h1
        · rw [put8_other w g (k * 8) s ⟨g, 0 + i * 8 + 2, none⟩ (fun j hj e => by have e2 := congrArg Addr.off e; simp only at e2; omega)]; exact h2
        · rw [put8_other w g (k * 8) s ⟨g, 0 + i * 8 + 3, none⟩ (fun j hj e => by have e2 := congrArg Addr.off e; simp only at e2; omega)]; exact h3
        · rw [put8_other w g (k * 8) s ⟨g, 0 + i * 8 + 4, none⟩ (fun j hj e => by have e2 := congrArg Addr.off e; simp only at e2; omega)]; exact h4
        · rw [put8_other w g (k * 8) s ⟨g, 0 + i * 8 + 5, none⟩ (fun j hj e => by have e2 := congrArg Addr.off e; simp only at e2; omega)]; exact h5
        · rw [put8_other w g (k * 8) s ⟨g, 0 + i * 8 + 6, none⟩ (fun j hj e => by have e2 := congrArg Addr.off e; simp only at e2; omega)]; exact h6
        · rw [put8_other w g (k * 8) s ⟨g, 0 + i * 8 + 7, none⟩ (fun j hj e => by have e2 := congrArg Addr.off e; simp only at e2; omega)]; exact h7
    · cases e

theorem put8_below {w0 w : World} {B g o : Nat} (h : Below B w0 w) (hg : B ≤ g) (s : RuleI) : Below B w0 (put8 w g o s) :=
  h.setCell hg _ |>.setCell hg _ |>.setCell hg _ |>.setCell hg _ |>.setCell hg _ |>.setCell hg _ |>.setCell hg _ |>.setCell hg _

set_option maxHeartbeats 1000000 in
theorem toRules_room (a : Option Addr) (n cap : Nat) (zs : List RuleI) (w : World) (hn : n ≤ 1048576) (h : RulesIn w a n zs) :
    Calls Try.prog 14 #[.slice a n cap] w fun e w' => e = .returned (.slice (some ⟨w.heap.size, 0, none⟩) n n) ∧ RulesAt w' w.heap.size 0 zs ∧ w.heap.size < w'.heap.size ∧ Below w.heap.size w w' ∧ RoomAt w' w.heap.size n := by
  obtain ⟨i0, hi, hz0, hz1, hz2⟩ := info_parts Try.info80
  obtain ⟨wm, hmk, hownm, hgrm⟩ := run_make_full (P := Try.prog) (w := w) w.heap.size 29 80 i0 (.agg #[.int .i64 0, .int .i64 0, .int .i64 0, .int .i64 0, .int .i64 0, .int .i64 0, .int .i64 0, .int .i64 0]) 8 Try.underlying29 hi hz0 hz1 .i64 .i64 n (by rw [hz2]; omega) (by unfold maxLen; omega) (Nat.le_refl _)
  have H : Hid (RulesIn w a n zs) := h
  have hz : Hid (zs.length = n) := h.1
  clear h
  have HM : Hid (RoomAt wm w.heap.size n ∧ w.heap.size < wm.heap.size) := by
    refine ⟨⟨fun j hj => ?_, fun j => hownm.frozenAt j⟩, (hownm.lt _ rfl).2⟩
    have hl := hownm.1
    exact ⟨_, (hownm.cellAt j hj).trans (List.getElem?_eq_getElem (by omega))⟩
  clear hownm
  have HG : Hid (w.grownBy wm none) := hgrm
  clear hgrm
  have hn' : (n : Int) ≤ 1048576 := by omega
  go_enter Try.func14, Try.ntmps14
  go_wp2
  go_loopw [4] (fun i wr => ∃ k : Nat, k ≤ n ∧ i = .int .i64 (k : Int) ∧ RoomAt wr w.heap.size n ∧ RulesAt wr w.heap.size 0 (zs.take k) ∧ w.heap.size < wr.heap.size ∧ Below w.heap.size w wr)
    (fun i _ => n - (intOf i).toNat)
  case atStart => exact ⟨0, Nat.zero_le _, rfl, HM.out.1, fun k r e => by simp at e, HM.out.2, (Below.refl _ _).grown HG.out (Nat.le_refl _) (fun k e => by cases e)⟩
  case round =>
    obtain ⟨k, hk, rfl, hroom, hdone, hlt0, hnx⟩ := hrel
    by_cases hlt : k < n
    · obtain ⟨b, off, s, rfl, hs, hr⟩ := H.out.at hlt
      have HS : Hid (zs[k]? = some s) := hs
      clear hs
      have hb : b < w.heap.size := World.block_lt_of_cell? w ⟨b, off + k * 8, none⟩ hr.1
      have hr' := hr.below hnx
      have HD : Hid (RoomAt wr w.heap.size n ∧ RulesAt wr w.heap.size 0 (zs.take k)) := ⟨hroom, hdone⟩
      obtain ⟨h0, h1, h2, h3, h4, h5, h6, h7⟩ := hr'
      clear hroom hdone hr
      have hlt' : (k : Int) < (n : Int) := by omega
      go_wp2_with fail
      refine (toRule_c s _).mono ?_
      rintro e w1 ⟨rfl, hb1⟩
      obtain ⟨⟨hc, hf⟩, hd⟩ := HD.out
      have hz1 := hb1.size
      have HD1 : Hid (RoomAt w1 w.heap.size n ∧ RulesAt w1 w.heap.size 0 (zs.take k) ∧ Below w.heap.size w w1) :=
        ⟨⟨fun j hj => by obtain ⟨v, e⟩ := hc j hj; exact ⟨v, (hb1.cell (p := ⟨w.heap.size, j, none⟩) hlt0).trans e⟩, fun j => (hb1.frozen (p := ⟨w.heap.size, j, none⟩) hlt0).trans (hf j)⟩, hd.below hb1, hnx.trans (hb1.mono hnx.size)⟩
      clear hc hf hd HD h0 h1 h2 h3 h4 h5 h6 h7
      obtain ⟨v0, c0⟩ := HD1.out.1.1 (k * 8) (by omega)
      obtain ⟨v1, c1⟩ := HD1.out.1.1 (k * 8 + 1) (by omega)
      obtain ⟨v2, c2⟩ := HD1.out.1.1 (k * 8 + 2) (by omega)
      obtain ⟨v3, c3⟩ := HD1.out.1.1 (k * 8 + 3) (by omega)
      obtain ⟨v4, c4⟩ := HD1.out.1.1 (k * 8 + 4) (by omega)
      obtain ⟨v5, c5⟩ := HD1.out.1.1 (k * 8 + 5) (by omega)
      obtain ⟨v6, c6⟩ := HD1.out.1.1 (k * 8 + 6) (by omega)
      obtain ⟨v7, c7⟩ := HD1.out.1.1 (k * 8 + 7) (by omega)
      have f0 := HD1.out.1.2 (k * 8)
      have f1 := HD1.out.1.2 (k * 8 + 1)
      have f2 := HD1.out.1.2 (k * 8 + 2)
      have f3 := HD1.out.1.2 (k * 8 + 3)
      have f4 := HD1.out.1.2 (k * 8 + 4)
      have f5 := HD1.out.1.2 (k * 8 + 5)
      have f6 := HD1.out.1.2 (k * 8 + 6)
      have f7 := HD1.out.1.2 (k * 8 + 7)
      have RM : Hid (RoomAt (put8 w1 w.heap.size (k * 8) s) w.heap.size n ∧ RulesAt (put8 w1 w.heap.size (k * 8) s) w.heap.size 0 (zs.take (k + 1)) ∧ Below w.heap.size w (put8 w1 w.heap.size (k * 8) s)) := by
        have h2 := put8_room HD1.out.1 HD1.out.2.1 HS.out hlt
        exact ⟨h2.1, h2.2, put8_below HD1.out.2.2 (Nat.le_refl _) s⟩
      go_wp2
      exact ⟨⟨k + 1, by omega, by go_num, RM.out.1, RM.out.2.1, by simp only [World.size_setCell]; omega, RM.out.2.2⟩, by simp [intOf]; omega⟩
    · have hkn : k = n := by omega
      subst hkn
      rw [List.take_of_length_le (by rw [hz.out]; exact Nat.le_refl _)] at hdone
      go_wp2
      go_ret
      exact ⟨rfl, hdone, hlt0, hnx, hroom⟩

theorem toRules_c (a : Option Addr) (n cap : Nat) (zs : List RuleI) (w : World) (hn : n ≤ 1048576) (h : RulesIn w a n zs) :
    Calls Try.prog 14 #[.slice a n cap] w fun e w' => e = .returned (.slice (some ⟨w.heap.size, 0, none⟩) n n) ∧ RulesAt w' w.heap.size 0 zs ∧ w.heap.size < w'.heap.size ∧ Below w.heap.size w w' :=
  (toRules_room a n cap zs w hn h).mono fun e w' hh => ⟨hh.1, hh.2.1, hh.2.2.1, hh.2.2.2.1⟩

set_option maxHeartbeats 400000 in
theorem eqRole_same (o n : Int) (w : World) :
    Calls Try.prog 103 #[.agg #[.int .i64 o, .int .i64 n], .agg #[.int .i64 o, .int .i64 n]] w fun e w' => e = .returned (.bool true) ∧ Below w.heap.size w w' := by
  go_enter Try.func103, Try.ntmps103
  go_wp2
  go_ret
  exact ⟨rfl, by go_grown⟩

set_option maxHeartbeats 1000000 in
theorem eqRule_same (r : RuleI) (w : World) :
    Calls Try.prog 62 #[.agg #[.int .i64 r.k, .int .i64 r.ho, .int .i64 r.hn, .int .i64 r.w, .int .i64 r.oo, .int .i64 r.on, .int .i64 r.to, .int .i64 r.tn], .agg #[.int .i64 r.k, .int .i64 r.ho, .int .i64 r.hn, .int .i64 r.w, .int .i64 r.oo, .int .i64 r.on, .int .i64 r.to, .int .i64 r.tn]] w fun e w' => e = .returned (.bool true) ∧ Below w.heap.size w w' := by
  go_enter Try.func62, Try.ntmps62
  go_wp2
  go_ret
  exact ⟨rfl, by go_grown⟩

set_option maxHeartbeats 1000000 in
theorem eqRules_same (a b : Option Addr) (n c d : Nat) (zs : List RuleI) (w : World) (hn : n ≤ 1048576) (ha : RulesIn w a n zs) (hb : RulesIn w b n zs) :
    Calls Try.prog 18 #[.slice a n c, .slice b n d] w fun e w' => e = .returned (.bool true) ∧ Below w.heap.size w w' := by
  have HA : Hid (RulesIn w a n zs) := ha
  have HB : Hid (RulesIn w b n zs) := hb
  clear ha hb
  have hn' : (n : Int) ≤ 1048576 := by omega
  go_enter Try.func18, Try.ntmps18
  go_wp2
  go_loopw [5] (fun i wr => ∃ k : Nat, k ≤ n ∧ i = .int .i64 (k : Int) ∧ Below w.heap.size w wr) (fun i _ => n - (intOf i).toNat)
  case atStart => exact ⟨0, Nat.zero_le _, rfl, Below.refl _ _⟩
  case round =>
    obtain ⟨k, hk, rfl, hnx⟩ := hrel
    by_cases hlt : k < n
    · obtain ⟨b1, o1, s, e1, hs, hr⟩ := HA.out.at hlt
      obtain ⟨b2, o2, s2, e2, hs2, hr2⟩ := HB.out.at hlt
      obtain rfl : s = s2 := Option.some.inj (hs.symm.trans hs2)
      subst e1 e2
      clear hs hs2
      obtain ⟨h0, h1, h2, h3, h4, h5, h6, h7⟩ := hr.below hnx
      obtain ⟨g0, g1, g2, g3, g4, g5, g6, g7⟩ := hr2.below hnx
      clear hr hr2
      have hlt' : (k : Int) < (n : Int) := by omega
      have hb1 : b1 < wr.heap.size := World.block_lt_of_cell? wr ⟨b1, o1 + k * 8, none⟩ h0
      have hb2 : b2 < wr.heap.size := World.block_lt_of_cell? wr ⟨b2, o2 + k * 8, none⟩ g0
      go_wp2
      go_region_held3 (fun w' => (∀ b o, b < wr.heap.size → w'.cell? ⟨b, o, none⟩ = wr.cell? ⟨b, o, none⟩) ∧ Below wr.heap.size wr w') (first | exact hS | exact kp_drew _)
        (first | (go_at_call 62; refine (eqRule_same s _).mono ?_; rintro e w' ⟨rfl, hb1⟩; have hS := kp_step (by assumption) hb1))
      go_wp2
      exact ⟨⟨k + 1, by omega, by go_num, hnx.trans (hS.2.mono hnx.size)⟩, by simp [intOf]; omega⟩
    · have hkn : k = n := by omega
      subst hkn
      go_wp2
      go_ret
      exact ⟨rfl, hnx⟩

end Go.Proofs.Ytocdclgolhhckaa

namespace Go.Proofs.Ytocdclgolhhckaa
open Go.RowKit
set_option linter.unusedVariables false
set_option linter.unusedSimpArgs false

/-- Grants in a block, three cells each. -/
def GrsAt (w : World) (g : Nat) (gs : List GrI) : Prop := ∀ k x, gs[k]? = some x → GrAt w g (k * 3) x

theorem GrsAt.below {w w' : World} {g : Nat} {gs : List GrI} (h : GrsAt w g gs) (hb : Below w.heap.size w w') : GrsAt w' g gs := fun k x e =>
  (h k x e).below hb (World.block_lt_of_cell? w ⟨g, k * 3, none⟩ (h k x e).1)

theorem GrIn.of {w : World} {g n : Nat} {gs : List GrI} (hl : gs.length = n) (h : GrsAt w g gs) : GrIn w (some ⟨g, 0, none⟩) n gs :=
  ⟨hl, fun _ => ⟨g, 0, rfl, fun k x e => by rw [Nat.zero_add]; exact h k x e⟩⟩

/-- A block of n grants that may be written. -/
def Room3 (w : World) (g n : Nat) : Prop := (∀ j, j < n * 3 → ∃ v, w.cell? ⟨g, j, none⟩ = some v) ∧ ∀ j, w.frozen? ⟨g, j, none⟩ = false

abbrev put3 (w : World) (g o : Nat) (s : GrI) : World := (((w.setCell ⟨g, o, none⟩ (.int .i64 s.1.1)).setCell ⟨g, o + 1, none⟩ (.int .i64 s.1.2)).setCell ⟨g, o + 2, none⟩ (.int .i64 s.2))

theorem put3_other (w : World) (g o : Nat) (s : GrI) (a : Addr) (h : ∀ j, j < 3 → a ≠ ⟨g, o + j, none⟩) : (put3 w g o s).cell? a = w.cell? a := by
  rw [World.cell?_setCell_other (h := Ne.symm (h 2 (by omega))), World.cell?_setCell_other (h := Ne.symm (h 1 (by omega))), World.cell?_setCell_other (h := Ne.symm (a := a) (b := ⟨g, o, none⟩) (by simpa using h 0 (by omega)))]

theorem put3_gr (w : World) (g o : Nat) (s : GrI) (h : ∀ j, j < 3 → ∃ v, w.cell? ⟨g, o + j, none⟩ = some v) : GrAt (put3 w g o s) g o s := by
  obtain ⟨v0, h0⟩ := h 0 (by omega)
  obtain ⟨v1, h1⟩ := h 1 (by omega)
  obtain ⟨v2, h2⟩ := h 2 (by omega)
  rw [Nat.add_zero] at h0
  refine ⟨?_, ?_, ?_⟩ <;> simp [go_sem, h0, h1, h2]

theorem put3_room {w : World} {g n k : Nat} {zs : List GrI} {s : GrI} (hroom : Room3 w g n) (hd : GrsAt w g (zs.take k)) (hs : zs[k]? = some s) (hk : k < n) :
    Room3 (put3 w g (k * 3) s) g n ∧ GrsAt (put3 w g (k * 3) s) g (zs.take (k + 1)) := by
  have hr := put3_gr w g (k * 3) s (fun j hj => hroom.1 (k * 3 + j) (by omega))
  refine ⟨⟨fun j hj => ?_, fun j => ?_⟩, fun i r e => ?_⟩
  · by_cases h : k * 3 ≤ j ∧ j < k * 3 + 3
    · have hj' : j = k * 3 ∨ j = k * 3 + 1 ∨ j = k * 3 + 2 := by omega
      obtain ⟨h0, h1, h2⟩ := hr
      rcases hj' with rfl | rfl | rfl
      · exact ⟨_, h0⟩
      · exact ⟨_, h1⟩
      · exact ⟨_, h2⟩
    · rw [put3_other w g (k * 3) s ⟨g, j, none⟩ (fun i hi e => by have e2 := congrArg Addr.off e; simp only at e2; omega)]
      exact hroom.1 j hj
  · simp only [World.frozen?_setCell]
    exact hroom.2 j
  · rw [List.getElem?_take] at e
    split at e
    · by_cases hik : i = k
      · subst hik
        rw [hs] at e
        cases e
        exact hr
      · have hi : i < k := by omega
        have h1 := hd i r (by rw [List.getElem?_take, if_pos hi]; exact e)
        obtain ⟨h0, h1, h2⟩ := h1
        refine ⟨?_, ?_, ?_⟩
        · rw [put3_other w g (k * 3) s ⟨g, i * 3, none⟩ (fun j hj e => by have e2 := congrArg Addr.off e; simp only at e2; omega)]; exact h0
        · rw [put3_other w g (k * 3) s ⟨g, i * 3 + 1, none⟩ (fun j hj e => by have e2 := congrArg Addr.off e; simp only at e2; omega)]; exact h1
        · rw [put3_other w g (k * 3) s ⟨g, i * 3 + 2, none⟩ (fun j hj e => by have e2 := congrArg Addr.off e; simp only at e2; omega)]; exact h2
    · cases e

theorem put3_below {w0 w : World} {B g o : Nat} (h : Below B w0 w) (hg : B ≤ g) (s : GrI) : Below B w0 (put3 w g o s) :=
  h.setCell hg _ |>.setCell hg _ |>.setCell hg _

set_option maxHeartbeats 400000 in
theorem toRoleL_c (o n : Int) (w : World) : Calls Try.prog 15 #[.agg #[.int .i64 o, .int .i64 n]] w fun e w' => e = .returned (.agg #[.int .i64 o, .int .i64 n]) ∧ Below w.heap.size w w' := by
  go_enter Try.func15, Try.ntmps15
  go_wp2
  go_returns
  exact ⟨rfl, by go_grown⟩

set_option maxHeartbeats 400000 in
theorem toGrant_c (x : GrI) (w : World) : Calls Try.prog 67 #[.agg #[.int .i64 x.1.1, .int .i64 x.1.2, .int .i64 x.2]] w fun e w' => e = .returned (.agg #[.int .i64 x.1.1, .int .i64 x.1.2, .int .i64 x.2]) ∧ Below w.heap.size w w' := by
  go_enter Try.func67, Try.ntmps67
  go_wp2
  go_returns
  exact ⟨rfl, by go_grown⟩

set_option maxHeartbeats 1000000 in
theorem toGrants_room (a : Option Addr) (n cap : Nat) (zs : List GrI) (w : World) (hn : n ≤ 1048576) (h : GrIn w a n zs) :
    Calls Try.prog 27 #[.slice a n cap] w fun e w' => e = .returned (.slice (some ⟨w.heap.size, 0, none⟩) n n) ∧ GrsAt w' w.heap.size zs ∧ w.heap.size < w'.heap.size ∧ Below w.heap.size w w' ∧ Room3 w' w.heap.size n := by
  obtain ⟨i0, hi, hz0, hz1, hz2⟩ := info_parts Try.info95
  obtain ⟨wm, hmk, hownm, hgrm⟩ := run_make_full (P := Try.prog) (w := w) w.heap.size 36 95 i0 (.agg #[.int .i64 0, .int .i64 0, .int .i64 0]) 3 Try.underlying36 hi hz0 hz1 .i64 .i64 n (by rw [hz2]; omega) (by unfold maxLen; omega) (Nat.le_refl _)
  have H : Hid (GrIn w a n zs) := h
  have hz : Hid (zs.length = n) := h.1
  clear h
  have HM : Hid (Room3 wm w.heap.size n ∧ w.heap.size < wm.heap.size) := by
    refine ⟨⟨fun j hj => ?_, fun j => hownm.frozenAt j⟩, (hownm.lt _ rfl).2⟩
    have hl := hownm.1
    exact ⟨_, (hownm.cellAt j hj).trans (List.getElem?_eq_getElem (by omega))⟩
  clear hownm
  have HG : Hid (w.grownBy wm none) := hgrm
  clear hgrm
  have hn' : (n : Int) ≤ 1048576 := by omega
  go_enter Try.func27, Try.ntmps27
  go_wp2
  go_loopw [4] (fun i wr => ∃ k : Nat, k ≤ n ∧ i = .int .i64 (k : Int) ∧ Room3 wr w.heap.size n ∧ GrsAt wr w.heap.size (zs.take k) ∧ w.heap.size < wr.heap.size ∧ Below w.heap.size w wr)
    (fun i _ => n - (intOf i).toNat)
  case atStart => exact ⟨0, Nat.zero_le _, rfl, HM.out.1, fun k r e => by simp at e, HM.out.2, (Below.refl _ _).grown HG.out (Nat.le_refl _) (fun k e => by cases e)⟩
  case round =>
    obtain ⟨k, hk, rfl, hroom, hdone, hlt0, hnx⟩ := hrel
    by_cases hlt : k < n
    · obtain ⟨b, off, s, rfl, hs, hr, hb⟩ := H.out.at hlt
      have HS : Hid (zs[k]? = some s) := hs
      clear hs
      obtain ⟨h0, h1, h2⟩ := hr.below hnx hb
      have HD : Hid (Room3 wr w.heap.size n ∧ GrsAt wr w.heap.size (zs.take k)) := ⟨hroom, hdone⟩
      clear hroom hdone hr
      have hlt' : (k : Int) < (n : Int) := by omega
      go_wp2_with fail
      refine (toGrant_c s _).mono ?_
      rintro e w1 ⟨rfl, hb1⟩
      obtain ⟨⟨hc, hf⟩, hd⟩ := HD.out
      have hz1 := hb1.size
      have HD1 : Hid (Room3 w1 w.heap.size n ∧ GrsAt w1 w.heap.size (zs.take k) ∧ Below w.heap.size w w1) :=
        ⟨⟨fun j hj => by obtain ⟨v, e⟩ := hc j hj; exact ⟨v, (hb1.cell (p := ⟨w.heap.size, j, none⟩) hlt0).trans e⟩, fun j => (hb1.frozen (p := ⟨w.heap.size, j, none⟩) hlt0).trans (hf j)⟩, hd.below hb1, hnx.trans (hb1.mono hnx.size)⟩
      clear hc hf hd HD h0 h1 h2
      obtain ⟨v0, c0⟩ := HD1.out.1.1 (k * 3) (by omega)
      obtain ⟨v1, c1⟩ := HD1.out.1.1 (k * 3 + 1) (by omega)
      obtain ⟨v2, c2⟩ := HD1.out.1.1 (k * 3 + 2) (by omega)
      have f0 := HD1.out.1.2 (k * 3)
      have f1 := HD1.out.1.2 (k * 3 + 1)
      have f2 := HD1.out.1.2 (k * 3 + 2)
      have RM : Hid (Room3 (put3 w1 w.heap.size (k * 3) s) w.heap.size n ∧ GrsAt (put3 w1 w.heap.size (k * 3) s) w.heap.size (zs.take (k + 1)) ∧ Below w.heap.size w (put3 w1 w.heap.size (k * 3) s)) := by
        have h2 := put3_room HD1.out.1 HD1.out.2.1 HS.out hlt
        exact ⟨h2.1, h2.2, put3_below HD1.out.2.2 (Nat.le_refl _) s⟩
      go_wp2
      exact ⟨⟨k + 1, by omega, by go_num, RM.out.1, RM.out.2.1, by simp only [World.size_setCell]; omega, RM.out.2.2⟩, by simp [intOf]; omega⟩
    · have hkn : k = n := by omega
      subst hkn
      rw [List.take_of_length_le (by rw [hz.out]; exact Nat.le_refl _)] at hdone
      go_wp2
      go_ret
      exact ⟨rfl, hdone, hlt0, hnx, hroom⟩

theorem toGrants_c (a : Option Addr) (n cap : Nat) (zs : List GrI) (w : World) (hn : n ≤ 1048576) (h : GrIn w a n zs) :
    Calls Try.prog 27 #[.slice a n cap] w fun e w' => e = .returned (.slice (some ⟨w.heap.size, 0, none⟩) n n) ∧ GrsAt w' w.heap.size zs ∧ w.heap.size < w'.heap.size ∧ Below w.heap.size w w' :=
  (toGrants_room a n cap zs w hn h).mono fun e w' hh => ⟨hh.1, hh.2.1, hh.2.2.1, hh.2.2.2.1⟩

set_option maxHeartbeats 1000000 in
theorem eqGrant_same (x : GrI) (w : World) :
    Calls Try.prog 71 #[.agg #[.int .i64 x.1.1, .int .i64 x.1.2, .int .i64 x.2], .agg #[.int .i64 x.1.1, .int .i64 x.1.2, .int .i64 x.2]] w fun e w' => e = .returned (.bool true) ∧ Below w.heap.size w w' := by
  go_enter Try.func71, Try.ntmps71
  go_wp2
  go_ret
  exact ⟨rfl, by go_grown⟩

set_option maxHeartbeats 1000000 in
theorem eqGrants_same (a b : Option Addr) (n c d : Nat) (zs : List GrI) (w : World) (hn : n ≤ 1048576) (ha : GrIn w a n zs) (hb : GrIn w b n zs) :
    Calls Try.prog 29 #[.slice a n c, .slice b n d] w fun e w' => e = .returned (.bool true) ∧ Below w.heap.size w w' := by
  have HA : Hid (GrIn w a n zs) := ha
  have HB : Hid (GrIn w b n zs) := hb
  clear ha hb
  have hn' : (n : Int) ≤ 1048576 := by omega
  go_enter Try.func29, Try.ntmps29
  go_wp2
  go_loopw [5] (fun i wr => ∃ k : Nat, k ≤ n ∧ i = .int .i64 (k : Int) ∧ Below w.heap.size w wr) (fun i _ => n - (intOf i).toNat)
  case atStart => exact ⟨0, Nat.zero_le _, rfl, Below.refl _ _⟩
  case round =>
    obtain ⟨k, hk, rfl, hnx⟩ := hrel
    by_cases hlt : k < n
    · obtain ⟨b1, o1, s, e1, hs, hr, hl1⟩ := HA.out.at hlt
      obtain ⟨b2, o2, s2, e2, hs2, hr2, hl2⟩ := HB.out.at hlt
      obtain rfl : s = s2 := Option.some.inj (hs.symm.trans hs2)
      subst e1 e2
      clear hs hs2
      obtain ⟨h0, h1, h2⟩ := hr.below hnx hl1
      obtain ⟨g0, g1, g2⟩ := hr2.below hnx hl2
      clear hr hr2
      have hlt' : (k : Int) < (n : Int) := by omega
      have hb1 : b1 < wr.heap.size := World.block_lt_of_cell? wr ⟨b1, o1 + k * 3, none⟩ h0
      have hb2 : b2 < wr.heap.size := World.block_lt_of_cell? wr ⟨b2, o2 + k * 3, none⟩ g0
      go_wp2
      go_region_held3 (fun w' => (∀ b o, b < wr.heap.size → w'.cell? ⟨b, o, none⟩ = wr.cell? ⟨b, o, none⟩) ∧ Below wr.heap.size wr w') (first | exact hS | exact kp_drew _)
        (first | (go_at_call 71; refine (eqGrant_same s _).mono ?_; rintro e w' ⟨rfl, hb1⟩; have hS := kp_step (by assumption) hb1))
      go_wp2
      exact ⟨⟨k + 1, by omega, by go_num, hnx.trans (hS.2.mono hnx.size)⟩, by simp [intOf]; omega⟩
    · have hkn : k = n := by omega
      subst hkn
      go_wp2
      go_ret
      exact ⟨rfl, hnx⟩

end Go.Proofs.Ytocdclgolhhckaa

namespace Go.Proofs.Ytocdclgolhhckaa
open Go.RowKit
set_option linter.unusedVariables false
set_option linter.unusedSimpArgs false

/-- A slice of roles, read. -/
def RolesV (w : World) (a : Option Addr) (zs : List RoI) : Prop := ∀ k p, zs[k]? = some p → ∃ g, a = some ⟨g, 0, none⟩ ∧ w.cell? ⟨g, k * 2, none⟩ = some (.int .i64 p.1) ∧ w.cell? ⟨g, k * 2 + 1, none⟩ = some (.int .i64 p.2)

theorem RolesV.below {w w' : World} {a : Option Addr} {zs : List RoI} (h : RolesV w a zs) (hb : Below w.heap.size w w') : RolesV w' a zs := fun k p e => by
  obtain ⟨g, ha, h1, h2⟩ := h k p e
  exact ⟨g, ha, (hb.cell (p := ⟨g, k * 2, none⟩) (World.block_lt_of_cell? w ⟨g, k * 2, none⟩ h1)).trans h1, (hb.cell (p := ⟨g, k * 2 + 1, none⟩) (World.block_lt_of_cell? w ⟨g, k * 2 + 1, none⟩ h2)).trans h2⟩

theorem RolesV.kept {w w' : World} {a : Option Addr} {zs : List RoI} {row : Option Nat} (h : RolesV w a zs) (hg : w.grownBy w' row) (hne : ∀ g, a = some ⟨g, 0, none⟩ → some g ≠ row) : RolesV w' a zs := fun k p e => by
  obtain ⟨g, ha, h1, h2⟩ := h k p e
  exact ⟨g, ha, hg.cell h1 (hne g ha), hg.cell h2 (hne g ha)⟩

theorem Owns2.read {w : World} {B : Nat} {a : Option Addr} {n cap : Nat} {zs : List RoI} (h : Owns2 w B (.slice a n cap) zs) : RolesV w a zs := by
  intro k p e
  have hk : k < zs.length := by
    by_cases q : k < zs.length
    · exact q
    · rw [List.getElem?_eq_none (by omega)] at e; cases e
  have h0 : w.ownsRow B 31 2 (.slice a n cap) zs.length (flat2 zs) := h
  rcases h0.2 with ⟨h', h''⟩ | ⟨g, cap', cur, h', _⟩
  · omega
  · simp at h'
    obtain ⟨rfl, rfl, rfl⟩ := h'
    refine ⟨g, rfl, ?_, ?_⟩
    · rw [h0.cellAt (k * 2) (by omega)]; exact flat2_fst zs k p e
    · rw [h0.cellAt (k * 2 + 1) (by omega)]; exact flat2_snd zs k p e

theorem Owns2.shape {w : World} {B : Nat} {v : Value} {zs : List RoI} (h : Owns2 w B v zs) : (v = .slice none 0 0 ∧ zs = []) ∨ ∃ g cap, v = .slice (some ⟨g, 0, none⟩) zs.length cap ∧ B ≤ g ∧ g < w.heap.size ∧ zs.length ≤ cap ∧ cap ≤ maxLen := by
  have h0 : w.ownsRow B 31 2 v zs.length (flat2 zs) := h
  rcases h0.2 with ⟨h', h''⟩ | ⟨g, cap', cur, h', hb, hg, hc, hm, _⟩
  · exact .inl ⟨h', List.length_eq_zero_iff.1 h''⟩
  · exact .inr ⟨g, cap', h', hb, (Array.getElem?_eq_some_iff.1 hg).1, hc, hm⟩

theorem Owns2.below {w w' : World} {B : Nat} {v : Value} {zs : List RoI} (h : Owns2 w B v zs) (hb : Below w.heap.size w w') : Owns2 w' B v zs :=
  World.ownsRow.kept (row := none) h ⟨hb.os, hb.tape, hb.output, hb.size, fun k hk _ => hb.block k hk⟩ (by cases v.ownBlock <;> simp)

/-- The marks of n roles. -/
def mk2 (n : Nat) : List RoI := (List.range n).map fun j => (((1 + 2 * j : Nat) : Int), ((2 + 2 * j : Nat) : Int))
theorem mk2_len (n : Nat) : (mk2 n).length = n := by simp [mk2]
theorem mk2_at (n j : Nat) (h : j < n) : (mk2 n)[j]? = some (((1 + 2 * j : Nat) : Int), ((2 + 2 * j : Nat) : Int)) := by simp [mk2, h]

theorem Owns2.put {w : World} {B g cap : Nat} {zs : List RoI} {n : Nat} (hn : n = zs.length) (h : Owns2 w B (.slice (some ⟨g, 0, none⟩) n cap) zs) (j : Nat) (p : RoI) :
    Owns2 ((w.setCell ⟨g, j * 2, none⟩ (.int .i64 p.1)).setCell ⟨g, j * 2 + 1, none⟩ (.int .i64 p.2)) B (.slice (some ⟨g, 0, none⟩) n cap) (zs.set j p) ∧ w.grownBy ((w.setCell ⟨g, j * 2, none⟩ (.int .i64 p.1)).setCell ⟨g, j * 2 + 1, none⟩ (.int .i64 p.2)) (some g) := by
  subst hn
  have h0 : w.ownsRow B 31 2 (.slice (some ⟨g, 0, none⟩) zs.length cap) zs.length (flat2 zs) := h
  have h1 := h0.stored (j * 2) (.int .i64 p.1)
  have h2 := h1.1.stored (j * 2 + 1) (.int .i64 p.2)
  refine ⟨?_, ⟨h2.2.os.trans h1.2.os, h2.2.tape.trans h1.2.tape, h2.2.output.trans h1.2.output, Nat.le_trans h1.2.size h2.2.size, fun q hq hne => (h2.2.block q (Nat.lt_of_lt_of_le hq h1.2.size) hne).trans (h1.2.block q hq hne)⟩⟩
  show World.ownsRow _ B 31 2 _ (zs.set j p).length (flat2 (zs.set j p))
  rw [flat2_set, List.length_set]
  exact h2.1

theorem Owns2.cell {w : World} {B g cap : Nat} {zs : List RoI} {n : Nat} (hn : n = zs.length) (h : Owns2 w B (.slice (some ⟨g, 0, none⟩) n cap) zs) (j : Nat) (hj : j < n * 2) : (∃ v, w.cell? ⟨g, j, none⟩ = some v) ∧ w.frozen? ⟨g, j, none⟩ = false := by
  subst hn
  have h0 : w.ownsRow B 31 2 (.slice (some ⟨g, 0, none⟩) zs.length cap) zs.length (flat2 zs) := h
  exact ⟨⟨_, (h0.cellAt j hj).trans (List.getElem?_eq_getElem (by rw [flat2_len]; exact hj))⟩, h0.frozenAt j⟩

theorem grown_refl (w : World) (row : Option Nat) : w.grownBy w row := ⟨rfl, rfl, rfl, Nat.le_refl _, fun _ _ _ => rfl⟩
theorem grown_tr {a b c : World} {row : Option Nat} (h : a.grownBy b row) (k : b.grownBy c row) : a.grownBy c row :=
  ⟨k.os.trans h.os, k.tape.trans h.tape, k.output.trans h.output, Nat.le_trans h.size k.size, fun q hq hne => (k.block q (Nat.lt_of_lt_of_le hq h.size) hne).trans (h.block q hq hne)⟩

theorem Owns2.alloc {w : World} {B : Nat} {v : Value} {zs : List RoI} (h : Owns2 w B v zs) (o : Obj) : Owns2 (w.alloc o) B v zs := World.ownsRow.alloc h o

theorem RoomAt.set {w : World} {g n : Nat} (h : RoomAt w g n) (j : Nat) (v : Value) : RoomAt (w.setCell ⟨g, j, none⟩ v) g n := by
  refine ⟨fun i hi => ?_, fun i => by simp only [World.frozen?_setCell]; exact h.2 i⟩
  obtain ⟨u, hu⟩ := h.1 i hi
  by_cases e : i = j
  · subst e
    exact ⟨v, World.cell?_setCell_same' _ _ _ (by rw [hu]; rfl)⟩
  · exact ⟨u, (World.cell?_setCell_other w ⟨g, j, none⟩ ⟨g, i, none⟩ v (fun q => e (congrArg Addr.off q).symm)).trans hu⟩

theorem grown_set (w : World) (g j : Nat) (v : Value) : w.grownBy (w.setCell ⟨g, j, none⟩ v) (some g) :=
  ⟨rfl, rfl, rfl, by simp [World.setCell], fun k _ hk => Below.heap_setCell _ _ _ _ (fun e => hk (by rw [e]))⟩

set_option maxHeartbeats 2000000 in
theorem markRules_c (g n cap : Nat) (w : World) (hn : n ≤ 1048576) (h : RoomAt w g n) :
    Calls Try.prog 22 #[.slice (some ⟨g, 0, none⟩) n cap, .int .i64 1] w fun e w' => e = .returned (.int .i64 (1 + 8 * (n : Int))) ∧ w.grownBy w' (some g) := by
  have HO : Hid (RoomAt w g n) := h
  clear h
  have hn' : (n : Int) ≤ 1048576 := by omega
  go_enter Try.func22, Try.ntmps22
  go_wp2
  go_loopw [1, 5] (fun q i wr => ∃ (j : Nat), j ≤ n ∧ i = .int .i64 (j : Int) ∧ q = .int .i64 (1 + 8 * (j : Int)) ∧ RoomAt wr g n ∧ w.grownBy wr (some g))
    (fun _ i _ => n - (intOf i).toNat)
  case atStart => exact ⟨0, Nat.zero_le _, rfl, rfl, HO.out, grown_refl _ _⟩
  case round =>
    obtain ⟨j, hj, rfl, rfl, hroom, hgr⟩ := hrel
    have HG : Hid (RoomAt wr g n ∧ w.grownBy wr (some g)) := ⟨hroom, hgr⟩
    by_cases hlt : j < n
    · obtain ⟨v0, c0⟩ := hroom.1 (j * 8) (by omega)
      obtain ⟨v1, c1⟩ := hroom.1 (j * 8 + 1) (by omega)
      obtain ⟨v2, c2⟩ := hroom.1 (j * 8 + 2) (by omega)
      obtain ⟨v3, c3⟩ := hroom.1 (j * 8 + 3) (by omega)
      obtain ⟨v4, c4⟩ := hroom.1 (j * 8 + 4) (by omega)
      obtain ⟨v5, c5⟩ := hroom.1 (j * 8 + 5) (by omega)
      obtain ⟨v6, c6⟩ := hroom.1 (j * 8 + 6) (by omega)
      obtain ⟨v7, c7⟩ := hroom.1 (j * 8 + 7) (by omega)
      have f0 := hroom.2 (j * 8)
      have f1 := hroom.2 (j * 8 + 1)
      have f2 := hroom.2 (j * 8 + 2)
      have f3 := hroom.2 (j * 8 + 3)
      have f4 := hroom.2 (j * 8 + 4)
      have f5 := hroom.2 (j * 8 + 5)
      have f6 := hroom.2 (j * 8 + 6)
      have f7 := hroom.2 (j * 8 + 7)
      clear hroom hgr
      have hlt' : (j : Int) < (n : Int) := by omega
      go_wp2
      refine ⟨⟨j + 1, by omega, by go_num, ?_, ?_, ?_⟩, by simp [intOf]; omega⟩
      · congr 1
      · exact (((((((HG.out.1.set _ _).set _ _).set _ _).set _ _).set _ _).set _ _).set _ _).set _ _
      · exact grown_tr (grown_tr (grown_tr (grown_tr (grown_tr (grown_tr (grown_tr (grown_tr HG.out.2 (grown_set _ _ _ _)) (grown_set _ _ _ _)) (grown_set _ _ _ _)) (grown_set _ _ _ _)) (grown_set _ _ _ _)) (grown_set _ _ _ _)) (grown_set _ _ _ _)) (grown_set _ _ _ _)
    · have hjn : j = n := by omega
      subst hjn
      go_wp2
      go_ret
      exact ⟨rfl, hgr⟩

end Go.Proofs.Ytocdclgolhhckaa
