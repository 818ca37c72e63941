/- Contracts. -/
import Derived.Test.YtfkajnenniapaaaGreatPt02
import Derived.Test.YtfkajnenniapaaaGreatPt03
namespace Go.Proofs.YtfkajnenniapaaaGreat
set_option maxRecDepth 100000
set_option maxHeartbeats 8000000
open Go.RowKit
set_option linter.unusedVariables false
set_option linter.unusedSimpArgs false

def sameB (r s : RuleI) : Bool := decide (r = s)
theorem sameB_mk (a0 a1 a2 a3 a4 a5 a6 a7 b0 b1 b2 b3 b4 b5 b6 b7 : Int) : sameB ⟨a0, a1, a2, a3, a4, a5, a6, a7⟩ ⟨b0, b1, b2, b3, b4, b5, b6, b7⟩ = (a0 == b0 && (a1 == b1 && a2 == b2) && a3 == b3 && (a4 == b4 && a5 == b5) && (a6 == b6 && a7 == b7)) := by
 unfold sameB
 rw [Bool.eq_iff_iff]
 simp only [decide_eq_true_eq, RuleI.mk.injEq, Bool.and_eq_true, beq_iff_eq]
 constructor
 ·rintro ⟨h0, h1, h2, h3, h4, h5, h6, h7⟩; exact ⟨⟨⟨⟨h0, h1, h2⟩, h3⟩, h4, h5⟩, h6, h7⟩
 ·rintro ⟨⟨⟨⟨h0, h1, h2⟩, h3⟩, h4, h5⟩, h6, h7⟩; exact ⟨h0, h1, h2, h3, h4, h5, h6, h7⟩
theorem rule_eql (r s : RuleI) (w : World) : (binOp .eql 129 (.agg #[.int .i64 r.k, .int .i64 r.ho, .int .i64 r.hn, .int .i64 r.w, .int .i64 r.oo, .int .i64 r.on, .int .i64 r.to, .int .i64 r.tn]) (.agg #[.int .i64 s.k, .int .i64 s.ho, .int .i64 s.hn, .int .i64 s.w, .int .i64 s.oo, .int .i64 s.on, .int .i64 s.to, .int .i64 s.tn])).run Tryz.prog w = .ok (.bool (sameB r s)) w := by
 obtain ⟨a0, a1, a2, a3, a4, a5, a6, a7⟩ := r
 obtain ⟨b0, b1, b2, b3, b4, b5, b6, b7⟩ := s
 simp only
 rw [sameB_mk]
 cases e0 : (a0 == b0)
 ·simp [go_sem, e0]
 cases e1 : (a1 == b1)
 ·simp [go_sem, e0, e1]
 cases e2 : (a2 == b2)
 ·simp [go_sem, e0, e1, e2]
 cases e3 : (a3 == b3)
 ·simp [go_sem, e0, e1, e2, e3]
 cases e4 : (a4 == b4)
 ·simp [go_sem, e0, e1, e2, e3, e4]
 cases e5 : (a5 == b5)
 ·simp [go_sem, e0, e1, e2, e3, e4, e5]
 cases e6 : (a6 == b6)
 ·simp [go_sem, e0, e1, e2, e3, e4, e5, e6]
 cases e7 : (a7 == b7)
 ·simp [go_sem, e0, e1, e2, e3, e4, e5, e6, e7]
 ·simp [go_sem, e0, e1, e2, e3, e4, e5, e6, e7]

theorem Tryz.info129 : (Tryz.prog.info? 129).map (fun i => (i.zero, i.size, i.bytes)) = some (some (.agg #[.int .i64 0, .int .i64 0, .int .i64 0, .int .i64 0, .int .i64 0, .int .i64 0, .int .i64 0, .int .i64 0]), 8, 64) := by kernel_rfl
def RoomAt (w : World) (g n : Nat) : Prop := (∀ j, j < n * 8 → ∃ v, w.cell? ⟨g, j, none⟩ = some v) ∧ ∀ j, w.frozen? ⟨g, j, none⟩ = false
abbrev put8 (w : World) (g o : Nat) (s : RuleI) : World := ((((((((w.setCell ⟨g, o, none⟩ (.int .i64 s.k)).setCell ⟨g, o + 1, none⟩ (.int .i64 s.ho)).setCell ⟨g, o + 2, none⟩ (.int .i64 s.hn)).setCell ⟨g, o + 3, none⟩ (.int .i64 s.w)).setCell ⟨g, o + 4, none⟩ (.int .i64 s.oo)).setCell ⟨g, o + 5, none⟩ (.int .i64 s.on)).setCell ⟨g, o + 6, none⟩ (.int .i64 s.to)).setCell ⟨g, o + 7, none⟩ (.int .i64 s.tn))
theorem put8_other (w : World) (g o : Nat) (s : RuleI) (a : Addr) (h : ∀ j, j < 8 → a ≠ ⟨g, o + j, none⟩) : (put8 w g o s).cell? a = w.cell? a := by
 rw [World.cell?_setCell_other (h := Ne.symm (h 7 (by omega))), World.cell?_setCell_other (h := Ne.symm (h 6 (by omega))), World.cell?_setCell_other (h := Ne.symm (h 5 (by omega))), World.cell?_setCell_other (h := Ne.symm (h 4 (by omega))), World.cell?_setCell_other (h := Ne.symm (h 3 (by omega))), World.cell?_setCell_other (h := Ne.symm (h 2 (by omega))), World.cell?_setCell_other (h := Ne.symm (h 1 (by omega))), World.cell?_setCell_other (h := Ne.symm (a := a) (b := ⟨g, o, none⟩) (by simpa using h 0 (by omega)))]
theorem put8_rule (w : World) (g o : Nat) (s : RuleI) (h : ∀ j, j < 8 → ∃ v, w.cell? ⟨g, o + j, none⟩ = some v) : RuleAt (put8 w g o s) g o s := by
 obtain ⟨v0, h0⟩ := h 0 (by omega)
 obtain ⟨v1, h1⟩ := h 1 (by omega)
 obtain ⟨v2, h2⟩ := h 2 (by omega)
 obtain ⟨v3, h3⟩ := h 3 (by omega)
 obtain ⟨v4, h4⟩ := h 4 (by omega)
 obtain ⟨v5, h5⟩ := h 5 (by omega)
 obtain ⟨v6, h6⟩ := h 6 (by omega)
 obtain ⟨v7, h7⟩ := h 7 (by omega)
 rw [Nat.add_zero] at h0
 refine ⟨?_, ?_, ?_, ?_, ?_, ?_, ?_, ?_⟩ <;> simp [go_sem, h0, h1, h2, h3, h4, h5, h6, h7]
theorem put8_room {w : World} {g n k : Nat} {zs : List RuleI} {s : RuleI} (hroom : RoomAt w g n) (hd : RulesAt w g 0 (zs.take k)) (hs : zs[k]? = some s) (hk : k < n) :
  RoomAt (put8 w g (k * 8) s) g n ∧ RulesAt (put8 w g (k * 8) s) g 0 (zs.take (k + 1)) := by
 have hr := put8_rule w g (k * 8) s (fun j hj => hroom.1 (k * 8 + j) (by omega))
 refine ⟨⟨fun j hj => ?_, fun j => ?_⟩, fun i r e => ?_⟩
 ·by_cases h : k * 8 ≤ j ∧ j < k * 8 + 8
  ·have hj' : j = k * 8 ∨ j = k * 8 + 1 ∨ j = k * 8 + 2 ∨ j = k * 8 + 3 ∨ j = k * 8 + 4 ∨ j = k * 8 + 5 ∨ j = k * 8 + 6 ∨ j = k * 8 + 7 := by omega
   obtain ⟨h0, h1, h2, h3, h4, h5, h6, h7⟩ := hr
   rcases hj' with rfl | rfl | rfl | rfl | rfl | rfl | rfl | rfl
   ·exact ⟨_, h0⟩
   ·exact ⟨_, h1⟩
   ·exact ⟨_, h2⟩
   ·exact ⟨_, h3⟩
   ·exact ⟨_, h4⟩
   ·exact ⟨_, h5⟩
   ·exact ⟨_, h6⟩
   ·exact ⟨_, h7⟩
  ·rw [put8_other w g (k * 8) s ⟨g, j, none⟩ (fun i hi e => by have e2 := congrArg Addr.off e; simp only at e2; omega)]
   exact hroom.1 j hj
 ·simp only [World.frozen?_setCell]
  exact hroom.2 j
 ·rw [List.getElem?_take] at e
  split at e
  ·by_cases hik : i = k
   ·subst hik
    rw [hs] at e
    cases e
    rw [Nat.zero_add]
    exact hr
   ·have hi : i < k := by omega
    have h1 := hd i r (by rw [List.getElem?_take, if_pos hi]; exact e)
    obtain ⟨h0, h1, h2, h3, h4, h5, h6, h7⟩ := h1
    refine ⟨?_, ?_, ?_, ?_, ?_, ?_, ?_, ?_⟩
    ·rw [put8_other w g (k * 8) s ⟨g, 0 + i * 8, none⟩ (fun j hj e => by have e2 := congrArg Addr.off e; simp only at e2; omega)]; exact h0
    ·rw [put8_other w g (k * 8) s ⟨g, 0 + i * 8 + 1, none⟩ (fun j hj e => by have e2 := congrArg Addr.off e; simp only at e2; omega)]; exact h1
    ·rw [put8_other w g (k * 8) s ⟨g, 0 + i * 8 + 2, none⟩ (fun j hj e => by have e2 := congrArg Addr.off e; simp only at e2; omega)]; exact h2
    ·rw [put8_other w g (k * 8) s ⟨g, 0 + i * 8 + 3, none⟩ (fun j hj e => by have e2 := congrArg Addr.off e; simp only at e2; omega)]; exact h3
    ·rw [put8_other w g (k * 8) s ⟨g, 0 + i * 8 + 4, none⟩ (fun j hj e => by have e2 := congrArg Addr.off e; simp only at e2; omega)]; exact h4
    ·rw [put8_other w g (k * 8) s ⟨g, 0 + i * 8 + 5, none⟩ (fun j hj e => by have e2 := congrArg Addr.off e; simp only at e2; omega)]; exact h5
    ·rw [put8_other w g (k * 8) s ⟨g, 0 + i * 8 + 6, none⟩ (fun j hj e => by have e2 := congrArg Addr.off e; simp only at e2; omega)]; exact h6
    ·rw [put8_other w g (k * 8) s ⟨g, 0 + i * 8 + 7, none⟩ (fun j hj e => by have e2 := congrArg Addr.off e; simp only at e2; omega)]; exact h7
  ·cases e
theorem put8_below {w0 w : World} {B g o : Nat} (h : Below B w0 w) (hg : B ≤ g) (s : RuleI) : Below B w0 (put8 w g o s) :=
 h.setCell hg _ |>.setCell hg _ |>.setCell hg _ |>.setCell hg _ |>.setCell hg _ |>.setCell hg _ |>.setCell hg _ |>.setCell hg _
theorem toRules_room (a : Option Addr) (n cap : Nat) (zs : List RuleI) (w : World) (hn : n ≤ 1048576) (h : RulesIn w a n zs) :
  Calls Tryz.prog 68 #[.slice a n cap] w fun e w' => e = .returned (.slice (some ⟨w.heap.size, 0, none⟩) n n) ∧ RulesAt w' w.heap.size 0 zs ∧ w.heap.size < w'.heap.size ∧ Below w.heap.size w w' ∧ RoomAt w' w.heap.size n := by
 obtain ⟨i0, hi, hz0, hz1, hz2⟩ := info_parts Tryz.info129
 obtain ⟨wm, hmk, hownm, hgrm⟩ := run_make_full (P := Tryz.prog) (w := w) w.heap.size 70 129 i0 (.agg #[.int .i64 0, .int .i64 0, .int .i64 0, .int .i64 0, .int .i64 0, .int .i64 0, .int .i64 0, .int .i64 0]) 8 Tryz.underlying70 hi hz0 hz1 .i64 .i64 n (by rw [hz2]; omega) (by unfold maxLen; omega) (Nat.le_refl _)
 have H : Hid (RulesIn w a n zs) := h
 have hz : Hid (zs.length = n) := h.1
 clear h
 have HM : Hid (RoomAt wm w.heap.size n ∧ w.heap.size < wm.heap.size) := by
  refine ⟨⟨fun j hj => ?_, fun j => hownm.frozenAt j⟩, (hownm.lt _ rfl).2⟩
  have hl := hownm.1
  exact ⟨_, (hownm.cellAt j hj).trans (List.getElem?_eq_getElem (by omega))⟩
 clear hownm
 have HG : Hid (w.grownBy wm none) := hgrm
 clear hgrm
 have hn' : (n : Int) ≤ 1048576 := by omega
 go_enter Tryz.func68, Tryz.ntmps68
 go_wp2
 go_loopw [4] (fun i wr => ∃ k : Nat, k ≤ n ∧ i = .int .i64 (k : Int) ∧ RoomAt wr w.heap.size n ∧ RulesAt wr w.heap.size 0 (zs.take k) ∧ w.heap.size < wr.heap.size ∧ Below w.heap.size w wr)
  (fun i _ => n - (intOf i).toNat)
 case atStart => exact ⟨0, Nat.zero_le _, rfl, HM.out.1, fun k r e => by simp at e, HM.out.2, (Below.refl _ _).grown HG.out (Nat.le_refl _) (fun k e => by cases e)⟩
 case round =>
  obtain ⟨k, hk, rfl, hroom, hdone, hlt0, hnx⟩ := hrel
  by_cases hlt : k < n
  ·obtain ⟨b, off, s, rfl, hs, hr⟩ := H.out.at hlt
   have HS : Hid (zs[k]? = some s) := hs
   clear hs
   have hb : b < w.heap.size := zL w ⟨b, off + k * 8, none⟩ hr.1
   have hr' := hr.below hnx
   have HD : Hid (RoomAt wr w.heap.size n ∧ RulesAt wr w.heap.size 0 (zs.take k)) := ⟨hroom, hdone⟩
   obtain ⟨h0, h1, h2, h3, h4, h5, h6, h7⟩ := hr'
   clear hroom hdone hr
   have hlt' : (k : Int) < (n : Int) := by omega
   go_wp2_with fail
   refine (toRule_c s _).mono ?_
   rintro e w1 ⟨rfl, hb1⟩
   obtain ⟨⟨hc, hf⟩, hd⟩ := HD.out
   have hz1 := hb1.size
   have HD1 : Hid (RoomAt w1 w.heap.size n ∧ RulesAt w1 w.heap.size 0 (zs.take k) ∧ Below w.heap.size w w1) :=
    ⟨⟨fun j hj => by obtain ⟨v, e⟩ := hc j hj; exact ⟨v, (hb1.cell (p := ⟨w.heap.size, j, none⟩) hlt0).trans e⟩, fun j => (hb1.frozen (p := ⟨w.heap.size, j, none⟩) hlt0).trans (hf j)⟩, hd.below hb1, hnx.trans (hb1.mono hnx.size)⟩
   clear hc hf hd HD h0 h1 h2 h3 h4 h5 h6 h7
   obtain ⟨v0, c0⟩ := HD1.out.1.1 (k * 8) (by omega)
   obtain ⟨v1, c1⟩ := HD1.out.1.1 (k * 8 + 1) (by omega)
   obtain ⟨v2, c2⟩ := HD1.out.1.1 (k * 8 + 2) (by omega)
   obtain ⟨v3, c3⟩ := HD1.out.1.1 (k * 8 + 3) (by omega)
   obtain ⟨v4, c4⟩ := HD1.out.1.1 (k * 8 + 4) (by omega)
   obtain ⟨v5, c5⟩ := HD1.out.1.1 (k * 8 + 5) (by omega)
   obtain ⟨v6, c6⟩ := HD1.out.1.1 (k * 8 + 6) (by omega)
   obtain ⟨v7, c7⟩ := HD1.out.1.1 (k * 8 + 7) (by omega)
   have f0 := HD1.out.1.2 (k * 8)
   have f1 := HD1.out.1.2 (k * 8 + 1)
   have f2 := HD1.out.1.2 (k * 8 + 2)
   have f3 := HD1.out.1.2 (k * 8 + 3)
   have f4 := HD1.out.1.2 (k * 8 + 4)
   have f5 := HD1.out.1.2 (k * 8 + 5)
   have f6 := HD1.out.1.2 (k * 8 + 6)
   have f7 := HD1.out.1.2 (k * 8 + 7)
   have RM : Hid (RoomAt (put8 w1 w.heap.size (k * 8) s) w.heap.size n ∧ RulesAt (put8 w1 w.heap.size (k * 8) s) w.heap.size 0 (zs.take (k + 1)) ∧ Below w.heap.size w (put8 w1 w.heap.size (k * 8) s)) := by
    have h2 := put8_room HD1.out.1 HD1.out.2.1 HS.out hlt
    exact ⟨h2.1, h2.2, put8_below HD1.out.2.2 (Nat.le_refl _) s⟩
   go_wp2
   exact ⟨⟨k + 1, by omega, by go_num, RM.out.1, RM.out.2.1, by simp only [World.size_setCell]; omega, RM.out.2.2⟩, by simp [intOf]; omega⟩
  ·have hkn : k = n := by omega
   subst hkn
   rw [List.take_of_length_le (by rw [hz.out]; exact Nat.le_refl _)] at hdone
   go_wp2
   go_ret
   exact ⟨rfl, hdone, hlt0, hnx, hroom⟩
theorem eqRule_same (r : RuleI) (w : World) :
  Calls Tryz.prog 98 #[.agg #[.int .i64 r.k, .int .i64 r.ho, .int .i64 r.hn, .int .i64 r.w, .int .i64 r.oo, .int .i64 r.on, .int .i64 r.to, .int .i64 r.tn], .agg #[.int .i64 r.k, .int .i64 r.ho, .int .i64 r.hn, .int .i64 r.w, .int .i64 r.oo, .int .i64 r.on, .int .i64 r.to, .int .i64 r.tn]] w fun e w' => e = .returned (.bool true) ∧ Below w.heap.size w w' := by
 go_enter Tryz.func98, Tryz.ntmps98
 go_wp2
 go_ret
 exact ⟨rfl, by go_grown⟩
theorem eqRules_same (a b : Option Addr) (n c d : Nat) (zs : List RuleI) (w : World) (hn : n ≤ 1048576) (ha : RulesIn w a n zs) (hb : RulesIn w b n zs) :
  Calls Tryz.prog 77 #[.slice a n c, .slice b n d] w fun e w' => e = .returned (.bool true) ∧ Below w.heap.size w w' := by
 have HA : Hid (RulesIn w a n zs) := ha
 have HB : Hid (RulesIn w b n zs) := hb
 clear ha hb
 have hn' : (n : Int) ≤ 1048576 := by omega
 go_enter Tryz.func77, Tryz.ntmps77
 go_wp2
 go_loopw [5] (fun i wr => ∃ k : Nat, k ≤ n ∧ i = .int .i64 (k : Int) ∧ Below w.heap.size w wr) (fun i _ => n - (intOf i).toNat)
 case atStart => exact ⟨0, Nat.zero_le _, rfl, Below.refl _ _⟩
 case round =>
  obtain ⟨k, hk, rfl, hnx⟩ := hrel
  by_cases hlt : k < n
  ·obtain ⟨b1, o1, s, e1, hs, hr⟩ := HA.out.at hlt
   obtain ⟨b2, o2, s2, e2, hs2, hr2⟩ := HB.out.at hlt
   obtain rfl : s = s2 := Option.some.inj (hs.symm.trans hs2)
   subst e1 e2
   clear hs hs2
   obtain ⟨h0, h1, h2, h3, h4, h5, h6, h7⟩ := hr.below hnx
   obtain ⟨g0, g1, g2, g3, g4, g5, g6, g7⟩ := hr2.below hnx
   clear hr hr2
   have hlt' : (k : Int) < (n : Int) := by omega
   have hb1 : b1 < wr.heap.size := zL wr ⟨b1, o1 + k * 8, none⟩ h0
   have hb2 : b2 < wr.heap.size := zL wr ⟨b2, o2 + k * 8, none⟩ g0
   go_wp2
   go_region_held3 (fun w' => (∀ b o, b < wr.heap.size → w'.cell? ⟨b, o, none⟩ = wr.cell? ⟨b, o, none⟩) ∧ Below wr.heap.size wr w') (first | exact hS | exact kp_drew _)
    (first | (go_at_call 98; refine (eqRule_same s _).mono ?_; rintro e w' ⟨rfl, hb1⟩; have hS := kp_step (by assumption) hb1))
   go_wp2
   exact ⟨⟨k + 1, by omega, by go_num, hnx.trans (hS.2.mono hnx.size)⟩, by simp [intOf]; omega⟩
  ·have hkn : k = n := by omega
   subst hkn
   go_wp2
   go_ret
   exact ⟨rfl, hnx⟩

theorem grown_refl (w : World) (row : Option Nat) : w.grownBy w row := ⟨rfl, rfl, rfl, Nat.le_refl _, fun _ _ _ => rfl⟩
theorem grown_tr {a b c : World} {row : Option Nat} (h : a.grownBy b row) (k : b.grownBy c row) : a.grownBy c row :=
 ⟨k.os.trans h.os, k.tape.trans h.tape, k.output.trans h.output, Nat.le_trans h.size k.size, fun q hq hne => (k.block q (Nat.lt_of_lt_of_le hq h.size) hne).trans (h.block q hq hne)⟩
theorem grown_set (w : World) (g j : Nat) (v : Value) : w.grownBy (w.setCell ⟨g, j, none⟩ v) (some g) :=
 ⟨rfl, rfl, rfl, by simp [World.setCell], fun k _ hk => Below.heap_setCell _ _ _ _ (fun e => hk (by rw [e]))⟩

def IntIn (w : World) (a : Option Addr) (n : Nat) (zs : List Int) : Prop := zs.length = n ∧ (0 < n → ∃ b off, a = some ⟨b, off, none⟩ ∧ ∀ k x, zs[k]? = some x → w.cell? ⟨b, off + k, none⟩ = some (.int .i64 x))
theorem IntIn.below {w w' : World} {a : Option Addr} {n : Nat} {zs : List Int} (h : IntIn w a n zs) (hb : Below w.heap.size w w') : IntIn w' a n zs := by
 refine ⟨h.1, fun hn => ?_⟩
 obtain ⟨b, off, e, k⟩ := h.2 hn
 exact ⟨b, off, e, fun j x hx => (hb.cell (p := ⟨b, off + j, none⟩) (zL w ⟨b, off + j, none⟩ (k j x hx))).trans (k j x hx)⟩
theorem IntIn.at {w : World} {a : Option Addr} {n : Nat} {zs : List Int} (h : IntIn w a n zs) {k : Nat} (hk : k < n) : ∃ b off x, a = some ⟨b, off, none⟩ ∧ zs[k]? = some x ∧ w.cell? ⟨b, off + k, none⟩ = some (.int .i64 x) ∧ b < w.heap.size := by
 obtain ⟨b, off, e, q⟩ := h.2 (by omega)
 have hx := List.getElem?_eq_getElem (l := zs) (i := k) (by rw [h.1]; exact hk)
 exact ⟨b, off, _, e, hx, q k _ hx, zL w ⟨b, off + k, none⟩ (q k _ hx)⟩
theorem IntIn.row {w : World} {a : Option Addr} {n : Nat} {zs : List Int} (h : IntIn w a n zs) : RowIn w a n zs := by
 refine ⟨by rw [h.1]; exact Nat.le_refl _, fun k hk => ?_⟩
 obtain ⟨b, off, x, e, hx, hc, _⟩ := h.at hk
 exact ⟨b, off, e, by rw [hx]; exact hc⟩
def IntsAt (w : World) (g : Nat) (zs : List Int) : Prop := ∀ k x, zs[k]? = some x → w.cell? ⟨g, k, none⟩ = some (.int .i64 x)
theorem IntIn.of {w : World} {g n : Nat} {zs : List Int} (hl : zs.length = n) (h : IntsAt w g zs) : IntIn w (some ⟨g, 0, none⟩) n zs :=
 ⟨hl, fun _ => ⟨g, 0, rfl, fun k x e => by rw [Nat.zero_add]; exact h k x e⟩⟩
def IntRoom (w : World) (g n : Nat) : Prop := (∀ j, j < n → ∃ v, w.cell? ⟨g, j, none⟩ = some v) ∧ ∀ j, w.frozen? ⟨g, j, none⟩ = false
theorem IntRoom.below {w w' : World} {g n : Nat} (h : IntRoom w g n) (hg : g < w.heap.size) (hb : Below w.heap.size w w') : IntRoom w' g n :=
 ⟨fun j hj => by obtain ⟨v, e⟩ := h.1 j hj; exact ⟨v, (hb.cell (p := ⟨g, j, none⟩) hg).trans e⟩, fun j => (hb.frozen (p := ⟨g, j, none⟩) hg).trans (h.2 j)⟩
theorem IntRoom.set {w : World} {g n : Nat} (h : IntRoom w g n) (o : Nat) (v : Value) : IntRoom (w.setCell ⟨g, o, none⟩ v) g n := by
 refine ⟨fun j hj => ?_, fun j => by simp only [World.frozen?_setCell]; exact h.2 j⟩
 obtain ⟨u, e⟩ := h.1 j hj
 by_cases q : j = o
 ·subst q
  exact ⟨v, by simp [go_sem, e]⟩
 ·exact ⟨u, by rw [World.cell?_setCell_other (h := fun e => q (by have := congrArg Addr.off e; simp at this; omega))]; exact e⟩
theorem toInts_room (a : Option Addr) (n cap : Nat) (zs : List Int) (w : World) (hn : n ≤ 1048576) (h : IntIn w a n zs) :
  Calls Tryz.prog 70 #[.slice a n cap] w fun e w' => e = .returned (.slice (some ⟨w.heap.size, 0, none⟩) n n) ∧ IntsAt w' w.heap.size zs ∧ w.heap.size < w'.heap.size ∧ Below w.heap.size w w' ∧ IntRoom w' w.heap.size n := by
 refine (toS_c a n cap zs w hn h.row).mono ?_
 rintro e w' ⟨rfl, hown, hb⟩
 have hz : zs.length = n := h.1
 have hl := hown.1
 refine ⟨rfl, fun k x hx => ?_, owned_lt hown, hb, fun j hj => ⟨_, (hown.cellAt j (by omega)).trans (List.getElem?_eq_getElem (by omega))⟩, fun j => hown.frozenAt j⟩
 have hk : k < n := by
  by_cases q : k < n
  ·exact q
  ·rw [List.getElem?_eq_none (by omega)] at hx; cases hx
 have := owned_cells hown (by omega) k hk
 rw [hx] at this
 exact this
theorem eqIntsS_same (a b : Option Addr) (n c d : Nat) (zs : List Int) (w : World) (hn : n ≤ 1048576) (ha : IntIn w a n zs) (hb : IntIn w b n zs) :
  Calls Tryz.prog 43 #[.slice a n c, .slice b n d] w fun e w' => e = .returned (.bool true) ∧ Below w.heap.size w w' :=
 eqS_same a b n c d zs w hn ha.row.2 hb.row.2

def clCode (zs : List Int) : Int := if 4 < zs.length then 2 else if zs.all (fun c => inR c 0 15) = true then 0 else 3
theorem clCode_bad {zs : List Int} {k : Nat} {x : Int} (hl : zs.length ≤ 4) (hx : zs[k]? = some x) (hb : inR x 0 15 = false) : clCode zs = 3 := by
 unfold clCode
 rw [if_neg (by omega), if_neg]
 intro h
 have := List.all_eq_true.1 h x (List.mem_of_getElem? hx)
 rw [hb] at this
 cases this
theorem clCode_ok {zs : List Int} (hl : zs.length ≤ 4) (h : ∀ (k : Nat) (x : Int), k < zs.length → zs[k]? = some x → inR x 0 15 = true) : clCode zs = 0 := by
 unfold clCode
 rw [if_neg (by omega), if_pos]
 refine List.all_eq_true.2 (fun x hx => ?_)
 obtain ⟨k, hk⟩ := List.mem_iff_getElem?.1 hx
 exact h k x (by
  by_cases q : k < zs.length
  ·exact q
  ·rw [List.getElem?_eq_none (by omega)] at hk; cases hk) hk
theorem inR_iff (v lo hi : Int) : inR v lo hi = true ↔ lo ≤ v ∧ v ≤ hi := by simp [inR]
theorem cin_c (v lo hi : Int) (w : World) : Calls Tryz.prog 56 #[.int .i64 v, .int .i64 lo, .int .i64 hi] w fun e w' => e = .returned (.bool (inR v lo hi)) ∧ w = w' := by
 unfold inR
 cases h0 : decide (lo ≤ v)
 ·go_enter Tryz.func56, Tryz.ntmps56
  go_wp2
  go_ret
  exact ⟨by simp, rfl⟩
 ·cases h1 : decide (v ≤ hi)
  all_goals
   go_enter Tryz.func56, Tryz.ntmps56
   go_wp2
   go_ret
   exact ⟨by simp, rfl⟩
theorem sForm_c (v : Int) (w : World) : Calls Tryz.prog 104 #[.int .i64 v] w fun e w' => e = .returned (.bool (inR v 1 4)) ∧ w = w' := by
 go_enter Tryz.func104, Tryz.ntmps104
 go_wp2_with (go_at_call 56; refine (cin_c _ _ _ _).mono ?_; rintro e w' ⟨rfl, rfl⟩)
 go_ret
 exact ⟨rfl, rfl⟩
theorem sEpoch_c (v : Int) (w : World) : Calls Tryz.prog 103 #[.int .i64 v] w fun e w' => e = .returned (.bool (inR v 1 9)) ∧ w = w' := by
 go_enter Tryz.func103, Tryz.ntmps103
 go_wp2_with (go_at_call 56; refine (cin_c _ _ _ _).mono ?_; rintro e w' ⟨rfl, rfl⟩)
 go_ret
 exact ⟨rfl, rfl⟩
theorem iForm_c (v : Int) (w : World) : Calls Tryz.prog 136 #[.int .i64 v] w fun e w' => e = .returned (.bool (inR v 1 4)) ∧ w = w' := by
 unfold inR
 cases h0 : decide (1 ≤ v)
 ·go_enter Tryz.func136, Tryz.ntmps136
  go_wp2
  go_ret
  exact ⟨by simp, rfl⟩
 ·cases h1 : decide (v ≤ 4)
  all_goals
   go_enter Tryz.func136, Tryz.ntmps136
   go_wp2
   go_ret
   exact ⟨by simp, rfl⟩
theorem iEpoch_c (v : Int) (w : World) : Calls Tryz.prog 131 #[.int .i64 v] w fun e w' => e = .returned (.bool (inR v 1 9)) ∧ w = w' := by
 unfold inR
 cases h0 : decide (1 ≤ v)
 ·go_enter Tryz.func131, Tryz.ntmps131
  go_wp2
  go_ret
  exact ⟨by simp, rfl⟩
 ·cases h1 : decide (v ≤ 9)
  all_goals
   go_enter Tryz.func131, Tryz.ntmps131
   go_wp2
   go_ret
   exact ⟨by simp, rfl⟩
theorem implClassesFault_c (a : Option Addr) (n cap : Nat) (zs : List Int) (w : World) (h : IntIn w a n zs) :
  Calls Tryz.prog 150 #[.slice a n cap] w fun e w' => e = .returned (.int .i64 (clCode zs)) ∧ w = w' := by
 have HZ : Hid (zs.length = n) := h.1
 have HI : Hid (IntIn w a n zs) := h
 clear h
 by_cases h4 : 4 < n
 ·have hc : clCode zs = 2 := by unfold clCode; rw [if_pos (by rw [HZ.out]; exact h4)]
  rw [hc]
  clear hc
  have h4' : (4 : Int) < (n : Int) := by omega
  go_enter Tryz.func150, Tryz.ntmps150
  go_wp2
  go_ret
  exact ⟨rfl, rfl⟩
 ·have h4' : (n : Int) ≤ 4 := by omega
  go_enter Tryz.func150, Tryz.ntmps150
  go_wp2
  go_loop [10] (fun i => ∃ k : Nat, k ≤ n ∧ i = .int .i64 (k : Int) ∧ ∀ (j : Nat) (x : Int), j < k → zs[j]? = some x → inR x 0 15 = true) (fun i => n - (intOf i).toNat)
  case atStart => exact ⟨0, Nat.zero_le _, rfl, fun j x hj => by omega⟩
  case round =>
   obtain ⟨k, hk, rfl, hok⟩ := hrel
   have HOK : Hid (∀ (j : Nat) (x : Int), j < k → zs[j]? = some x → inR x 0 15 = true) := hok
   clear hok
   by_cases hlt : k < n
   ·obtain ⟨b, off, x, e, hx, hc, hb⟩ := HI.out.at hlt
    subst e
    have HX : Hid (zs[k]? = some x) := hx
    clear hx
    have hlt' : (k : Int) < (n : Int) := by omega
    by_cases q0 : x < 0
    ·have HB : Hid (clCode zs = 3) := clCode_bad (by rw [HZ.out]; omega) HX.out (by simp [inR]; omega)
     go_wp2
     go_ret
     exact ⟨by rw [HB.out]; rfl, rfl⟩
    ·by_cases q1 : 16 ≤ x
     ·have HB : Hid (clCode zs = 3) := clCode_bad (by rw [HZ.out]; omega) HX.out (by simp [inR]; omega)
      go_wp2
      go_ret
      exact ⟨by rw [HB.out]; rfl, rfl⟩
     ·have HN : Hid (∀ (j : Nat) (y : Int), j < k + 1 → zs[j]? = some y → inR y 0 15 = true) := fun j y hj hy => by
       by_cases e : j = k
       ·subst e
        rw [HX.out] at hy
        cases hy
        simp [inR]; omega
       ·exact HOK.out j y (by omega) hy
      go_wp2
      go_round
      case rel => exact ⟨k + 1, by omega, by go_num, HN.out⟩
      case measure => simp [intOf]; omega
   ·have hkn : k = n := by omega
    subst hkn
    have HB : Hid (clCode zs = 0) := clCode_ok (by rw [HZ.out]; omega) (fun j x hj hx => HOK.out j x (by rw [HZ.out] at hj; exact hj) hx)
    go_wp2
    go_ret
    exact ⟨by rw [HB.out]; rfl, rfl⟩
theorem l5Classes_c (a : Option Addr) (n cap : Nat) (zs : List Int) (w : World) (h : IntIn w a n zs) :
  Calls Tryz.prog 112 #[.slice a n cap] w fun e w' => e = .returned (.int .i64 (clCode zs)) ∧ w = w' := by
 have HZ : Hid (zs.length = n) := h.1
 have HI : Hid (IntIn w a n zs) := h
 clear h
 by_cases h4 : 4 < n
 ·have hc : clCode zs = 2 := by unfold clCode; rw [if_pos (by rw [HZ.out]; exact h4)]
  rw [hc]
  clear hc
  have h4' : (4 : Int) < (n : Int) := by omega
  go_enter Tryz.func112, Tryz.ntmps112
  go_wp2
  go_ret
  exact ⟨rfl, rfl⟩
 ·have h4' : (n : Int) ≤ 4 := by omega
  go_enter Tryz.func112, Tryz.ntmps112
  go_wp2
  go_loop [3] (fun i => ∃ k : Nat, k ≤ n ∧ i = .int .i64 (k : Int) ∧ ∀ (j : Nat) (x : Int), j < k → zs[j]? = some x → inR x 0 15 = true) (fun i => n - (intOf i).toNat)
  case atStart => exact ⟨0, Nat.zero_le _, rfl, fun j x hj => by omega⟩
  case round =>
   obtain ⟨k, hk, rfl, hok⟩ := hrel
   have HOK : Hid (∀ (j : Nat) (x : Int), j < k → zs[j]? = some x → inR x 0 15 = true) := hok
   clear hok
   by_cases hlt : k < n
   ·obtain ⟨b, off, x, e, hx, hc, hb⟩ := HI.out.at hlt
    subst e
    have HX : Hid (zs[k]? = some x) := hx
    clear hx
    have hlt' : (k : Int) < (n : Int) := by omega
    by_cases q0 : inR x 0 15 = true
    ·have HN : Hid (∀ (j : Nat) (y : Int), j < k + 1 → zs[j]? = some y → inR y 0 15 = true) := fun j y hj hy => by
      by_cases e : j = k
      ·subst e
       rw [HX.out] at hy
       cases hy
       exact q0
      ·exact HOK.out j y (by omega) hy
     have HQ : Hid (inR x 0 15 = true) := q0
     clear q0
     go_wp2_with (go_at_call 56; refine (cin_c _ _ _ _).mono ?_; rintro e w' ⟨rfl, rfl⟩; rw [HQ.out])
     go_round
     case rel => exact ⟨k + 1, by omega, by go_num, HN.out⟩
     case measure => simp [intOf]; omega
    ·have HQ : Hid (inR x 0 15 = false) := by show inR x 0 15 = false; simpa using q0
     clear q0
     have HB : Hid (clCode zs = 3) := clCode_bad (by rw [HZ.out]; omega) HX.out HQ.out
     go_wp2_with (go_at_call 56; refine (cin_c _ _ _ _).mono ?_; rintro e w' ⟨rfl, rfl⟩; rw [HQ.out])
     go_ret
     exact ⟨by rw [HB.out]; rfl, rfl⟩
   ·have hkn : k = n := by omega
    subst hkn
    have HB : Hid (clCode zs = 0) := clCode_ok (by rw [HZ.out]; omega) (fun j x hj hx => HOK.out j x (by rw [HZ.out] at hj; exact hj) hx)
    go_wp2
    go_ret
    exact ⟨by rw [HB.out]; rfl, rfl⟩

end Go.Proofs.YtfkajnenniapaaaGreat
