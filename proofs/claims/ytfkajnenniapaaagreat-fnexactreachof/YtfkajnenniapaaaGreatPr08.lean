/- Contracts. -/
import Derived.Test.YtfkajnenniapaaaGreatPr04
namespace Go.Proofs.YtfkajnenniapaaaGreat
set_option maxRecDepth 100000
set_option maxHeartbeats 8000000
open Go.RowKit
set_option linter.unusedVariables false
set_option linter.unusedSimpArgs false

theorem iBad_c (v : Int) (w : World) : Calls Tryz.prog 127 #[.int .i64 v] w fun e w' => e = .returned (.bool (inR v 1 2)) ∧ w = w' := by
 unfold inR
 cases h0 : decide (1 ≤ v)
 ·go_enter Tryz.func127, Tryz.ntmps127
  go_wp2
  go_ret
  exact ⟨by simp, rfl⟩
 ·cases h1 : decide (v ≤ 2)
  all_goals
   go_enter Tryz.func127, Tryz.ntmps127
   go_wp2
   go_ret
   exact ⟨by simp, rfl⟩
theorem l6F_c (v : Int) (w : World) : Calls Tryz.prog 89 #[.int .i64 v] w fun e w' => e = .returned (.bool (inR v 1 2)) ∧ w = w' := by
 go_enter Tryz.func89, Tryz.ntmps89
 go_wp2_with (go_at_call 56; refine (cin_c _ _ _ _).mono ?_; rintro e w' ⟨rfl, rfl⟩)
 go_ret
 exact ⟨rfl, rfl⟩
def GivesNF (fn : Nat) (f c v : Int) (w : World) : Prop := Calls Tryz.prog fn #[.int .i64 f] w fun e w' => e = .returned (.agg #[.int .i64 c, .int .i64 v]) ∧ Below w.heap.size w w'
def nfCode (f : Int) : Int := if inR f 1 2 = true then 0 else 3
def nfVal (k f : Int) : Int := if inR f 1 2 = true then k * f + 1 else 0
theorem implNeedOf_c (f : Int) (w : World) : GivesNF 86 f (nfCode f) (nfVal 2 f) w := by
 unfold GivesNF nfCode nfVal
 cases h : inR f 1 2
 ·have H : Hid (inR f 1 2 = false) := h
  clear h
  simp only [Bool.false_eq_true, if_false]
  go_enter Tryz.func86, Tryz.ntmps86
  go_wp2_with (first | (go_at_call 127; refine (iBad_c _ _).mono ?_; rintro e w' ⟨rfl, rfl⟩; rw [H.out]) | go_in)
  go_returns
  exact ⟨rfl, by go_grown⟩
 ·have H : Hid (inR f 1 2 = true) := h
  obtain ⟨h1, h2⟩ := (inR_iff f 1 2).1 h
  clear h
  simp only [if_true]
  go_enter Tryz.func86, Tryz.ntmps86
  go_wp2_with (first | (go_at_call 127; refine (iBad_c _ _).mono ?_; rintro e w' ⟨rfl, rfl⟩; rw [H.out]) | go_in)
  go_returns
  exact ⟨rfl, by go_grown⟩
theorem implReplicasOf_c (f : Int) (w : World) : GivesNF 94 f (nfCode f) (nfVal 3 f) w := by
 unfold GivesNF nfCode nfVal
 cases h : inR f 1 2
 ·have H : Hid (inR f 1 2 = false) := h
  clear h
  simp only [Bool.false_eq_true, if_false]
  go_enter Tryz.func94, Tryz.ntmps94
  go_wp2_with (first | (go_at_call 127; refine (iBad_c _ _).mono ?_; rintro e w' ⟨rfl, rfl⟩; rw [H.out]) | go_in)
  go_returns
  exact ⟨rfl, by go_grown⟩
 ·have H : Hid (inR f 1 2 = true) := h
  obtain ⟨h1, h2⟩ := (inR_iff f 1 2).1 h
  clear h
  simp only [if_true]
  go_enter Tryz.func94, Tryz.ntmps94
  go_wp2_with (first | (go_at_call 127; refine (iBad_c _ _).mono ?_; rintro e w' ⟨rfl, rfl⟩; rw [H.out]) | go_in)
  go_returns
  exact ⟨rfl, by go_grown⟩

section
abbrev Up (ys : List Int) : Prop := ys.Pairwise (fun a b => a < b)
def cmpS (x y : Int) : Int := if x < y then -1 else if y < x then 1 else 0
theorem compareS_c (x y : Int) (w : World) : Calls Tryz.prog 126 #[.int .i64 x, .int .i64 y] w fun e w' => e = .returned (.int .i64 (cmpS x y)) ∧ w = w' := by
 unfold cmpS
 by_cases h1 : x < y
 ·go_enter Tryz.func126, Tryz.ntmps126
  go_wp2
  go_ret
  exact ⟨by simp [h1], rfl⟩
 ·by_cases h2 : y < x
  ·go_enter Tryz.func126, Tryz.ntmps126
   go_wp2
   go_ret
   exact ⟨by simp [h1, h2], rfl⟩
  ·go_enter Tryz.func126, Tryz.ntmps126
   go_wp2
   go_ret
   exact ⟨by simp [h1, h2], rfl⟩
theorem compareSigners_c (x y : Int) (w : World) : Calls Tryz.prog 107 #[.int .i64 x, .int .i64 y] w fun e w' => e = .returned (.int .i64 (cmpS x y)) ∧ w = w' := by
 go_enter Tryz.func107, Tryz.ntmps107
 go_wp2_with (first | (go_at_call 126; refine (compareS_c _ _ _).mono ?_; rintro e w' ⟨rfl, rfl⟩))
 go_ret
 exact ⟨rfl, rfl⟩
theorem fldN0 (c v : Int) (w : World) : (Instr.field 141 (.agg #[.int .i64 c, .int .i64 v]) 0).run Tryz.prog w = .ok (.int .i64 c) w := by kernel_rfl
theorem fldN1 (c v : Int) (w : World) : (Instr.field 141 (.agg #[.int .i64 c, .int .i64 v]) 1).run Tryz.prog w = .ok (.int .i64 v) w := by kernel_rfl
attribute [local go_sem] fldN0 fldN1
theorem isReplicaId_c (i c v : Int) (w : World) : Calls Tryz.prog 95 #[.int .i64 i, .agg #[.int .i64 c, .int .i64 v]] w fun e w' => e = .returned (.bool (decide (c = 0) && inR i 1 v)) ∧ Below w.heap.size w w' := by
 have hB : Below w.heap.size w (w.alloc (.cells #[.int .i64 c, .int .i64 v] 141)) := zN
 unfold inR
 by_cases q0 : c = 0
 ·have b0 : (c == 0) = true := by simp [q0]
  by_cases q1 : 1 ≤ i
  ·by_cases q2 : i ≤ v
   ·have e : (decide (c = 0) && (decide (1 ≤ i) && decide (i ≤ v))) = true := by simp [q0, q1, q2]
    rw [e]
    clear e q0
    go_enter Tryz.func95, Tryz.ntmps95
    go_wp2
    go_ret
    exact ⟨rfl, hB⟩
   ·have e : (decide (c = 0) && (decide (1 ≤ i) && decide (i ≤ v))) = false := by simp [q0, q1, q2]
    rw [e]
    clear e q0
    go_enter Tryz.func95, Tryz.ntmps95
    go_wp2
    go_ret
    exact ⟨rfl, hB⟩
  ·have e : (decide (c = 0) && (decide (1 ≤ i) && decide (i ≤ v))) = false := by simp [q1]
   rw [e]
   clear e q0
   go_enter Tryz.func95, Tryz.ntmps95
   go_wp2
   go_ret
   exact ⟨rfl, hB⟩
 ·have b0 : (c == 0) = false := by simp [q0]
  have e : (decide (c = 0) && (decide (1 ≤ i) && decide (i ≤ v))) = false := by simp [q0]
  rw [e]
  clear e q0
  go_enter Tryz.func95, Tryz.ntmps95
  go_wp2
  go_ret
  exact ⟨rfl, hB⟩
end

end Go.Proofs.YtfkajnenniapaaaGreat
