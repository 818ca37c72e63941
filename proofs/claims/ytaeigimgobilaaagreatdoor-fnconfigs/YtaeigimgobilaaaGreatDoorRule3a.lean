/-
  CONTRACTS on rules in impl: bodyFault, kinds 1 to 3.
  Conditions: each contract bears its own.
-/
import Derived.Test.YtaeigimgobilaaaGreatDoorRule3
namespace Go.Proofs.YtaeigimgobilaaaGreatDoor
open Go.RowKit
set_option linter.unusedVariables false
set_option linter.unusedSimpArgs false
attribute [local go_sem] ta11 ta12 ta13 ta14 ta21 ta22 ta23 ta24 ta31 ta32 ta33 ta34 ta41 ta42 ta43 ta44

set_option maxHeartbeats 400000 in
theorem bodyFault_1 (p : Int) (w : World) :
    Calls Tryz.prog 111 #[.iface 160 (.agg #[.int .i64 p])] w fun e w' =>
      e = .returned (.int .i64 (if prinB p = true then 0 else 3)) ∧ Below w.heap.size w w' := by
  cases hp : prinB p
  all_goals
    go_enter Tryz.func111, Tryz.ntmps111
    go_wp2
    refine wp_loop_rounds 1 ?_
    rw [rounds_succ]
    go_wp2_with (first | (go_at_call 125; refine (isPrin_c _ _).mono ?_; rintro e w1 ⟨rfl, rfl⟩; rw [hp]) | go_in)
    go_ret
    exact ⟨rfl, by go_grown⟩

set_option maxHeartbeats 400000 in
theorem bodyFault_2 (o n : Int) (w : World) :
    Calls Tryz.prog 111 #[.iface 162 (.agg #[.int .i64 o, .int .i64 n])] w fun e w' =>
      e = .returned (.int .i64 (if roleB o n = true then 0 else 3)) ∧ Below w.heap.size w w' := by
  cases hr : roleB o n
  · have hc : roleCode o n = 3 := by simp [roleCode, hr]
    go_enter Tryz.func111, Tryz.ntmps111
    go_wp2
    refine wp_loop_rounds 2 ?_
    rw [rounds_succ]
    go_wp2_with (first | (go_at_call 109; refine (implRoleFault_c _ _ _).mono ?_; rintro e w1 ⟨rfl, hb1⟩; rw [hc]) | go_in)
    go_ret
    exact ⟨rfl, below_new3 hb1⟩
  · have hc : roleCode o n = 0 := by simp [roleCode, hr]
    go_enter Tryz.func111, Tryz.ntmps111
    go_wp2
    refine wp_loop_rounds 2 ?_
    rw [rounds_succ]
    go_wp2_with (first | (go_at_call 109; refine (implRoleFault_c _ _ _).mono ?_; rintro e w1 ⟨rfl, hb1⟩; rw [hc]) | go_in)
    rw [rounds_succ]
    go_wp2
    go_ret
    exact ⟨rfl, below_new3 hb1⟩

set_option maxHeartbeats 400000 in
theorem bodyFault_3 (o n m : Int) (w : World) :
    Calls Tryz.prog 111 #[.iface 164 (.agg #[.int .i64 o, .int .i64 n, .int .i64 m])] w fun e w' =>
      e = .returned (.int .i64 (if (roleB o n && nameB m) = true then 0 else 3)) ∧ Below w.heap.size w w' := by
  cases hr : roleB o n
  · have hc : roleCode o n = 3 := by simp [roleCode, hr]
    go_enter Tryz.func111, Tryz.ntmps111
    go_wp2
    refine wp_loop_rounds 2 ?_
    rw [rounds_succ]
    go_wp2_with (first | (go_at_call 109; refine (implRoleFault_c _ _ _).mono ?_; rintro e w1 ⟨rfl, hb1⟩; rw [hc]) | go_in)
    go_ret
    exact ⟨rfl, below_new3 hb1⟩
  · have hc : roleCode o n = 0 := by simp [roleCode, hr]
    cases hp : nameB m
    all_goals
      go_enter Tryz.func111, Tryz.ntmps111
      go_wp2
      refine wp_loop_rounds 2 ?_
      rw [rounds_succ]
      go_wp2_with (first | (go_at_call 109; refine (implRoleFault_c _ _ _).mono ?_; rintro e w1 ⟨rfl, hb1⟩; rw [hc]) | go_in)
      rw [rounds_succ]
      go_wp2_with (first | (go_at_call 126; refine (isName_c _ _).mono ?_; rintro e w2 ⟨rfl, rfl⟩; rw [hp]) | go_in)
      go_ret
      exact ⟨rfl, (below_new3 hb1).alloc (below_new3 hb1).size _⟩

end Go.Proofs.YtaeigimgobilaaaGreatDoor
