/-
  CONTRACTS of the small tests of chapters 1 and 2 (principals, names, roles) and of RoleFault, of both programs.
  Conditions: none.
-/
import Derived.Test.YtpeddanicenohaaGreatProg
import Derived.Test.YtpeddanicenohaaGreatRole0
import Derived.WalkKit
import Derived.ProofKit
import Derived.Outline
import Derived.Handy
import Derived.Laws.StructEq
namespace Go.Proofs.YtpeddanicenohaaGreat
open Go.RowKit
set_option linter.unusedVariables false

theorem below_new {w w1 : World} {o : Obj} (h : Below (w.alloc o).heap.size (w.alloc o) w1) : Below w.heap.size w w1 := ((Below.refl _ _).alloc (Nat.le_refl _) _).trans (h.mono (by simp))

set_option maxHeartbeats 400000 in
theorem l1Principal_c (p : Int) (w : World) :
    Calls Tryz.prog 19 #[.int .i64 p] w fun e w' => e = .returned (.bool (prinB p)) ∧ w = w' := by
  unfold prinB
  go_each [1 ≤ p, p ≤ 8] => (go_enter Tryz.func19, Tryz.ntmps19; go_wp2; go_ret; exact ⟨by simp [*], rfl⟩)

set_option maxHeartbeats 400000 in
theorem l2Name_c (p : Int) (w : World) :
    Calls Tryz.prog 62 #[.int .i64 p] w fun e w' => e = .returned (.bool (nameB p)) ∧ w = w' := by
  unfold nameB
  go_each [1 ≤ p, p ≤ 5] => (go_enter Tryz.func62, Tryz.ntmps62; go_wp2; go_ret; exact ⟨by simp [*], rfl⟩)

set_option maxHeartbeats 400000 in
theorem isPrin_c (p : Int) (w : World) :
    Calls Tryz.prog 15 #[.int .i64 p] w fun e w' => e = .returned (.bool (prinB p)) ∧ w = w' := by
  unfold prinB
  go_each [1 ≤ p, p ≤ 8] => (go_enter Tryz.func15, Tryz.ntmps15; go_wp2; go_ret; exact ⟨by simp [*], rfl⟩)

set_option maxHeartbeats 400000 in
theorem isName_c (p : Int) (w : World) :
    Calls Tryz.prog 37 #[.int .i64 p] w fun e w' => e = .returned (.bool (nameB p)) ∧ w = w' := by
  unfold nameB
  go_each [1 ≤ p, p ≤ 5] => (go_enter Tryz.func37, Tryz.ntmps37; go_wp2; go_ret; exact ⟨by simp [*], rfl⟩)

set_option maxHeartbeats 400000 in
theorem l2Role_c (o n : Int) (w : World) :
    Calls Tryz.prog 41 #[.agg #[.int .i64 o, .int .i64 n]] w fun e w' => e = .returned (.bool (roleB o n)) ∧ Below w.heap.size w w' := by
  unfold roleB
  cases hp : prinB o <;> cases hn : nameB n
  all_goals
    go_enter Tryz.func41, Tryz.ntmps41
    go_wp2_with (first | (go_at_call 19; refine (l1Principal_c o _).mono ?_; rintro e w' ⟨rfl, rfl⟩; rw [hp]) | (go_at_call 62; refine (l2Name_c n _).mono ?_; rintro e w' ⟨rfl, rfl⟩; rw [hn]))
    go_ret
    exact ⟨rfl, by go_grown⟩

set_option maxHeartbeats 400000 in
theorem implRoleFault_c (o n : Int) (w : World) :
    Calls Tryz.prog 14 #[.agg #[.int .i64 o, .int .i64 n]] w fun e w' => e = .returned (.int .i64 (roleCode o n)) ∧ Below w.heap.size w w' := by
  unfold roleCode roleB
  cases hp : prinB o <;> cases hn : nameB n
  all_goals
    go_enter Tryz.func14, Tryz.ntmps14
    go_wp2_with (first | (go_at_call 15; refine (isPrin_c o _).mono ?_; rintro e w' ⟨rfl, rfl⟩; rw [hp]) | (go_at_call 37; refine (isName_c n _).mono ?_; rintro e w' ⟨rfl, rfl⟩; rw [hn]))
    go_ret
    exact ⟨rfl, by go_grown⟩

end Go.Proofs.YtpeddanicenohaaGreat
