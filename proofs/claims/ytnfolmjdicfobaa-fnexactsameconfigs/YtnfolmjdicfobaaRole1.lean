/-
  CONTRACTS of the small tests of chapters 1 and 2 (principals, names, roles) and of RoleFault, of both programs.
  Conditions: none.
-/
import Derived.Test.YtnfolmjdicfobaaProg
import Derived.Test.YtnfolmjdicfobaaRole0
import Derived.WalkKit
import Derived.ProofKit
import Derived.Outline
import Derived.Handy
import Derived.Laws.StructEq
namespace Go.Proofs.Ytnfolmjdicfobaa
open Go.RowKit
set_option linter.unusedVariables false

theorem below_new {w w1 : World} {o : Obj} (h : Below (w.alloc o).heap.size (w.alloc o) w1) : Below w.heap.size w w1 := ((Below.refl _ _).alloc (Nat.le_refl _) _).trans (h.mono (by simp))

set_option maxHeartbeats 400000 in
theorem l1Principal_c (p : Int) (w : World) :
    Calls Try.prog 86 #[.int .i64 p] w fun e w' => e = .returned (.bool (prinB p)) ∧ w = w' := by
  unfold prinB
  go_each [1 ≤ p, p ≤ 8] => (go_enter Try.func86, Try.ntmps86; go_wp2; go_ret; exact ⟨by simp [*], rfl⟩)

set_option maxHeartbeats 400000 in
theorem l2Name_c (p : Int) (w : World) :
    Calls Try.prog 87 #[.int .i64 p] w fun e w' => e = .returned (.bool (nameB p)) ∧ w = w' := by
  unfold nameB
  go_each [1 ≤ p, p ≤ 5] => (go_enter Try.func87, Try.ntmps87; go_wp2; go_ret; exact ⟨by simp [*], rfl⟩)

set_option maxHeartbeats 400000 in
theorem isPrin_c (p : Int) (w : World) :
    Calls Try.prog 105 #[.int .i64 p] w fun e w' => e = .returned (.bool (prinB p)) ∧ w = w' := by
  unfold prinB
  go_each [1 ≤ p, p ≤ 8] => (go_enter Try.func105, Try.ntmps105; go_wp2; go_ret; exact ⟨by simp [*], rfl⟩)

set_option maxHeartbeats 400000 in
theorem isName_c (p : Int) (w : World) :
    Calls Try.prog 106 #[.int .i64 p] w fun e w' => e = .returned (.bool (nameB p)) ∧ w = w' := by
  unfold nameB
  go_each [1 ≤ p, p ≤ 5] => (go_enter Try.func106, Try.ntmps106; go_wp2; go_ret; exact ⟨by simp [*], rfl⟩)

set_option maxHeartbeats 400000 in
theorem l2Role_c (o n : Int) (w : World) :
    Calls Try.prog 67 #[.agg #[.int .i64 o, .int .i64 n]] w fun e w' => e = .returned (.bool (roleB o n)) ∧ Below w.heap.size w w' := by
  unfold roleB
  cases hp : prinB o <;> cases hn : nameB n
  all_goals
    go_enter Try.func67, Try.ntmps67
    go_wp2_with (first | (go_at_call 86; refine (l1Principal_c o _).mono ?_; rintro e w' ⟨rfl, rfl⟩; rw [hp]) | (go_at_call 87; refine (l2Name_c n _).mono ?_; rintro e w' ⟨rfl, rfl⟩; rw [hn]))
    go_ret
    exact ⟨rfl, by go_grown⟩

set_option maxHeartbeats 400000 in
theorem implRoleFault_c (o n : Int) (w : World) :
    Calls Try.prog 90 #[.agg #[.int .i64 o, .int .i64 n]] w fun e w' => e = .returned (.int .i64 (roleCode o n)) ∧ Below w.heap.size w w' := by
  unfold roleCode roleB
  cases hp : prinB o <;> cases hn : nameB n
  all_goals
    go_enter Try.func90, Try.ntmps90
    go_wp2_with (first | (go_at_call 105; refine (isPrin_c o _).mono ?_; rintro e w' ⟨rfl, rfl⟩; rw [hp]) | (go_at_call 106; refine (isName_c n _).mono ?_; rintro e w' ⟨rfl, rfl⟩; rw [hn]))
    go_ret
    exact ⟨rfl, by go_grown⟩

set_option maxHeartbeats 400000 in
theorem toRole_c (o n : Int) (w : World) :
    Calls Try.prog 68 #[.agg #[.int .i64 o, .int .i64 n]] w fun e w' => e = .returned (.agg #[.int .i64 o, .int .i64 n]) ∧ Below w.heap.size w w' := by
  go_enter Try.func68, Try.ntmps68
  go_wp2
  go_returns
  exact ⟨rfl, by go_grown⟩

end Go.Proofs.Ytnfolmjdicfobaa
