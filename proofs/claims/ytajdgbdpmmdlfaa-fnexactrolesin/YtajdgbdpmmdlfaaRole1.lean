/-
  CONTRACTS of the small tests of chapters 1 and 2 (principals, names, roles) and of RoleFault, of both programs.
  Conditions: none.
-/
import Derived.Test.YtajdgbdpmmdlfaaProg
import Derived.Test.YtajdgbdpmmdlfaaRole0
import Derived.WalkKit
import Derived.ProofKit
import Derived.Outline
import Derived.Handy
import Derived.Laws.StructEq
namespace Go.Proofs.Ytajdgbdpmmdlfaa
open Go.RowKit
set_option linter.unusedVariables false

theorem below_new {w w1 : World} {o : Obj} (h : Below (w.alloc o).heap.size (w.alloc o) w1) : Below w.heap.size w w1 := ((Below.refl _ _).alloc (Nat.le_refl _) _).trans (h.mono (by simp))

set_option maxHeartbeats 400000 in
theorem l1Principal_c (p : Int) (w : World) :
    Calls Try.prog 41 #[.int .i64 p] w fun e w' => e = .returned (.bool (prinB p)) ∧ w = w' := by
  unfold prinB
  go_each [1 ≤ p, p ≤ 8] => (go_enter Try.func41, Try.ntmps41; go_wp2; go_ret; exact ⟨by simp [*], rfl⟩)

set_option maxHeartbeats 400000 in
theorem l2Name_c (p : Int) (w : World) :
    Calls Try.prog 42 #[.int .i64 p] w fun e w' => e = .returned (.bool (nameB p)) ∧ w = w' := by
  unfold nameB
  go_each [1 ≤ p, p ≤ 5] => (go_enter Try.func42, Try.ntmps42; go_wp2; go_ret; exact ⟨by simp [*], rfl⟩)

set_option maxHeartbeats 400000 in
theorem isPrin_c (p : Int) (w : World) :
    Calls Try.prog 25 #[.int .i64 p] w fun e w' => e = .returned (.bool (prinB p)) ∧ w = w' := by
  unfold prinB
  go_each [1 ≤ p, p ≤ 8] => (go_enter Try.func25, Try.ntmps25; go_wp2; go_ret; exact ⟨by simp [*], rfl⟩)

set_option maxHeartbeats 400000 in
theorem isName_c (p : Int) (w : World) :
    Calls Try.prog 26 #[.int .i64 p] w fun e w' => e = .returned (.bool (nameB p)) ∧ w = w' := by
  unfold nameB
  go_each [1 ≤ p, p ≤ 5] => (go_enter Try.func26, Try.ntmps26; go_wp2; go_ret; exact ⟨by simp [*], rfl⟩)

set_option maxHeartbeats 400000 in
theorem l2Role_c (o n : Int) (w : World) :
    Calls Try.prog 24 #[.agg #[.int .i64 o, .int .i64 n]] w fun e w' => e = .returned (.bool (roleB o n)) ∧ Below w.heap.size w w' := by
  unfold roleB
  cases hp : prinB o <;> cases hn : nameB n
  all_goals
    go_enter Try.func24, Try.ntmps24
    go_wp2_with (first | (go_at_call 41; refine (l1Principal_c o _).mono ?_; rintro e w' ⟨rfl, rfl⟩; rw [hp]) | (go_at_call 42; refine (l2Name_c n _).mono ?_; rintro e w' ⟨rfl, rfl⟩; rw [hn]))
    go_ret
    exact ⟨rfl, by go_grown⟩

set_option maxHeartbeats 400000 in
theorem specRoleFault_c (o n : Int) (w : World) :
    Calls Try.prog 7 #[.agg #[.int .i64 o, .int .i64 n]] w fun e w' => e = .returned (.int .i64 (roleCode o n)) ∧ Below w.heap.size w w' := by
  unfold roleCode
  cases hr : roleB o n
  all_goals
    go_enter Try.func7, Try.ntmps7
    go_wp2_with (go_at_call 24; refine (l2Role_c o n _).mono ?_; rintro e w1 ⟨rfl, hb⟩; rw [hr])
    go_ret
    exact ⟨rfl, below_new hb⟩

set_option maxHeartbeats 400000 in
theorem implRoleFault_c (o n : Int) (w : World) :
    Calls Try.prog 9 #[.agg #[.int .i64 o, .int .i64 n]] w fun e w' => e = .returned (.int .i64 (roleCode o n)) ∧ Below w.heap.size w w' := by
  unfold roleCode roleB
  cases hp : prinB o <;> cases hn : nameB n
  all_goals
    go_enter Try.func9, Try.ntmps9
    go_wp2_with (first | (go_at_call 25; refine (isPrin_c o _).mono ?_; rintro e w' ⟨rfl, rfl⟩; rw [hp]) | (go_at_call 26; refine (isName_c n _).mono ?_; rintro e w' ⟨rfl, rfl⟩; rw [hn]))
    go_ret
    exact ⟨rfl, by go_grown⟩

set_option maxHeartbeats 400000 in
theorem toRole_c (o n : Int) (w : World) :
    Calls Try.prog 8 #[.agg #[.int .i64 o, .int .i64 n]] w fun e w' => e = .returned (.agg #[.int .i64 o, .int .i64 n]) ∧ Below w.heap.size w w' := by
  go_enter Try.func8, Try.ntmps8
  go_wp2
  go_returns
  exact ⟨rfl, by go_grown⟩

end Go.Proofs.Ytajdgbdpmmdlfaa
