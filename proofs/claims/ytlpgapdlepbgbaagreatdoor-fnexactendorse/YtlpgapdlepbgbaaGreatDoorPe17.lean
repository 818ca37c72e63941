/- Contracts. -/
import Derived.Test.YtlpgapdlepbgbaaGreatDoorPe16
namespace Go.Proofs.YtlpgapdlepbgbaaGreatDoor
set_option maxRecDepth 100000
set_option maxHeartbeats 8000000
open Go.RowKit
set_option linter.unusedVariables false
set_option linter.unusedSimpArgs false

section
attribute [local go_sem] ta11 ta12 ta13 ta14 ta21 ta22 ta23 ta24 ta31 ta32 ta33 ta34 ta41 ta42 ta43 ta44
theorem bodyFault_1 (p:Int) (w:World) :
  Calls Tryz.prog 193 #[.iface 291 (.agg #[.int .i64 p])] w fun e w' =>
   e = .returned (.int .i64 (if qU5 p=true then 0 else 3))∧Below w.heap.size w w':=by
 cases hp:qU5 p
 all_goals
  go_enter Tryz.func193,Tryz.ntmps193
  go_wp2
  refine wp_loop_rounds 1 ?_
  rw [rounds_succ]
  go_wp2_with (first | (go_at_call 179;refine (isPrin_c _ _).mono ?_;rintro e w1 ⟨rfl,rfl⟩;rw [hp]) | go_in)
  go_ret
  exact ⟨rfl,by go_grown⟩
theorem bodyFault_2 (o n:Int) (w:World) :
  Calls Tryz.prog 193 #[.iface 293 (.agg #[.int .i64 o,.int .i64 n])] w fun e w' =>
   e = .returned (.int .i64 (if qD3 o n=true then 0 else 3))∧Below w.heap.size w w':=by
 cases hr:qD3 o n
 ·have hc:qF0 o n=3:=by simp [qF0,hr]
  go_enter Tryz.func193,Tryz.ntmps193
  go_wp2
  refine wp_loop_rounds 2 ?_
  rw [rounds_succ]
  go_wp2_with (first | (go_at_call 191;refine (qC9 _ _ _).mono ?_;rintro e w1 ⟨rfl,hb1⟩;rw [hc]) | go_in)
  go_ret
  exact ⟨rfl,qN0 hb1⟩
 ·have hc:qF0 o n=0:=by simp [qF0,hr]
  go_enter Tryz.func193,Tryz.ntmps193
  go_wp2
  refine wp_loop_rounds 2 ?_
  rw [rounds_succ]
  go_wp2_with (first | (go_at_call 191;refine (qC9 _ _ _).mono ?_;rintro e w1 ⟨rfl,hb1⟩;rw [hc]) | go_in)
  rw [rounds_succ]
  go_wp2
  go_ret
  exact ⟨rfl,qN0 hb1⟩
theorem bodyFault_3 (o n m:Int) (w:World) :
  Calls Tryz.prog 193 #[.iface 295 (.agg #[.int .i64 o,.int .i64 n,.int .i64 m])] w fun e w' =>
   e = .returned (.int .i64 (if (qD3 o n&&qV6 m)=true then 0 else 3))∧Below w.heap.size w w':=by
 cases hr:qD3 o n
 ·have hc:qF0 o n=3:=by simp [qF0,hr]
  go_enter Tryz.func193,Tryz.ntmps193
  go_wp2
  refine wp_loop_rounds 2 ?_
  rw [rounds_succ]
  go_wp2_with (first | (go_at_call 191;refine (qC9 _ _ _).mono ?_;rintro e w1 ⟨rfl,hb1⟩;rw [hc]) | go_in)
  go_ret
  exact ⟨rfl,qN0 hb1⟩
 ·have hc:qF0 o n=0:=by simp [qF0,hr]
  cases hp:qV6 m
  all_goals
   go_enter Tryz.func193,Tryz.ntmps193
   go_wp2
   refine wp_loop_rounds 2 ?_
   rw [rounds_succ]
   go_wp2_with (first | (go_at_call 191;refine (qC9 _ _ _).mono ?_;rintro e w1 ⟨rfl,hb1⟩;rw [hc]) | go_in)
   rw [rounds_succ]
   go_wp2_with (first | (go_at_call 207;refine (isName_c _ _).mono ?_;rintro e w2 ⟨rfl,rfl⟩;rw [hp]) | go_in)
   go_ret
   exact ⟨rfl,(qN0 hb1).alloc (qN0 hb1).size _⟩
end

end Go.Proofs.YtlpgapdlepbgbaaGreatDoor
