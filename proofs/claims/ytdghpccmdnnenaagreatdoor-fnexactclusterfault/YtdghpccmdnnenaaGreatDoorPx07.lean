/- Contracts. -/
import Derived.Test.YtdghpccmdnnenaaGreatDoorPx06
namespace Go.Proofs.YtdghpccmdnnenaaGreatDoor
set_option maxRecDepth 100000
set_option maxHeartbeats 8000000
open Go.RowKit Go.Proofs.Tryz
set_option linter.unusedVariables false
set_option linter.unusedSimpArgs false
section
attribute [local go_sem] qOm qOl qOk qOj qOi qOh qOg qOf qOe qOd qOc qOb qOa qOZ qOY qOX
theorem qDs(p:Int)(w:World):
  CP 256 #[.iface 335 (.agg #[iv p])] w fun e w' =>
   e=.returned (iv (if qV2 p=true then 0 else 3))/\Below w.heap.size w w':=by
 cases hp:qV2 p
 all_goals
  go_enter func256,ntmps256;go_wp2;refine wp_loop_rounds 1 ?_;rw[rounds_succ];go_wp2_with (first | (go_at_call 272;refine (qEp _ _).mono ?_;rintro e w1 ⟨rfl,rfl⟩;rw[hp]) | go_in)
  go_ret;exact⟨rfl,by go_grown⟩
theorem qDr(o n:Int)(w:World):
  CP 256 #[.iface 337 (.agg #[iv o,iv n])] w fun e w' =>
   e=.returned (iv (if qD1 o n=true then 0 else 3))/\Below w.heap.size w w':=by
 cases hr:qD1 o n
 .have hc:qE9 o n=3:=by simp[qE9,hr]
  go_enter func256,ntmps256;go_wp2;refine wp_loop_rounds 2 ?_;rw[rounds_succ];go_wp2_with (first | (go_at_call 254;refine (qC5 _ _ _).mono ?_;rintro e w1 ⟨rfl,hb1⟩;rw[hc]) | go_in)
  go_ret;exact⟨rfl,qM8 hb1⟩
 .have hc:qE9 o n=0:=by simp[qE9,hr]
  go_enter func256,ntmps256;go_wp2;refine wp_loop_rounds 2 ?_;rw[rounds_succ];go_wp2_with (first | (go_at_call 254;refine (qC5 _ _ _).mono ?_;rintro e w1 ⟨rfl,hb1⟩;rw[hc]) | go_in)
  rw[rounds_succ];go_wp2;go_ret;exact⟨rfl,qM8 hb1⟩
theorem qDq(o n m:Int)(w:World):
  CP 256 #[.iface 339 (.agg #[iv o,iv n,iv m])] w fun e w' =>
   e=.returned (iv (if (qD1 o n&&qW1 m)=true then 0 else 3))/\Below w.heap.size w w':=by
 cases hr:qD1 o n
 .have hc:qE9 o n=3:=by simp[qE9,hr]
  go_enter func256,ntmps256;go_wp2;refine wp_loop_rounds 2 ?_;rw[rounds_succ];go_wp2_with (first | (go_at_call 254;refine (qC5 _ _ _).mono ?_;rintro e w1 ⟨rfl,hb1⟩;rw[hc]) | go_in)
  go_ret;exact⟨rfl,qM8 hb1⟩
 .have hc:qE9 o n=0:=by simp[qE9,hr]
  cases hp:qW1 m
  all_goals
   go_enter func256,ntmps256;go_wp2;refine wp_loop_rounds 2 ?_;rw[rounds_succ];go_wp2_with (first | (go_at_call 254;refine (qC5 _ _ _).mono ?_;rintro e w1 ⟨rfl,hb1⟩;rw[hc]) | go_in)
   rw[rounds_succ];go_wp2_with (first | (go_at_call 273;refine (qEq _ _).mono ?_;rintro e w2 ⟨rfl,rfl⟩;rw[hp]) | go_in)
   go_ret;exact⟨rfl,(qM8 hb1).alloc (qM8 hb1).size _⟩
end
