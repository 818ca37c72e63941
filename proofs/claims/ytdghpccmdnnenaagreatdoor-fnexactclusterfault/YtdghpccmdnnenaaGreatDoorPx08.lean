/- Contracts. -/
import Derived.Test.YtdghpccmdnnenaaGreatDoorPx06
namespace Go.Proofs.YtdghpccmdnnenaaGreatDoor
set_option maxRecDepth 100000
set_option maxHeartbeats 8000000
open Go.RowKit Go.Proofs.Tryz
set_option linter.unusedVariables false
set_option linter.unusedSimpArgs false
section
attribute [local go_sem] qOm qOl qOk qOj qOi qOh qOg qOf qOe qOd qOc qOb qOa qOZ qOY qOX
theorem qDp(o n p m:Int)(w:World):
  CP 256 #[.iface 341 (.agg #[iv o,iv n,iv p,iv m])] w fun e w' =>
   e=.returned (iv (if (qD1 o n&&qD1 p m)=true then 0 else 3))/\Below w.heap.size w w':=by
 cases hr:qD1 o n
 .have hc:qE9 o n=3:=by simp[qE9,hr]
  go_enter func256,ntmps256;go_wp2;refine wp_loop_rounds 3 ?_;rw[rounds_succ];go_wp2_with (first | (go_at_call 254;refine (qC5 _ _ _).mono ?_;rintro e w1 ⟨rfl,hb1⟩;rw[hc]) | go_in)
  go_ret;exact⟨rfl,qM8 hb1⟩
 .have hc:qE9 o n=0:=by simp[qE9,hr]
  cases hp:qD1 p m
  all_goals
   have hd:qE9 p m=if qD1 p m=true then 0 else 3:=rfl;simp only[hp,if_true,Bool.false_eq_true,if_false]at hd;go_enter func256,ntmps256;go_wp2;refine wp_loop_rounds 3 ?_;rw[rounds_succ];go_wp2_with (first | (go_at_call 254;refine (qC5 _ _ _).mono ?_;rintro e w1 ⟨rfl,hb1⟩;rw[hc]) | go_in)
   rw[rounds_succ];have hz1:=hb1.size;simp only[jC]at hz1;have hlt:w.heap.size+1<w1.heap.size:=by omega
   have q0:w1.cell? ⟨w.heap.size+1,2,none⟩=some (iv p):=by rw[(qLi hb1).1 (w.heap.size+1) 2 (by simp)];go_cell
   have q1:w1.cell? ⟨w.heap.size+1,3,none⟩=some (iv m):=by rw[(qLi hb1).1 (w.heap.size+1) 3 (by simp)];go_cell
   go_wp2_with (first | (go_at_call 254;refine (qC5 _ _ _).mono ?_;rintro e w2 ⟨rfl,hb2⟩;rw[hd]) | go_in)
   first
    | (go_ret;exact⟨rfl,(qM8 hb1).trans ((qD5 hb2).mono (by omega))⟩)
    | (rw[rounds_succ];go_wp2;go_ret;exact⟨rfl,(qM8 hb1).trans ((qD5 hb2).mono (by omega))⟩)
end
