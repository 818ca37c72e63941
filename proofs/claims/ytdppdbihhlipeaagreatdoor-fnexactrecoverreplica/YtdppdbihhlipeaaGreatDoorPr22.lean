/- Contracts. -/
import Derived.Test.YtdppdbihhlipeaaGreatDoorPr21
namespace Go.Proofs.YtdppdbihhlipeaaGreatDoor
set_option maxRecDepth 100000
set_option maxHeartbeats 8000000
open Go.RowKit
set_option linter.unusedVariables false
set_option linter.unusedSimpArgs false

section
attribute [local go_sem] qMf qMe qMd qMc qMb qMa qMZ qMY qMX qMW qMV qMU qMT qMS qMR qMQ
theorem qCs (o n p m:Int) (w:World) :
  Calls Tryz.prog 199 #[.iface 309 (.agg #[.int .i64 o,.int .i64 n,.int .i64 p,.int .i64 m])] w fun e w' =>
   e = .returned (.int .i64 (if (qD6 o n&&qD6 p m)=true then 0 else 3))/\Below w.heap.size w w':=by
 cases hr:qD6 o n
 ·have hc:qF1 o n=3:=by simp [qF1,hr]
  go_enter Tryz.func199,Tryz.ntmps199;go_wp2;refine wp_loop_rounds 3 ?_;rw [rounds_succ];go_wp2_with (first | (go_at_call 197;refine (qD3 _ _ _).mono ?_;rintro e w1 ⟨rfl,hb1⟩;rw [hc]) | go_in)
  go_ret;exact ⟨rfl,qM8 hb1⟩
 ·have hc:qF1 o n=0:=by simp [qF1,hr]
  cases hp:qD6 p m
  all_goals
   have hd:qF1 p m=if qD6 p m=true then 0 else 3:=rfl;simp only [hp,if_true,Bool.false_eq_true,if_false] at hd;go_enter Tryz.func199,Tryz.ntmps199;go_wp2;refine wp_loop_rounds 3 ?_;rw [rounds_succ];go_wp2_with (first | (go_at_call 197;refine (qD3 _ _ _).mono ?_;rintro e w1 ⟨rfl,hb1⟩;rw [hc]) | go_in)
   rw [rounds_succ];have hz1:=hb1.size;simp only [World.size_alloc] at hz1;have hlt:w.heap.size+1 < w1.heap.size:=by omega
   have q0:w1.cell? ⟨w.heap.size+1,2,none⟩=some (.int .i64 p):=by rw [(qJz hb1).1 (w.heap.size+1) 2 (by simp)];go_cell
   have q1:w1.cell? ⟨w.heap.size+1,3,none⟩=some (.int .i64 m):=by rw [(qJz hb1).1 (w.heap.size+1) 3 (by simp)];go_cell
   go_wp2_with (first | (go_at_call 197;refine (qD3 _ _ _).mono ?_;rintro e w2 ⟨rfl,hb2⟩;rw [hd]) | go_in)
   first
    | (go_ret;exact ⟨rfl,(qM8 hb1).trans ((qC8 hb2).mono (by omega))⟩)
    | (rw [rounds_succ];go_wp2;go_ret;exact ⟨rfl,(qM8 hb1).trans ((qC8 hb2).mono (by omega))⟩)
end
