/- Contracts. -/
import Derived.Test.YtdppdbihhlipeaaGreatDoorPr05
namespace Go.Proofs.YtdppdbihhlipeaaGreatDoor
set_option maxRecDepth 100000
set_option maxHeartbeats 8000000
open Go.RowKit
set_option linter.unusedVariables false
set_option linter.unusedSimpArgs false

theorem QY6 (r:qA2) (h:r.k=1) (w:World) :
  Calls Tryz.prog 196 #[.agg #[.int .i64 r.k,.int .i64 r.ho,.int .i64 r.hn,.int .i64 r.w,.int .i64 r.oo,.int .i64 r.on,.int .i64 r.to,.int .i64 r.tn]] w fun e w' =>
   e = .returned (.iface 303 (.agg #[.int .i64 r.w]))/\Below w.heap.size w w':=by
 go_enter Tryz.func196,Tryz.ntmps196;go_wp2;go_ret;exact ⟨rfl,by go_grown⟩
theorem QY5 (r:qA2) (h:r.k=2) (w:World) :
  Calls Tryz.prog 196 #[.agg #[.int .i64 r.k,.int .i64 r.ho,.int .i64 r.hn,.int .i64 r.w,.int .i64 r.oo,.int .i64 r.on,.int .i64 r.to,.int .i64 r.tn]] w fun e w' =>
   e = .returned (.iface 305 (.agg #[.int .i64 r.oo,.int .i64 r.on]))/\Below w.heap.size w w':=by
 go_enter Tryz.func196,Tryz.ntmps196;go_wp2;go_ret;exact ⟨rfl,by go_grown⟩
theorem QJ7 (r:qA2) (h:r.k=3) (w:World) :
  Calls Tryz.prog 196 #[.agg #[.int .i64 r.k,.int .i64 r.ho,.int .i64 r.hn,.int .i64 r.w,.int .i64 r.oo,.int .i64 r.on,.int .i64 r.to,.int .i64 r.tn]] w fun e w' =>
   e = .returned (.iface 307 (.agg #[.int .i64 r.oo,.int .i64 r.on,.int .i64 r.tn]))/\Below w.heap.size w w':=by
 go_enter Tryz.func196,Tryz.ntmps196;go_wp2;go_ret;exact ⟨rfl,by go_grown⟩
theorem QY4 (r:qA2) (h:r.k=4) (w:World) :
  Calls Tryz.prog 196 #[.agg #[.int .i64 r.k,.int .i64 r.ho,.int .i64 r.hn,.int .i64 r.w,.int .i64 r.oo,.int .i64 r.on,.int .i64 r.to,.int .i64 r.tn]] w fun e w' =>
   e = .returned (.iface 309 (.agg #[.int .i64 r.oo,.int .i64 r.on,.int .i64 r.to,.int .i64 r.tn]))/\Below w.heap.size w w':=by
 go_enter Tryz.func196,Tryz.ntmps196;go_wp2;go_ret;exact ⟨rfl,by go_grown⟩
theorem qJO (r:qA2) (h:¬ (1<=r.k/\r.k<=4)) (w:World) :
  Calls Tryz.prog 196 #[.agg #[.int .i64 r.k,.int .i64 r.ho,.int .i64 r.hn,.int .i64 r.w,.int .i64 r.oo,.int .i64 r.on,.int .i64 r.to,.int .i64 r.tn]] w fun e w' =>
   e = .returned .nilIface/\Below w.heap.size w w':=by
 have h1:(r.k==1)=false:=by simp;omega
 have h2:(r.k==2)=false:=by simp;omega
 have h3:(r.k==3)=false:=by simp;omega
 have h4:(r.k==4)=false:=by simp;omega
 clear h;go_enter Tryz.func196,Tryz.ntmps196;go_wp2;go_ret;exact ⟨rfl,by go_grown⟩
theorem qJz {W w1:World} (hb:Below W.heap.size W w1):(∀ b o,b < W.heap.size->w1.cell? ⟨b,o,none⟩=W.cell? ⟨b,o,none⟩)/\(∀ b o,b < W.heap.size->w1.frozen? ⟨b,o,none⟩=W.frozen? ⟨b,o,none⟩) :=
 ⟨fun b o h=>hb.cell (p:=⟨b,o,none⟩) h,fun b o h=>hb.frozen (p:=⟨b,o,none⟩) h⟩
/-! The type switch: which body it is. -/
theorem qMf (cs:Array Value) (w:World):(Instr.typeAssert (.iface 303 (.agg cs)) 272 303 true).run Tryz.prog w = .ok (.tuple #[.agg cs,.bool true]) w:=by kernel_rfl
theorem qMe (cs:Array Value) (w:World):(Instr.typeAssert (.iface 303 (.agg cs)) 272 305 true).run Tryz.prog w = .ok (.tuple #[.agg #[.int .i64 0,.int .i64 0],.bool false]) w:=by kernel_rfl
theorem qMd (cs:Array Value) (w:World):(Instr.typeAssert (.iface 303 (.agg cs)) 272 307 true).run Tryz.prog w = .ok (.tuple #[.agg #[.int .i64 0,.int .i64 0,.int .i64 0],.bool false]) w:=by kernel_rfl
theorem qMc (cs:Array Value) (w:World):(Instr.typeAssert (.iface 303 (.agg cs)) 272 309 true).run Tryz.prog w = .ok (.tuple #[.agg #[.int .i64 0,.int .i64 0,.int .i64 0,.int .i64 0],.bool false]) w:=by kernel_rfl
theorem qMb (cs:Array Value) (w:World):(Instr.typeAssert (.iface 305 (.agg cs)) 272 303 true).run Tryz.prog w = .ok (.tuple #[.agg #[.int .i64 0],.bool false]) w:=by kernel_rfl
theorem qMa (cs:Array Value) (w:World):(Instr.typeAssert (.iface 305 (.agg cs)) 272 305 true).run Tryz.prog w = .ok (.tuple #[.agg cs,.bool true]) w:=by kernel_rfl
theorem qMZ (cs:Array Value) (w:World):(Instr.typeAssert (.iface 305 (.agg cs)) 272 307 true).run Tryz.prog w = .ok (.tuple #[.agg #[.int .i64 0,.int .i64 0,.int .i64 0],.bool false]) w:=by kernel_rfl
theorem qMY (cs:Array Value) (w:World):(Instr.typeAssert (.iface 305 (.agg cs)) 272 309 true).run Tryz.prog w = .ok (.tuple #[.agg #[.int .i64 0,.int .i64 0,.int .i64 0,.int .i64 0],.bool false]) w:=by kernel_rfl
theorem qMX (cs:Array Value) (w:World):(Instr.typeAssert (.iface 307 (.agg cs)) 272 303 true).run Tryz.prog w = .ok (.tuple #[.agg #[.int .i64 0],.bool false]) w:=by kernel_rfl
theorem qMW (cs:Array Value) (w:World):(Instr.typeAssert (.iface 307 (.agg cs)) 272 305 true).run Tryz.prog w = .ok (.tuple #[.agg #[.int .i64 0,.int .i64 0],.bool false]) w:=by kernel_rfl
theorem qMV (cs:Array Value) (w:World):(Instr.typeAssert (.iface 307 (.agg cs)) 272 307 true).run Tryz.prog w = .ok (.tuple #[.agg cs,.bool true]) w:=by kernel_rfl
theorem qMU (cs:Array Value) (w:World):(Instr.typeAssert (.iface 307 (.agg cs)) 272 309 true).run Tryz.prog w = .ok (.tuple #[.agg #[.int .i64 0,.int .i64 0,.int .i64 0,.int .i64 0],.bool false]) w:=by kernel_rfl
theorem qMT (cs:Array Value) (w:World):(Instr.typeAssert (.iface 309 (.agg cs)) 272 303 true).run Tryz.prog w = .ok (.tuple #[.agg #[.int .i64 0],.bool false]) w:=by kernel_rfl
theorem qMS (cs:Array Value) (w:World):(Instr.typeAssert (.iface 309 (.agg cs)) 272 305 true).run Tryz.prog w = .ok (.tuple #[.agg #[.int .i64 0,.int .i64 0],.bool false]) w:=by kernel_rfl
theorem qMR (cs:Array Value) (w:World):(Instr.typeAssert (.iface 309 (.agg cs)) 272 307 true).run Tryz.prog w = .ok (.tuple #[.agg #[.int .i64 0,.int .i64 0,.int .i64 0],.bool false]) w:=by kernel_rfl
theorem qMQ (cs:Array Value) (w:World):(Instr.typeAssert (.iface 309 (.agg cs)) 272 309 true).run Tryz.prog w = .ok (.tuple #[.agg cs,.bool true]) w:=by kernel_rfl
theorem qM8 {w w1:World} {o1 o2 o3:Obj} (h:Below (((w.alloc o1).alloc o2).alloc o3).heap.size (((w.alloc o1).alloc o2).alloc o3) w1):Below w.heap.size w w1:=qC8 (qC8 (qC8 h))

section
attribute [local go_sem] qMf qMe qMd qMc qMb qMa qMZ qMY qMX qMW qMV qMU qMT qMS qMR qMQ
theorem qCv (p:Int) (w:World) :
  Calls Tryz.prog 199 #[.iface 303 (.agg #[.int .i64 p])] w fun e w' =>
   e = .returned (.int .i64 (if qU0 p=true then 0 else 3))/\Below w.heap.size w w':=by
 cases hp:qU0 p
 all_goals
  go_enter Tryz.func199,Tryz.ntmps199;go_wp2;refine wp_loop_rounds 1 ?_;rw [rounds_succ];go_wp2_with (first | (go_at_call 206;refine (qDo _ _).mono ?_;rintro e w1 ⟨rfl,rfl⟩;rw [hp]) | go_in)
  go_ret;exact ⟨rfl,by go_grown⟩
theorem qCu (o n:Int) (w:World) :
  Calls Tryz.prog 199 #[.iface 305 (.agg #[.int .i64 o,.int .i64 n])] w fun e w' =>
   e = .returned (.int .i64 (if qD6 o n=true then 0 else 3))/\Below w.heap.size w w':=by
 cases hr:qD6 o n
 ·have hc:qF1 o n=3:=by simp [qF1,hr]
  go_enter Tryz.func199,Tryz.ntmps199;go_wp2;refine wp_loop_rounds 2 ?_;rw [rounds_succ];go_wp2_with (first | (go_at_call 197;refine (qD3 _ _ _).mono ?_;rintro e w1 ⟨rfl,hb1⟩;rw [hc]) | go_in)
  go_ret;exact ⟨rfl,qM8 hb1⟩
 ·have hc:qF1 o n=0:=by simp [qF1,hr]
  go_enter Tryz.func199,Tryz.ntmps199;go_wp2;refine wp_loop_rounds 2 ?_;rw [rounds_succ];go_wp2_with (first | (go_at_call 197;refine (qD3 _ _ _).mono ?_;rintro e w1 ⟨rfl,hb1⟩;rw [hc]) | go_in)
  rw [rounds_succ];go_wp2;go_ret;exact ⟨rfl,qM8 hb1⟩
theorem qCt (o n m:Int) (w:World) :
  Calls Tryz.prog 199 #[.iface 307 (.agg #[.int .i64 o,.int .i64 n,.int .i64 m])] w fun e w' =>
   e = .returned (.int .i64 (if (qD6 o n&&qV1 m)=true then 0 else 3))/\Below w.heap.size w w':=by
 cases hr:qD6 o n
 ·have hc:qF1 o n=3:=by simp [qF1,hr]
  go_enter Tryz.func199,Tryz.ntmps199;go_wp2;refine wp_loop_rounds 2 ?_;rw [rounds_succ];go_wp2_with (first | (go_at_call 197;refine (qD3 _ _ _).mono ?_;rintro e w1 ⟨rfl,hb1⟩;rw [hc]) | go_in)
  go_ret;exact ⟨rfl,qM8 hb1⟩
 ·have hc:qF1 o n=0:=by simp [qF1,hr]
  cases hp:qV1 m
  all_goals
   go_enter Tryz.func199,Tryz.ntmps199;go_wp2;refine wp_loop_rounds 2 ?_;rw [rounds_succ];go_wp2_with (first | (go_at_call 197;refine (qD3 _ _ _).mono ?_;rintro e w1 ⟨rfl,hb1⟩;rw [hc]) | go_in)
   rw [rounds_succ];go_wp2_with (first | (go_at_call 217;refine (qDp _ _).mono ?_;rintro e w2 ⟨rfl,rfl⟩;rw [hp]) | go_in)
   go_ret;exact ⟨rfl,(qM8 hb1).alloc (qM8 hb1).size _⟩
end
