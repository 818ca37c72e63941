/- Contracts. -/
import Derived.Test.YtdppdbihhlipeaaGreatDoorPl04
namespace Go.Proofs.YtdppdbihhlipeaaGreatDoor
set_option maxRecDepth 100000
set_option maxHeartbeats 8000000
open Go.RowKit
set_option linter.unusedVariables false
set_option linter.unusedSimpArgs false

theorem QX2 (r:qA0) (h:r.k=1) (w:World) :
  Calls Tryz.prog 196 #[.agg #[.int .i64 r.k,.int .i64 r.ho,.int .i64 r.hn,.int .i64 r.w,.int .i64 r.oo,.int .i64 r.on,.int .i64 r.to,.int .i64 r.tn]] w fun e w' =>
   e = .returned (.iface 303 (.agg #[.int .i64 r.w]))∧Below w.heap.size w w':=by
 go_enter Tryz.func196,Tryz.ntmps196
 go_wp2
 go_ret
 exact ⟨rfl,by go_grown⟩
theorem QX1 (r:qA0) (h:r.k=2) (w:World) :
  Calls Tryz.prog 196 #[.agg #[.int .i64 r.k,.int .i64 r.ho,.int .i64 r.hn,.int .i64 r.w,.int .i64 r.oo,.int .i64 r.on,.int .i64 r.to,.int .i64 r.tn]] w fun e w' =>
   e = .returned (.iface 305 (.agg #[.int .i64 r.oo,.int .i64 r.on]))∧Below w.heap.size w w':=by
 go_enter Tryz.func196,Tryz.ntmps196
 go_wp2
 go_ret
 exact ⟨rfl,by go_grown⟩
theorem QJ3 (r:qA0) (h:r.k=3) (w:World) :
  Calls Tryz.prog 196 #[.agg #[.int .i64 r.k,.int .i64 r.ho,.int .i64 r.hn,.int .i64 r.w,.int .i64 r.oo,.int .i64 r.on,.int .i64 r.to,.int .i64 r.tn]] w fun e w' =>
   e = .returned (.iface 307 (.agg #[.int .i64 r.oo,.int .i64 r.on,.int .i64 r.tn]))∧Below w.heap.size w w':=by
 go_enter Tryz.func196,Tryz.ntmps196
 go_wp2
 go_ret
 exact ⟨rfl,by go_grown⟩
theorem QX0 (r:qA0) (h:r.k=4) (w:World) :
  Calls Tryz.prog 196 #[.agg #[.int .i64 r.k,.int .i64 r.ho,.int .i64 r.hn,.int .i64 r.w,.int .i64 r.oo,.int .i64 r.on,.int .i64 r.to,.int .i64 r.tn]] w fun e w' =>
   e = .returned (.iface 309 (.agg #[.int .i64 r.oo,.int .i64 r.on,.int .i64 r.to,.int .i64 r.tn]))∧Below w.heap.size w w':=by
 go_enter Tryz.func196,Tryz.ntmps196
 go_wp2
 go_ret
 exact ⟨rfl,by go_grown⟩
theorem bodyOf_0 (r:qA0) (h:¬ (1≤r.k∧r.k≤4)) (w:World) :
  Calls Tryz.prog 196 #[.agg #[.int .i64 r.k,.int .i64 r.ho,.int .i64 r.hn,.int .i64 r.w,.int .i64 r.oo,.int .i64 r.on,.int .i64 r.to,.int .i64 r.tn]] w fun e w' =>
   e = .returned .nilIface∧Below w.heap.size w w':=by
 have h1:(r.k==1)=false:=by simp;omega
 have h2:(r.k==2)=false:=by simp;omega
 have h3:(r.k==3)=false:=by simp;omega
 have h4:(r.k==4)=false:=by simp;omega
 clear h
 go_enter Tryz.func196,Tryz.ntmps196
 go_wp2
 go_ret
 exact ⟨rfl,by go_grown⟩
theorem bcell2 {W w1:World} (hb:Below W.heap.size W w1):(∀ b o,b < W.heap.size→w1.cell? ⟨b,o,none⟩=W.cell? ⟨b,o,none⟩)∧(∀ b o,b < W.heap.size→w1.frozen? ⟨b,o,none⟩=W.frozen? ⟨b,o,none⟩) :=
 ⟨fun b o h=>hb.cell (p:=⟨b,o,none⟩) h,fun b o h=>hb.frozen (p:=⟨b,o,none⟩) h⟩
/-! The type switch: which body it is. -/
theorem ta11 (cs:Array Value) (w:World):(Instr.typeAssert (.iface 303 (.agg cs)) 272 303 true).run Tryz.prog w = .ok (.tuple #[.agg cs,.bool true]) w:=by kernel_rfl
theorem ta12 (cs:Array Value) (w:World):(Instr.typeAssert (.iface 303 (.agg cs)) 272 305 true).run Tryz.prog w = .ok (.tuple #[.agg #[.int .i64 0,.int .i64 0],.bool false]) w:=by kernel_rfl
theorem ta13 (cs:Array Value) (w:World):(Instr.typeAssert (.iface 303 (.agg cs)) 272 307 true).run Tryz.prog w = .ok (.tuple #[.agg #[.int .i64 0,.int .i64 0,.int .i64 0],.bool false]) w:=by kernel_rfl
theorem ta14 (cs:Array Value) (w:World):(Instr.typeAssert (.iface 303 (.agg cs)) 272 309 true).run Tryz.prog w = .ok (.tuple #[.agg #[.int .i64 0,.int .i64 0,.int .i64 0,.int .i64 0],.bool false]) w:=by kernel_rfl
theorem ta21 (cs:Array Value) (w:World):(Instr.typeAssert (.iface 305 (.agg cs)) 272 303 true).run Tryz.prog w = .ok (.tuple #[.agg #[.int .i64 0],.bool false]) w:=by kernel_rfl
theorem ta22 (cs:Array Value) (w:World):(Instr.typeAssert (.iface 305 (.agg cs)) 272 305 true).run Tryz.prog w = .ok (.tuple #[.agg cs,.bool true]) w:=by kernel_rfl
theorem ta23 (cs:Array Value) (w:World):(Instr.typeAssert (.iface 305 (.agg cs)) 272 307 true).run Tryz.prog w = .ok (.tuple #[.agg #[.int .i64 0,.int .i64 0,.int .i64 0],.bool false]) w:=by kernel_rfl
theorem ta24 (cs:Array Value) (w:World):(Instr.typeAssert (.iface 305 (.agg cs)) 272 309 true).run Tryz.prog w = .ok (.tuple #[.agg #[.int .i64 0,.int .i64 0,.int .i64 0,.int .i64 0],.bool false]) w:=by kernel_rfl
theorem ta31 (cs:Array Value) (w:World):(Instr.typeAssert (.iface 307 (.agg cs)) 272 303 true).run Tryz.prog w = .ok (.tuple #[.agg #[.int .i64 0],.bool false]) w:=by kernel_rfl
theorem ta32 (cs:Array Value) (w:World):(Instr.typeAssert (.iface 307 (.agg cs)) 272 305 true).run Tryz.prog w = .ok (.tuple #[.agg #[.int .i64 0,.int .i64 0],.bool false]) w:=by kernel_rfl
theorem ta33 (cs:Array Value) (w:World):(Instr.typeAssert (.iface 307 (.agg cs)) 272 307 true).run Tryz.prog w = .ok (.tuple #[.agg cs,.bool true]) w:=by kernel_rfl
theorem ta34 (cs:Array Value) (w:World):(Instr.typeAssert (.iface 307 (.agg cs)) 272 309 true).run Tryz.prog w = .ok (.tuple #[.agg #[.int .i64 0,.int .i64 0,.int .i64 0,.int .i64 0],.bool false]) w:=by kernel_rfl
theorem ta41 (cs:Array Value) (w:World):(Instr.typeAssert (.iface 309 (.agg cs)) 272 303 true).run Tryz.prog w = .ok (.tuple #[.agg #[.int .i64 0],.bool false]) w:=by kernel_rfl
theorem ta42 (cs:Array Value) (w:World):(Instr.typeAssert (.iface 309 (.agg cs)) 272 305 true).run Tryz.prog w = .ok (.tuple #[.agg #[.int .i64 0,.int .i64 0],.bool false]) w:=by kernel_rfl
theorem ta43 (cs:Array Value) (w:World):(Instr.typeAssert (.iface 309 (.agg cs)) 272 307 true).run Tryz.prog w = .ok (.tuple #[.agg #[.int .i64 0,.int .i64 0,.int .i64 0],.bool false]) w:=by kernel_rfl
theorem ta44 (cs:Array Value) (w:World):(Instr.typeAssert (.iface 309 (.agg cs)) 272 309 true).run Tryz.prog w = .ok (.tuple #[.agg cs,.bool true]) w:=by kernel_rfl
theorem qM7 {w w1:World} {o1 o2 o3:Obj} (h:Below (((w.alloc o1).alloc o2).alloc o3).heap.size (((w.alloc o1).alloc o2).alloc o3) w1):Below w.heap.size w w1:=qC1 (qC1 (qC1 h))

section
attribute [local go_sem] ta11 ta12 ta13 ta14 ta21 ta22 ta23 ta24 ta31 ta32 ta33 ta34 ta41 ta42 ta43 ta44
theorem bodyFault_1 (p:Int) (w:World) :
  Calls Tryz.prog 199 #[.iface 303 (.agg #[.int .i64 p])] w fun e w' =>
   e = .returned (.int .i64 (if qU4 p=true then 0 else 3))∧Below w.heap.size w w':=by
 cases hp:qU4 p
 all_goals
  go_enter Tryz.func199,Tryz.ntmps199
  go_wp2
  refine wp_loop_rounds 1 ?_
  rw [rounds_succ]
  go_wp2_with (first | (go_at_call 206;refine (isPrin_c _ _).mono ?_;rintro e w1 ⟨rfl,rfl⟩;rw [hp]) | go_in)
  go_ret
  exact ⟨rfl,by go_grown⟩
theorem bodyFault_2 (o n:Int) (w:World) :
  Calls Tryz.prog 199 #[.iface 305 (.agg #[.int .i64 o,.int .i64 n])] w fun e w' =>
   e = .returned (.int .i64 (if qC9 o n=true then 0 else 3))∧Below w.heap.size w w':=by
 cases hr:qC9 o n
 ·have hc:qE6 o n=3:=by simp [qE6,hr]
  go_enter Tryz.func199,Tryz.ntmps199
  go_wp2
  refine wp_loop_rounds 2 ?_
  rw [rounds_succ]
  go_wp2_with (first | (go_at_call 197;refine (qC5 _ _ _).mono ?_;rintro e w1 ⟨rfl,hb1⟩;rw [hc]) | go_in)
  go_ret
  exact ⟨rfl,qM7 hb1⟩
 ·have hc:qE6 o n=0:=by simp [qE6,hr]
  go_enter Tryz.func199,Tryz.ntmps199
  go_wp2
  refine wp_loop_rounds 2 ?_
  rw [rounds_succ]
  go_wp2_with (first | (go_at_call 197;refine (qC5 _ _ _).mono ?_;rintro e w1 ⟨rfl,hb1⟩;rw [hc]) | go_in)
  rw [rounds_succ]
  go_wp2
  go_ret
  exact ⟨rfl,qM7 hb1⟩
theorem bodyFault_3 (o n m:Int) (w:World) :
  Calls Tryz.prog 199 #[.iface 307 (.agg #[.int .i64 o,.int .i64 n,.int .i64 m])] w fun e w' =>
   e = .returned (.int .i64 (if (qC9 o n&&qV5 m)=true then 0 else 3))∧Below w.heap.size w w':=by
 cases hr:qC9 o n
 ·have hc:qE6 o n=3:=by simp [qE6,hr]
  go_enter Tryz.func199,Tryz.ntmps199
  go_wp2
  refine wp_loop_rounds 2 ?_
  rw [rounds_succ]
  go_wp2_with (first | (go_at_call 197;refine (qC5 _ _ _).mono ?_;rintro e w1 ⟨rfl,hb1⟩;rw [hc]) | go_in)
  go_ret
  exact ⟨rfl,qM7 hb1⟩
 ·have hc:qE6 o n=0:=by simp [qE6,hr]
  cases hp:qV5 m
  all_goals
   go_enter Tryz.func199,Tryz.ntmps199
   go_wp2
   refine wp_loop_rounds 2 ?_
   rw [rounds_succ]
   go_wp2_with (first | (go_at_call 197;refine (qC5 _ _ _).mono ?_;rintro e w1 ⟨rfl,hb1⟩;rw [hc]) | go_in)
   rw [rounds_succ]
   go_wp2_with (first | (go_at_call 217;refine (isName_c _ _).mono ?_;rintro e w2 ⟨rfl,rfl⟩;rw [hp]) | go_in)
   go_ret
   exact ⟨rfl,(qM7 hb1).alloc (qM7 hb1).size _⟩
end

end Go.Proofs.YtdppdbihhlipeaaGreatDoor
