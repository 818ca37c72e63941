/- Contracts. -/
import Derived.Test.YtlhgjackapdmbaaGreatDoorPe05
namespace Go.Proofs.YtlhgjackapdmbaaGreatDoor
set_option maxRecDepth 100000
set_option maxHeartbeats 8000000
open Go.RowKit
set_option linter.unusedVariables false
set_option linter.unusedSimpArgs false

theorem QW4 (r:qA1) (h:r.k=1) (w:World) :
  Calls Tryz.prog 191 #[.agg #[.int .i64 r.k,.int .i64 r.ho,.int .i64 r.hn,.int .i64 r.w,.int .i64 r.oo,.int .i64 r.on,.int .i64 r.to,.int .i64 r.tn]] w fun e w' =>
   e = .returned (.iface 292 (.agg #[.int .i64 r.w]))∧Below w.heap.size w w':=by
 go_enter Tryz.func191,Tryz.ntmps191
 go_wp2
 go_ret
 exact ⟨rfl,by go_grown⟩
theorem QW3 (r:qA1) (h:r.k=2) (w:World) :
  Calls Tryz.prog 191 #[.agg #[.int .i64 r.k,.int .i64 r.ho,.int .i64 r.hn,.int .i64 r.w,.int .i64 r.oo,.int .i64 r.on,.int .i64 r.to,.int .i64 r.tn]] w fun e w' =>
   e = .returned (.iface 294 (.agg #[.int .i64 r.oo,.int .i64 r.on]))∧Below w.heap.size w w':=by
 go_enter Tryz.func191,Tryz.ntmps191
 go_wp2
 go_ret
 exact ⟨rfl,by go_grown⟩
theorem QI8 (r:qA1) (h:r.k=3) (w:World) :
  Calls Tryz.prog 191 #[.agg #[.int .i64 r.k,.int .i64 r.ho,.int .i64 r.hn,.int .i64 r.w,.int .i64 r.oo,.int .i64 r.on,.int .i64 r.to,.int .i64 r.tn]] w fun e w' =>
   e = .returned (.iface 296 (.agg #[.int .i64 r.oo,.int .i64 r.on,.int .i64 r.tn]))∧Below w.heap.size w w':=by
 go_enter Tryz.func191,Tryz.ntmps191
 go_wp2
 go_ret
 exact ⟨rfl,by go_grown⟩
theorem QW2 (r:qA1) (h:r.k=4) (w:World) :
  Calls Tryz.prog 191 #[.agg #[.int .i64 r.k,.int .i64 r.ho,.int .i64 r.hn,.int .i64 r.w,.int .i64 r.oo,.int .i64 r.on,.int .i64 r.to,.int .i64 r.tn]] w fun e w' =>
   e = .returned (.iface 298 (.agg #[.int .i64 r.oo,.int .i64 r.on,.int .i64 r.to,.int .i64 r.tn]))∧Below w.heap.size w w':=by
 go_enter Tryz.func191,Tryz.ntmps191
 go_wp2
 go_ret
 exact ⟨rfl,by go_grown⟩
theorem bodyOf_0 (r:qA1) (h:¬ (1≤r.k∧r.k≤4)) (w:World) :
  Calls Tryz.prog 191 #[.agg #[.int .i64 r.k,.int .i64 r.ho,.int .i64 r.hn,.int .i64 r.w,.int .i64 r.oo,.int .i64 r.on,.int .i64 r.to,.int .i64 r.tn]] w fun e w' =>
   e = .returned .nilIface∧Below w.heap.size w w':=by
 have h1:(r.k==1)=false:=by simp;omega
 have h2:(r.k==2)=false:=by simp;omega
 have h3:(r.k==3)=false:=by simp;omega
 have h4:(r.k==4)=false:=by simp;omega
 clear h
 go_enter Tryz.func191,Tryz.ntmps191
 go_wp2
 go_ret
 exact ⟨rfl,by go_grown⟩
theorem bcell2 {W w1:World} (hb:Below W.heap.size W w1):(∀ b o,b < W.heap.size→w1.cell? ⟨b,o,none⟩=W.cell? ⟨b,o,none⟩)∧(∀ b o,b < W.heap.size→w1.frozen? ⟨b,o,none⟩=W.frozen? ⟨b,o,none⟩) :=
 ⟨fun b o h=>hb.cell (p:=⟨b,o,none⟩) h,fun b o h=>hb.frozen (p:=⟨b,o,none⟩) h⟩
/-! The type switch: which body it is. -/
theorem ta11 (cs:Array Value) (w:World):(Instr.typeAssert (.iface 292 (.agg cs)) 263 292 true).run Tryz.prog w = .ok (.tuple #[.agg cs,.bool true]) w:=by kernel_rfl
theorem ta12 (cs:Array Value) (w:World):(Instr.typeAssert (.iface 292 (.agg cs)) 263 294 true).run Tryz.prog w = .ok (.tuple #[.agg #[.int .i64 0,.int .i64 0],.bool false]) w:=by kernel_rfl
theorem ta13 (cs:Array Value) (w:World):(Instr.typeAssert (.iface 292 (.agg cs)) 263 296 true).run Tryz.prog w = .ok (.tuple #[.agg #[.int .i64 0,.int .i64 0,.int .i64 0],.bool false]) w:=by kernel_rfl
theorem ta14 (cs:Array Value) (w:World):(Instr.typeAssert (.iface 292 (.agg cs)) 263 298 true).run Tryz.prog w = .ok (.tuple #[.agg #[.int .i64 0,.int .i64 0,.int .i64 0,.int .i64 0],.bool false]) w:=by kernel_rfl
theorem ta21 (cs:Array Value) (w:World):(Instr.typeAssert (.iface 294 (.agg cs)) 263 292 true).run Tryz.prog w = .ok (.tuple #[.agg #[.int .i64 0],.bool false]) w:=by kernel_rfl
theorem ta22 (cs:Array Value) (w:World):(Instr.typeAssert (.iface 294 (.agg cs)) 263 294 true).run Tryz.prog w = .ok (.tuple #[.agg cs,.bool true]) w:=by kernel_rfl
theorem ta23 (cs:Array Value) (w:World):(Instr.typeAssert (.iface 294 (.agg cs)) 263 296 true).run Tryz.prog w = .ok (.tuple #[.agg #[.int .i64 0,.int .i64 0,.int .i64 0],.bool false]) w:=by kernel_rfl
theorem ta24 (cs:Array Value) (w:World):(Instr.typeAssert (.iface 294 (.agg cs)) 263 298 true).run Tryz.prog w = .ok (.tuple #[.agg #[.int .i64 0,.int .i64 0,.int .i64 0,.int .i64 0],.bool false]) w:=by kernel_rfl
theorem ta31 (cs:Array Value) (w:World):(Instr.typeAssert (.iface 296 (.agg cs)) 263 292 true).run Tryz.prog w = .ok (.tuple #[.agg #[.int .i64 0],.bool false]) w:=by kernel_rfl
theorem ta32 (cs:Array Value) (w:World):(Instr.typeAssert (.iface 296 (.agg cs)) 263 294 true).run Tryz.prog w = .ok (.tuple #[.agg #[.int .i64 0,.int .i64 0],.bool false]) w:=by kernel_rfl
theorem ta33 (cs:Array Value) (w:World):(Instr.typeAssert (.iface 296 (.agg cs)) 263 296 true).run Tryz.prog w = .ok (.tuple #[.agg cs,.bool true]) w:=by kernel_rfl
theorem ta34 (cs:Array Value) (w:World):(Instr.typeAssert (.iface 296 (.agg cs)) 263 298 true).run Tryz.prog w = .ok (.tuple #[.agg #[.int .i64 0,.int .i64 0,.int .i64 0,.int .i64 0],.bool false]) w:=by kernel_rfl
theorem ta41 (cs:Array Value) (w:World):(Instr.typeAssert (.iface 298 (.agg cs)) 263 292 true).run Tryz.prog w = .ok (.tuple #[.agg #[.int .i64 0],.bool false]) w:=by kernel_rfl
theorem ta42 (cs:Array Value) (w:World):(Instr.typeAssert (.iface 298 (.agg cs)) 263 294 true).run Tryz.prog w = .ok (.tuple #[.agg #[.int .i64 0,.int .i64 0],.bool false]) w:=by kernel_rfl
theorem ta43 (cs:Array Value) (w:World):(Instr.typeAssert (.iface 298 (.agg cs)) 263 296 true).run Tryz.prog w = .ok (.tuple #[.agg #[.int .i64 0,.int .i64 0,.int .i64 0],.bool false]) w:=by kernel_rfl
theorem ta44 (cs:Array Value) (w:World):(Instr.typeAssert (.iface 298 (.agg cs)) 263 298 true).run Tryz.prog w = .ok (.tuple #[.agg cs,.bool true]) w:=by kernel_rfl
theorem qN0 {w w1:World} {o1 o2 o3:Obj} (h:Below (((w.alloc o1).alloc o2).alloc o3).heap.size (((w.alloc o1).alloc o2).alloc o3) w1):Below w.heap.size w w1:=qD5 (qD5 (qD5 h))

section
attribute [local go_sem] ta11 ta12 ta13 ta14 ta21 ta22 ta23 ta24 ta31 ta32 ta33 ta34 ta41 ta42 ta43 ta44
theorem bodyFault_1 (p:Int) (w:World) :
  Calls Tryz.prog 194 #[.iface 292 (.agg #[.int .i64 p])] w fun e w' =>
   e = .returned (.int .i64 (if qU5 p=true then 0 else 3))∧Below w.heap.size w w':=by
 cases hp:qU5 p
 all_goals
  go_enter Tryz.func194,Tryz.ntmps194
  go_wp2
  refine wp_loop_rounds 1 ?_
  rw [rounds_succ]
  go_wp2_with (first | (go_at_call 180;refine (isPrin_c _ _).mono ?_;rintro e w1 ⟨rfl,rfl⟩;rw [hp]) | go_in)
  go_ret
  exact ⟨rfl,by go_grown⟩
theorem bodyFault_2 (o n:Int) (w:World) :
  Calls Tryz.prog 194 #[.iface 294 (.agg #[.int .i64 o,.int .i64 n])] w fun e w' =>
   e = .returned (.int .i64 (if qD3 o n=true then 0 else 3))∧Below w.heap.size w w':=by
 cases hr:qD3 o n
 ·have hc:qF0 o n=3:=by simp [qF0,hr]
  go_enter Tryz.func194,Tryz.ntmps194
  go_wp2
  refine wp_loop_rounds 2 ?_
  rw [rounds_succ]
  go_wp2_with (first | (go_at_call 192;refine (qC9 _ _ _).mono ?_;rintro e w1 ⟨rfl,hb1⟩;rw [hc]) | go_in)
  go_ret
  exact ⟨rfl,qN0 hb1⟩
 ·have hc:qF0 o n=0:=by simp [qF0,hr]
  go_enter Tryz.func194,Tryz.ntmps194
  go_wp2
  refine wp_loop_rounds 2 ?_
  rw [rounds_succ]
  go_wp2_with (first | (go_at_call 192;refine (qC9 _ _ _).mono ?_;rintro e w1 ⟨rfl,hb1⟩;rw [hc]) | go_in)
  rw [rounds_succ]
  go_wp2
  go_ret
  exact ⟨rfl,qN0 hb1⟩
theorem bodyFault_3 (o n m:Int) (w:World) :
  Calls Tryz.prog 194 #[.iface 296 (.agg #[.int .i64 o,.int .i64 n,.int .i64 m])] w fun e w' =>
   e = .returned (.int .i64 (if (qD3 o n&&qV6 m)=true then 0 else 3))∧Below w.heap.size w w':=by
 cases hr:qD3 o n
 ·have hc:qF0 o n=3:=by simp [qF0,hr]
  go_enter Tryz.func194,Tryz.ntmps194
  go_wp2
  refine wp_loop_rounds 2 ?_
  rw [rounds_succ]
  go_wp2_with (first | (go_at_call 192;refine (qC9 _ _ _).mono ?_;rintro e w1 ⟨rfl,hb1⟩;rw [hc]) | go_in)
  go_ret
  exact ⟨rfl,qN0 hb1⟩
 ·have hc:qF0 o n=0:=by simp [qF0,hr]
  cases hp:qV6 m
  all_goals
   go_enter Tryz.func194,Tryz.ntmps194
   go_wp2
   refine wp_loop_rounds 2 ?_
   rw [rounds_succ]
   go_wp2_with (first | (go_at_call 192;refine (qC9 _ _ _).mono ?_;rintro e w1 ⟨rfl,hb1⟩;rw [hc]) | go_in)
   rw [rounds_succ]
   go_wp2_with (first | (go_at_call 208;refine (isName_c _ _).mono ?_;rintro e w2 ⟨rfl,rfl⟩;rw [hp]) | go_in)
   go_ret
   exact ⟨rfl,(qN0 hb1).alloc (qN0 hb1).size _⟩
end

section
attribute [local go_sem] ta11 ta12 ta13 ta14 ta21 ta22 ta23 ta24 ta31 ta32 ta33 ta34 ta41 ta42 ta43 ta44
theorem bodyFault_4 (o n p m:Int) (w:World) :
  Calls Tryz.prog 194 #[.iface 298 (.agg #[.int .i64 o,.int .i64 n,.int .i64 p,.int .i64 m])] w fun e w' =>
   e = .returned (.int .i64 (if (qD3 o n&&qD3 p m)=true then 0 else 3))∧Below w.heap.size w w':=by
 cases hr:qD3 o n
 ·have hc:qF0 o n=3:=by simp [qF0,hr]
  go_enter Tryz.func194,Tryz.ntmps194
  go_wp2
  refine wp_loop_rounds 3 ?_
  rw [rounds_succ]
  go_wp2_with (first | (go_at_call 192;refine (qC9 _ _ _).mono ?_;rintro e w1 ⟨rfl,hb1⟩;rw [hc]) | go_in)
  go_ret
  exact ⟨rfl,qN0 hb1⟩
 ·have hc:qF0 o n=0:=by simp [qF0,hr]
  cases hp:qD3 p m
  all_goals
   have hd:qF0 p m=if qD3 p m=true then 0 else 3:=rfl
   simp only [hp,if_true,Bool.false_eq_true,if_false] at hd
   go_enter Tryz.func194,Tryz.ntmps194
   go_wp2
   refine wp_loop_rounds 3 ?_
   rw [rounds_succ]
   go_wp2_with (first | (go_at_call 192;refine (qC9 _ _ _).mono ?_;rintro e w1 ⟨rfl,hb1⟩;rw [hc]) | go_in)
   rw [rounds_succ]
   have hz1:=hb1.size
   simp only [World.size_alloc] at hz1
   have hlt:w.heap.size+1 < w1.heap.size:=by omega
   have q0:w1.cell? ⟨w.heap.size+1,2,none⟩=some (.int .i64 p):=by rw [(bcell2 hb1).1 (w.heap.size+1) 2 (by simp)];go_cell
   have q1:w1.cell? ⟨w.heap.size+1,3,none⟩=some (.int .i64 m):=by rw [(bcell2 hb1).1 (w.heap.size+1) 3 (by simp)];go_cell
   go_wp2_with (first | (go_at_call 192;refine (qC9 _ _ _).mono ?_;rintro e w2 ⟨rfl,hb2⟩;rw [hd]) | go_in)
   first
    | (go_ret;exact ⟨rfl,(qN0 hb1).trans ((qD5 hb2).mono (by omega))⟩)
    | (rw [rounds_succ];go_wp2;go_ret;exact ⟨rfl,(qN0 hb1).trans ((qD5 hb2).mono (by omega))⟩)
end

end Go.Proofs.YtlhgjackapdmbaaGreatDoor
