/- Contracts. -/
import Derived.Test.YtdghpccmdnnenaaGreatDoorPx01
namespace Go.Proofs.YtdghpccmdnnenaaGreatDoor
set_option maxRecDepth 100000
set_option maxHeartbeats 8000000
open Go.RowKit Go.Proofs.Tryz
set_option linter.unusedVariables false
set_option linter.unusedSimpArgs false
theorem qAf(r:qA1)(h:r.k=1)(w:World):
  CP 253 #[.agg #[iv r.k,iv r.ho,iv r.hn,iv r.w,iv r.oo,iv r.on,iv r.to,iv r.tn]] w fun e w' =>
   e=.returned (.iface 335 (.agg #[iv r.w]))/\Below w.heap.size w w':=by
 go_enter func253,ntmps253;go_wp2;go_ret;exact⟨rfl,by go_grown⟩
theorem qAe(r:qA1)(h:r.k=2)(w:World):
  CP 253 #[.agg #[iv r.k,iv r.ho,iv r.hn,iv r.w,iv r.oo,iv r.on,iv r.to,iv r.tn]] w fun e w' =>
   e=.returned (.iface 337 (.agg #[iv r.oo,iv r.on]))/\Below w.heap.size w w':=by
 go_enter func253,ntmps253;go_wp2;go_ret;exact⟨rfl,by go_grown⟩
theorem QM7(r:qA1)(h:r.k=3)(w:World):
  CP 253 #[.agg #[iv r.k,iv r.ho,iv r.hn,iv r.w,iv r.oo,iv r.on,iv r.to,iv r.tn]] w fun e w' =>
   e=.returned (.iface 339 (.agg #[iv r.oo,iv r.on,iv r.tn]))/\Below w.heap.size w w':=by
 go_enter func253,ntmps253;go_wp2;go_ret;exact⟨rfl,by go_grown⟩
theorem qAd(r:qA1)(h:r.k=4)(w:World):
  CP 253 #[.agg #[iv r.k,iv r.ho,iv r.hn,iv r.w,iv r.oo,iv r.on,iv r.to,iv r.tn]] w fun e w' =>
   e=.returned (.iface 341 (.agg #[iv r.oo,iv r.on,iv r.to,iv r.tn]))/\Below w.heap.size w w':=by
 go_enter func253,ntmps253;go_wp2;go_ret;exact⟨rfl,by go_grown⟩
theorem qKs(r:qA1)(h:¬ (1<=r.k/\r.k<=4))(w:World):
  CP 253 #[.agg #[iv r.k,iv r.ho,iv r.hn,iv r.w,iv r.oo,iv r.on,iv r.to,iv r.tn]] w fun e w' =>
   e=.returned .nilIface/\Below w.heap.size w w':=by
 have h1:(r.k==1)=false:=by simp;omega
 have h2:(r.k==2)=false:=by simp;omega
 have h3:(r.k==3)=false:=by simp;omega
 have h4:(r.k==4)=false:=by simp;omega
 clear h;go_enter func253,ntmps253;go_wp2;go_ret;exact⟨rfl,by go_grown⟩
theorem qLi{W w1:World}(hb:Below W.heap.size W w1):(∀b o,b<W.heap.size->w1.cell? ⟨b,o,none⟩=W.cell? ⟨b,o,none⟩)/\(∀b o,b<W.heap.size->w1.frozen? ⟨b,o,none⟩=W.frozen? ⟨b,o,none⟩) :=
 ⟨fun b o h=>hb.cell (p:=⟨b,o,none⟩) h,fun b o h=>hb.frozen (p:=⟨b,o,none⟩) h⟩
/-! The type switch: which body it is. -/
theorem qOm(cs:Array Value)(w:World):(Instr.typeAssert (.iface 335 (.agg cs)) 315 335 true).run prog w=.ok (.tuple #[.agg cs,.bool true]) w:=by kernel_rfl
theorem qOl(cs:Array Value)(w:World):(Instr.typeAssert (.iface 335 (.agg cs)) 315 337 true).run prog w=.ok (.tuple #[.agg #[iv 0,iv 0],.bool false]) w:=by kernel_rfl
theorem qOk(cs:Array Value)(w:World):(Instr.typeAssert (.iface 335 (.agg cs)) 315 339 true).run prog w=.ok (.tuple #[.agg #[iv 0,iv 0,iv 0],.bool false]) w:=by kernel_rfl
theorem qOj(cs:Array Value)(w:World):(Instr.typeAssert (.iface 335 (.agg cs)) 315 341 true).run prog w=.ok (.tuple #[.agg #[iv 0,iv 0,iv 0,iv 0],.bool false]) w:=by kernel_rfl
theorem qOi(cs:Array Value)(w:World):(Instr.typeAssert (.iface 337 (.agg cs)) 315 335 true).run prog w=.ok (.tuple #[.agg #[iv 0],.bool false]) w:=by kernel_rfl
theorem qOh(cs:Array Value)(w:World):(Instr.typeAssert (.iface 337 (.agg cs)) 315 337 true).run prog w=.ok (.tuple #[.agg cs,.bool true]) w:=by kernel_rfl
theorem qOg(cs:Array Value)(w:World):(Instr.typeAssert (.iface 337 (.agg cs)) 315 339 true).run prog w=.ok (.tuple #[.agg #[iv 0,iv 0,iv 0],.bool false]) w:=by kernel_rfl
theorem qOf(cs:Array Value)(w:World):(Instr.typeAssert (.iface 337 (.agg cs)) 315 341 true).run prog w=.ok (.tuple #[.agg #[iv 0,iv 0,iv 0,iv 0],.bool false]) w:=by kernel_rfl
theorem qOe(cs:Array Value)(w:World):(Instr.typeAssert (.iface 339 (.agg cs)) 315 335 true).run prog w=.ok (.tuple #[.agg #[iv 0],.bool false]) w:=by kernel_rfl
theorem qOd(cs:Array Value)(w:World):(Instr.typeAssert (.iface 339 (.agg cs)) 315 337 true).run prog w=.ok (.tuple #[.agg #[iv 0,iv 0],.bool false]) w:=by kernel_rfl
theorem qOc(cs:Array Value)(w:World):(Instr.typeAssert (.iface 339 (.agg cs)) 315 339 true).run prog w=.ok (.tuple #[.agg cs,.bool true]) w:=by kernel_rfl
theorem qOb(cs:Array Value)(w:World):(Instr.typeAssert (.iface 339 (.agg cs)) 315 341 true).run prog w=.ok (.tuple #[.agg #[iv 0,iv 0,iv 0,iv 0],.bool false]) w:=by kernel_rfl
theorem qOa(cs:Array Value)(w:World):(Instr.typeAssert (.iface 341 (.agg cs)) 315 335 true).run prog w=.ok (.tuple #[.agg #[iv 0],.bool false]) w:=by kernel_rfl
theorem qOZ(cs:Array Value)(w:World):(Instr.typeAssert (.iface 341 (.agg cs)) 315 337 true).run prog w=.ok (.tuple #[.agg #[iv 0,iv 0],.bool false]) w:=by kernel_rfl
theorem qOY(cs:Array Value)(w:World):(Instr.typeAssert (.iface 341 (.agg cs)) 315 339 true).run prog w=.ok (.tuple #[.agg #[iv 0,iv 0,iv 0],.bool false]) w:=by kernel_rfl
theorem qOX(cs:Array Value)(w:World):(Instr.typeAssert (.iface 341 (.agg cs)) 315 341 true).run prog w=.ok (.tuple #[.agg cs,.bool true]) w:=by kernel_rfl
theorem qM8{w w1:World}{o1 o2 o3:Obj}(h:Below (((w.alloc o1).alloc o2).alloc o3).heap.size (((w.alloc o1).alloc o2).alloc o3) w1):Below w.heap.size w w1:=qD5 (qD5 (qD5 h))
