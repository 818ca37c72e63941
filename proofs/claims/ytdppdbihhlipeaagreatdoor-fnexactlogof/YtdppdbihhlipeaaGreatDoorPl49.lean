/- Contracts. -/
import Derived.Test.YtdppdbihhlipeaaGreatDoorPl27
import Derived.LaidHandle
namespace Go.Proofs.YtdppdbihhlipeaaGreatDoor
set_option maxRecDepth 100000
set_option maxHeartbeats 8000000
open Go.RowKit
set_option linter.unusedVariables false
set_option linter.unusedSimpArgs false

theorem Tryz.gM:Tryz.prog.globalNamed "loop.example/g00338/impl.errManyLocks" = some 1:=by kernel_rfl
theorem Tryz.gMT:(Tryz.prog.globals[1]?).map (·.type)=some 238:=by kernel_rfl
theorem errM_of {text:List UInt8} {r:List (String × DataW Unit)} {W:World} (h:laidMet Tryz.prog (("loop.example/g00338/impl.errManyLocks", .iface "*errors.errorString" (.ptr (.agg [.lit (.string text)])))::r) W):qN8 1 W:=by
 obtain ⟨a,s,hv,_⟩:=laid_sentinel h Tryz.gM Tryz.gMT Tryz.underlying238 Tryz.rowES Tryz.underlying338 Tryz.underlying361 rfl rfl Tryz.underlying9 Tryz.cellsES Tryz.cellsStr
 exact ⟨a,by simpa using World.var?_cell Tryz.gM hv 0⟩
theorem Tryz.et:Tryz.prog.globalNamed "errors.errorType" = some 2:=by kernel_rfl
theorem Tryz.rt:(Tryz.prog.cutTypes.find? (·.1 == "internal/reflectlite.rtype")).map (·.2)=some 320:=by kernel_rfl
theorem Tryz.oneRow:((List.range 373).filter fun t=>Tryz.prog.rowNamed t [101,114,114,111,114])=[238]:=by kernel_rfl
theorem Tryz.sizeTs:Tryz.prog.types.size=373:=by kernel_rfl
theorem handle_of {laid:List (String × DataW Unit)} {W:World} (hm:("errors.errorType", .iface "internal/reflectlite.rtype" (.agg [.ptr (.lit (.string [101,114,114,111,114]))]))∈laid) (h:handlesMet Tryz.prog laid W):qD7 W:=by
 obtain ⟨name,u,ty,e1,e2,e3,e4,e5⟩:=h _ (by
  first
   | exact hm
   | exact List.mem_filter.2 ⟨hm,rfl⟩)
 have en:name=[101,114,114,111,114]:=(Option.some.inj e1).symm
 subst en
 obtain rfl:=Option.some.inj (Tryz.rt.symm.trans e2)
 have hm:ty∈(List.range 373).filter fun t=>Tryz.prog.rowNamed t [101,114,114,111,114]:=List.mem_filter.2 ⟨List.mem_range.2 (by rw [← Tryz.sizeTs];exact e3),e4⟩
 rw [Tryz.oneRow] at hm
 obtain rfl:=List.mem_singleton.1 hm
 have hh:typeHandle Tryz.prog 238 = .pointer (some ⟨3,238,none⟩):=by kernel_rfl
 rw [hh] at e5
 unfold qD7
 simpa using World.var?_cell Tryz.et e5 0
structure P1 (w W:World) (bx:Nat) (c:Int) (a1:Option Addr) (cap1:Nat) (ys:List LkI):Prop where
 bel:Below w.heap.size w W
 x:Box2 W bx (.int .i64 c) (.slice a1 ys.length cap1)
 v:LkV W a1 ys
 lo:w.heap.size≤bx
 hi:bx < W.heap.size
 al:∀ g,a1=some ⟨g,0,none⟩→g < bx
structure P2 (W:World) (gl len:Nat) (zs:List LkI) (gi lb:Nat) (vs:List Int):Prop where
 la:QA1 W gl zs
 lr:qI6 W gl len
 ia:IntsAt W gi vs
 ir:qH8 W gi lb
 ll:gl < W.heap.size
 li:gi < W.heap.size
structure P3 (W:World) (B bz hi:Nat) (c:Int) (a2:Option Addr) (cap2:Nat) (ys:List LkI):Prop where
 x:Box2 W bz (.int .i64 c) (.slice a2 ys.length cap2)
 o:qB0 W B (.slice a2 ys.length cap2) ys
 bl:B≤bz
 al:∀ q,(Value.slice a2 ys.length cap2).ownBlock=some q→q < bz

end Go.Proofs.YtdppdbihhlipeaaGreatDoor
