/- Contracts. -/
import Derived.Test.YtdghpccmdnnenaaGreatDoorPx17
import Derived.LaidHandle
namespace Go.Proofs.YtdghpccmdnnenaaGreatDoor
set_option maxRecDepth 100000
set_option maxHeartbeats 8000000
open Go.RowKit Go.Proofs.Tryz
set_option linter.unusedVariables false
set_option linter.unusedSimpArgs false
theorem Tryz.gM:prog.globalNamed "loop.example/g00338/impl.errManyLocks" = some 0:=by kernel_rfl
theorem Tryz.gMT:(prog.globals[0]?).map (·.type)=some 358:=by kernel_rfl
theorem qNF {text:List UInt8} {r:List (String × DataW Unit)} {W:World} (h:laidMet prog (("loop.example/g00338/impl.errManyLocks", .iface "*errors.errorString" (.ptr (.agg [.lit (.string text)])))::r) W):qM4 0 W:=by
 obtain⟨a,s,hv,_⟩:=laid_sentinel h Tryz.gM Tryz.gMT underlying358 Tryz.rowES underlying427 underlying450 rfl rfl underlying9 Tryz.cellsES Tryz.cellsStr;exact⟨a,by simpa using World.var?_cell Tryz.gM hv 0⟩
theorem Tryz.et:prog.globalNamed "errors.errorType" = some 1:=by kernel_rfl
theorem Tryz.rt:(prog.cutTypes.find? (·.1 == "internal/reflectlite.rtype")).map (·.2)=some 410:=by kernel_rfl
theorem Tryz.oneRow:((List.range 462).filter fun t=>prog.rowNamed t [101,114,114,111,114])=[358]:=by kernel_rfl
theorem Tryz.sizeTs:prog.types.size=462:=by kernel_rfl
theorem qIc {laid:List (String × DataW Unit)} {W:World} (hm:("errors.errorType", .iface "internal/reflectlite.rtype" (.agg [.ptr (.lit (.string [101,114,114,111,114]))]))∈laid) (h:handlesMet prog laid W):qD9 W:=by
 obtain⟨name,u,ty,e1,e2,e3,e4,e5⟩:=h _ (by
  first
   | exact hm
   | exact List.mem_filter.2 ⟨hm,rfl⟩)
 have en:name=[101,114,114,111,114]:=(gJ e1).symm;subst en;obtain rfl:=gJ (Tryz.rt.symm.trans e2);have hm:ty∈(List.range 462).filter fun t=>prog.rowNamed t [101,114,114,111,114]:=List.mem_filter.2 ⟨List.mem_range.2 (by rw[<- Tryz.sizeTs];exact e3),e4⟩;rw[Tryz.oneRow]at hm;obtain rfl:=List.mem_singleton.1 hm;have hh:typeHandle prog 358=.pointer (some ⟨2,358,none⟩):=by kernel_rfl
 rw[hh]at e5;unfold qD9;simpa using World.var?_cell Tryz.et e5 0
structure P1 (w W:World) (bx:Nat) (c:Int) (a1:Option Addr) (cap1:Nat) (ys:List LkI):Prop where
 bel:Below w.heap.size w W
 x:qAp W bx (.int .i64 c) (.slice a1 ys.length cap1)
 v:LkV W a1 ys
 lo:w.heap.size<=bx
 hi:bx<W.heap.size
 al:∀g,a1=some ⟨g,0,none⟩->g<bx
structure P2 (W:World) (gl len:Nat) (zs:List LkI) (gi lb:Nat) (vs:List Int):Prop where
 la:QC0 W gl zs
 lr:qP8 W gl len
 ia:qQ9 W gi vs
 ir:qI1 W gi lb
 ll:gl<W.heap.size
 li:gi<W.heap.size
structure P3 (W:World) (B bz hi:Nat) (c:Int) (a2:Option Addr) (cap2:Nat) (ys:List LkI):Prop where
 x:qAp W bz (.int .i64 c) (.slice a2 ys.length cap2)
 o:qB2 W B (.slice a2 ys.length cap2) ys
 bl:B<=bz
 al:∀q,(Value.slice a2 ys.length cap2).ownBlock=some q->q<bz
