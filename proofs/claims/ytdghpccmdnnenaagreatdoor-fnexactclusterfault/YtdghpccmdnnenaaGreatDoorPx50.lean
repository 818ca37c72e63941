/- Contracts. -/
import Derived.Test.YtdghpccmdnnenaaGreatDoorPx49
import Derived.Test.YtdghpccmdnnenaaGreatDoorPx16
namespace Go.Proofs.YtdghpccmdnnenaaGreatDoor
set_option maxRecDepth 100000
set_option maxHeartbeats 8000000
open Go.RowKit Go.Proofs.Tryz
set_option linter.unusedVariables false
set_option linter.unusedSimpArgs false
section
open Go.RowKit Go.ChangeShapes Go.WideShapes
theorem Tryz.cells109:prog.cellsOf 109=4:=by kernel_rfl
theorem Tryz.cells106:prog.cellsOf 106=1:=by kernel_rfl
theorem Tryz.cells107:prog.cellsOf 107=1:=by kernel_rfl
theorem qEf{α:Type}{l:List α}(h:l.length=4):∃c0 c1 c2 c3,l=[c0,c1,c2,c3]:=by
 match l,h with
 | [c0,c1,c2,c3],_=>exact⟨c0,c1,c2,c3,rfl⟩
theorem qLv{H:Type}{enc:TypeId × Value->H}{w:World}{base:Nat}{spare:Nat->Bool}{held:Bool}{fuel:Nat}{cs:List Value}{x:DataW H × List MemPlace}(h:DataW.trod enc prog w base spare held fuel 106 cs=some x):
  ∃a n c,cs=[.slice a n c]:=by
 rcases Go.Deep.open_slice underlying106 h with⟨hcs,_⟩ | ⟨a,l,c,m,n,D,Pl,hcs,_⟩
 .exact⟨_,_,_,hcs⟩
 .exact⟨_,_,_,hcs⟩
theorem qMh{H:Type}{enc:TypeId × Value->H}{w:World}{base:Nat}{spare:Nat->Bool}{held:Bool}{fuel:Nat}{cs:List Value}{x:DataW H × List MemPlace}(h:DataW.trod enc prog w base spare held fuel 107 cs=some x):
  ∃a n c,cs=[.slice a n c]:=by
 rcases Go.Deep.open_slice underlying107 h with⟨hcs,_⟩ | ⟨a,l,c,m,n,D,Pl,hcs,_⟩
 .exact⟨_,_,_,hcs⟩
 .exact⟨_,_,_,hcs⟩
theorem qJs{H:Type}{enc:TypeId × Value->H}{w:World}{base:Nat}{spare:Nat->Bool}{held:Bool}{fuel:Nat}{cs:List Value}{x:DataW H × List MemPlace}(h:DataW.trod enc prog w base spare held fuel 109 cs=some x):
  ∃r:qD2,cs=[iv r.i,iv r.u,.slice r.sa r.sn r.sc,.slice r.la r.ln r.lc]/\qE7 w r/\qH2 maxLen r:=by
 obtain⟨xs,n,_,_,hl,hlen,hf⟩:=DataW.trod_struct underlying109 h;rw[Tryz.cells109]at hl;obtain⟨c0,c1,c2,c3,rfl⟩:=qEf hl;obtain⟨y0,y1,y2,y3,rfl⟩:=qEf hlen;have g0:=hf 0 _ rfl;have g1:=hf 1 _ rfl;have g2:=hf 2 _ rfl;have g3:=hf 3 _ rfl;simp[qCE,Tryz.cells106,Tryz.cells107]at g0 g1 g2 g3;obtain⟨e0,q0,_,_⟩:=jZ underlying2 g0;obtain⟨e1,q1,_,_⟩:=jZ underlying2 g1;obtain⟨sa,sn,sc,q2⟩:=qLv g2;obtain⟨la,ln,lc,q3⟩:=qMh g3;simp at q0 q1 q2 q3;subst q0 q1 q2 q3;obtain⟨ss,hs⟩:=QK7 g2;obtain⟨ls,hl⟩:=qCy g3;exact⟨⟨e0,e1,sa,sn,sc,ss,la,ln,lc,ls⟩,rfl,⟨hs.1,hl.1⟩,⟨hs.2,hl.2⟩⟩
end
