/- Contracts. -/
import Derived.Test.YtdghpccmdnnenaaGreatDoorPx15
import Derived.Test.YtdghpccmdnnenaaGreatDoorPx12
namespace Go.Proofs.YtdghpccmdnnenaaGreatDoor
set_option maxRecDepth 100000
set_option maxHeartbeats 8000000
open Go.RowKit Go.Proofs.Tryz
set_option linter.unusedVariables false
set_option linter.unusedSimpArgs false
section
open Go.RowKit Go.ChangeShapes Go.WideShapes
theorem Tryz.cells296:prog.cellsOf 296=5:=by kernel_rfl
theorem qPB{α:Type}{l:List α}(h:l.length=4):∃a b c d,l=[a,b,c,d]:=by
 match l,h with
 | [a,b,c,d],_=>exact⟨a,b,c,d,rfl⟩
theorem qHm{H:Type}{enc:TypeId × Value->H}{w:World}{base:Nat}{spare:Nat->Bool}{held:Bool}{fuel:Nat}{cs:List Value}{x:DataW H × List MemPlace}(h:DataW.trod enc prog w base spare held fuel 296 cs=some x):
  ∃r:qC6,cs=[iv r.k,iv r.ro,iv r.rn,iv r.l,iv r.r]:=by
 obtain⟨xs,n,_,_,hl,hlen,hf⟩:=DataW.trod_struct underlying296 h;rw[Tryz.cells296]at hl;obtain⟨c0,c1,c2,c3,c4,rfl⟩:=qKJ hl;obtain⟨y0,y1,y2,y3,rfl⟩:=qPB hlen;have g0:=hf 0 _ rfl;have g1:=hf 1 _ rfl;have g2:=hf 2 _ rfl;have g3:=hf 3 _ rfl;simp[Tryz.cells2,Tryz.cells234]at g0 g1 g2 g3;obtain⟨k,e0,_,_⟩:=jZ underlying2 g0;obtain⟨lf,e3,_,_⟩:=jZ underlying2 g2;obtain⟨rt,e4,_,_⟩:=jZ underlying2 g3;obtain⟨ho,hn,e1⟩:=QF9 g1;simp at e0 e1 e3 e4;obtain⟨rfl,rfl⟩:=e1;subst e0 e3 e4;exact⟨⟨k,ho,hn,lf,rt⟩,rfl⟩
theorem qLh{w:World}{base:Nat}{a:Addr}{r:qC6}(h:w.cells? base a 5=some [iv r.k,iv r.ro,iv r.rn,iv r.l,iv r.r]):a.spot=none/\qX4 w a.block a.off r:=by
 have e:List.range 5=[0,1,2,3,4]:=rfl;unfold World.cells? at h;split at h
 .rw[e]at h;simp only[List.mapM_cons,List.mapM_nil,Option.bind_eq_bind,kV,Option.pure_def,Option.some.injEq,gW]at h;obtain⟨x0,h0,y0,⟨x1,h1,y1,⟨x2,h2,y2,⟨x3,h3,y3,⟨x4,h4,y4,rfl,e4⟩,e3⟩,e2⟩,e1⟩,e0,ee⟩:=h;subst e0;rw[<- e1]at ee;simp only[gW]at ee;obtain⟨rfl,ee⟩:=ee;rw[<- e2]at ee;simp only[gW]at ee;obtain⟨rfl,ee⟩:=ee;rw[<- e3]at ee;simp only[gW]at ee;obtain⟨rfl,ee⟩:=ee;rw[<- e4]at ee;simp only[gW]at ee;obtain⟨rfl,_⟩:=ee;obtain⟨b,off,spot⟩:=a;have hspot:spot=none:=by simpa[Addr.add] using World.cell?_spot h0
  subst hspot;simp only[Addr.add]at h0 h1 h2 h3 h4;exact⟨rfl,by simpa using h0,by simpa using h1,by simpa using h2,by simpa using h3,by simpa using h4⟩
 .cases h
theorem qCm{H:Type}{enc:TypeId × Value->H}{w:World}{base:Nat}{spare:Nat->Bool}{held:Bool}{fuel:Nat}{a0:Option Addr}{len cap:Nat}{x:DataW H × List MemPlace}(h:DataW.trod enc prog w base spare held fuel 224 [.slice a0 len cap]=some x):
  ∃zs:List qC6,qAl w a0 len zs:=by
 rcases Go.Deep.open_slice underlying224 h with⟨hcs,_⟩ | ⟨a,l,c,m,n,D,Pl,hcs,hb,hl,hm,hmm,_,hel⟩
 .simp at hcs;obtain⟨rfl,rfl,rfl⟩:=hcs;exact⟨[],⟨rfl,fun h=>by omega⟩,gH _⟩
 .simp at hcs;obtain⟨rfl,rfl,rfl⟩:=hcs;have hle:len<=m:=by rw[hmm];split <;> omega
  rw[Tryz.cells296]at hel
  have hk:∀i,i<len->∃r:qC6,w.cells? base (a.add (i*5)) 5=some [iv r.k,iv r.ro,iv r.rn,iv r.l,iv r.r]:=fun i hi=>by
   obtain⟨cs',hc,ht⟩:=hel i (by omega);obtain⟨r,rfl⟩:=qHm ht;exact⟨r,hc⟩
  obtain⟨f,hf⟩:=Go.Deep.choose_lt hk;refine⟨(List.range len).map f,⟨by simp,fun hp=>?_⟩,jF hl hm⟩;obtain⟨hsp,_⟩:=qLh (hf 0 hp);obtain⟨b,off,spot⟩:=a;simp[Addr.add]at hsp;subst hsp;refine⟨b,off,rfl,fun k r e=>?_⟩
  have hkl:k<len:=by
   by_cases q:k<len
   .exact q
   .rw[gE (by simp;omega)]at e;cases e
  rw[jI,List.getElem?_range hkl]at e;simp at e;subst e;obtain⟨_,hr⟩:=qLh (hf k hkl);have : ((⟨b,off,none⟩:Addr).add (k*5))=⟨b,off+k*5,none⟩:=gR ..;rw[this]at hr;exact hr
end
