/- Contracts. -/
import Derived.Test.YtdghpccmdnnenaaGreatDoorPx15
namespace Go.Proofs.YtdghpccmdnnenaaGreatDoor
set_option maxRecDepth 100000
set_option maxHeartbeats 8000000
open Go.RowKit Go.Proofs.Tryz
set_option linter.unusedVariables false
set_option linter.unusedSimpArgs false
section
open Go.RowKit Go.ChangeShapes Go.WideShapes
def qPI(w:World)(a:Option Addr)(len:Nat)(zs:List LkI):Prop:=qJ9 w a len zs/\len<=maxLen
theorem qJC:prog.cellsOf 2=1:=by kernel_rfl
theorem Tryz.cells239:prog.cellsOf 239=4:=by kernel_rfl
theorem qLW{α:Type}{l:List α}(h:l.length=4):∃c0 c1 c2 c3,l=[c0,c1,c2,c3]:=by
 match l,h with
 | [c0,c1,c2,c3],_=>exact⟨c0,c1,c2,c3,rfl⟩
theorem qID{H:Type}{enc:TypeId × Value->H}{w:World}{base:Nat}{spare:Nat->Bool}{held:Bool}{fuel:Nat}{cs:List Value}{x:DataW H × List MemPlace}(h:DataW.trod enc prog w base spare held fuel 239 cs=some x):
  ∃r:LkI,cs=[iv r.e,iv r.c,iv r.p,iv r.f]:=by
 obtain⟨xs,n,_,_,hl,hlen,hf⟩:=DataW.trod_struct underlying239 h;rw[Tryz.cells239]at hl;obtain⟨c0,c1,c2,c3,rfl⟩:=qLW hl;obtain⟨y0,y1,y2,y3,rfl⟩:=qLW hlen;have h0:=hf 0 _ rfl;have h1:=hf 1 _ rfl;have h2:=hf 2 _ rfl;have h3:=hf 3 _ rfl;simp[qJC]at h0 h1 h2 h3;obtain⟨b0,e0,_,_⟩:=jZ underlying2 h0;obtain⟨b1,e1,_,_⟩:=jZ underlying2 h1;obtain⟨b2,e2,_,_⟩:=jZ underlying2 h2;obtain⟨b3,e3,_,_⟩:=jZ underlying2 h3;simp at e0 e1 e2 e3;subst e0 e1 e2 e3;exact⟨⟨b0,b1,b2,b3⟩,rfl⟩
theorem qIz{w:World}{base:Nat}{a:Addr}{r:LkI}(h:w.cells? base a 4=some [iv r.e,iv r.c,iv r.p,iv r.f]):a.spot=none/\QF3 w a.block a.off r:=by
 have e:List.range 4=[0,1,2,3]:=rfl;unfold World.cells? at h;split at h
 .rw[e]at h;simp only[List.mapM_cons,List.mapM_nil,Option.bind_eq_bind,kV,Option.pure_def,Option.some.injEq,gW]at h;obtain⟨x0,h0,y0,⟨x1,h1,y1,⟨x2,h2,y2,⟨x3,h3,y3,rfl,e3⟩,e2⟩,e1⟩,e0,ee⟩:=h;subst e0;rw[<- e1]at ee;simp only[gW]at ee;obtain⟨rfl,ee⟩:=ee;rw[<- e2]at ee;simp only[gW]at ee;obtain⟨rfl,ee⟩:=ee;rw[<- e3]at ee;simp only[gW]at ee;obtain⟨rfl,_⟩:=ee;obtain⟨b,off,spot⟩:=a;have hspot:spot=none:=by simpa[Addr.add] using World.cell?_spot h0
  subst hspot;simp only[Addr.add]at h0 h1 h2 h3;exact⟨rfl,by simpa using h0,by simpa using h1,by simpa using h2,by simpa using h3⟩
 .cases h
theorem qCy{H:Type}{enc:TypeId × Value->H}{w:World}{base:Nat}{spare:Nat->Bool}{held:Bool}{fuel:Nat}{a0:Option Addr}{len cap:Nat}{x:DataW H × List MemPlace}(h:DataW.trod enc prog w base spare held fuel 107 [.slice a0 len cap]=some x):
  ∃zs:List LkI,qPI w a0 len zs:=by
 rcases Go.Deep.open_slice underlying107 h with⟨hcs,_⟩ | ⟨a,l,c,m,n,D,Pl,hcs,hb,hl,hm,hmm,_,hel⟩
 .simp at hcs;obtain⟨rfl,rfl,rfl⟩:=hcs;exact⟨[],⟨rfl,fun h=>by omega⟩,gH _⟩
 .simp at hcs;obtain⟨rfl,rfl,rfl⟩:=hcs;have hle:len<=m:=by rw[hmm];split <;> omega
  rw[Tryz.cells239]at hel
  have hk:∀i,i<len->∃r:LkI,w.cells? base (a.add (i*4)) 4=some [iv r.e,iv r.c,iv r.p,iv r.f]:=fun i hi=>by
   obtain⟨cs',hc,ht⟩:=hel i (by omega);obtain⟨r,rfl⟩:=qID ht;exact⟨r,hc⟩
  obtain⟨f,hf⟩:=Go.Deep.choose_lt hk;refine⟨(List.range len).map f,⟨by simp,fun hp=>?_⟩,jF hl hm⟩;obtain⟨hsp,_⟩:=qIz (hf 0 hp);obtain⟨b,off,spot⟩:=a;simp[Addr.add]at hsp;subst hsp;refine⟨b,off,rfl,fun k r e=>?_⟩
  have hkl:k<len:=by
   by_cases q:k<len
   .exact q
   .rw[gE (by simp;omega)]at e;cases e
  rw[jI,List.getElem?_range hkl]at e;simp at e;subst e;obtain⟨_,hr⟩:=qIz (hf k hkl);have : ((⟨b,off,none⟩:Addr).add (k*4))=⟨b,off+k*4,none⟩:=gR ..;rw[this]at hr;exact hr
end
