/- Contracts. -/
import Derived.Test.YtdghpccmdnnenaaGreatDoorPx46
import Derived.Test.YtdghpccmdnnenaaGreatDoorPx50
import Derived.Test.YtdghpccmdnnenaaGreatDoorPx43
namespace Go.Proofs.YtdghpccmdnnenaaGreatDoor
set_option maxRecDepth 100000
set_option maxHeartbeats 8000000
open Go.RowKit Go.Proofs.Tryz
set_option linter.unusedVariables false
set_option linter.unusedSimpArgs false
section
open Go.RowKit Go.ChangeShapes Go.WideShapes
theorem qIy{w:World}{base:Nat}{a:Addr}{r:qD2}(h:w.cells? base a 4=some [iv r.i,iv r.u,.slice r.sa r.sn r.sc,.slice r.la r.ln r.lc]):a.spot=none/\qI2 w a.block a.off r:=by
 have e:List.range 4=[0,1,2,3]:=rfl;unfold World.cells? at h;split at h
 .rw[e]at h;simp only[List.mapM_cons,List.mapM_nil,Option.bind_eq_bind,kV,Option.pure_def,Option.some.injEq,gW]at h;obtain⟨x0,h0,y0,⟨x1,h1,y1,⟨x2,h2,y2,⟨x3,h3,y3,rfl,e3⟩,e2⟩,e1⟩,e0,ee⟩:=h;subst e0;rw[<- e1]at ee;simp only[gW]at ee;obtain⟨rfl,ee⟩:=ee;rw[<- e2]at ee;simp only[gW]at ee;obtain⟨rfl,ee⟩:=ee;rw[<- e3]at ee;simp only[gW]at ee;obtain⟨rfl,_⟩:=ee;obtain⟨b,off,spot⟩:=a;have hspot:spot=none:=by simpa[Addr.add] using World.cell?_spot h0
  subst hspot;simp only[Addr.add]at h0 h1 h2 h3;exact⟨rfl,by simpa using h0,by simpa using h1,by simpa using h2,by simpa using h3⟩
 .cases h
def qOV(w:World)(a:Option Addr)(n:Nat)(rs:List qD2):Prop:=qZ9 w a n rs/\n<=maxLen/\∀(k:Nat) r,rs[k]?=some r->qH2 maxLen r
theorem QT3{H:Type}{enc:TypeId × Value->H}{w:World}{base:Nat}{spare:Nat->Bool}{held:Bool}{fuel:Nat}{a0:Option Addr}{len cap:Nat}{x:DataW H × List MemPlace}(h:DataW.trod enc prog w base spare held fuel 24 [.slice a0 len cap]=some x):
  ∃cs:List qD2,qOV w a0 len cs:=by
 rcases Go.Deep.open_slice underlying24 h with⟨hcs,_⟩ | ⟨a,l,c,m,n,D,Pl,hcs,hb,hl,hm,hmm,_,hel⟩
 .simp at hcs;obtain⟨rfl,rfl,rfl⟩:=hcs;exact⟨[],⟨rfl,fun h=>by omega,fun k c e=>by simp at e⟩,gH _,fun k c e=>by simp at e⟩
 .simp at hcs;obtain⟨rfl,rfl,rfl⟩:=hcs;have hle:len<=m:=by rw[hmm];split <;> omega
  rw[Tryz.cells109]at hel
  have hk:∀i,i<len->∃r:qD2,w.cells? base (a.add (i*4)) 4=some [iv r.i,iv r.u,.slice r.sa r.sn r.sc,.slice r.la r.ln r.lc]/\qE7 w r/\qH2 maxLen r:=fun i hi=>by
   obtain⟨cs',hc,ht⟩:=hel i (by omega);obtain⟨r,rfl,hr⟩:=qJs ht;exact⟨r,hc,hr⟩
  obtain⟨f,hf⟩:=Go.Deep.choose_lt hk
  have key:∀(k:Nat) (r:qD2),((List.range len).map f)[k]?=some r->k<len/\r=f k:=fun k r e=>by
   have hkl:k<len:=by
    by_cases q:k<len
    .exact q
    .rw[gE (by simp;omega)]at e;cases e
   rw[jI,List.getElem?_range hkl]at e;simp at e;exact⟨hkl,e.symm⟩
  refine⟨(List.range len).map f,⟨by simp,fun hp=>?_,fun k r e=>?_⟩,jF hl hm,fun k r e=>?_⟩
  .obtain⟨hsp,_⟩:=qIy (hf 0 hp).1;obtain⟨b,off,spot⟩:=a;simp[Addr.add]at hsp;subst hsp;refine⟨b,off,rfl,fun k r e=>?_⟩;obtain⟨hkl,rfl⟩:=key k r e;obtain⟨_,hr⟩:=qIy (hf k hkl).1;have : ((⟨b,off,none⟩:Addr).add (k*4))=⟨b,off+k*4,none⟩:=gR ..;rw[this]at hr;exact hr
  .obtain⟨hkl,rfl⟩:=key k r e;exact (hf k hkl).2.1
  .obtain⟨hkl,rfl⟩:=key k r e;exact (hf k hkl).2.2
theorem Tryz.cells27:prog.cellsOf 27=4:=by kernel_rfl
theorem Tryz.cellsK22:prog.cellsOf 22=1:=by kernel_rfl
theorem Tryz.cellsK23:prog.cellsOf 23=1:=by kernel_rfl
theorem Tryz.cellsK24:prog.cellsOf 24=1:=by kernel_rfl
theorem Tryz.cellsK25:prog.cellsOf 25=1:=by kernel_rfl
theorem qKo{H:Type}{enc:TypeId × Value->H}{w:World}{base:Nat}{spare:Nat->Bool}{held:Bool}{fuel:Nat}{cs:List Value}{x:DataW H × List MemPlace}(h:DataW.trod enc prog w base spare held fuel 22 cs=some x):
  ∃a n c,cs=[.slice a n c]:=by
 rcases Go.Deep.open_slice underlying22 h with⟨hcs,_⟩ | ⟨a,l,c,m,n,D,Pl,hcs,_⟩
 .exact⟨_,_,_,hcs⟩
 .exact⟨_,_,_,hcs⟩
theorem qJq{H:Type}{enc:TypeId × Value->H}{w:World}{base:Nat}{spare:Nat->Bool}{held:Bool}{fuel:Nat}{cs:List Value}{x:DataW H × List MemPlace}(h:DataW.trod enc prog w base spare held fuel 24 cs=some x):
  ∃a n c,cs=[.slice a n c]:=by
 rcases Go.Deep.open_slice underlying24 h with⟨hcs,_⟩ | ⟨a,l,c,m,n,D,Pl,hcs,_⟩
 .exact⟨_,_,_,hcs⟩
 .exact⟨_,_,_,hcs⟩
theorem qJk{H:Type}{enc:TypeId × Value->H}{w:World}{base:Nat}{spare:Nat->Bool}{held:Bool}{fuel:Nat}{cs:List Value}{x:DataW H × List MemPlace}(h:DataW.trod enc prog w base spare held fuel 25 cs=some x):
  ∃a n c,cs=[.slice a n c]:=by
 rcases Go.Deep.open_slice underlying25 h with⟨hcs,_⟩ | ⟨a,l,c,m,n,D,Pl,hcs,_⟩
 .exact⟨_,_,_,hcs⟩
 .exact⟨_,_,_,hcs⟩
theorem qAb{H:Type}{enc:TypeId × Value->H}{w:World}{base:Nat}{spare:Nat->Bool}{held:Bool}{fuel:Nat}(cs:Array Value){x:DataW H × List MemPlace}(h:DataW.trod enc prog w base spare held fuel 27 cs.toList=some x):
  ∃c:ClI,cs=#[.slice c.ca c.cn c.cc,.slice c.ba c.bn c.bc,.slice c.ra c.rn c.rc,.slice c.za c.zn c.zc]/\(qCR w c/\qLG maxLen c):=by
 obtain⟨xs,n,_,_,hl,hlen,hf⟩:=DataW.trod_struct underlying27 h;rw[Tryz.cells27]at hl;obtain⟨c0,c1,c2,c3,hc⟩:=qEf hl;obtain⟨y0,y1,y2,y3,rfl⟩:=qEf hlen;rw[hc]at hf;have g0:=hf 0 _ rfl;have g1:=hf 1 _ rfl;have g2:=hf 2 _ rfl;have g3:=hf 3 _ rfl;simp[Tryz.cellsK22,Tryz.cellsK23,Tryz.cellsK24,Tryz.cellsK25]at g0 g1 g2 g3;obtain⟨a0,n0,k0,q0⟩:=qKo g0;obtain⟨a1,n1,k1,q1⟩:=qEr g1;obtain⟨a2,n2,k2,q2⟩:=qJq g2;obtain⟨a3,n3,k3,q3⟩:=qJk g3;simp at q0 q1 q2 q3;subst q0 q1 q2 q3;obtain⟨ds,hd⟩:=qAa g0;obtain⟨bs,hb⟩:=QW9 g1;obtain⟨rs,hr⟩:=QT3 g2;obtain⟨zs,hz⟩:=qBB g3;refine⟨⟨a0,n0,k0,ds,a1,n1,k1,bs,a2,n2,k2,rs,a3,n3,k3,zs⟩,by cases cs;simp_all,⟨hd.1,hb.1,hr.1,hz.1⟩,⟨hd.2.1,hd.2.2,hb.2,hr.2.1,hr.2.2,hz.2.1⟩⟩
end
