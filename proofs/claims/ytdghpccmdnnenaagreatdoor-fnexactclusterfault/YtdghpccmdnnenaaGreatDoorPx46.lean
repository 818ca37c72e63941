/- Contracts. -/
import Derived.Test.YtdghpccmdnnenaaGreatDoorPx45
import Derived.Test.YtdghpccmdnnenaaGreatDoorPx40
namespace Go.Proofs.YtdghpccmdnnenaaGreatDoor
set_option maxRecDepth 100000
set_option maxHeartbeats 8000000
open Go.RowKit Go.Proofs.Tryz
set_option linter.unusedVariables false
set_option linter.unusedSimpArgs false
section
open Go.RowKit Go.ChangeShapes Go.WideShapes
theorem qJA{w:World}{base:Nat}{a:Addr}{r:qA5}(h:w.cells? base a 5=some [iv r.e,iv r.f,.slice r.ra r.rn r.rc,.slice r.fa r.fn r.fc,.slice r.ca r.cn r.cc]):a.spot=none/\qH4 w a.block a.off r:=by
 have e:List.range 5=[0,1,2,3,4]:=rfl;unfold World.cells? at h;split at h
 .rw[e]at h;simp only[List.mapM_cons,List.mapM_nil,Option.bind_eq_bind,kV,Option.pure_def,Option.some.injEq,gW]at h;obtain⟨x0,h0,y0,⟨x1,h1,y1,⟨x2,h2,y2,⟨x3,h3,y3,⟨x4,h4,y4,rfl,e4⟩,e3⟩,e2⟩,e1⟩,e0,ee⟩:=h;subst e0;rw[<- e1]at ee;simp only[gW]at ee;obtain⟨rfl,ee⟩:=ee;rw[<- e2]at ee;simp only[gW]at ee;obtain⟨rfl,ee⟩:=ee;rw[<- e3]at ee;simp only[gW]at ee;obtain⟨rfl,ee⟩:=ee;rw[<- e4]at ee;simp only[gW]at ee;obtain⟨rfl,_⟩:=ee;obtain⟨b,off,spot⟩:=a;have hspot:spot=none:=by simpa[Addr.add] using World.cell?_spot h0
  subst hspot;simp only[Addr.add]at h0 h1 h2 h3 h4;exact⟨rfl,by simpa using h0,by simpa using h1,by simpa using h2,by simpa using h3,by simpa using h4⟩
 .cases h
def qLF(w:World)(a:Option Addr)(n:Nat)(cs:List qA5):Prop:=qA7 w a n cs/\n<=maxLen/\∀(k:Nat) c,cs[k]?=some c->qE2 maxLen c
theorem qAa{H:Type}{enc:TypeId × Value->H}{w:World}{base:Nat}{spare:Nat->Bool}{held:Bool}{fuel:Nat}{a0:Option Addr}{len cap:Nat}{x:DataW H × List MemPlace}(h:DataW.trod enc prog w base spare held fuel 22 [.slice a0 len cap]=some x):
  ∃cs:List qA5,qLF w a0 len cs:=by
 rcases Go.Deep.open_slice underlying22 h with⟨hcs,_⟩ | ⟨a,l,c,m,n,D,Pl,hcs,hb,hl,hm,hmm,_,hel⟩
 .simp at hcs;obtain⟨rfl,rfl,rfl⟩:=hcs;exact⟨[],⟨rfl,fun h=>by omega,fun k c e=>by simp at e⟩,gH _,fun k c e=>by simp at e⟩
 .simp at hcs;obtain⟨rfl,rfl,rfl⟩:=hcs;have hle:len<=m:=by rw[hmm];split <;> omega
  rw[Tryz.cells104]at hel
  have hk:∀i,i<len->∃r:qA5,w.cells? base (a.add (i*5)) 5=some [iv r.e,iv r.f,.slice r.ra r.rn r.rc,.slice r.fa r.fn r.fc,.slice r.ca r.cn r.cc]/\qF4 w r/\qE2 maxLen r:=fun i hi=>by
   obtain⟨cs',hc,ht⟩:=hel i (by omega);obtain⟨r,rfl,hr⟩:=qIs ht;exact⟨r,hc,hr⟩
  obtain⟨f,hf⟩:=Go.Deep.choose_lt hk
  have key:∀(k:Nat) (r:qA5),((List.range len).map f)[k]?=some r->k<len/\r=f k:=fun k r e=>by
   have hkl:k<len:=by
    by_cases q:k<len
    .exact q
    .rw[gE (by simp;omega)]at e;cases e
   rw[jI,List.getElem?_range hkl]at e;simp at e;exact⟨hkl,e.symm⟩
  refine⟨(List.range len).map f,⟨by simp,fun hp=>?_,fun k r e=>?_⟩,jF hl hm,fun k r e=>?_⟩
  .obtain⟨hsp,_⟩:=qJA (hf 0 hp).1;obtain⟨b,off,spot⟩:=a;simp[Addr.add]at hsp;subst hsp;refine⟨b,off,rfl,fun k r e=>?_⟩;obtain⟨hkl,rfl⟩:=key k r e;obtain⟨_,hr⟩:=qJA (hf k hkl).1;have : ((⟨b,off,none⟩:Addr).add (k*5))=⟨b,off+k*5,none⟩:=gR ..;rw[this]at hr;exact hr
  .obtain⟨hkl,rfl⟩:=key k r e;exact (hf k hkl).2.1
  .obtain⟨hkl,rfl⟩:=key k r e;exact (hf k hkl).2.2
end
