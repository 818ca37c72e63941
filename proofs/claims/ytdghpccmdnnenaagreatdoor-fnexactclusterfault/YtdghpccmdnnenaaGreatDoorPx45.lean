/- Contracts. -/
import Derived.Test.YtdghpccmdnnenaaGreatDoorPx44
namespace Go.Proofs.YtdghpccmdnnenaaGreatDoor
set_option maxRecDepth 100000
set_option maxHeartbeats 8000000
open Go.RowKit Go.Proofs.Tryz
set_option linter.unusedVariables false
set_option linter.unusedSimpArgs false
section
open Go.RowKit Go.ChangeShapes Go.WideShapes
theorem Tryz.cells226:prog.cellsOf 226=1:=by kernel_rfl
theorem Tryz.cells104:prog.cellsOf 104=5:=by kernel_rfl
theorem Tryz.cells224:prog.cellsOf 224=1:=by kernel_rfl
theorem Tryz.cells101:prog.cellsOf 101=1:=by kernel_rfl
theorem Tryz.cells102:prog.cellsOf 102=1:=by kernel_rfl
theorem Tryz.cells23:prog.cellsOf 23=1:=by kernel_rfl
theorem qNv{α:Type}{l:List α}(h:l.length=1):∃a,l=[a]:=by
 match l,h with
 | [a],_=>exact⟨a,rfl⟩
theorem qKp{w:World}{base:Nat}{a:Addr}{v:Value}(h:w.cells? base a 1=some [v]):a.spot=none/\w.cell? ⟨a.block,a.off,none⟩=some v:=by
 have e:List.range 1=[0]:=rfl;unfold World.cells? at h;split at h
 .rw[e]at h;simp only[List.mapM_cons,List.mapM_nil,Option.bind_eq_bind,kV,Option.pure_def,Option.some.injEq,gW]at h;obtain⟨x0,h0,y0,rfl,e0,ee⟩:=h;subst e0;obtain⟨b,off,spot⟩:=a;have hspot:spot=none:=by simpa[Addr.add] using World.cell?_spot h0
  subst hspot;simp only[Addr.add]at h0;exact⟨rfl,by simpa using h0⟩
 .cases h
theorem qHl{H:Type}{enc:TypeId × Value->H}{w:World}{base:Nat}{spare:Nat->Bool}{held:Bool}{fuel:Nat}{cs:List Value}{x:DataW H × List MemPlace}(h:DataW.trod enc prog w base spare held fuel 224 cs=some x):
  ∃a n c,cs=[.slice a n c]:=by
 rcases Go.Deep.open_slice underlying224 h with⟨hcs,_⟩ | ⟨a,l,c,m,n,D,Pl,hcs,_⟩
 .exact⟨_,_,_,hcs⟩
 .exact⟨_,_,_,hcs⟩
theorem qHV{H:Type}{enc:TypeId × Value->H}{w:World}{base:Nat}{spare:Nat->Bool}{held:Bool}{fuel:Nat}{cs:List Value}{x:DataW H × List MemPlace}(h:DataW.trod enc prog w base spare held fuel 101 cs=some x):
  ∃a n c,cs=[.slice a n c]:=by
 rcases Go.Deep.open_slice underlying101 h with⟨hcs,_⟩ | ⟨a,l,c,m,n,D,Pl,hcs,_⟩
 .exact⟨_,_,_,hcs⟩
 .exact⟨_,_,_,hcs⟩
theorem qIg{H:Type}{enc:TypeId × Value->H}{w:World}{base:Nat}{spare:Nat->Bool}{held:Bool}{fuel:Nat}{cs:List Value}{x:DataW H × List MemPlace}(h:DataW.trod enc prog w base spare held fuel 102 cs=some x):
  ∃a n c,cs=[.slice a n c]:=by
 rcases Go.Deep.open_slice underlying102 h with⟨hcs,_⟩ | ⟨a,l,c,m,n,D,Pl,hcs,_⟩
 .exact⟨_,_,_,hcs⟩
 .exact⟨_,_,_,hcs⟩
theorem qEr{H:Type}{enc:TypeId × Value->H}{w:World}{base:Nat}{spare:Nat->Bool}{held:Bool}{fuel:Nat}{cs:List Value}{x:DataW H × List MemPlace}(h:DataW.trod enc prog w base spare held fuel 23 cs=some x):
  ∃a n c,cs=[.slice a n c]:=by
 rcases Go.Deep.open_slice underlying23 h with⟨hcs,_⟩ | ⟨a,l,c,m,n,D,Pl,hcs,_⟩
 .exact⟨_,_,_,hcs⟩
 .exact⟨_,_,_,hcs⟩
theorem QW9{H:Type}{enc:TypeId × Value->H}{w:World}{base:Nat}{spare:Nat->Bool}{held:Bool}{fuel:Nat}{a0:Option Addr}{len cap:Nat}{x:DataW H × List MemPlace}(h:DataW.trod enc prog w base spare held fuel 23 [.slice a0 len cap]=some x):
  ∃zs:List Int,qD0 w a0 len zs/\len<=maxLen:=by
 rcases Go.Deep.open_slice underlying23 h with⟨hcs,_⟩ | ⟨a,l,c,m,n,D,Pl,hcs,hb,hl,hm,hmm,_,hel⟩
 .simp at hcs;obtain⟨rfl,rfl,rfl⟩:=hcs;exact⟨[],⟨rfl,fun h=>by omega⟩,gH _⟩
 .simp at hcs;obtain⟨rfl,rfl,rfl⟩:=hcs;have hle:len<=m:=by rw[hmm];split <;> omega
  rw[Tryz.cells2]at hel
  have hk:∀i,i<len->∃r:Int,w.cells? base (a.add (i*1)) 1=some [iv r]:=fun i hi=>by
   obtain⟨cs',hc,ht⟩:=hel i (by omega);obtain⟨k,e0,_,_⟩:=jZ underlying2 ht;exact⟨k,by rw[hc,e0]⟩
  obtain⟨f,hf⟩:=Go.Deep.choose_lt hk;refine⟨(List.range len).map f,⟨by simp,fun hp=>?_⟩,jF hl hm⟩;obtain⟨hsp,_⟩:=qKp (hf 0 hp);obtain⟨b,off,spot⟩:=a;simp[Addr.add]at hsp;subst hsp;refine⟨b,off,rfl,fun k r e=>?_⟩
  have hkl:k<len:=by
   by_cases q:k<len
   .exact q
   .rw[gE (by simp;omega)]at e;cases e
  rw[jI,List.getElem?_range hkl]at e;simp at e;subst e;obtain⟨_,hr⟩:=qKp (hf k hkl);have : ((⟨b,off,none⟩:Addr).add (k*1))=⟨b,off+k*1,none⟩:=gR ..;rw[this,Nat.mul_one]at hr;exact hr
theorem qIi{H:Type}{enc:TypeId × Value->H}{w:World}{base:Nat}{spare:Nat->Bool}{held:Bool}{fuel:Nat}{cs:List Value}{x:DataW H × List MemPlace}(h:DataW.trod enc prog w base spare held fuel 226 cs=some x):
  ∃r:qG7,cs=[.slice r.a r.n r.cap]/\qAl w r.a r.n r.ps:=by
 obtain⟨xs,n,_,_,hl,hlen,hf⟩:=DataW.trod_struct underlying226 h;rw[Tryz.cells226]at hl;obtain⟨c0,rfl⟩:=qNv hl;obtain⟨y0,rfl⟩:=qNv hlen;have g0:=hf 0 _ rfl;simp[Tryz.cells224]at g0;obtain⟨a,n',c',e⟩:=qHl g0;simp at e;subst e;obtain⟨zs,hz⟩:=qCm g0;exact⟨⟨a,n',c',zs⟩,rfl,hz⟩
theorem qDU{H:Type}{enc:TypeId × Value->H}{w:World}{base:Nat}{spare:Nat->Bool}{held:Bool}{fuel:Nat}{a0:Option Addr}{len cap:Nat}{x:DataW H × List MemPlace}(h:DataW.trod enc prog w base spare held fuel 102 [.slice a0 len cap]=some x):
  ∃fs:List qG7,qF7 w a0 len fs/\len<=maxLen/\qM3 maxLen fs:=by
 rcases Go.Deep.open_slice underlying102 h with⟨hcs,_⟩ | ⟨a,l,c,m,n,D,Pl,hcs,hb,hl,hm,hmm,_,hel⟩
 .simp at hcs;obtain⟨rfl,rfl,rfl⟩:=hcs;exact⟨[],⟨rfl,fun h=>by omega⟩,gH _,fun k x e=>by simp at e⟩
 .simp at hcs;obtain⟨rfl,rfl,rfl⟩:=hcs;have hle:len<=m:=by rw[hmm];split <;> omega
  rw[Tryz.cells226]at hel
  have hk:∀i,i<len->∃r:qG7,w.cells? base (a.add (i*1)) 1=some [.slice r.a r.n r.cap]/\qAl w r.a r.n r.ps:=fun i hi=>by
   obtain⟨cs',hc,ht⟩:=hel i (by omega);obtain⟨r,rfl,hr⟩:=qIi ht;exact⟨r,hc,hr⟩
  obtain⟨f,hf⟩:=Go.Deep.choose_lt hk
  have key:∀(k:Nat) (r:qG7),((List.range len).map f)[k]?=some r->k<len/\r=f k:=fun k r e=>by
   have hkl:k<len:=by
    by_cases q:k<len
    .exact q
    .rw[gE (by simp;omega)]at e;cases e
   rw[jI,List.getElem?_range hkl]at e;simp at e;exact⟨hkl,e.symm⟩
  refine⟨(List.range len).map f,⟨by simp,fun hp=>?_⟩,jF hl hm,fun k r e=>?_⟩
  .obtain⟨hsp,_⟩:=qKp (hf 0 hp).1;obtain⟨b,off,spot⟩:=a;simp[Addr.add]at hsp;subst hsp;refine⟨b,off,rfl,fun k r e=>?_⟩;obtain⟨hkl,rfl⟩:=key k r e;obtain⟨_,hr⟩:=qKp (hf k hkl).1;have : ((⟨b,off,none⟩:Addr).add (k*1))=⟨b,off+k*1,none⟩:=gR ..;rw[this,Nat.mul_one]at hr;exact⟨hr,(hf k hkl).2.1⟩
  .obtain⟨hkl,rfl⟩:=key k r e;exact (hf k hkl).2.2
theorem qIs{H:Type}{enc:TypeId × Value->H}{w:World}{base:Nat}{spare:Nat->Bool}{held:Bool}{fuel:Nat}{cs:List Value}{x:DataW H × List MemPlace}(h:DataW.trod enc prog w base spare held fuel 104 cs=some x):
  ∃c:qA5,cs=[iv c.e,iv c.f,.slice c.ra c.rn c.rc,.slice c.fa c.fn c.fc,.slice c.ca c.cn c.cc]/\qF4 w c/\qE2 maxLen c:=by
 obtain⟨xs,n,_,_,hl,hlen,hf⟩:=DataW.trod_struct underlying104 h;rw[Tryz.cells104]at hl;obtain⟨c0,c1,c2,c3,c4,rfl⟩:=qKJ hl;obtain⟨y0,y1,y2,y3,y4,rfl⟩:=qKJ hlen;have g0:=hf 0 _ rfl;have g1:=hf 1 _ rfl;have g2:=hf 2 _ rfl;have g3:=hf 3 _ rfl;have g4:=hf 4 _ rfl;simp[Tryz.cells2,Tryz.cells101,Tryz.cells102,Tryz.cells23]at g0 g1 g2 g3 g4;obtain⟨e0,q0,_,_⟩:=jZ underlying2 g0;obtain⟨e1,q1,_,_⟩:=jZ underlying2 g1;obtain⟨ra,rn,rc,q2⟩:=qHV g2;obtain⟨fa,fn,fc,q3⟩:=qIg g3;obtain⟨ca,cn,cc,q4⟩:=qEr g4;simp at q0 q1 q2 q3 q4;subst q0 q1 q2 q3 q4;obtain⟨zs,hz⟩:=qCi g2;obtain⟨fs,hf1,hf2,hf3⟩:=qDU g3;obtain⟨cs,hc1,hc2⟩:=QW9 g4;exact⟨⟨e0,e1,ra,rn,rc,zs,fa,fn,fc,fs,ca,cn,cc,cs⟩,rfl,⟨hz.1,hf1,hc1⟩,⟨hz.2,hf2,hf3,hc2⟩⟩
end
