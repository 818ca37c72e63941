/- Contracts. -/
import Derived.OpenShut
import Derived.ChangeSame
import Derived.Deep.Slices
import Derived.Test.YtdppdbihhlipeaaGreatDoorPr41
namespace Go.Proofs.YtdppdbihhlipeaaGreatDoor
set_option maxRecDepth 100000
set_option maxHeartbeats 8000000
open Go.RowKit
set_option linter.unusedVariables false
set_option linter.unusedSimpArgs false

section
open Go.RowKit Go.ChangeShapes Go.WideShapes
theorem Tryz.cells153:Tryz.prog.cellsOf 153=2:=by kernel_rfl
theorem Tryz.cells2:Tryz.prog.cellsOf 2=1:=by kernel_rfl
theorem qMv {α:Type} {l:List α} (h:l.length=2):∃ a b,l=[a,b]:=by
 match l,h with
 | [a,b],_=>exact ⟨a,b,rfl⟩
theorem qIn {α:Type} {l:List α} (h:l.length=5):∃ a b c d e,l=[a,b,c,d,e]:=by
 match l,h with
 | [a,b,c,d,e],_=>exact ⟨a,b,c,d,e,rfl⟩
theorem qMt {α:Type} {l:List α} (h:l.length=8):∃ a b c d e f g i,l=[a,b,c,d,e,f,g,i]:=by
 match l,h with
 | [a,b,c,d,e,f,g,i],_=>exact ⟨a,b,c,d,e,f,g,i,rfl⟩
theorem QC8 {H:Type} {enc:TypeId × Value->H} {w:World} {base:Nat} {spare:Nat->Bool} {held:Bool} {fuel:Nat} {cs:List Value} {x:DataW H × List MemPlace} (h:DataW.trod enc Tryz.prog w base spare held fuel 153 cs=some x) :
  ∃ o n,cs=[.int .i64 o,.int .i64 n]:=by
 obtain ⟨y0,y1,n,_,hl,h0,h1⟩:=trod_struct2 Tryz.underlying153 h;rw [Tryz.cells153] at hl;obtain ⟨c0,c1,rfl⟩:=qMv hl;simp [Tryz.cells2] at h0 h1;obtain ⟨a,e0,_,_⟩:=DataW.trod_int Tryz.underlying2 h0;obtain ⟨b,e1,_,_⟩:=DataW.trod_int Tryz.underlying2 h1;simp at e0 e1;exact ⟨a,b,by rw [e0,e1]⟩
theorem Tryz.cells155:Tryz.prog.cellsOf 155=8:=by kernel_rfl
theorem qGB {H:Type} {enc:TypeId × Value->H} {w:World} {base:Nat} {spare:Nat->Bool} {held:Bool} {fuel:Nat} {cs:List Value} {x:DataW H × List MemPlace} (h:DataW.trod enc Tryz.prog w base spare held fuel 155 cs=some x) :
  ∃ r:qA2,cs=[.int .i64 r.k,.int .i64 r.ho,.int .i64 r.hn,.int .i64 r.w,.int .i64 r.oo,.int .i64 r.on,.int .i64 r.to,.int .i64 r.tn]:=by
 obtain ⟨xs,n,_,_,hl,hlen,hf⟩:=DataW.trod_struct Tryz.underlying155 h;rw [Tryz.cells155] at hl;obtain ⟨c0,c1,c2,c3,c4,c5,c6,c7,rfl⟩:=qMt hl;obtain ⟨y0,y1,y2,y3,y4,rfl⟩:=qIn hlen;have g0:=hf 0 _ rfl;have g1:=hf 1 _ rfl;have g2:=hf 2 _ rfl;have g3:=hf 3 _ rfl;have g4:=hf 4 _ rfl;simp [Tryz.cells2,Tryz.cells153] at g0 g1 g2 g3 g4;obtain ⟨k,e0,_,_⟩:=DataW.trod_int Tryz.underlying2 g0;obtain ⟨wh,e3,_,_⟩:=DataW.trod_int Tryz.underlying2 g2;obtain ⟨ho,hn,e1⟩:=QC8 g1;obtain ⟨oo,on,e4⟩:=QC8 g3;obtain ⟨tw,tn,e6⟩:=QC8 g4;simp at e0 e1 e3 e4 e6;obtain ⟨rfl,rfl⟩:=e1;obtain ⟨rfl,rfl⟩:=e4;obtain ⟨rfl,rfl⟩:=e6;subst e0 e3;exact ⟨⟨k,ho,hn,wh,oo,on,tw,tn⟩,rfl⟩
theorem qJx {w:World} {base:Nat} {a:Addr} {r:qA2} (h:w.cells? base a 8=some [.int .i64 r.k,.int .i64 r.ho,.int .i64 r.hn,.int .i64 r.w,.int .i64 r.oo,.int .i64 r.on,.int .i64 r.to,.int .i64 r.tn]):a.spot=none/\qD0 w a.block a.off r:=by
 have e:List.range 8=[0,1,2,3,4,5,6,7]:=rfl;unfold World.cells? at h;split at h
 ·rw [e] at h;simp only [List.mapM_cons,List.mapM_nil,Option.bind_eq_bind,Option.bind_eq_some_iff,Option.pure_def,Option.some.injEq,List.cons.injEq] at h;obtain ⟨x0,h0,y0,⟨x1,h1,y1,⟨x2,h2,y2,⟨x3,h3,y3,⟨x4,h4,y4,⟨x5,h5,y5,⟨x6,h6,y6,⟨x7,h7,y7,rfl,e7⟩,e6⟩,e5⟩,e4⟩,e3⟩,e2⟩,e1⟩,e0,ee⟩:=h;subst e0;rw [<- e1] at ee;simp only [List.cons.injEq] at ee;obtain ⟨rfl,ee⟩:=ee;rw [<- e2] at ee;simp only [List.cons.injEq] at ee;obtain ⟨rfl,ee⟩:=ee;rw [<- e3] at ee;simp only [List.cons.injEq] at ee;obtain ⟨rfl,ee⟩:=ee;rw [<- e4] at ee;simp only [List.cons.injEq] at ee;obtain ⟨rfl,ee⟩:=ee;rw [<- e5] at ee;simp only [List.cons.injEq] at ee;obtain ⟨rfl,ee⟩:=ee;rw [<- e6] at ee;simp only [List.cons.injEq] at ee;obtain ⟨rfl,ee⟩:=ee;rw [<- e7] at ee;simp only [List.cons.injEq] at ee;obtain ⟨rfl,_⟩:=ee;obtain ⟨b,off,spot⟩:=a;have hspot:spot=none:=by simpa [Addr.add] using World.cell?_spot h0
  subst hspot;simp only [Addr.add] at h0 h1 h2 h3 h4 h5 h6 h7;exact ⟨rfl,by simpa using h0,by simpa using h1,by simpa using h2,by simpa using h3,by simpa using h4,by simpa using h5,by simpa using h6,by simpa using h7⟩
 ·cases h
instance:Inhabited qA2:=⟨⟨0,0,0,0,0,0,0,0⟩⟩
theorem qBg {H:Type} {enc:TypeId × Value->H} {w:World} {base:Nat} {spare:Nat->Bool} {held:Bool} {fuel:Nat} {a0:Option Addr} {len cap:Nat} {x:DataW H × List MemPlace} (h:DataW.trod enc Tryz.prog w base spare held fuel 59 [.slice a0 len cap]=some x) :
  ∃ zs:List qA2,qJV w a0 len zs:=by
 rcases Go.Deep.open_slice Tryz.underlying59 h with ⟨hcs,_⟩ | ⟨a,l,c,m,n,D,Pl,hcs,hb,hl,hm,hmm,_,hel⟩
 ·simp at hcs;obtain ⟨rfl,rfl,rfl⟩:=hcs;exact ⟨[],⟨rfl,fun h=>by omega⟩,Nat.zero_le _⟩
 ·simp at hcs;obtain ⟨rfl,rfl,rfl⟩:=hcs;have hle:len<=m:=by rw [hmm];split <;> omega
  rw [Tryz.cells155] at hel
  have hk:∀ i,i < len->∃ r:qA2,w.cells? base (a.add (i * 8)) 8=some [.int .i64 r.k,.int .i64 r.ho,.int .i64 r.hn,.int .i64 r.w,.int .i64 r.oo,.int .i64 r.on,.int .i64 r.to,.int .i64 r.tn]:=fun i hi=>by
   obtain ⟨cs',hc,ht⟩:=hel i (by omega);obtain ⟨r,rfl⟩:=qGB ht;exact ⟨r,hc⟩
  obtain ⟨f,hf⟩:=Go.Deep.choose_lt hk;refine ⟨(List.range len).map f,⟨by simp,fun hp=>?_⟩,Nat.le_trans hl hm⟩;obtain ⟨hsp,_⟩:=qJx (hf 0 hp);obtain ⟨b,off,spot⟩:=a;simp [Addr.add] at hsp;subst hsp;refine ⟨b,off,rfl,fun k r e=>?_⟩
  have hkl:k < len:=by
   by_cases q:k < len
   ·exact q
   ·rw [List.getElem?_eq_none (by simp;omega)] at e;cases e
  rw [List.getElem?_map,List.getElem?_range hkl] at e;simp at e;subst e;obtain ⟨_,hr⟩:=qJx (hf k hkl);have : ((⟨b,off,none⟩:Addr).add (k * 8))=⟨b,off+k * 8,none⟩:=Go.WideShapes.add_plain ..;rw [this] at hr;exact hr
end

section
open Go.RowKit Go.ChangeShapes Go.WideShapes
theorem Tryz.cells221:Tryz.prog.cellsOf 221=5:=by kernel_rfl
theorem qMu {α:Type} {l:List α} (h:l.length=4):∃ a b c d,l=[a,b,c,d]:=by
 match l,h with
 | [a,b,c,d],_=>exact ⟨a,b,c,d,rfl⟩
theorem qGU {H:Type} {enc:TypeId × Value->H} {w:World} {base:Nat} {spare:Nat->Bool} {held:Bool} {fuel:Nat} {cs:List Value} {x:DataW H × List MemPlace} (h:DataW.trod enc Tryz.prog w base spare held fuel 221 cs=some x) :
  ∃ r:qD4,cs=[.int .i64 r.k,.int .i64 r.ro,.int .i64 r.rn,.int .i64 r.l,.int .i64 r.r]:=by
 obtain ⟨xs,n,_,_,hl,hlen,hf⟩:=DataW.trod_struct Tryz.underlying221 h;rw [Tryz.cells221] at hl;obtain ⟨c0,c1,c2,c3,c4,rfl⟩:=qIn hl;obtain ⟨y0,y1,y2,y3,rfl⟩:=qMu hlen;have g0:=hf 0 _ rfl;have g1:=hf 1 _ rfl;have g2:=hf 2 _ rfl;have g3:=hf 3 _ rfl;simp [Tryz.cells2,Tryz.cells153] at g0 g1 g2 g3;obtain ⟨k,e0,_,_⟩:=DataW.trod_int Tryz.underlying2 g0;obtain ⟨lf,e3,_,_⟩:=DataW.trod_int Tryz.underlying2 g2;obtain ⟨rt,e4,_,_⟩:=DataW.trod_int Tryz.underlying2 g3;obtain ⟨ho,hn,e1⟩:=QC8 g1;simp at e0 e1 e3 e4;obtain ⟨rfl,rfl⟩:=e1;subst e0 e3 e4;exact ⟨⟨k,ho,hn,lf,rt⟩,rfl⟩
theorem qJy {w:World} {base:Nat} {a:Addr} {r:qD4} (h:w.cells? base a 5=some [.int .i64 r.k,.int .i64 r.ro,.int .i64 r.rn,.int .i64 r.l,.int .i64 r.r]):a.spot=none/\qV8 w a.block a.off r:=by
 have e:List.range 5=[0,1,2,3,4]:=rfl;unfold World.cells? at h;split at h
 ·rw [e] at h;simp only [List.mapM_cons,List.mapM_nil,Option.bind_eq_bind,Option.bind_eq_some_iff,Option.pure_def,Option.some.injEq,List.cons.injEq] at h;obtain ⟨x0,h0,y0,⟨x1,h1,y1,⟨x2,h2,y2,⟨x3,h3,y3,⟨x4,h4,y4,rfl,e4⟩,e3⟩,e2⟩,e1⟩,e0,ee⟩:=h;subst e0;rw [<- e1] at ee;simp only [List.cons.injEq] at ee;obtain ⟨rfl,ee⟩:=ee;rw [<- e2] at ee;simp only [List.cons.injEq] at ee;obtain ⟨rfl,ee⟩:=ee;rw [<- e3] at ee;simp only [List.cons.injEq] at ee;obtain ⟨rfl,ee⟩:=ee;rw [<- e4] at ee;simp only [List.cons.injEq] at ee;obtain ⟨rfl,_⟩:=ee;obtain ⟨b,off,spot⟩:=a;have hspot:spot=none:=by simpa [Addr.add] using World.cell?_spot h0
  subst hspot;simp only [Addr.add] at h0 h1 h2 h3 h4;exact ⟨rfl,by simpa using h0,by simpa using h1,by simpa using h2,by simpa using h3,by simpa using h4⟩
 ·cases h
theorem qBq {H:Type} {enc:TypeId × Value->H} {w:World} {base:Nat} {spare:Nat->Bool} {held:Bool} {fuel:Nat} {a0:Option Addr} {len cap:Nat} {x:DataW H × List MemPlace} (h:DataW.trod enc Tryz.prog w base spare held fuel 148 [.slice a0 len cap]=some x) :
  ∃ zs:List qD4,QZ2 w a0 len zs:=by
 rcases Go.Deep.open_slice Tryz.underlying148 h with ⟨hcs,_⟩ | ⟨a,l,c,m,n,D,Pl,hcs,hb,hl,hm,hmm,_,hel⟩
 ·simp at hcs;obtain ⟨rfl,rfl,rfl⟩:=hcs;exact ⟨[],⟨rfl,fun h=>by omega⟩,Nat.zero_le _⟩
 ·simp at hcs;obtain ⟨rfl,rfl,rfl⟩:=hcs;have hle:len<=m:=by rw [hmm];split <;> omega
  rw [Tryz.cells221] at hel
  have hk:∀ i,i < len->∃ r:qD4,w.cells? base (a.add (i * 5)) 5=some [.int .i64 r.k,.int .i64 r.ro,.int .i64 r.rn,.int .i64 r.l,.int .i64 r.r]:=fun i hi=>by
   obtain ⟨cs',hc,ht⟩:=hel i (by omega);obtain ⟨r,rfl⟩:=qGU ht;exact ⟨r,hc⟩
  obtain ⟨f,hf⟩:=Go.Deep.choose_lt hk;refine ⟨(List.range len).map f,⟨by simp,fun hp=>?_⟩,Nat.le_trans hl hm⟩;obtain ⟨hsp,_⟩:=qJy (hf 0 hp);obtain ⟨b,off,spot⟩:=a;simp [Addr.add] at hsp;subst hsp;refine ⟨b,off,rfl,fun k r e=>?_⟩
  have hkl:k < len:=by
   by_cases q:k < len
   ·exact q
   ·rw [List.getElem?_eq_none (by simp;omega)] at e;cases e
  rw [List.getElem?_map,List.getElem?_range hkl] at e;simp at e;subst e;obtain ⟨_,hr⟩:=qJy (hf k hkl);have : ((⟨b,off,none⟩:Addr).add (k * 5))=⟨b,off+k * 5,none⟩:=Go.WideShapes.add_plain ..;rw [this] at hr;exact hr
end

section
open Go.RowKit Go.ChangeShapes Go.WideShapes
theorem Tryz.cells150:Tryz.prog.cellsOf 150=1:=by kernel_rfl
theorem Tryz.cells62:Tryz.prog.cellsOf 62=5:=by kernel_rfl
theorem Tryz.cells148:Tryz.prog.cellsOf 148=1:=by kernel_rfl
theorem Tryz.cells59:Tryz.prog.cellsOf 59=1:=by kernel_rfl
theorem Tryz.cells60:Tryz.prog.cellsOf 60=1:=by kernel_rfl
theorem Tryz.cells29:Tryz.prog.cellsOf 29=1:=by kernel_rfl
theorem qLr {α:Type} {l:List α} (h:l.length=1):∃ a,l=[a]:=by
 match l,h with
 | [a],_=>exact ⟨a,rfl⟩
theorem qJM {w:World} {base:Nat} {a:Addr} {v:Value} (h:w.cells? base a 1=some [v]):a.spot=none/\w.cell? ⟨a.block,a.off,none⟩=some v:=by
 have e:List.range 1=[0]:=rfl;unfold World.cells? at h;split at h
 ·rw [e] at h;simp only [List.mapM_cons,List.mapM_nil,Option.bind_eq_bind,Option.bind_eq_some_iff,Option.pure_def,Option.some.injEq,List.cons.injEq] at h;obtain ⟨x0,h0,y0,rfl,e0,ee⟩:=h;subst e0;obtain ⟨b,off,spot⟩:=a;have hspot:spot=none:=by simpa [Addr.add] using World.cell?_spot h0
  subst hspot;simp only [Addr.add] at h0;exact ⟨rfl,by simpa using h0⟩
 ·cases h
theorem qGT {H:Type} {enc:TypeId × Value->H} {w:World} {base:Nat} {spare:Nat->Bool} {held:Bool} {fuel:Nat} {cs:List Value} {x:DataW H × List MemPlace} (h:DataW.trod enc Tryz.prog w base spare held fuel 148 cs=some x) :
  ∃ a n c,cs=[.slice a n c]:=by
 rcases Go.Deep.open_slice Tryz.underlying148 h with ⟨hcs,_⟩ | ⟨a,l,c,m,n,D,Pl,hcs,_⟩
 ·exact ⟨_,_,_,hcs⟩
 ·exact ⟨_,_,_,hcs⟩
theorem qGA {H:Type} {enc:TypeId × Value->H} {w:World} {base:Nat} {spare:Nat->Bool} {held:Bool} {fuel:Nat} {cs:List Value} {x:DataW H × List MemPlace} (h:DataW.trod enc Tryz.prog w base spare held fuel 59 cs=some x) :
  ∃ a n c,cs=[.slice a n c]:=by
 rcases Go.Deep.open_slice Tryz.underlying59 h with ⟨hcs,_⟩ | ⟨a,l,c,m,n,D,Pl,hcs,_⟩
 ·exact ⟨_,_,_,hcs⟩
 ·exact ⟨_,_,_,hcs⟩
theorem qHO {H:Type} {enc:TypeId × Value->H} {w:World} {base:Nat} {spare:Nat->Bool} {held:Bool} {fuel:Nat} {cs:List Value} {x:DataW H × List MemPlace} (h:DataW.trod enc Tryz.prog w base spare held fuel 60 cs=some x) :
  ∃ a n c,cs=[.slice a n c]:=by
 rcases Go.Deep.open_slice Tryz.underlying60 h with ⟨hcs,_⟩ | ⟨a,l,c,m,n,D,Pl,hcs,_⟩
 ·exact ⟨_,_,_,hcs⟩
 ·exact ⟨_,_,_,hcs⟩
theorem qJD {H:Type} {enc:TypeId × Value->H} {w:World} {base:Nat} {spare:Nat->Bool} {held:Bool} {fuel:Nat} {cs:List Value} {x:DataW H × List MemPlace} (h:DataW.trod enc Tryz.prog w base spare held fuel 29 cs=some x) :
  ∃ a n c,cs=[.slice a n c]:=by
 rcases Go.Deep.open_slice Tryz.underlying29 h with ⟨hcs,_⟩ | ⟨a,l,c,m,n,D,Pl,hcs,_⟩
 ·exact ⟨_,_,_,hcs⟩
 ·exact ⟨_,_,_,hcs⟩
theorem qFA {H:Type} {enc:TypeId × Value->H} {w:World} {base:Nat} {spare:Nat->Bool} {held:Bool} {fuel:Nat} {a0:Option Addr} {len cap:Nat} {x:DataW H × List MemPlace} (h:DataW.trod enc Tryz.prog w base spare held fuel 29 [.slice a0 len cap]=some x) :
  ∃ zs:List Int,qC9 w a0 len zs/\len<=maxLen:=by
 rcases Go.Deep.open_slice Tryz.underlying29 h with ⟨hcs,_⟩ | ⟨a,l,c,m,n,D,Pl,hcs,hb,hl,hm,hmm,_,hel⟩
 ·simp at hcs;obtain ⟨rfl,rfl,rfl⟩:=hcs;exact ⟨[],⟨rfl,fun h=>by omega⟩,Nat.zero_le _⟩
 ·simp at hcs;obtain ⟨rfl,rfl,rfl⟩:=hcs;have hle:len<=m:=by rw [hmm];split <;> omega
  rw [Tryz.cells2] at hel
  have hk:∀ i,i < len->∃ r:Int,w.cells? base (a.add (i * 1)) 1=some [.int .i64 r]:=fun i hi=>by
   obtain ⟨cs',hc,ht⟩:=hel i (by omega);obtain ⟨k,e0,_,_⟩:=DataW.trod_int Tryz.underlying2 ht;exact ⟨k,by rw [hc,e0]⟩
  obtain ⟨f,hf⟩:=Go.Deep.choose_lt hk;refine ⟨(List.range len).map f,⟨by simp,fun hp=>?_⟩,Nat.le_trans hl hm⟩;obtain ⟨hsp,_⟩:=qJM (hf 0 hp);obtain ⟨b,off,spot⟩:=a;simp [Addr.add] at hsp;subst hsp;refine ⟨b,off,rfl,fun k r e=>?_⟩
  have hkl:k < len:=by
   by_cases q:k < len
   ·exact q
   ·rw [List.getElem?_eq_none (by simp;omega)] at e;cases e
  rw [List.getElem?_map,List.getElem?_range hkl] at e;simp at e;subst e;obtain ⟨_,hr⟩:=qJM (hf k hkl);have : ((⟨b,off,none⟩:Addr).add (k * 1))=⟨b,off+k * 1,none⟩:=Go.WideShapes.add_plain ..;rw [this,Nat.mul_one] at hr;exact hr
theorem qHQ {H:Type} {enc:TypeId × Value->H} {w:World} {base:Nat} {spare:Nat->Bool} {held:Bool} {fuel:Nat} {cs:List Value} {x:DataW H × List MemPlace} (h:DataW.trod enc Tryz.prog w base spare held fuel 150 cs=some x) :
  ∃ r:qF2,cs=[.slice r.a r.n r.cap]/\QZ2 w r.a r.n r.ps:=by
 obtain ⟨xs,n,_,_,hl,hlen,hf⟩:=DataW.trod_struct Tryz.underlying150 h;rw [Tryz.cells150] at hl;obtain ⟨c0,rfl⟩:=qLr hl;obtain ⟨y0,rfl⟩:=qLr hlen;have g0:=hf 0 _ rfl;simp [Tryz.cells148] at g0;obtain ⟨a,n',c',e⟩:=qGT g0;simp at e;subst e;obtain ⟨zs,hz⟩:=qBq g0;exact ⟨⟨a,n',c',zs⟩,rfl,hz⟩
theorem qCY {H:Type} {enc:TypeId × Value->H} {w:World} {base:Nat} {spare:Nat->Bool} {held:Bool} {fuel:Nat} {a0:Option Addr} {len cap:Nat} {x:DataW H × List MemPlace} (h:DataW.trod enc Tryz.prog w base spare held fuel 60 [.slice a0 len cap]=some x) :
  ∃ fs:List qF2,qF9 w a0 len fs/\len<=maxLen/\qM5 maxLen fs:=by
 rcases Go.Deep.open_slice Tryz.underlying60 h with ⟨hcs,_⟩ | ⟨a,l,c,m,n,D,Pl,hcs,hb,hl,hm,hmm,_,hel⟩
 ·simp at hcs;obtain ⟨rfl,rfl,rfl⟩:=hcs;exact ⟨[],⟨rfl,fun h=>by omega⟩,Nat.zero_le _,fun k x e=>by simp at e⟩
 ·simp at hcs;obtain ⟨rfl,rfl,rfl⟩:=hcs;have hle:len<=m:=by rw [hmm];split <;> omega
  rw [Tryz.cells150] at hel
  have hk:∀ i,i < len->∃ r:qF2,w.cells? base (a.add (i * 1)) 1=some [.slice r.a r.n r.cap]/\QZ2 w r.a r.n r.ps:=fun i hi=>by
   obtain ⟨cs',hc,ht⟩:=hel i (by omega);obtain ⟨r,rfl,hr⟩:=qHQ ht;exact ⟨r,hc,hr⟩
  obtain ⟨f,hf⟩:=Go.Deep.choose_lt hk
  have key:∀ (k:Nat) (r:qF2),((List.range len).map f)[k]? = some r->k < len/\r=f k:=fun k r e=>by
   have hkl:k < len:=by
    by_cases q:k < len
    ·exact q
    ·rw [List.getElem?_eq_none (by simp;omega)] at e;cases e
   rw [List.getElem?_map,List.getElem?_range hkl] at e;simp at e;exact ⟨hkl,e.symm⟩
  refine ⟨(List.range len).map f,⟨by simp,fun hp=>?_⟩,Nat.le_trans hl hm,fun k r e=>?_⟩
  ·obtain ⟨hsp,_⟩:=qJM (hf 0 hp).1;obtain ⟨b,off,spot⟩:=a;simp [Addr.add] at hsp;subst hsp;refine ⟨b,off,rfl,fun k r e=>?_⟩;obtain ⟨hkl,rfl⟩:=key k r e;obtain ⟨_,hr⟩:=qJM (hf k hkl).1;have : ((⟨b,off,none⟩:Addr).add (k * 1))=⟨b,off+k * 1,none⟩:=Go.WideShapes.add_plain ..;rw [this,Nat.mul_one] at hr;exact ⟨hr,(hf k hkl).2.1⟩
  ·obtain ⟨hkl,rfl⟩:=key k r e;exact (hf k hkl).2.2
theorem qHb {H:Type} {enc:TypeId × Value->H} {w:World} {base:Nat} {spare:Nat->Bool} {held:Bool} {fuel:Nat} {cs:List Value} {x:DataW H × List MemPlace} (h:DataW.trod enc Tryz.prog w base spare held fuel 62 cs=some x) :
  ∃ c:qA4,cs=[.int .i64 c.e,.int .i64 c.f,.slice c.ra c.rn c.rc,.slice c.fa c.fn c.fc,.slice c.ca c.cn c.cc]/\qF5 w c/\qE0 maxLen c:=by
 obtain ⟨xs,n,_,_,hl,hlen,hf⟩:=DataW.trod_struct Tryz.underlying62 h;rw [Tryz.cells62] at hl;obtain ⟨c0,c1,c2,c3,c4,rfl⟩:=qIn hl;obtain ⟨y0,y1,y2,y3,y4,rfl⟩:=qIn hlen;have g0:=hf 0 _ rfl;have g1:=hf 1 _ rfl;have g2:=hf 2 _ rfl;have g3:=hf 3 _ rfl;have g4:=hf 4 _ rfl;simp [Tryz.cells2,Tryz.cells59,Tryz.cells60,Tryz.cells29] at g0 g1 g2 g3 g4;obtain ⟨e0,q0,_,_⟩:=DataW.trod_int Tryz.underlying2 g0;obtain ⟨e1,q1,_,_⟩:=DataW.trod_int Tryz.underlying2 g1;obtain ⟨ra,rn,rc,q2⟩:=qGA g2;obtain ⟨fa,fn,fc,q3⟩:=qHO g3;obtain ⟨ca,cn,cc,q4⟩:=qJD g4;simp at q0 q1 q2 q3 q4;subst q0 q1 q2 q3 q4;obtain ⟨zs,hz⟩:=qBg g2;obtain ⟨fs,hf1,hf2,hf3⟩:=qCY g3;obtain ⟨cs,hc1,hc2⟩:=qFA g4;exact ⟨⟨e0,e1,ra,rn,rc,zs,fa,fn,fc,fs,ca,cn,cc,cs⟩,rfl,⟨hz.1,hf1,hc1⟩,⟨hz.2,hf2,hf3,hc2⟩⟩
end

section
open Go.RowKit Go.ChangeShapes Go.WideShapes
theorem qHf {w:World} {base:Nat} {a:Addr} {r:qA4} (h:w.cells? base a 5=some [.int .i64 r.e,.int .i64 r.f,.slice r.ra r.rn r.rc,.slice r.fa r.fn r.fc,.slice r.ca r.cn r.cc]):a.spot=none/\qI4 w a.block a.off r:=by
 have e:List.range 5=[0,1,2,3,4]:=rfl;unfold World.cells? at h;split at h
 ·rw [e] at h;simp only [List.mapM_cons,List.mapM_nil,Option.bind_eq_bind,Option.bind_eq_some_iff,Option.pure_def,Option.some.injEq,List.cons.injEq] at h;obtain ⟨x0,h0,y0,⟨x1,h1,y1,⟨x2,h2,y2,⟨x3,h3,y3,⟨x4,h4,y4,rfl,e4⟩,e3⟩,e2⟩,e1⟩,e0,ee⟩:=h;subst e0;rw [<- e1] at ee;simp only [List.cons.injEq] at ee;obtain ⟨rfl,ee⟩:=ee;rw [<- e2] at ee;simp only [List.cons.injEq] at ee;obtain ⟨rfl,ee⟩:=ee;rw [<- e3] at ee;simp only [List.cons.injEq] at ee;obtain ⟨rfl,ee⟩:=ee;rw [<- e4] at ee;simp only [List.cons.injEq] at ee;obtain ⟨rfl,_⟩:=ee;obtain ⟨b,off,spot⟩:=a;have hspot:spot=none:=by simpa [Addr.add] using World.cell?_spot h0
  subst hspot;simp only [Addr.add] at h0 h1 h2 h3 h4;exact ⟨rfl,by simpa using h0,by simpa using h1,by simpa using h2,by simpa using h3,by simpa using h4⟩
 ·cases h
def QJ8 (w:World) (a:Option Addr) (n:Nat) (cs:List qA4):Prop:=qA6 w a n cs/\n<=maxLen/\∀ (k:Nat) c,cs[k]? = some c->qE0 maxLen c
theorem QY2 {H:Type} {enc:TypeId × Value->H} {w:World} {base:Nat} {spare:Nat->Bool} {held:Bool} {fuel:Nat} {a0:Option Addr} {len cap:Nat} {x:DataW H × List MemPlace} (h:DataW.trod enc Tryz.prog w base spare held fuel 26 [.slice a0 len cap]=some x) :
  ∃ cs:List qA4,QJ8 w a0 len cs:=by
 rcases Go.Deep.open_slice Tryz.underlying26 h with ⟨hcs,_⟩ | ⟨a,l,c,m,n,D,Pl,hcs,hb,hl,hm,hmm,_,hel⟩
 ·simp at hcs;obtain ⟨rfl,rfl,rfl⟩:=hcs;exact ⟨[],⟨rfl,fun h=>by omega,fun k c e=>by simp at e⟩,Nat.zero_le _,fun k c e=>by simp at e⟩
 ·simp at hcs;obtain ⟨rfl,rfl,rfl⟩:=hcs;have hle:len<=m:=by rw [hmm];split <;> omega
  rw [Tryz.cells62] at hel
  have hk:∀ i,i < len->∃ r:qA4,w.cells? base (a.add (i * 5)) 5=some [.int .i64 r.e,.int .i64 r.f,.slice r.ra r.rn r.rc,.slice r.fa r.fn r.fc,.slice r.ca r.cn r.cc]/\qF5 w r/\qE0 maxLen r:=fun i hi=>by
   obtain ⟨cs',hc,ht⟩:=hel i (by omega);obtain ⟨r,rfl,hr⟩:=qHb ht;exact ⟨r,hc,hr⟩
  obtain ⟨f,hf⟩:=Go.Deep.choose_lt hk
  have key:∀ (k:Nat) (r:qA4),((List.range len).map f)[k]? = some r->k < len/\r=f k:=fun k r e=>by
   have hkl:k < len:=by
    by_cases q:k < len
    ·exact q
    ·rw [List.getElem?_eq_none (by simp;omega)] at e;cases e
   rw [List.getElem?_map,List.getElem?_range hkl] at e;simp at e;exact ⟨hkl,e.symm⟩
  refine ⟨(List.range len).map f,⟨by simp,fun hp=>?_,fun k r e=>?_⟩,Nat.le_trans hl hm,fun k r e=>?_⟩
  ·obtain ⟨hsp,_⟩:=qHf (hf 0 hp).1;obtain ⟨b,off,spot⟩:=a;simp [Addr.add] at hsp;subst hsp;refine ⟨b,off,rfl,fun k r e=>?_⟩;obtain ⟨hkl,rfl⟩:=key k r e;obtain ⟨_,hr⟩:=qHf (hf k hkl).1;have : ((⟨b,off,none⟩:Addr).add (k * 5))=⟨b,off+k * 5,none⟩:=Go.WideShapes.add_plain ..;rw [this] at hr;exact hr
  ·obtain ⟨hkl,rfl⟩:=key k r e;exact (hf k hkl).2.1
  ·obtain ⟨hkl,rfl⟩:=key k r e;exact (hf k hkl).2.2
end

structure qLS (lo hi:Nat) (w:World) (T n:Nat) (ds:List qA4):Prop where
 tab:qP7 lo hi w T n ds
 fa:∀ (j:Nat) d,ds[j]? = some d->∀ g,d.fa=some ⟨g,0,none⟩->lo<=g/\g < hi
theorem qM9.blk {w w':World} {g m:Nat} (h:qM9 w g m) (hb:w'.heap[g]? = w.heap[g]?):qM9 w' g m :=
 ⟨fun j hj=>by obtain ⟨x,e⟩:=h.1 j hj;exact ⟨x,(World.cell?_of_block (a:=⟨g,j,none⟩) hb).trans e⟩,fun j=>(World.frozen?_of_block (a:=⟨g,j,none⟩) hb).trans (h.2 j)⟩
theorem QR8.blk {lo hi:Nat} {w w':World} {x:qF2} (h:QR8 lo hi w x) (hk:∀ b,lo<=b->b < hi->w'.heap[b]? = w.heap[b]?):QR8 lo hi w' x:=by
 obtain ⟨h0,g,h1,h2,h3,h4⟩:=h;exact ⟨h0,g,h1,h2,h3,h4.blk (hk g h2 h3)⟩
theorem qLS.blk {lo hi:Nat} {w w':World} {T n:Nat} {ds:List qA4} (h:qLS lo hi w T n ds) (hk:∀ b,lo<=b->b < hi->w'.heap[b]? = w.heap[b]?):qLS lo hi w' T n ds:=by
 have hT:=hk T h.tab.lo.1 h.tab.lo.2;have k:∀ o,w'.cell? ⟨T,o,none⟩=w.cell? ⟨T,o,none⟩:=fun o=>World.cell?_of_block (a:=⟨T,o,none⟩) hT
 refine ⟨⟨h.tab.ln,fun j d e=>?_,fun o=>(World.frozen?_of_block (a:=⟨T,o,none⟩) hT).trans (h.tab.fr o),h.tab.lo⟩,h.fa⟩;obtain ⟨⟨x,h0⟩,⟨y,h1⟩,h2,h3,h4,⟨⟨a0,g,a1,a2,a3,a4⟩,⟨b0,g',b1,b2⟩,⟨c0,g'',c1,c2,c3,c4⟩⟩⟩:=h.tab.at5 j d e;have hg':=h.fa j d e g' b1;refine ⟨⟨x,(k _).trans h0⟩,⟨y,(k _).trans h1⟩,(k _).trans h2,(k _).trans h3,(k _).trans h4,⟨⟨a0,g,a1,a2,a3,a4.blk (hk g a2 a3)⟩,⟨b0,g',b1,b2.1,fun q z hz=>⟨(World.cell?_of_block (a:=⟨g',q,none⟩) (hk g' hg'.1 hg'.2)).trans (b2.2 q z hz).1,(b2.2 q z hz).2.blk hk⟩⟩,⟨c0,g'',c1,c2,c3,c4.blk (hk g'' c2 c3)⟩⟩⟩
theorem qH3.tabH {w0 w wA:World} {a:Option Addr} {n:Nat} {cs ds:List qA4} (h:qH3 w0 w n cs ds n) (hn:n<=1048576) (hi:qA6 wA a n cs) (hl:∀ (k:Nat) c,cs[k]? = some c->qE0 1048576 c):qX3 w0.heap.size w.heap.size (fun X=>∃ ds,qLS w0.heap.size w.heap.size X w0.heap.size n ds) w:=by
 refine ⟨⟨ds,h.tab (h.le hn hi hl).1,fun j d e g hg=>?_⟩,Nat.le_refl _,fun X X' hX hk=>?_⟩
 ·obtain ⟨_,g',hg',hlo,hhi,_⟩:=(h.nw j d e).nw.forms;rw [hg] at hg';cases hg';exact ⟨by omega,hhi⟩
 ·obtain ⟨es,h1⟩:=hX;exact ⟨es,h1.blk hk⟩
theorem qGj {lo hi n:Nat} (ca:Nat) (k0:Int) {W:World} (hn:n<=1048576) (h0:0<=k0) (h1:k0<=1000000000000000000) (h:∃ ds,qLS lo hi W lo n ds) :
  Calls Tryz.prog 15 #[.slice (some ⟨lo,0,none⟩) n ca,.int .i64 k0] W fun e w'=>∃ k:Int,e = .returned (.int .i64 k)/\(k0<=k/\k<=k0+5497567576066 * (n:Int))/\Chg lo hi W w':=by
 obtain ⟨ds,h4⟩:=h;refine (QQ7 lo hi lo n ca k0 ds W hn h0 h1 h4.tab).mono ?_;rintro e w' ⟨⟨k,rfl,k1,k2⟩,_,hc⟩;exact ⟨k,rfl,⟨k1,k2⟩,hc⟩
