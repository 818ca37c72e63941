/- Contracts. -/
import Derived.Test.YtlhgjackapdmbaaGreatDoorPe48
namespace Go.Proofs.YtlhgjackapdmbaaGreatDoor
set_option maxRecDepth 100000
set_option maxHeartbeats 8000000
open Go.RowKit
set_option linter.unusedVariables false
set_option linter.unusedSimpArgs false

section
open Go.RowKit Go.ChangeShapes Go.WideShapes
theorem Tryz.cells203:Tryz.prog.cellsOf 203=5:=by kernel_rfl
theorem list4 {α:Type} {l:List α} (h:l.length=4):∃ a b c d,l=[a,b,c,d]:=by
 match l,h with
 | [a,b,c,d],_=>exact ⟨a,b,c,d,rfl⟩
theorem part_list {H:Type} {enc:TypeId × Value→H} {w:World} {base:Nat} {spare:Nat→Bool} {held:Bool} {fuel:Nat} {cs:List Value} {x:DataW H × List MemPlace} (h:DataW.trod enc Tryz.prog w base spare held fuel 203 cs=some x) :
  ∃ r:qD0,cs=[.int .i64 r.k,.int .i64 r.ro,.int .i64 r.rn,.int .i64 r.l,.int .i64 r.r]:=by
 obtain ⟨xs,n,_,_,hl,hlen,hf⟩:=DataW.trod_struct Tryz.underlying203 h
 rw [Tryz.cells203] at hl
 obtain ⟨c0,c1,c2,c3,c4,rfl⟩:=list5 hl
 obtain ⟨y0,y1,y2,y3,rfl⟩:=list4 hlen
 have g0:=hf 0 _ rfl
 have g1:=hf 1 _ rfl
 have g2:=hf 2 _ rfl
 have g3:=hf 3 _ rfl
 simp [Tryz.cells2,Tryz.cells139] at g0 g1 g2 g3
 obtain ⟨k,e0,_,_⟩:=DataW.trod_int Tryz.underlying2 g0
 obtain ⟨lf,e3,_,_⟩:=DataW.trod_int Tryz.underlying2 g2
 obtain ⟨rt,e4,_,_⟩:=DataW.trod_int Tryz.underlying2 g3
 obtain ⟨ho,hn,e1⟩:=QD3 g1
 simp at e0 e1 e3 e4
 obtain ⟨rfl,rfl⟩:=e1
 subst e0 e3 e4
 exact ⟨⟨k,ho,hn,lf,rt⟩,rfl⟩
theorem cells5 {w:World} {base:Nat} {a:Addr} {r:qD0} (h:w.cells? base a 5=some [.int .i64 r.k,.int .i64 r.ro,.int .i64 r.rn,.int .i64 r.l,.int .i64 r.r]):a.spot=none∧qW3 w a.block a.off r:=by
 have e:List.range 5=[0,1,2,3,4]:=rfl
 unfold World.cells? at h
 split at h
 ·rw [e] at h
  simp only [List.mapM_cons,List.mapM_nil,Option.bind_eq_bind,Option.bind_eq_some_iff,Option.pure_def,Option.some.injEq,List.cons.injEq] at h
  obtain ⟨x0,h0,y0,⟨x1,h1,y1,⟨x2,h2,y2,⟨x3,h3,y3,⟨x4,h4,y4,rfl,e4⟩,e3⟩,e2⟩,e1⟩,e0,ee⟩:=h
  subst e0
  rw [← e1] at ee
  simp only [List.cons.injEq] at ee
  obtain ⟨rfl,ee⟩:=ee
  rw [← e2] at ee
  simp only [List.cons.injEq] at ee
  obtain ⟨rfl,ee⟩:=ee
  rw [← e3] at ee
  simp only [List.cons.injEq] at ee
  obtain ⟨rfl,ee⟩:=ee
  rw [← e4] at ee
  simp only [List.cons.injEq] at ee
  obtain ⟨rfl,_⟩:=ee
  obtain ⟨b,off,spot⟩:=a
  have hspot:spot=none:=by simpa [Addr.add] using World.cell?_spot h0
  subst hspot
  simp only [Addr.add] at h0 h1 h2 h3 h4
  exact ⟨rfl,by simpa using h0,by simpa using h1,by simpa using h2,by simpa using h3,by simpa using h4⟩
 ·cases h
theorem parts_shape {H:Type} {enc:TypeId × Value→H} {w:World} {base:Nat} {spare:Nat→Bool} {held:Bool} {fuel:Nat} {a0:Option Addr} {len cap:Nat} {x:DataW H × List MemPlace} (h:DataW.trod enc Tryz.prog w base spare held fuel 134 [.slice a0 len cap]=some x) :
  ∃ zs:List qD0,QW9 w a0 len zs:=by
 rcases Go.Deep.open_slice Tryz.underlying134 h with ⟨hcs,_⟩ | ⟨a,l,c,m,n,D,Pl,hcs,hb,hl,hm,hmm,_,hel⟩
 ·simp at hcs
  obtain ⟨rfl,rfl,rfl⟩:=hcs
  exact ⟨[],⟨rfl,fun h=>by omega⟩,Nat.zero_le _⟩
 ·simp at hcs
  obtain ⟨rfl,rfl,rfl⟩:=hcs
  have hle:len≤m:=by rw [hmm];split <;> omega
  rw [Tryz.cells203] at hel
  have hk:∀ i,i < len→∃ r:qD0,w.cells? base (a.add (i * 5)) 5=some [.int .i64 r.k,.int .i64 r.ro,.int .i64 r.rn,.int .i64 r.l,.int .i64 r.r]:=fun i hi=>by
   obtain ⟨cs',hc,ht⟩:=hel i (by omega)
   obtain ⟨r,rfl⟩:=part_list ht
   exact ⟨r,hc⟩
  obtain ⟨f,hf⟩:=Go.Deep.choose_lt hk
  refine ⟨(List.range len).map f,⟨by simp,fun hp=>?_⟩,Nat.le_trans hl hm⟩
  obtain ⟨hsp,_⟩:=cells5 (hf 0 hp)
  obtain ⟨b,off,spot⟩:=a
  simp [Addr.add] at hsp
  subst hsp
  refine ⟨b,off,rfl,fun k r e=>?_⟩
  have hkl:k < len:=by
   by_cases q:k < len
   ·exact q
   ·rw [List.getElem?_eq_none (by simp;omega)] at e;cases e
  rw [List.getElem?_map,List.getElem?_range hkl] at e
  simp at e
  subst e
  obtain ⟨_,hr⟩:=cells5 (hf k hkl)
  have : ((⟨b,off,none⟩:Addr).add (k * 5))=⟨b,off+k * 5,none⟩:=Go.WideShapes.add_plain ..
  rw [this] at hr
  exact hr
end

section
open Go.RowKit Go.ChangeShapes Go.WideShapes
theorem Tryz.cells136:Tryz.prog.cellsOf 136=1:=by kernel_rfl
theorem Tryz.cells63:Tryz.prog.cellsOf 63=5:=by kernel_rfl
theorem Tryz.cells134:Tryz.prog.cellsOf 134=1:=by kernel_rfl
theorem Tryz.cells59:Tryz.prog.cellsOf 59=1:=by kernel_rfl
theorem Tryz.cells60:Tryz.prog.cellsOf 60=1:=by kernel_rfl
theorem Tryz.cells61:Tryz.prog.cellsOf 61=1:=by kernel_rfl
theorem list1 {α:Type} {l:List α} (h:l.length=1):∃ a,l=[a]:=by
 match l,h with
 | [a],_=>exact ⟨a,rfl⟩
theorem cell1 {w:World} {base:Nat} {a:Addr} {v:Value} (h:w.cells? base a 1=some [v]):a.spot=none∧w.cell? ⟨a.block,a.off,none⟩=some v:=by
 have e:List.range 1=[0]:=rfl
 unfold World.cells? at h
 split at h
 ·rw [e] at h
  simp only [List.mapM_cons,List.mapM_nil,Option.bind_eq_bind,Option.bind_eq_some_iff,Option.pure_def,Option.some.injEq,List.cons.injEq] at h
  obtain ⟨x0,h0,y0,rfl,e0,ee⟩:=h
  subst e0
  obtain ⟨b,off,spot⟩:=a
  have hspot:spot=none:=by simpa [Addr.add] using World.cell?_spot h0
  subst hspot
  simp only [Addr.add] at h0
  exact ⟨rfl,by simpa using h0⟩
 ·cases h
theorem parts_val {H:Type} {enc:TypeId × Value→H} {w:World} {base:Nat} {spare:Nat→Bool} {held:Bool} {fuel:Nat} {cs:List Value} {x:DataW H × List MemPlace} (h:DataW.trod enc Tryz.prog w base spare held fuel 134 cs=some x) :
  ∃ a n c,cs=[.slice a n c]:=by
 rcases Go.Deep.open_slice Tryz.underlying134 h with ⟨hcs,_⟩ | ⟨a,l,c,m,n,D,Pl,hcs,_⟩
 ·exact ⟨_,_,_,hcs⟩
 ·exact ⟨_,_,_,hcs⟩
theorem rules_val {H:Type} {enc:TypeId × Value→H} {w:World} {base:Nat} {spare:Nat→Bool} {held:Bool} {fuel:Nat} {cs:List Value} {x:DataW H × List MemPlace} (h:DataW.trod enc Tryz.prog w base spare held fuel 59 cs=some x) :
  ∃ a n c,cs=[.slice a n c]:=by
 rcases Go.Deep.open_slice Tryz.underlying59 h with ⟨hcs,_⟩ | ⟨a,l,c,m,n,D,Pl,hcs,_⟩
 ·exact ⟨_,_,_,hcs⟩
 ·exact ⟨_,_,_,hcs⟩
theorem forms_val {H:Type} {enc:TypeId × Value→H} {w:World} {base:Nat} {spare:Nat→Bool} {held:Bool} {fuel:Nat} {cs:List Value} {x:DataW H × List MemPlace} (h:DataW.trod enc Tryz.prog w base spare held fuel 60 cs=some x) :
  ∃ a n c,cs=[.slice a n c]:=by
 rcases Go.Deep.open_slice Tryz.underlying60 h with ⟨hcs,_⟩ | ⟨a,l,c,m,n,D,Pl,hcs,_⟩
 ·exact ⟨_,_,_,hcs⟩
 ·exact ⟨_,_,_,hcs⟩
theorem ints_val {H:Type} {enc:TypeId × Value→H} {w:World} {base:Nat} {spare:Nat→Bool} {held:Bool} {fuel:Nat} {cs:List Value} {x:DataW H × List MemPlace} (h:DataW.trod enc Tryz.prog w base spare held fuel 61 cs=some x) :
  ∃ a n c,cs=[.slice a n c]:=by
 rcases Go.Deep.open_slice Tryz.underlying61 h with ⟨hcs,_⟩ | ⟨a,l,c,m,n,D,Pl,hcs,_⟩
 ·exact ⟨_,_,_,hcs⟩
 ·exact ⟨_,_,_,hcs⟩
theorem ints_shape {H:Type} {enc:TypeId × Value→H} {w:World} {base:Nat} {spare:Nat→Bool} {held:Bool} {fuel:Nat} {a0:Option Addr} {len cap:Nat} {x:DataW H × List MemPlace} (h:DataW.trod enc Tryz.prog w base spare held fuel 61 [.slice a0 len cap]=some x) :
  ∃ zs:List Int,qH0 w a0 len zs∧len≤maxLen:=by
 rcases Go.Deep.open_slice Tryz.underlying61 h with ⟨hcs,_⟩ | ⟨a,l,c,m,n,D,Pl,hcs,hb,hl,hm,hmm,_,hel⟩
 ·simp at hcs
  obtain ⟨rfl,rfl,rfl⟩:=hcs
  exact ⟨[],⟨rfl,fun h=>by omega⟩,Nat.zero_le _⟩
 ·simp at hcs
  obtain ⟨rfl,rfl,rfl⟩:=hcs
  have hle:len≤m:=by rw [hmm];split <;> omega
  rw [Tryz.cells2] at hel
  have hk:∀ i,i < len→∃ r:Int,w.cells? base (a.add (i * 1)) 1=some [.int .i64 r]:=fun i hi=>by
   obtain ⟨cs',hc,ht⟩:=hel i (by omega)
   obtain ⟨k,e0,_,_⟩:=DataW.trod_int Tryz.underlying2 ht
   exact ⟨k,by rw [hc,e0]⟩
  obtain ⟨f,hf⟩:=Go.Deep.choose_lt hk
  refine ⟨(List.range len).map f,⟨by simp,fun hp=>?_⟩,Nat.le_trans hl hm⟩
  obtain ⟨hsp,_⟩:=cell1 (hf 0 hp)
  obtain ⟨b,off,spot⟩:=a
  simp [Addr.add] at hsp
  subst hsp
  refine ⟨b,off,rfl,fun k r e=>?_⟩
  have hkl:k < len:=by
   by_cases q:k < len
   ·exact q
   ·rw [List.getElem?_eq_none (by simp;omega)] at e;cases e
  rw [List.getElem?_map,List.getElem?_range hkl] at e
  simp at e
  subst e
  obtain ⟨_,hr⟩:=cell1 (hf k hkl)
  have : ((⟨b,off,none⟩:Addr).add (k * 1))=⟨b,off+k * 1,none⟩:=Go.WideShapes.add_plain ..
  rw [this,Nat.mul_one] at hr
  exact hr
theorem form_list {H:Type} {enc:TypeId × Value→H} {w:World} {base:Nat} {spare:Nat→Bool} {held:Bool} {fuel:Nat} {cs:List Value} {x:DataW H × List MemPlace} (h:DataW.trod enc Tryz.prog w base spare held fuel 136 cs=some x) :
  ∃ r:qF1,cs=[.slice r.a r.n r.cap]∧QW9 w r.a r.n r.ps:=by
 obtain ⟨xs,n,_,_,hl,hlen,hf⟩:=DataW.trod_struct Tryz.underlying136 h
 rw [Tryz.cells136] at hl
 obtain ⟨c0,rfl⟩:=list1 hl
 obtain ⟨y0,rfl⟩:=list1 hlen
 have g0:=hf 0 _ rfl
 simp [Tryz.cells134] at g0
 obtain ⟨a,n',c',e⟩:=parts_val g0
 simp at e
 subst e
 obtain ⟨zs,hz⟩:=parts_shape g0
 exact ⟨⟨a,n',c',zs⟩,rfl,hz⟩
theorem forms_shape {H:Type} {enc:TypeId × Value→H} {w:World} {base:Nat} {spare:Nat→Bool} {held:Bool} {fuel:Nat} {a0:Option Addr} {len cap:Nat} {x:DataW H × List MemPlace} (h:DataW.trod enc Tryz.prog w base spare held fuel 60 [.slice a0 len cap]=some x) :
  ∃ fs:List qF1,qG1 w a0 len fs∧len≤maxLen∧qM6 maxLen fs:=by
 rcases Go.Deep.open_slice Tryz.underlying60 h with ⟨hcs,_⟩ | ⟨a,l,c,m,n,D,Pl,hcs,hb,hl,hm,hmm,_,hel⟩
 ·simp at hcs
  obtain ⟨rfl,rfl,rfl⟩:=hcs
  exact ⟨[],⟨rfl,fun h=>by omega⟩,Nat.zero_le _,fun k x e=>by simp at e⟩
 ·simp at hcs
  obtain ⟨rfl,rfl,rfl⟩:=hcs
  have hle:len≤m:=by rw [hmm];split <;> omega
  rw [Tryz.cells136] at hel
  have hk:∀ i,i < len→∃ r:qF1,w.cells? base (a.add (i * 1)) 1=some [.slice r.a r.n r.cap]∧QW9 w r.a r.n r.ps:=fun i hi=>by
   obtain ⟨cs',hc,ht⟩:=hel i (by omega)
   obtain ⟨r,rfl,hr⟩:=form_list ht
   exact ⟨r,hc,hr⟩
  obtain ⟨f,hf⟩:=Go.Deep.choose_lt hk
  have key:∀ (k:Nat) (r:qF1),((List.range len).map f)[k]? = some r→k < len∧r=f k:=fun k r e=>by
   have hkl:k < len:=by
    by_cases q:k < len
    ·exact q
    ·rw [List.getElem?_eq_none (by simp;omega)] at e;cases e
   rw [List.getElem?_map,List.getElem?_range hkl] at e
   simp at e
   exact ⟨hkl,e.symm⟩
  refine ⟨(List.range len).map f,⟨by simp,fun hp=>?_⟩,Nat.le_trans hl hm,fun k r e=>?_⟩
  ·obtain ⟨hsp,_⟩:=cell1 (hf 0 hp).1
   obtain ⟨b,off,spot⟩:=a
   simp [Addr.add] at hsp
   subst hsp
   refine ⟨b,off,rfl,fun k r e=>?_⟩
   obtain ⟨hkl,rfl⟩:=key k r e
   obtain ⟨_,hr⟩:=cell1 (hf k hkl).1
   have : ((⟨b,off,none⟩:Addr).add (k * 1))=⟨b,off+k * 1,none⟩:=Go.WideShapes.add_plain ..
   rw [this,Nat.mul_one] at hr
   exact ⟨hr,(hf k hkl).2.1⟩
  ·obtain ⟨hkl,rfl⟩:=key k r e
   exact (hf k hkl).2.2
theorem conf_list {H:Type} {enc:TypeId × Value→H} {w:World} {base:Nat} {spare:Nat→Bool} {held:Bool} {fuel:Nat} {cs:List Value} {x:DataW H × List MemPlace} (h:DataW.trod enc Tryz.prog w base spare held fuel 63 cs=some x) :
  ∃ c:qA5,cs=[.int .i64 c.e,.int .i64 c.f,.slice c.ra c.rn c.rc,.slice c.fa c.fn c.fc,.slice c.ca c.cn c.cc]∧qF7 w c∧qD7 maxLen c:=by
 obtain ⟨xs,n,_,_,hl,hlen,hf⟩:=DataW.trod_struct Tryz.underlying63 h
 rw [Tryz.cells63] at hl
 obtain ⟨c0,c1,c2,c3,c4,rfl⟩:=list5 hl
 obtain ⟨y0,y1,y2,y3,y4,rfl⟩:=list5 hlen
 have g0:=hf 0 _ rfl
 have g1:=hf 1 _ rfl
 have g2:=hf 2 _ rfl
 have g3:=hf 3 _ rfl
 have g4:=hf 4 _ rfl
 simp [Tryz.cells2,Tryz.cells59,Tryz.cells60,Tryz.cells61] at g0 g1 g2 g3 g4
 obtain ⟨e0,q0,_,_⟩:=DataW.trod_int Tryz.underlying2 g0
 obtain ⟨e1,q1,_,_⟩:=DataW.trod_int Tryz.underlying2 g1
 obtain ⟨ra,rn,rc,q2⟩:=rules_val g2
 obtain ⟨fa,fn,fc,q3⟩:=forms_val g3
 obtain ⟨ca,cn,cc,q4⟩:=ints_val g4
 simp at q0 q1 q2 q3 q4
 subst q0 q1 q2 q3 q4
 obtain ⟨zs,hz⟩:=rules_shape g2
 obtain ⟨fs,hf1,hf2,hf3⟩:=forms_shape g3
 obtain ⟨cs,hc1,hc2⟩:=ints_shape g4
 exact ⟨⟨e0,e1,ra,rn,rc,zs,fa,fn,fc,fs,ca,cn,cc,cs⟩,rfl,⟨hz.1,hf1,hc1⟩,⟨hz.2,hf2,hf3,hc2⟩⟩
end

section
open Go.RowKit Go.ChangeShapes Go.WideShapes
theorem cellsCf {w:World} {base:Nat} {a:Addr} {r:qA5} (h:w.cells? base a 5=some [.int .i64 r.e,.int .i64 r.f,.slice r.ra r.rn r.rc,.slice r.fa r.fn r.fc,.slice r.ca r.cn r.cc]):a.spot=none∧qI9 w a.block a.off r:=by
 have e:List.range 5=[0,1,2,3,4]:=rfl
 unfold World.cells? at h
 split at h
 ·rw [e] at h
  simp only [List.mapM_cons,List.mapM_nil,Option.bind_eq_bind,Option.bind_eq_some_iff,Option.pure_def,Option.some.injEq,List.cons.injEq] at h
  obtain ⟨x0,h0,y0,⟨x1,h1,y1,⟨x2,h2,y2,⟨x3,h3,y3,⟨x4,h4,y4,rfl,e4⟩,e3⟩,e2⟩,e1⟩,e0,ee⟩:=h
  subst e0
  rw [← e1] at ee
  simp only [List.cons.injEq] at ee
  obtain ⟨rfl,ee⟩:=ee
  rw [← e2] at ee
  simp only [List.cons.injEq] at ee
  obtain ⟨rfl,ee⟩:=ee
  rw [← e3] at ee
  simp only [List.cons.injEq] at ee
  obtain ⟨rfl,ee⟩:=ee
  rw [← e4] at ee
  simp only [List.cons.injEq] at ee
  obtain ⟨rfl,_⟩:=ee
  obtain ⟨b,off,spot⟩:=a
  have hspot:spot=none:=by simpa [Addr.add] using World.cell?_spot h0
  subst hspot
  simp only [Addr.add] at h0 h1 h2 h3 h4
  exact ⟨rfl,by simpa using h0,by simpa using h1,by simpa using h2,by simpa using h3,by simpa using h4⟩
 ·cases h
def QI9 (w:World) (a:Option Addr) (n:Nat) (cs:List qA5):Prop:=qA7 w a n cs∧n≤maxLen∧∀ (k:Nat) c,cs[k]? = some c→qD7 maxLen c
theorem QW0 {H:Type} {enc:TypeId × Value→H} {w:World} {base:Nat} {spare:Nat→Bool} {held:Bool} {fuel:Nat} {a0:Option Addr} {len cap:Nat} {x:DataW H × List MemPlace} (h:DataW.trod enc Tryz.prog w base spare held fuel 26 [.slice a0 len cap]=some x) :
  ∃ cs:List qA5,QI9 w a0 len cs:=by
 rcases Go.Deep.open_slice Tryz.underlying26 h with ⟨hcs,_⟩ | ⟨a,l,c,m,n,D,Pl,hcs,hb,hl,hm,hmm,_,hel⟩
 ·simp at hcs
  obtain ⟨rfl,rfl,rfl⟩:=hcs
  exact ⟨[],⟨rfl,fun h=>by omega,fun k c e=>by simp at e⟩,Nat.zero_le _,fun k c e=>by simp at e⟩
 ·simp at hcs
  obtain ⟨rfl,rfl,rfl⟩:=hcs
  have hle:len≤m:=by rw [hmm];split <;> omega
  rw [Tryz.cells63] at hel
  have hk:∀ i,i < len→∃ r:qA5,w.cells? base (a.add (i * 5)) 5=some [.int .i64 r.e,.int .i64 r.f,.slice r.ra r.rn r.rc,.slice r.fa r.fn r.fc,.slice r.ca r.cn r.cc]∧qF7 w r∧qD7 maxLen r:=fun i hi=>by
   obtain ⟨cs',hc,ht⟩:=hel i (by omega)
   obtain ⟨r,rfl,hr⟩:=conf_list ht
   exact ⟨r,hc,hr⟩
  obtain ⟨f,hf⟩:=Go.Deep.choose_lt hk
  have key:∀ (k:Nat) (r:qA5),((List.range len).map f)[k]? = some r→k < len∧r=f k:=fun k r e=>by
   have hkl:k < len:=by
    by_cases q:k < len
    ·exact q
    ·rw [List.getElem?_eq_none (by simp;omega)] at e;cases e
   rw [List.getElem?_map,List.getElem?_range hkl] at e
   simp at e
   exact ⟨hkl,e.symm⟩
  refine ⟨(List.range len).map f,⟨by simp,fun hp=>?_,fun k r e=>?_⟩,Nat.le_trans hl hm,fun k r e=>?_⟩
  ·obtain ⟨hsp,_⟩:=cellsCf (hf 0 hp).1
   obtain ⟨b,off,spot⟩:=a
   simp [Addr.add] at hsp
   subst hsp
   refine ⟨b,off,rfl,fun k r e=>?_⟩
   obtain ⟨hkl,rfl⟩:=key k r e
   obtain ⟨_,hr⟩:=cellsCf (hf k hkl).1
   have : ((⟨b,off,none⟩:Addr).add (k * 5))=⟨b,off+k * 5,none⟩:=Go.WideShapes.add_plain ..
   rw [this] at hr
   exact hr
  ·obtain ⟨hkl,rfl⟩:=key k r e
   exact (hf k hkl).2.1
  ·obtain ⟨hkl,rfl⟩:=key k r e
   exact (hf k hkl).2.2
end

end Go.Proofs.YtlhgjackapdmbaaGreatDoor
