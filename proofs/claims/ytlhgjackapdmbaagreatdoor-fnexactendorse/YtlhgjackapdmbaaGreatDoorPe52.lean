/- Contracts. -/
import Derived.Test.YtlhgjackapdmbaaGreatDoorPe48
namespace Go.Proofs.YtlhgjackapdmbaaGreatDoor
set_option maxRecDepth 100000
set_option maxHeartbeats 8000000
open Go.RowKit
set_option linter.unusedVariables false
set_option linter.unusedSimpArgs false

section
open Go.RowKit Go.ChangeShapes Go.WideShapes
def StArg (w:World) (a:Option Addr) (len:Nat) (zs:List StI):Prop:=qM5 w a len zs∧len≤maxLen
theorem cells64St:Tryz.prog.cellsOf 2=1:=by kernel_rfl
theorem Tryz.cells41:Tryz.prog.cellsOf 41=5:=by kernel_rfl
theorem listSt {α:Type} {l:List α} (h:l.length=5):∃ c0 c1 c2 c3 c4,l=[c0,c1,c2,c3,c4]:=by
 match l,h with
 | [c0,c1,c2,c3,c4],_=>exact ⟨c0,c1,c2,c3,c4,rfl⟩
theorem QA8 {H:Type} {enc:TypeId × Value→H} {w:World} {base:Nat} {spare:Nat→Bool} {held:Bool} {fuel:Nat} {cs:List Value} {x:DataW H × List MemPlace} (h:DataW.trod enc Tryz.prog w base spare held fuel 41 cs=some x) :
  ∃ r:StI,cs=[.int .i64 r.k,.int .i64 r.e,.int .i64 r.f,.int .i64 r.s,.int .i64 r.n]:=by
 obtain ⟨xs,n,_,_,hl,hlen,hf⟩:=DataW.trod_struct Tryz.underlying41 h
 rw [Tryz.cells41] at hl
 obtain ⟨c0,c1,c2,c3,c4,rfl⟩:=listSt hl
 obtain ⟨y0,y1,y2,y3,y4,rfl⟩:=listSt hlen
 have h0:=hf 0 _ rfl
 have h1:=hf 1 _ rfl
 have h2:=hf 2 _ rfl
 have h3:=hf 3 _ rfl
 have h4:=hf 4 _ rfl
 simp [cells64St] at h0 h1 h2 h3 h4
 obtain ⟨b0,e0,_,_⟩:=DataW.trod_int Tryz.underlying2 h0
 obtain ⟨b1,e1,_,_⟩:=DataW.trod_int Tryz.underlying2 h1
 obtain ⟨b2,e2,_,_⟩:=DataW.trod_int Tryz.underlying2 h2
 obtain ⟨b3,e3,_,_⟩:=DataW.trod_int Tryz.underlying2 h3
 obtain ⟨b4,e4,_,_⟩:=DataW.trod_int Tryz.underlying2 h4
 simp at e0 e1 e2 e3 e4
 subst e0 e1 e2 e3 e4
 exact ⟨⟨b0,b1,b2,b3,b4⟩,rfl⟩
theorem QJ7 {H:Type} {enc:TypeId × Value→H} {w:World} {base:Nat} {spare:Nat→Bool} {held:Bool} {fuel:Nat} (cs:Array Value) {x:DataW H × List MemPlace} (h:DataW.trod enc Tryz.prog w base spare held fuel 41 cs.toList=some x) :
  ∃ r:StI,cs = #[.int .i64 r.k,.int .i64 r.e,.int .i64 r.f,.int .i64 r.s,.int .i64 r.n]:=by
 obtain ⟨r,e⟩:=QA8 h
 exact ⟨r,by cases cs;simp_all⟩
theorem cellsSt {w:World} {base:Nat} {a:Addr} {r:StI} (h:w.cells? base a 5=some [.int .i64 r.k,.int .i64 r.e,.int .i64 r.f,.int .i64 r.s,.int .i64 r.n]):a.spot=none∧qS7 w a.block a.off r:=by
 have e:List.range 5=[0,1,2,3,4]:=rfl
 unfold World.cells? at h
 split at h
 ·rw [e] at h
  simp only [List.mapM_cons,List.mapM_nil,Option.bind_eq_bind,Option.bind_eq_some_iff,Option.pure_def,Option.some.injEq,List.cons.injEq] at h
  obtain ⟨x0,h0,y0,⟨x1,h1,y1,⟨x2,h2,y2,⟨x3,h3,y3,⟨x4,h4,y4,rfl,e4⟩,e3⟩,e2⟩,e1⟩,e0,ee⟩:=h
  subst e0
  rw [← e1] at ee
  simp only [List.cons.injEq] at ee
  obtain ⟨rfl,ee⟩:=ee
  rw [← e2] at ee
  simp only [List.cons.injEq] at ee
  obtain ⟨rfl,ee⟩:=ee
  rw [← e3] at ee
  simp only [List.cons.injEq] at ee
  obtain ⟨rfl,ee⟩:=ee
  rw [← e4] at ee
  simp only [List.cons.injEq] at ee
  obtain ⟨rfl,_⟩:=ee
  obtain ⟨b,off,spot⟩:=a
  have hspot:spot=none:=by simpa [Addr.add] using World.cell?_spot h0
  subst hspot
  simp only [Addr.add] at h0 h1 h2 h3 h4
  exact ⟨rfl,by simpa using h0,by simpa using h1,by simpa using h2,by simpa using h3,by simpa using h4⟩
 ·cases h
theorem QG9 {H:Type} {enc:TypeId × Value→H} {w:World} {base:Nat} {spare:Nat→Bool} {held:Bool} {fuel:Nat} {a0:Option Addr} {len cap:Nat} {x:DataW H × List MemPlace} (h:DataW.trod enc Tryz.prog w base spare held fuel 22 [.slice a0 len cap]=some x) :
  ∃ zs:List StI,StArg w a0 len zs:=by
 rcases Go.Deep.open_slice Tryz.underlying22 h with ⟨hcs,_⟩ | ⟨a,l,c,m,n,D,Pl,hcs,hb,hl,hm,hmm,_,hel⟩
 ·simp at hcs
  obtain ⟨rfl,rfl,rfl⟩:=hcs
  exact ⟨[],⟨rfl,fun h=>by omega⟩,Nat.zero_le _⟩
 ·simp at hcs
  obtain ⟨rfl,rfl,rfl⟩:=hcs
  have hle:len≤m:=by rw [hmm];split <;> omega
  rw [Tryz.cells41] at hel
  have hk:∀ i,i < len→∃ r:StI,w.cells? base (a.add (i * 5)) 5=some [.int .i64 r.k,.int .i64 r.e,.int .i64 r.f,.int .i64 r.s,.int .i64 r.n]:=fun i hi=>by
   obtain ⟨cs',hc,ht⟩:=hel i (by omega)
   obtain ⟨r,rfl⟩:=QA8 ht
   exact ⟨r,hc⟩
  obtain ⟨f,hf⟩:=Go.Deep.choose_lt hk
  refine ⟨(List.range len).map f,⟨by simp,fun hp=>?_⟩,Nat.le_trans hl hm⟩
  obtain ⟨hsp,_⟩:=cellsSt (hf 0 hp)
  obtain ⟨b,off,spot⟩:=a
  simp [Addr.add] at hsp
  subst hsp
  refine ⟨b,off,rfl,fun k r e=>?_⟩
  have hkl:k < len:=by
   by_cases q:k < len
   ·exact q
   ·rw [List.getElem?_eq_none (by simp;omega)] at e;cases e
  rw [List.getElem?_map,List.getElem?_range hkl] at e
  simp at e
  subst e
  obtain ⟨_,hr⟩:=cellsSt (hf k hkl)
  have : ((⟨b,off,none⟩:Addr).add (k * 5))=⟨b,off+k * 5,none⟩:=Go.WideShapes.add_plain ..
  rw [this] at hr
  exact hr
end

section
open Go.RowKit Go.ChangeShapes Go.WideShapes
def LkArg (w:World) (a:Option Addr) (len:Nat) (zs:List LkI):Prop:=qK1 w a len zs∧len≤maxLen
theorem cells64Lk:Tryz.prog.cellsOf 2=1:=by kernel_rfl
theorem Tryz.cells100:Tryz.prog.cellsOf 100=4:=by kernel_rfl
theorem listLk {α:Type} {l:List α} (h:l.length=4):∃ c0 c1 c2 c3,l=[c0,c1,c2,c3]:=by
 match l,h with
 | [c0,c1,c2,c3],_=>exact ⟨c0,c1,c2,c3,rfl⟩
theorem lock_list {H:Type} {enc:TypeId × Value→H} {w:World} {base:Nat} {spare:Nat→Bool} {held:Bool} {fuel:Nat} {cs:List Value} {x:DataW H × List MemPlace} (h:DataW.trod enc Tryz.prog w base spare held fuel 100 cs=some x) :
  ∃ r:LkI,cs=[.int .i64 r.e,.int .i64 r.c,.int .i64 r.p,.int .i64 r.f]:=by
 obtain ⟨xs,n,_,_,hl,hlen,hf⟩:=DataW.trod_struct Tryz.underlying100 h
 rw [Tryz.cells100] at hl
 obtain ⟨c0,c1,c2,c3,rfl⟩:=listLk hl
 obtain ⟨y0,y1,y2,y3,rfl⟩:=listLk hlen
 have h0:=hf 0 _ rfl
 have h1:=hf 1 _ rfl
 have h2:=hf 2 _ rfl
 have h3:=hf 3 _ rfl
 simp [cells64Lk] at h0 h1 h2 h3
 obtain ⟨b0,e0,_,_⟩:=DataW.trod_int Tryz.underlying2 h0
 obtain ⟨b1,e1,_,_⟩:=DataW.trod_int Tryz.underlying2 h1
 obtain ⟨b2,e2,_,_⟩:=DataW.trod_int Tryz.underlying2 h2
 obtain ⟨b3,e3,_,_⟩:=DataW.trod_int Tryz.underlying2 h3
 simp at e0 e1 e2 e3
 subst e0 e1 e2 e3
 exact ⟨⟨b0,b1,b2,b3⟩,rfl⟩
theorem cellsLk {w:World} {base:Nat} {a:Addr} {r:LkI} (h:w.cells? base a 4=some [.int .i64 r.e,.int .i64 r.c,.int .i64 r.p,.int .i64 r.f]):a.spot=none∧QC7 w a.block a.off r:=by
 have e:List.range 4=[0,1,2,3]:=rfl
 unfold World.cells? at h
 split at h
 ·rw [e] at h
  simp only [List.mapM_cons,List.mapM_nil,Option.bind_eq_bind,Option.bind_eq_some_iff,Option.pure_def,Option.some.injEq,List.cons.injEq] at h
  obtain ⟨x0,h0,y0,⟨x1,h1,y1,⟨x2,h2,y2,⟨x3,h3,y3,rfl,e3⟩,e2⟩,e1⟩,e0,ee⟩:=h
  subst e0
  rw [← e1] at ee
  simp only [List.cons.injEq] at ee
  obtain ⟨rfl,ee⟩:=ee
  rw [← e2] at ee
  simp only [List.cons.injEq] at ee
  obtain ⟨rfl,ee⟩:=ee
  rw [← e3] at ee
  simp only [List.cons.injEq] at ee
  obtain ⟨rfl,_⟩:=ee
  obtain ⟨b,off,spot⟩:=a
  have hspot:spot=none:=by simpa [Addr.add] using World.cell?_spot h0
  subst hspot
  simp only [Addr.add] at h0 h1 h2 h3
  exact ⟨rfl,by simpa using h0,by simpa using h1,by simpa using h2,by simpa using h3⟩
 ·cases h
theorem locks_shape {H:Type} {enc:TypeId × Value→H} {w:World} {base:Nat} {spare:Nat→Bool} {held:Bool} {fuel:Nat} {a0:Option Addr} {len cap:Nat} {x:DataW H × List MemPlace} (h:DataW.trod enc Tryz.prog w base spare held fuel 23 [.slice a0 len cap]=some x) :
  ∃ zs:List LkI,LkArg w a0 len zs:=by
 rcases Go.Deep.open_slice Tryz.underlying23 h with ⟨hcs,_⟩ | ⟨a,l,c,m,n,D,Pl,hcs,hb,hl,hm,hmm,_,hel⟩
 ·simp at hcs
  obtain ⟨rfl,rfl,rfl⟩:=hcs
  exact ⟨[],⟨rfl,fun h=>by omega⟩,Nat.zero_le _⟩
 ·simp at hcs
  obtain ⟨rfl,rfl,rfl⟩:=hcs
  have hle:len≤m:=by rw [hmm];split <;> omega
  rw [Tryz.cells100] at hel
  have hk:∀ i,i < len→∃ r:LkI,w.cells? base (a.add (i * 4)) 4=some [.int .i64 r.e,.int .i64 r.c,.int .i64 r.p,.int .i64 r.f]:=fun i hi=>by
   obtain ⟨cs',hc,ht⟩:=hel i (by omega)
   obtain ⟨r,rfl⟩:=lock_list ht
   exact ⟨r,hc⟩
  obtain ⟨f,hf⟩:=Go.Deep.choose_lt hk
  refine ⟨(List.range len).map f,⟨by simp,fun hp=>?_⟩,Nat.le_trans hl hm⟩
  obtain ⟨hsp,_⟩:=cellsLk (hf 0 hp)
  obtain ⟨b,off,spot⟩:=a
  simp [Addr.add] at hsp
  subst hsp
  refine ⟨b,off,rfl,fun k r e=>?_⟩
  have hkl:k < len:=by
   by_cases q:k < len
   ·exact q
   ·rw [List.getElem?_eq_none (by simp;omega)] at e;cases e
  rw [List.getElem?_map,List.getElem?_range hkl] at e
  simp at e
  subst e
  obtain ⟨_,hr⟩:=cellsLk (hf k hkl)
  have : ((⟨b,off,none⟩:Addr).add (k * 4))=⟨b,off+k * 4,none⟩:=Go.WideShapes.add_plain ..
  rw [this] at hr
  exact hr
end

section
open Go.RowKit Go.ChangeShapes Go.WideShapes
theorem Tryz.cells25:Tryz.prog.cellsOf 25=4:=by kernel_rfl
theorem Tryz.cells22:Tryz.prog.cellsOf 22=1:=by kernel_rfl
theorem Tryz.cells23:Tryz.prog.cellsOf 23=1:=by kernel_rfl
theorem listRe {α:Type} {l:List α} (h:l.length=4):∃ c0 c1 c2 c3,l=[c0,c1,c2,c3]:=by
 match l,h with
 | [c0,c1,c2,c3],_=>exact ⟨c0,c1,c2,c3,rfl⟩
theorem sts_val {H:Type} {enc:TypeId × Value→H} {w:World} {base:Nat} {spare:Nat→Bool} {held:Bool} {fuel:Nat} {cs:List Value} {x:DataW H × List MemPlace} (h:DataW.trod enc Tryz.prog w base spare held fuel 22 cs=some x) :
  ∃ a n c,cs=[.slice a n c]:=by
 rcases Go.Deep.open_slice Tryz.underlying22 h with ⟨hcs,_⟩ | ⟨a,l,c,m,n,D,Pl,hcs,_⟩
 ·exact ⟨_,_,_,hcs⟩
 ·exact ⟨_,_,_,hcs⟩
theorem lks_val {H:Type} {enc:TypeId × Value→H} {w:World} {base:Nat} {spare:Nat→Bool} {held:Bool} {fuel:Nat} {cs:List Value} {x:DataW H × List MemPlace} (h:DataW.trod enc Tryz.prog w base spare held fuel 23 cs=some x) :
  ∃ a n c,cs=[.slice a n c]:=by
 rcases Go.Deep.open_slice Tryz.underlying23 h with ⟨hcs,_⟩ | ⟨a,l,c,m,n,D,Pl,hcs,_⟩
 ·exact ⟨_,_,_,hcs⟩
 ·exact ⟨_,_,_,hcs⟩
theorem rep_list {H:Type} {enc:TypeId × Value→H} {w:World} {base:Nat} {spare:Nat→Bool} {held:Bool} {fuel:Nat} {cs:List Value} {x:DataW H × List MemPlace} (h:DataW.trod enc Tryz.prog w base spare held fuel 25 cs=some x) :
  ∃ r:qH5,cs=[.int .i64 r.i,.int .i64 r.u,.slice r.sa r.sn r.sc,.slice r.la r.ln r.lc]∧qE7 w r∧qL6 maxLen r:=by
 obtain ⟨xs,n,_,_,hl,hlen,hf⟩:=DataW.trod_struct Tryz.underlying25 h
 rw [Tryz.cells25] at hl
 obtain ⟨c0,c1,c2,c3,rfl⟩:=listRe hl
 obtain ⟨y0,y1,y2,y3,rfl⟩:=listRe hlen
 have g0:=hf 0 _ rfl
 have g1:=hf 1 _ rfl
 have g2:=hf 2 _ rfl
 have g3:=hf 3 _ rfl
 simp [cells64St,Tryz.cells22,Tryz.cells23] at g0 g1 g2 g3
 obtain ⟨e0,q0,_,_⟩:=DataW.trod_int Tryz.underlying2 g0
 obtain ⟨e1,q1,_,_⟩:=DataW.trod_int Tryz.underlying2 g1
 obtain ⟨sa,sn,sc,q2⟩:=sts_val g2
 obtain ⟨la,ln,lc,q3⟩:=lks_val g3
 simp at q0 q1 q2 q3
 subst q0 q1 q2 q3
 obtain ⟨ss,hs⟩:=QG9 g2
 obtain ⟨ls,hl⟩:=locks_shape g3
 exact ⟨⟨e0,e1,sa,sn,sc,ss,la,ln,lc,ls⟩,rfl,⟨hs.1,hl.1⟩,⟨hs.2,hl.2⟩⟩
theorem rep_shape {H:Type} {enc:TypeId × Value→H} {w:World} {base:Nat} {spare:Nat→Bool} {held:Bool} {fuel:Nat} (cs:Array Value) {x:DataW H × List MemPlace} (h:DataW.trod enc Tryz.prog w base spare held fuel 25 cs.toList=some x) :
  ∃ r:qH5,cs = #[.int .i64 r.i,.int .i64 r.u,.slice r.sa r.sn r.sc,.slice r.la r.ln r.lc]∧qE7 w r∧qL6 maxLen r:=by
 obtain ⟨r,e,h1,h2⟩:=rep_list h
 exact ⟨r,by cases cs;simp_all,h1,h2⟩
end

end Go.Proofs.YtlhgjackapdmbaaGreatDoor
