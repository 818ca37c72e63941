/- Contracts. -/
import Derived.OpenShut
import Derived.ChangeSame
import Derived.Deep.Slices
import Derived.Test.YthogdfnaojijhaaGreatPa13
import Derived.Scope
import Derived.ScopeJumps
import Derived.WalkMore
import Derived.Test.YthogdfnaojijhaaGreatPa26
import Derived.Shelf.SlMaps.Clone
namespace Go.Proofs.YthogdfnaojijhaaGreat
set_option maxRecDepth 100000
set_option maxHeartbeats 8000000
open Go.RowKit
set_option linter.unusedVariables false
set_option linter.unusedSimpArgs false

section
open Go.RowKit Go.ChangeShapes Go.WideShapes
theorem Tryz.cells174:Tryz.prog.cellsOf 174=2:=by kernel_rfl
theorem Tryz.cells2:Tryz.prog.cellsOf 2=1:=by kernel_rfl
theorem list2 {α:Type} {l:List α} (h:l.length=2):∃ a b,l=[a,b]:=by
 match l,h with
 | [a,b],_=>exact ⟨a,b,rfl⟩
theorem list5 {α:Type} {l:List α} (h:l.length=5):∃ a b c d e,l=[a,b,c,d,e]:=by
 match l,h with
 | [a,b,c,d,e],_=>exact ⟨a,b,c,d,e,rfl⟩
theorem list8 {α:Type} {l:List α} (h:l.length=8):∃ a b c d e f g i,l=[a,b,c,d,e,f,g,i]:=by
 match l,h with
 | [a,b,c,d,e,f,g,i],_=>exact ⟨a,b,c,d,e,f,g,i,rfl⟩
theorem qT1 {H:Type} {enc:TypeId × Value→H} {w:World} {base:Nat} {spare:Nat→Bool} {held:Bool} {fuel:Nat} {cs:List Value} {x:DataW H × List MemPlace} (h:DataW.trod enc Tryz.prog w base spare held fuel 174 cs=some x) :
  ∃ o n,cs=[.int .i64 o,.int .i64 n]:=by
 obtain ⟨y0,y1,n,_,hl,h0,h1⟩:=trod_struct2 Tryz.underlying174 h
 rw [Tryz.cells174] at hl
 obtain ⟨c0,c1,rfl⟩:=list2 hl
 simp [Tryz.cells2] at h0 h1
 obtain ⟨a,e0,_,_⟩:=DataW.trod_int Tryz.underlying2 h0
 obtain ⟨b,e1,_,_⟩:=DataW.trod_int Tryz.underlying2 h1
 simp at e0 e1
 exact ⟨a,b,by rw [e0,e1]⟩
theorem Tryz.cells176:Tryz.prog.cellsOf 176=8:=by kernel_rfl
theorem rule_list {H:Type} {enc:TypeId × Value→H} {w:World} {base:Nat} {spare:Nat→Bool} {held:Bool} {fuel:Nat} {cs:List Value} {x:DataW H × List MemPlace} (h:DataW.trod enc Tryz.prog w base spare held fuel 176 cs=some x) :
  ∃ r:qA0,cs=[.int .i64 r.k,.int .i64 r.ho,.int .i64 r.hn,.int .i64 r.w,.int .i64 r.oo,.int .i64 r.on,.int .i64 r.to,.int .i64 r.tn]:=by
 obtain ⟨xs,n,_,_,hl,hlen,hf⟩:=DataW.trod_struct Tryz.underlying176 h
 rw [Tryz.cells176] at hl
 obtain ⟨c0,c1,c2,c3,c4,c5,c6,c7,rfl⟩:=list8 hl
 obtain ⟨y0,y1,y2,y3,y4,rfl⟩:=list5 hlen
 have g0:=hf 0 _ rfl
 have g1:=hf 1 _ rfl
 have g2:=hf 2 _ rfl
 have g3:=hf 3 _ rfl
 have g4:=hf 4 _ rfl
 simp [Tryz.cells2,Tryz.cells174] at g0 g1 g2 g3 g4
 obtain ⟨k,e0,_,_⟩:=DataW.trod_int Tryz.underlying2 g0
 obtain ⟨wh,e3,_,_⟩:=DataW.trod_int Tryz.underlying2 g2
 obtain ⟨ho,hn,e1⟩:=qT1 g1
 obtain ⟨oo,on,e4⟩:=qT1 g3
 obtain ⟨tw,tn,e6⟩:=qT1 g4
 simp at e0 e1 e3 e4 e6
 obtain ⟨rfl,rfl⟩:=e1
 obtain ⟨rfl,rfl⟩:=e4
 obtain ⟨rfl,rfl⟩:=e6
 subst e0 e3
 exact ⟨⟨k,ho,hn,wh,oo,on,tw,tn⟩,rfl⟩
theorem cells8 {w:World} {base:Nat} {a:Addr} {r:qA0} (h:w.cells? base a 8=some [.int .i64 r.k,.int .i64 r.ho,.int .i64 r.hn,.int .i64 r.w,.int .i64 r.oo,.int .i64 r.on,.int .i64 r.to,.int .i64 r.tn]):a.spot=none∧qB0 w a.block a.off r:=by
 have e:List.range 8=[0,1,2,3,4,5,6,7]:=rfl
 unfold World.cells? at h
 split at h
 ·rw [e] at h
  simp only [List.mapM_cons,List.mapM_nil,Option.bind_eq_bind,Option.bind_eq_some_iff,Option.pure_def,Option.some.injEq,List.cons.injEq] at h
  obtain ⟨x0,h0,y0,⟨x1,h1,y1,⟨x2,h2,y2,⟨x3,h3,y3,⟨x4,h4,y4,⟨x5,h5,y5,⟨x6,h6,y6,⟨x7,h7,y7,rfl,e7⟩,e6⟩,e5⟩,e4⟩,e3⟩,e2⟩,e1⟩,e0,ee⟩:=h
  subst e0
  rw [← e1] at ee
  simp only [List.cons.injEq] at ee
  obtain ⟨rfl,ee⟩:=ee
  rw [← e2] at ee
  simp only [List.cons.injEq] at ee
  obtain ⟨rfl,ee⟩:=ee
  rw [← e3] at ee
  simp only [List.cons.injEq] at ee
  obtain ⟨rfl,ee⟩:=ee
  rw [← e4] at ee
  simp only [List.cons.injEq] at ee
  obtain ⟨rfl,ee⟩:=ee
  rw [← e5] at ee
  simp only [List.cons.injEq] at ee
  obtain ⟨rfl,ee⟩:=ee
  rw [← e6] at ee
  simp only [List.cons.injEq] at ee
  obtain ⟨rfl,ee⟩:=ee
  rw [← e7] at ee
  simp only [List.cons.injEq] at ee
  obtain ⟨rfl,_⟩:=ee
  obtain ⟨b,off,spot⟩:=a
  have hspot:spot=none:=by simpa [Addr.add] using World.cell?_spot h0
  subst hspot
  simp only [Addr.add] at h0 h1 h2 h3 h4 h5 h6 h7
  exact ⟨rfl,by simpa using h0,by simpa using h1,by simpa using h2,by simpa using h3,by simpa using h4,by simpa using h5,by simpa using h6,by simpa using h7⟩
 ·cases h
instance:Inhabited qA0:=⟨⟨0,0,0,0,0,0,0,0⟩⟩
theorem QP8 {H:Type} {enc:TypeId × Value→H} {w:World} {base:Nat} {spare:Nat→Bool} {held:Bool} {fuel:Nat} {a0:Option Addr} {len cap:Nat} {x:DataW H × List MemPlace} (h:DataW.trod enc Tryz.prog w base spare held fuel 61 [.slice a0 len cap]=some x) :
  ∃ zs:List qA0,RulesArg w a0 len zs:=by
 rcases Go.Deep.open_slice Tryz.underlying61 h with ⟨hcs,_⟩ | ⟨a,l,c,m,n,D,Pl,hcs,hb,hl,hm,hmm,_,hel⟩
 ·simp at hcs
  obtain ⟨rfl,rfl,rfl⟩:=hcs
  exact ⟨[],⟨rfl,fun h=>by omega⟩,Nat.zero_le _⟩
 ·simp at hcs
  obtain ⟨rfl,rfl,rfl⟩:=hcs
  have hle:len≤m:=by rw [hmm];split <;> omega
  rw [Tryz.cells176] at hel
  have hk:∀ i,i < len→∃ r:qA0,w.cells? base (a.add (i * 8)) 8=some [.int .i64 r.k,.int .i64 r.ho,.int .i64 r.hn,.int .i64 r.w,.int .i64 r.oo,.int .i64 r.on,.int .i64 r.to,.int .i64 r.tn]:=fun i hi=>by
   obtain ⟨cs',hc,ht⟩:=hel i (by omega)
   obtain ⟨r,rfl⟩:=rule_list ht
   exact ⟨r,hc⟩
  obtain ⟨f,hf⟩:=Go.Deep.choose_lt hk
  refine ⟨(List.range len).map f,⟨by simp,fun hp=>?_⟩,Nat.le_trans hl hm⟩
  obtain ⟨hsp,_⟩:=cells8 (hf 0 hp)
  obtain ⟨b,off,spot⟩:=a
  simp [Addr.add] at hsp
  subst hsp
  refine ⟨b,off,rfl,fun k r e=>?_⟩
  have hkl:k < len:=by
   by_cases q:k < len
   ·exact q
   ·rw [List.getElem?_eq_none (by simp;omega)] at e;cases e
  rw [List.getElem?_map,List.getElem?_range hkl] at e
  simp at e
  subst e
  obtain ⟨_,hr⟩:=cells8 (hf k hkl)
  have : ((⟨b,off,none⟩:Addr).add (k * 8))=⟨b,off+k * 8,none⟩:=Go.WideShapes.add_plain ..
  rw [this] at hr
  exact hr
end

section
open Go.RowKit Go.ChangeShapes Go.WideShapes
theorem cells64St:Tryz.prog.cellsOf 2=1:=by kernel_rfl
theorem Tryz.cells25:Tryz.prog.cellsOf 25=5:=by kernel_rfl
theorem listSt {α:Type} {l:List α} (h:l.length=5):∃ c0 c1 c2 c3 c4,l=[c0,c1,c2,c3,c4]:=by
 match l,h with
 | [c0,c1,c2,c3,c4],_=>exact ⟨c0,c1,c2,c3,c4,rfl⟩
theorem qR4 {H:Type} {enc:TypeId × Value→H} {w:World} {base:Nat} {spare:Nat→Bool} {held:Bool} {fuel:Nat} {cs:List Value} {x:DataW H × List MemPlace} (h:DataW.trod enc Tryz.prog w base spare held fuel 25 cs=some x) :
  ∃ r:StI,cs=[.int .i64 r.k,.int .i64 r.e,.int .i64 r.f,.int .i64 r.s,.int .i64 r.n]:=by
 obtain ⟨xs,n,_,_,hl,hlen,hf⟩:=DataW.trod_struct Tryz.underlying25 h
 rw [Tryz.cells25] at hl
 obtain ⟨c0,c1,c2,c3,c4,rfl⟩:=listSt hl
 obtain ⟨y0,y1,y2,y3,y4,rfl⟩:=listSt hlen
 have h0:=hf 0 _ rfl
 have h1:=hf 1 _ rfl
 have h2:=hf 2 _ rfl
 have h3:=hf 3 _ rfl
 have h4:=hf 4 _ rfl
 simp [cells64St] at h0 h1 h2 h3 h4
 obtain ⟨b0,e0,_,_⟩:=DataW.trod_int Tryz.underlying2 h0
 obtain ⟨b1,e1,_,_⟩:=DataW.trod_int Tryz.underlying2 h1
 obtain ⟨b2,e2,_,_⟩:=DataW.trod_int Tryz.underlying2 h2
 obtain ⟨b3,e3,_,_⟩:=DataW.trod_int Tryz.underlying2 h3
 obtain ⟨b4,e4,_,_⟩:=DataW.trod_int Tryz.underlying2 h4
 simp at e0 e1 e2 e3 e4
 subst e0 e1 e2 e3 e4
 exact ⟨⟨b0,b1,b2,b3,b4⟩,rfl⟩
end

section
open Go.RowKit Go.ChangeShapes Go.WideShapes
def ShArg (w:World) (a:Option Addr) (len:Nat) (zs:List ShI):Prop:=qD9 w a len zs∧len≤maxLen∧∀ z∈zs,(Lit.int .i64 z.r).wf=true
theorem QO3:Tryz.prog.cellsOf 2=1:=by kernel_rfl
theorem Tryz.cells80:Tryz.prog.cellsOf 80=6:=by kernel_rfl
theorem listSh {α:Type} {l:List α} (h:l.length=6):∃ c0 c1 c2 c3 c4 c5,l=[c0,c1,c2,c3,c4,c5]:=by
 match l,h with
 | [c0,c1,c2,c3,c4,c5],_=>exact ⟨c0,c1,c2,c3,c4,c5,rfl⟩
theorem list2Sh {α:Type} {l:List α} (h:l.length=2):∃ c0 c1,l=[c0,c1]:=by
 match l,h with
 | [c0,c1],_=>exact ⟨c0,c1,rfl⟩
theorem QY5 {H:Type} {enc:TypeId × Value→H} {w:World} {base:Nat} {spare:Nat→Bool} {held:Bool} {fuel:Nat} {cs:List Value} {x:DataW H × List MemPlace} (h:DataW.trod enc Tryz.prog w base spare held fuel 80 cs=some x) :
  ∃ r:ShI,cs=[.int .i64 r.r,.int .i64 r.k,.int .i64 r.e,.int .i64 r.f,.int .i64 r.s,.int .i64 r.n]∧(Lit.int .i64 r.r).wf=true:=by
 obtain ⟨xs,n,_,_,hl,hlen,hf⟩:=DataW.trod_struct Tryz.underlying80 h
 rw [Tryz.cells80] at hl
 obtain ⟨c0,c1,c2,c3,c4,c5,rfl⟩:=listSh hl
 obtain ⟨y0,y1,rfl⟩:=list2Sh hlen
 have g0:=hf 0 _ rfl
 have g1:=hf 1 _ rfl
 simp [QO3,Tryz.cells25] at g0 g1
 obtain ⟨b0,e0,_,hwf⟩:=DataW.trod_int Tryz.underlying2 g0
 obtain ⟨b1,e1⟩:=qR4 g1
 simp at e0 e1
 obtain ⟨rfl,rfl,rfl,rfl,rfl⟩:=e1
 subst e0
 exact ⟨⟨b0,b1.k,b1.e,b1.f,b1.s,b1.n⟩,rfl,hwf⟩
theorem cellsSh {w:World} {base:Nat} {a:Addr} {r:ShI} (h:w.cells? base a 6=some [.int .i64 r.r,.int .i64 r.k,.int .i64 r.e,.int .i64 r.f,.int .i64 r.s,.int .i64 r.n]):a.spot=none∧QC1 w a.block a.off r:=by
 have e:List.range 6=[0,1,2,3,4,5]:=rfl
 unfold World.cells? at h
 split at h
 ·rw [e] at h
  simp only [List.mapM_cons,List.mapM_nil,Option.bind_eq_bind,Option.bind_eq_some_iff,Option.pure_def,Option.some.injEq,List.cons.injEq] at h
  obtain ⟨x0,h0,y0,⟨x1,h1,y1,⟨x2,h2,y2,⟨x3,h3,y3,⟨x4,h4,y4,⟨x5,h5,y5,rfl,e5⟩,e4⟩,e3⟩,e2⟩,e1⟩,e0,ee⟩:=h
  subst e0
  rw [← e1] at ee
  simp only [List.cons.injEq] at ee
  obtain ⟨rfl,ee⟩:=ee
  rw [← e2] at ee
  simp only [List.cons.injEq] at ee
  obtain ⟨rfl,ee⟩:=ee
  rw [← e3] at ee
  simp only [List.cons.injEq] at ee
  obtain ⟨rfl,ee⟩:=ee
  rw [← e4] at ee
  simp only [List.cons.injEq] at ee
  obtain ⟨rfl,ee⟩:=ee
  rw [← e5] at ee
  simp only [List.cons.injEq] at ee
  obtain ⟨rfl,_⟩:=ee
  obtain ⟨b,off,spot⟩:=a
  have hspot:spot=none:=by simpa [Addr.add] using World.cell?_spot h0
  subst hspot
  simp only [Addr.add] at h0 h1 h2 h3 h4 h5
  exact ⟨rfl,by simpa using h0,by simpa using h1,by simpa using h2,by simpa using h3,by simpa using h4,by simpa using h5⟩
 ·cases h
theorem QK7 {H:Type} {enc:TypeId × Value→H} {w:World} {base:Nat} {spare:Nat→Bool} {held:Bool} {fuel:Nat} {a0:Option Addr} {len cap:Nat} {x:DataW H × List MemPlace} (h:DataW.trod enc Tryz.prog w base spare held fuel 23 [.slice a0 len cap]=some x) :
  ∃ zs:List ShI,ShArg w a0 len zs:=by
 rcases Go.Deep.open_slice Tryz.underlying23 h with ⟨hcs,_⟩ | ⟨a,l,c,m,n,D,Pl,hcs,hb,hl,hm,hmm,_,hel⟩
 ·simp at hcs
  obtain ⟨rfl,rfl,rfl⟩:=hcs
  exact ⟨[],⟨rfl,fun h=>by omega⟩,Nat.zero_le _,fun z h=>by cases h⟩
 ·simp at hcs
  obtain ⟨rfl,rfl,rfl⟩:=hcs
  have hle:len≤m:=by rw [hmm];split <;> omega
  rw [Tryz.cells80] at hel
  have hk:∀ i,i < len→∃ r:ShI,w.cells? base (a.add (i * 6)) 6=some [.int .i64 r.r,.int .i64 r.k,.int .i64 r.e,.int .i64 r.f,.int .i64 r.s,.int .i64 r.n]∧(Lit.int .i64 r.r).wf=true:=fun i hi=>by
   obtain ⟨cs',hc,ht⟩:=hel i (by omega)
   obtain ⟨r,rfl,hwf⟩:=QY5 ht
   exact ⟨r,hc,hwf⟩
  obtain ⟨f,hf⟩:=Go.Deep.choose_lt hk
  refine ⟨(List.range len).map f,⟨by simp,fun hp=>?_⟩,Nat.le_trans hl hm,fun z hz=>?_⟩
  rotate_left 1
  ·obtain ⟨i,hi,rfl⟩:=List.mem_map.1 hz
   exact (hf i (List.mem_range.1 hi)).2
  obtain ⟨hsp,_⟩:=cellsSh (hf 0 hp).1
  obtain ⟨b,off,spot⟩:=a
  simp [Addr.add] at hsp
  subst hsp
  refine ⟨b,off,rfl,fun k r e=>?_⟩
  have hkl:k < len:=by
   by_cases q:k < len
   ·exact q
   ·rw [List.getElem?_eq_none (by simp;omega)] at e;cases e
  rw [List.getElem?_map,List.getElem?_range hkl] at e
  simp at e
  subst e
  obtain ⟨_,hr⟩:=cellsSh (hf k hkl).1
  have : ((⟨b,off,none⟩:Addr).add (k * 6))=⟨b,off+k * 6,none⟩:=Go.WideShapes.add_plain ..
  rw [this] at hr
  exact hr
end

section
open Go
def qM7 (J:Nat→Act→World→Prop) (Q:Exit→Act→World→Prop):Exit→Act→World→Prop
 | .goto l,a,w=>J l a w
 | e,a,w=>Q e a w
theorem wp_weaken {P:Program} {c:Code} {Q Q':Exit→Act→World→Prop} {a:Act} {w:World} (h:c.wp P Q a w) (hq:∀ e a w,Q e a w→Q' e a w):c.wp P Q' a w:=by
 intro b k cs
 obtain ⟨e,a',w',h1,h2⟩:=h b k cs
 exact ⟨e,a',w',hq e a' w' h1,h2⟩
theorem qX9 {P:Program} {c:Code} {Q:Exit→Act→World→Prop} {a:Act} {w:World} (rest:Nat→Code) (J:Nat→Nat→Act→World→Prop) (hf:∀ l m a w,J l m a w→findLabel c l=some (rest l))
  (first:c.wp P (qM7 (fun l a' w'=>∃ m,J l m a' w') Q) a w)
  (pass:∀ l m a w,J l m a w→(rest l).wp P (qM7 (fun l' a' w'=>∃ m',m' < m∧J l' m' a' w') Q) a w):(Code.scope c).wp P Q a w:=by
 intro b k cs
 have again:∀ m l a w,J l m a w→∃ e a' w',Q e a' w'∧Arrives P (lone (b.at a (.code (rest l) :: .inScope c::k)) cs w) b k cs e a' w':=by
  intro m
  induction m using Nat.strongRecOn with
  | _ m ih =>
   intro l a w hJ
   obtain ⟨e,a1,w1,hq,har⟩:=pass l m a w hJ b (.inScope c::k) cs
   cases e with
   | goto l' =>
    obtain ⟨m',hlt,hJ'⟩:=hq
    obtain ⟨e2,a2,w2,hq2,har2⟩:=ih m' hlt l' a1 w1 hJ'
    have hg:gotoIn l' (.inScope c::k)=some (.code (rest l') :: .inScope c::k):=by simp [gotoIn,hf l' m' a1 w1 hJ']
    exact ⟨e2,a2,w2,hq2,.of_steps (har _ hg) har2⟩
   | normal=>exact ⟨.normal,a1,w1,hq,Steps.trans har (.one step_inScope)⟩
   | exit id=>exact ⟨.exit id,a1,w1,hq,fun k' hk=>har k' (by simp [exitTo,hk])⟩
   | ret=>exact ⟨_,a1,w1,hq,har⟩
   | panic ch=>exact ⟨_,a1,w1,hq,har⟩
   | outgrown=>exact ⟨_,a1,w1,hq,har⟩
 obtain ⟨e,a1,w1,hq,har⟩:=first b (.inScope c::k) cs
 cases e with
 | goto l =>
  obtain ⟨m,hJ⟩:=hq
  obtain ⟨e2,a2,w2,hq2,har2⟩:=again m l a1 w1 hJ
  have hg:gotoIn l (.inScope c::k)=some (.code (rest l) :: .inScope c::k):=by simp [gotoIn,hf l m a1 w1 hJ]
  exact ⟨e2,a2,w2,hq2,.of_steps (.head step_scope (har _ hg)) har2⟩
 | normal=>exact ⟨.normal,a1,w1,hq,.head step_scope (Steps.trans har (.one step_inScope))⟩
 | exit id=>exact ⟨.exit id,a1,w1,hq,fun k' hk => .head step_scope (har k' (by simp [exitTo,hk]))⟩
 | ret=>exact ⟨_,a1,w1,hq,.of_steps (.one step_scope) har⟩
 | panic ch=>exact ⟨_,a1,w1,hq,.of_steps (.one step_scope) har⟩
 | outgrown=>exact ⟨_,a1,w1,hq,.of_steps (.one step_scope) har⟩
theorem QM0 {J:Nat→Act→World→Prop} {J':Nat→Act→World→Prop} {Q:Exit→Act→World→Prop} (h:∀ l a w,J l a w→J' l a w):∀ e a w,qM7 J Q e a w→qM7 J' Q e a w
 | .goto l,a,w,q=>h l a w q
 | .normal,_,_,q=>q
 | .exit _,_,_,q=>q
 | .ret,_,_,q=>q
 | .panic _,_,_,q=>q
 | .outgrown,_,_,q=>q
def two (x y:Code):Nat→Code
 | 0=>x
 | _=>y
theorem QJ8 {P:Program} {c r0 r1:Code} {Q:Exit→Act→World→Prop} {a:Act} {w:World} (J:Nat→Nat→Act→World→Prop) (hf0:findLabel c 0=some (Code.seq .skip r0)) (hf1:findLabel c 1=some (Code.seq .skip r1)) (hJ:∀ l m a w,J l m a w→l=0∨l=1)
  (first:(∀ m a w,J 0 m a w→r0.wp P (qM7 (fun l' a' w'=>∃ m',m' < m∧J l' m' a' w') Q) a w)→c.wp P (qM7 (fun l a' w'=>∃ m,J l m a' w') Q) a w)
  (core0:∀ m a w,J 0 m a w→r0.wp P (qM7 (fun l' a' w'=>∃ m',m' < m∧J l' m' a' w') Q) a w)
  (core1:∀ m a w,J 1 m a w→r1.wp P (qM7 (fun l' a' w'=>∃ m',m' < m∧J l' m' a' w') Q) a w):(Code.scope c).wp P Q a w:=by
 refine qX9 (two (Code.seq .skip r0) (Code.seq .skip r1)) J ?_ (first core0) ?_
 ·intro l m a w h
  rcases hJ l m a w h with rfl | rfl
  ·exact hf0
  ·exact hf1
 ·intro l m a w h
  rcases hJ l m a w h with rfl | rfl
  ·exact wp_seq (wp_skip (core0 m a w h))
  ·exact wp_seq (wp_skip (core1 m a w h))
end

section
open Go.RowKit Go.Maps Go.Proofs
theorem told_c (b:Nat) (f:RoI→Int) (r:qA0) (w:World) (h:GM w b f) (hc:qA2 r=0) :
  Calls Tryz.prog 181 #[.map (some b),.agg #[.int .i64 r.k,.int .i64 r.ho,.int .i64 r.hn,.int .i64 r.w,.int .i64 r.oo,.int .i64 r.on,.int .i64 r.to,.int .i64 r.tn]] w fun e w'=>e = .returned (.int .u8 (byF f r))∧Below w.heap.size w w':=by
 have hk:=qO3 hc
 have h4:r.k=1∨r.k=2∨r.k=3∨r.k=4:=by omega
 rcases h4 with e | e | e | e
 ·exact told_1 b f r w h hc e
 ·exact told_2 b f r w h hc e
 ·exact told_3 b f r w h hc e
 ·exact told_4 b f r w h hc e
theorem Below.turn {B:Nat} {w w1 w2:World} {b:Nat} (h:Below B w w1) (hB:B≤w1.heap.size) (hb:B≤b) (hg:w1.grownBy w2 (some b)):Below B w w2:=h.grown hg hB (fun k e=>by cases e;exact hb)
end

end Go.Proofs.YthogdfnaojijhaaGreat
