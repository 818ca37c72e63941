/- Contracts. -/
import Derived.Test.YthogdfnaojijhaaGreatPa27
import Derived.Test.YthogdfnaojijhaaGreatPa14
namespace Go.Proofs.YthogdfnaojijhaaGreat
set_option maxRecDepth 100000
set_option maxHeartbeats 8000000
open Go.RowKit
set_option linter.unusedVariables false
set_option linter.unusedSimpArgs false

section
open Go.RowKit Go.ChangeShapes Go.WideShapes
theorem Tryz.cells243:Tryz.prog.cellsOf 243=5:=by kernel_rfl
theorem list4 {α:Type} {l:List α} (h:l.length=4):∃ a b c d,l=[a,b,c,d]:=by
 match l,h with
 | [a,b,c,d],_=>exact ⟨a,b,c,d,rfl⟩
theorem part_list {H:Type} {enc:TypeId × Value→H} {w:World} {base:Nat} {spare:Nat→Bool} {held:Bool} {fuel:Nat} {cs:List Value} {x:DataW H × List MemPlace} (h:DataW.trod enc Tryz.prog w base spare held fuel 243 cs=some x) :
  ∃ r:qB3,cs=[.int .i64 r.k,.int .i64 r.ro,.int .i64 r.rn,.int .i64 r.l,.int .i64 r.r]:=by
 obtain ⟨xs,n,_,_,hl,hlen,hf⟩:=DataW.trod_struct Tryz.underlying243 h
 rw [Tryz.cells243] at hl
 obtain ⟨c0,c1,c2,c3,c4,rfl⟩:=list5 hl
 obtain ⟨y0,y1,y2,y3,rfl⟩:=list4 hlen
 have g0:=hf 0 _ rfl
 have g1:=hf 1 _ rfl
 have g2:=hf 2 _ rfl
 have g3:=hf 3 _ rfl
 simp [Tryz.cells2,Tryz.cells174] at g0 g1 g2 g3
 obtain ⟨k,e0,_,_⟩:=DataW.trod_int Tryz.underlying2 g0
 obtain ⟨lf,e3,_,_⟩:=DataW.trod_int Tryz.underlying2 g2
 obtain ⟨rt,e4,_,_⟩:=DataW.trod_int Tryz.underlying2 g3
 obtain ⟨ho,hn,e1⟩:=qT1 g1
 simp at e0 e1 e3 e4
 obtain ⟨rfl,rfl⟩:=e1
 subst e0 e3 e4
 exact ⟨⟨k,ho,hn,lf,rt⟩,rfl⟩
theorem cells5 {w:World} {base:Nat} {a:Addr} {r:qB3} (h:w.cells? base a 5=some [.int .i64 r.k,.int .i64 r.ro,.int .i64 r.rn,.int .i64 r.l,.int .i64 r.r]):a.spot=none∧qN9 w a.block a.off r:=by
 have e:List.range 5=[0,1,2,3,4]:=rfl
 unfold World.cells? at h
 split at h
 ·rw [e] at h
  simp only [List.mapM_cons,List.mapM_nil,Option.bind_eq_bind,Option.bind_eq_some_iff,Option.pure_def,Option.some.injEq,List.cons.injEq] at h
  obtain ⟨x0,h0,y0,⟨x1,h1,y1,⟨x2,h2,y2,⟨x3,h3,y3,⟨x4,h4,y4,rfl,e4⟩,e3⟩,e2⟩,e1⟩,e0,ee⟩:=h
  subst e0
  rw [← e1] at ee
  simp only [List.cons.injEq] at ee
  obtain ⟨rfl,ee⟩:=ee
  rw [← e2] at ee
  simp only [List.cons.injEq] at ee
  obtain ⟨rfl,ee⟩:=ee
  rw [← e3] at ee
  simp only [List.cons.injEq] at ee
  obtain ⟨rfl,ee⟩:=ee
  rw [← e4] at ee
  simp only [List.cons.injEq] at ee
  obtain ⟨rfl,_⟩:=ee
  obtain ⟨b,off,spot⟩:=a
  have hspot:spot=none:=by simpa [Addr.add] using World.cell?_spot h0
  subst hspot
  simp only [Addr.add] at h0 h1 h2 h3 h4
  exact ⟨rfl,by simpa using h0,by simpa using h1,by simpa using h2,by simpa using h3,by simpa using h4⟩
 ·cases h
theorem QQ1 {H:Type} {enc:TypeId × Value→H} {w:World} {base:Nat} {spare:Nat→Bool} {held:Bool} {fuel:Nat} {a0:Option Addr} {len cap:Nat} {x:DataW H × List MemPlace} (h:DataW.trod enc Tryz.prog w base spare held fuel 169 [.slice a0 len cap]=some x) :
  ∃ zs:List qB3,QJ1 w a0 len zs:=by
 rcases Go.Deep.open_slice Tryz.underlying169 h with ⟨hcs,_⟩ | ⟨a,l,c,m,n,D,Pl,hcs,hb,hl,hm,hmm,_,hel⟩
 ·simp at hcs
  obtain ⟨rfl,rfl,rfl⟩:=hcs
  exact ⟨[],⟨rfl,fun h=>by omega⟩,Nat.zero_le _⟩
 ·simp at hcs
  obtain ⟨rfl,rfl,rfl⟩:=hcs
  have hle:len≤m:=by rw [hmm];split <;> omega
  rw [Tryz.cells243] at hel
  have hk:∀ i,i < len→∃ r:qB3,w.cells? base (a.add (i * 5)) 5=some [.int .i64 r.k,.int .i64 r.ro,.int .i64 r.rn,.int .i64 r.l,.int .i64 r.r]:=fun i hi=>by
   obtain ⟨cs',hc,ht⟩:=hel i (by omega)
   obtain ⟨r,rfl⟩:=part_list ht
   exact ⟨r,hc⟩
  obtain ⟨f,hf⟩:=Go.Deep.choose_lt hk
  refine ⟨(List.range len).map f,⟨by simp,fun hp=>?_⟩,Nat.le_trans hl hm⟩
  obtain ⟨hsp,_⟩:=cells5 (hf 0 hp)
  obtain ⟨b,off,spot⟩:=a
  simp [Addr.add] at hsp
  subst hsp
  refine ⟨b,off,rfl,fun k r e=>?_⟩
  have hkl:k < len:=by
   by_cases q:k < len
   ·exact q
   ·rw [List.getElem?_eq_none (by simp;omega)] at e;cases e
  rw [List.getElem?_map,List.getElem?_range hkl] at e
  simp at e
  subst e
  obtain ⟨_,hr⟩:=cells5 (hf k hkl)
  have : ((⟨b,off,none⟩:Addr).add (k * 5))=⟨b,off+k * 5,none⟩:=Go.WideShapes.add_plain ..
  rw [this] at hr
  exact hr
end

end Go.Proofs.YthogdfnaojijhaaGreat
