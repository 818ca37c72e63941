/- Contracts. -/
import Derived.Test.YtlhgjackapdmbaaGreatDoorPw05
import Derived.Test.YtlhgjackapdmbaaGreatDoorPw07
import Derived.Test.YtlhgjackapdmbaaGreatDoorPw04
namespace Go.Proofs.YtlhgjackapdmbaaGreatDoor
set_option maxRecDepth 100000
set_option maxHeartbeats 8000000
open Go.RowKit
set_option linter.unusedVariables false
set_option linter.unusedSimpArgs false

def qK1 (f:RoI→Int) (n:Int) (ys:List Int) (k:Nat):Int:=(ys.take k).foldl (fun o y=>orI o (f (y,n))) 0
theorem linkTo_zero (f:RoI→Int) (n:Int) (ys:List Int):qK1 f n ys 0=0:=by simp [qK1]
theorem linkTo_succ {ys:List Int} {k:Nat} {y:Int} (h:ys[k]? = some y) (f:RoI→Int) (n:Int):qK1 f n ys (k+1)=orI (qK1 f n ys k) (f (y,n)):=by
 have hk:k < ys.length:=by
  by_cases q:k < ys.length
  ·exact q
  ·rw [List.getElem?_eq_none (by omega)] at h;cases h
 have e:ys[k]=y:=by rw [List.getElem?_eq_getElem hk] at h;exact Option.some.inj h
 rw [qK1,List.take_succ_eq_append_getElem hk,List.foldl_append,e]
 rfl
theorem QC1 {f:RoI→Int} (hf:∀ r,qJ6 (f r)) (n:Int):∀ (ys:List Int) (o:Int),qJ6 o→qJ6 (ys.foldl (fun o y=>orI o (f (y,n))) o)∧∀ p,qH7 (ys.foldl (fun o y=>orI o (f (y,n))) o) p=(qH7 o p || ys.any (fun y=>qH7 (f (y,n)) p))
 | [],o,ho=>⟨ho,fun p=>by simp⟩
 | y::ys,o,ho=>by
  have:=QC1 hf n ys (orI o (f (y,n))) (QW1 ho (hf _))
  refine ⟨this.1,fun p=>?_⟩
  rw [List.foldl_cons,this.2 p,QK4 ho (hf _),List.any_cons,Bool.or_assoc]
theorem linkTo_set {f:RoI→Int} (hf:∀ r,qJ6 (f r)) (n:Int) (ys:List Int) (k:Nat):qJ6 (qK1 f n ys k):=(QC1 hf n (ys.take k) 0 ⟨by omega,by omega⟩).1
theorem qJ3 {s x:Int}:∀ {k:Nat},x∈qB1 s k↔1≤x∧x≤(k:Int)∧qH7 s x=true
 | 0=>by simp [qB1];omega
 | k+1=>by
  unfold qB1
  split
  ·rename_i h
   rw [List.mem_append,List.mem_singleton,qJ3 (k:=k)]
   constructor
   ·rintro (q | rfl)
    ·exact ⟨q.1,by omega,q.2.2⟩
    ·exact ⟨by omega,by omega,h⟩
   ·rintro ⟨q1,q2,q3⟩
    by_cases e:x=(k:Int)+1
    ·exact .inr e
    ·exact .inl ⟨q1,by omega,q3⟩
  ·rename_i h
   rw [qJ3 (k:=k)]
   constructor
   ·rintro ⟨q1,q2,q3⟩
    exact ⟨q1,by omega,q3⟩
   ·rintro ⟨q1,q2,q3⟩
    by_cases e:x=(k:Int)+1
    ·subst e;exact absurd q3 h
    ·exact ⟨q1,by omega,q3⟩
theorem QO9 (s:Int):∀ k,(qB1 s k).length≤k
 | 0=>by simp [qB1]
 | k+1=>by
  have:=QO9 s k
  unfold qB1
  split
  ·simp;omega
  ·omega
def byF (f:RoI→Int) (r:qA0):Int :=
 if r.k=1 then bitI r.w
 else if r.k=2 then f (r.oo,r.on)
 else if r.k=4 then andI (f (r.oo,r.on)) (f (r.to,r.tn))
 else qK1 f r.tn (qB1 (f (r.oo,r.on)) 8) (qB1 (f (r.oo,r.on)) 8).length
def qT2 (m:RoI→Int→Prop) (r:qA0) (p:Int):Prop :=
 if r.k=1 then p=r.w
 else if r.k=2 then m (r.oo,r.on) p
 else if r.k=4 then m (r.oo,r.on) p∧m (r.to,r.tn) p
 else ∃ q,1≤q∧q≤8∧m (r.oo,r.on) q∧m (q,r.tn) p
def okR (r:qA0):Prop:=qC8 r.ho r.hn=true∧(r.k=1→1≤r.w∧r.w≤8)
theorem QL3 {f:RoI→Int} (hf:∀ r,qJ6 (f r)) {r:qA0} (hr:okR r):qJ6 (byF f r):=by
 unfold byF
 split
 ·rename_i e
  exact bit_set (hr.2 e).1 (hr.2 e).2
 ·split
  ·exact hf _
  ·split
   ·exact and_set (hf _) (hf _)
   ·exact linkTo_set hf _ _ _
theorem byF_has {f:RoI→Int} (hf:∀ r,qJ6 (f r)) {r:qA0} (hr:okR r) {p:Int} (hp:1≤p):qH7 (byF f r) p=true↔qT2 (fun r p=>qH7 (f r) p=true) r p:=by
 unfold byF qT2
 split
 ·rename_i e
  rw [hasI_bit (hr.2 e).1 hp]
  simp
 ·split
  ·exact Iff.rfl
  ·split
   ·rw [hasI_and (hf _) (hf _)]
    simp
   ·rw [qK1,List.take_length,(QC1 hf r.tn _ 0 ⟨by omega,by omega⟩).2 p,QC4,Bool.false_or,List.any_eq_true]
    constructor
    ·rintro ⟨q,hq,h⟩
     have:=qJ3.1 hq
     exact ⟨q,this.1,this.2.1,this.2.2,h⟩
    ·rintro ⟨q,h1,h2,h3,h4⟩
     exact ⟨q,qJ3.2 ⟨h1,h2,h3⟩,h4⟩
theorem QP3 {m m':RoI→Int→Prop} (h:∀ r p,1≤p→m r p→m' r p) {r:qA0} {p:Int} (hp:1≤p) (g:qT2 m r p):qT2 m' r p:=by
 unfold qT2 at g ⊢
 split
 ·rename_i e;rw [if_pos e] at g;exact g
 ·rename_i e
  rw [if_neg e] at g
  split
  ·rename_i e;rw [if_pos e] at g;exact h _ _ hp g
  ·rename_i e
   rw [if_neg e] at g
   split
   ·rename_i e;rw [if_pos e] at g;exact ⟨h _ _ hp g.1,h _ _ hp g.2⟩
   ·rename_i e
    rw [if_neg e] at g
    obtain ⟨q,h1,h2,h3,h4⟩:=g
    exact ⟨q,h1,h2,h _ _ h1 h3,h _ _ hp h4⟩
def QL8 (gs:List GrI) (r:RoI) (s:Int):List GrI:=if s=0 then gs else QG3 gs r s
theorem sg_add {gs:List GrI} (h:SG gs) {r:RoI} {s:Int} (hr:qC8 r.1 r.2=true) (hs:qJ6 s):SG (QL8 gs r s):=by
 unfold QL8
 split
 ·exact h
 ·have:=hs.1
  exact sg_ins h hr ⟨by omega,hs.2⟩
theorem has_add {gs:List GrI} (h:SG gs) {r:RoI} {s:Int} (hs:qJ6 s) (r':RoI) (p:Int):qH7 (ofG (QL8 gs r s) r') p=true↔qH7 (ofG gs r') p=true∨(r=r'∧qH7 s p=true):=by
 unfold QL8
 split
 ·rename_i e
  subst e
  simp [QC4]
 ·have:=hs.1
  rw [ofG_ins h ⟨by omega,hs.2⟩]
  split
  ·rename_i e
   subst e
   rw [QK4 (qW6 h _) hs]
   simp
  ·rename_i e
   constructor
   ·exact fun q => .inl q
   ·rintro (q | q)
    ·exact q
    ·exact absurd q.1.symm e
theorem sum_add {gs:List GrI} (h:SG gs) {r:RoI} {s:Int} (hs:qJ6 s):qS4 gs≤qS4 (QL8 gs r s)∧(qS4 gs=qS4 (QL8 gs r s)→QL8 gs r s=gs):=by
 unfold QL8
 split
 ·exact ⟨by omega,fun _=>rfl⟩
 ·have:=hs.1
  exact sum_ins h ⟨by omega,hs.2⟩
def qM5 (zs:List qA0) (gs:List GrI) (k:Nat):List GrI:=(zs.take k).foldl (fun o z=>QL8 o (z.ho,z.hn) (byF (ofG gs) z)) gs
def qM7 (zs:List qA0) (gs:List GrI):List GrI:=qM5 zs gs zs.length
theorem QH6 (zs:List qA0) (gs:List GrI):qM5 zs gs 0=gs:=by simp [qM5]
theorem stepTo_succ {zs:List qA0} {k:Nat} {z:qA0} (h:zs[k]? = some z) (gs:List GrI):qM5 zs gs (k+1)=QL8 (qM5 zs gs k) (z.ho,z.hn) (byF (ofG gs) z):=by
 have hk:k < zs.length:=by
  by_cases q:k < zs.length
  ·exact q
  ·rw [List.getElem?_eq_none (by omega)] at h;cases h
 have e:zs[k]=z:=by rw [List.getElem?_eq_getElem hk] at h;exact Option.some.inj h
 rw [qM5,List.take_succ_eq_append_getElem hk,List.foldl_append,e]
 rfl
theorem qW4 {gs:List GrI} (hg:SG gs):∀ (zs:List qA0) (o:List GrI),(∀ z∈zs,okR z)→SG o →
  SG (zs.foldl (fun o z=>QL8 o (z.ho,z.hn) (byF (ofG gs) z)) o) ∧
  (∀ r p,qH7 (ofG (zs.foldl (fun o z=>QL8 o (z.ho,z.hn) (byF (ofG gs) z)) o) r) p=true↔qH7 (ofG o r) p=true∨∃ z∈zs,(z.ho,z.hn)=r∧qH7 (byF (ofG gs) z) p=true) ∧
  qS4 o≤qS4 (zs.foldl (fun o z=>QL8 o (z.ho,z.hn) (byF (ofG gs) z)) o) ∧
  (qS4 o=qS4 (zs.foldl (fun o z=>QL8 o (z.ho,z.hn) (byF (ofG gs) z)) o)→zs.foldl (fun o z=>QL8 o (z.ho,z.hn) (byF (ofG gs) z)) o=o)
 | [],o,_,ho=>⟨ho,fun r p=>by simp,by simp,by simp⟩
 | z::zs,o,hz,ho=>by
  have hs:=QL3 (qW6 hg) (hz z (by simp))
  have h1:=sg_add ho (r:=(z.ho,z.hn)) (hz z (by simp)).1 hs
  have h2:=sum_add ho (r:=(z.ho,z.hn)) hs
  obtain ⟨i1,i2,i3,i4⟩:=qW4 hg zs _ (fun y hy=>hz y (by simp [hy])) h1
  rw [List.foldl_cons]
  refine ⟨i1,fun r p=>?_,by omega,fun q=>?_⟩
  ·rw [i2 r p,has_add ho hs]
   constructor
   ·rintro ((q | q) | ⟨y,hy,q⟩)
    ·exact .inl q
    ·exact .inr ⟨z,by simp,q⟩
    ·exact .inr ⟨y,by simp [hy],q⟩
   ·rintro (q | ⟨y,hy,q⟩)
    ·exact .inl (.inl q)
    ·rcases List.mem_cons.1 hy with rfl | hy'
     ·exact .inl (.inr q)
     ·exact .inr ⟨y,hy',q⟩
  ·have q1:qS4 o=qS4 (QL8 o (z.ho,z.hn) (byF (ofG gs) z)):=by omega
   have e:=h2.2 q1
   rw [i4 (by omega),e]
theorem sg_step {zs:List qA0} {gs:List GrI} (hz:∀ z∈zs,okR z) (hg:SG gs):SG (qM7 zs gs):=by
 unfold qM7 qM5
 rw [List.take_length]
 exact (qW4 hg zs gs hz hg).1
theorem sg_stepTo {zs:List qA0} {gs:List GrI} (hz:∀ z∈zs,okR z) (hg:SG gs) (k:Nat):SG (qM5 zs gs k) :=
 (qW4 hg (zs.take k) gs (fun z h=>hz z (List.mem_of_mem_take h)) hg).1
theorem has_step {zs:List qA0} {gs:List GrI} (hz:∀ z∈zs,okR z) (hg:SG gs) (r:RoI) (p:Int):qH7 (ofG (qM7 zs gs) r) p=true↔qH7 (ofG gs r) p=true∨∃ z∈zs,(z.ho,z.hn)=r∧qH7 (byF (ofG gs) z) p=true:=by
 unfold qM7 qM5
 rw [List.take_length]
 exact (qW4 hg zs gs hz hg).2.1 r p
theorem sum_step {zs:List qA0} {gs:List GrI} (hz:∀ z∈zs,okR z) (hg:SG gs):qS4 gs≤qS4 (qM7 zs gs)∧(qS4 gs=qS4 (qM7 zs gs)→qM7 zs gs=gs):=by
 unfold qM7 qM5
 rw [List.take_length]
 exact (qW4 hg zs gs hz hg).2.2
def itG (zs:List qA0):Nat→List GrI
 | 0=>[]
 | n+1=>qM7 zs (itG zs n)
theorem QF2 {zs:List qA0} (hz:∀ z∈zs,okR z):∀ n,SG (itG zs n)
 | 0=>sg_nil
 | n+1=>sg_step hz (QF2 hz n)
def InN (zs:List qA0) (n:Nat) (r:RoI) (p:Int):Prop:=qH7 (ofG (itG zs n) r) p=true
theorem QS0 {zs:List qA0} (hz:∀ z∈zs,okR z) (n:Nat) (r:RoI) {p:Int} (hp:1≤p):InN zs (n+1) r p↔InN zs n r p∨∃ z∈zs,(z.ho,z.hn)=r∧qT2 (InN zs n) z p:=by
 unfold InN
 rw [itG,has_step hz (QF2 hz n)]
 refine or_congr_right (exists_congr (fun z=>and_congr_right (fun h=>and_congr_right (fun _=>?_))))
 exact byF_has (qW6 (QF2 hz n)) (hz z h) hp
theorem QG4 {zs:List qA0} (hz:∀ z∈zs,okR z) {n k:Nat} (h:n≤k) {r:RoI} {p:Int} (hp:1≤p) (g:InN zs n r p):InN zs k r p:=by
 induction h with
 | refl=>exact g
 | step _ ih=>exact (QS0 hz _ r hp).2 (.inl ih)
def Has (zs:List qA0) (r:RoI) (p:Int):Prop:=∃ n,InN zs n r p
theorem has_least {zs:List qA0} (hz:∀ z∈zs,okR z) {m:RoI→Int→Prop} (h:∀ z∈zs,∀ p,1≤p→qT2 m z p→m (z.ho,z.hn) p) {r:RoI} {p:Int} (hp:1≤p) (g:Has zs r p):m r p:=by
 obtain ⟨n,g⟩:=g
 induction n generalizing r p with
 | zero=>simp [InN,itG,ofG,QC4] at g
 | succ n ih =>
  rcases (QS0 hz n r hp).1 g with q | ⟨z,h1,h2,h3⟩
  ·exact ih hp q
  ·rw [← h2]
   exact h z h1 p hp (QP3 (fun r p hp q=>ih hp q) hp h3)
theorem gives_has {zs:List qA0} (hz:∀ z∈zs,okR z) {z:qA0} (h:z∈zs) {p:Int} (hp:1≤p) (g:qT2 (Has zs) z p):Has zs (z.ho,z.hn) p:=by
 have key:∃ n,qT2 (InN zs n) z p:=by
  unfold qT2 at g ⊢
  by_cases e1:z.k=1
  ·simp only [if_pos e1] at g ⊢;exact ⟨0,g⟩
  ·simp only [if_neg e1] at g ⊢
   by_cases e2:z.k=2
   ·simp only [if_pos e2] at g ⊢;exact g
   ·simp only [if_neg e2] at g ⊢
    by_cases e4:z.k=4
    ·simp only [if_pos e4] at g ⊢
     obtain ⟨⟨a,ha⟩,b,hb⟩:=g
     exact ⟨a+b,QG4 hz (by omega) hp ha,QG4 hz (by omega) hp hb⟩
    ·simp only [if_neg e4] at g ⊢
     obtain ⟨q,h1,h2,⟨a,ha⟩,b,hb⟩:=g
     exact ⟨a+b,q,h1,h2,QG4 hz (by omega) h1 ha,QG4 hz (by omega) hp hb⟩
 obtain ⟨n,g⟩:=key
 exact ⟨n+1,(QS0 hz n _ hp).2 (.inr ⟨z,h,rfl,g⟩)⟩
structure QH0 (zs:List qA0) (gs:List GrI):Prop where
 sg:SG gs
 al:∀ r p,1≤p→p≤8→(qH7 (ofG gs r) p=true↔Has zs r p)
theorem QL6 {zs:List qA0} {a b:List GrI} (ha:QH0 zs a) (hb:QH0 zs b):a=b:=by
 refine sg_ext ha.sg hb.sg (fun r=>set_ext (qW6 ha.sg r) (qW6 hb.sg r) (fun p h0 h1=>?_))
 rw [Bool.eq_iff_iff,ha.al r p h0 h1,hb.al r p h0 h1]
theorem allG_of {zs:List qA0} (hz:∀ z∈zs,okR z) {gs:List GrI} (hg:SG gs) (hs:∀ r p,1≤p→qH7 (ofG gs r) p=true→Has zs r p) (hc:∀ z∈zs,∀ p,1≤p→qH7 (byF (ofG gs) z) p=true→qH7 (ofG gs (z.ho,z.hn)) p=true):QH0 zs gs:=by
 refine ⟨hg,fun r p h0 _=>⟨hs r p h0,fun g=>?_⟩⟩
 refine has_least (m:=fun r p=>qH7 (ofG gs r) p=true) hz (fun z h p hp q=>?_) h0 g
 exact hc z h p hp ((byF_has (qW6 hg) (hz z h) hp).2 q)
theorem allG_it {zs:List qA0} (hz:∀ z∈zs,okR z) {n:Nat} (h:qM7 zs (itG zs n)=itG zs n):QH0 zs (itG zs n):=by
 refine allG_of hz (QF2 hz n) (fun r p _ q=>⟨n,q⟩) (fun z hzz p _ q=>?_)
 have:=(has_step hz (QF2 hz n) (z.ho,z.hn) p).2 (.inr ⟨z,hzz,rfl,q⟩)
 rw [h] at this
 exact this
theorem it_sum {zs:List qA0} (hz:∀ z∈zs,okR z):∀ (n:Nat),(∀ k,k < n→qM7 zs (itG zs k)≠itG zs k)→(n:Int)≤qS4 (itG zs n)
 | 0,_=>by simp [itG,qS4]
 | n+1,h=>by
  have i:=it_sum hz n (fun k hk=>h k (by omega))
  have s:=sum_step hz (QF2 hz n)
  have : qS4 (itG zs n)≠qS4 (itG zs (n+1)):=fun e=>h n (by omega) (s.2 e)
  have:=s.1
  simp only [itG] at *
  omega
theorem it_bd {zs:List qA0} (hz:∀ z∈zs,okR z) {n:Nat} (h:∀ k,k < n→qM7 zs (itG zs k)≠itG zs k):n≤10200:=by
 have:=it_sum hz n h
 have:=(sum_le (QF2 hz n)).2
 omega
theorem it_ends {zs:List qA0} (hz:∀ z∈zs,okR z):∃ n,n≤10200∧qM7 zs (itG zs n)=itG zs n:=by
 refine Classical.byContradiction (fun hno=>?_)
 have:=it_bd (zs:=zs) hz (n:=10201) (fun k hk e=>hno ⟨k,by omega,e⟩)
 omega

section
def GrAt (w:World) (b o:Nat) (x:GrI):Prop:=w.cell? ⟨b,o,none⟩=some (.int .i64 x.1.1)∧w.cell? ⟨b,o+1,none⟩=some (.int .i64 x.1.2)∧w.cell? ⟨b,o+2,none⟩=some (.int .i64 x.2)
theorem GrAt.below {w w':World} {B b o:Nat} {x:GrI} (h:GrAt w b o x) (hb:Below B w w') (hB:b < B):GrAt w' b o x :=
 ⟨(hb.cell (p:=⟨b,o,none⟩) hB).trans h.1,(hb.cell (p:=⟨b,o+1,none⟩) hB).trans h.2.1,(hb.cell (p:=⟨b,o+2,none⟩) hB).trans h.2.2⟩
def QA5 (w:World) (a:Option Addr) (n:Nat) (gs:List GrI):Prop:=gs.length=n∧(0 < n→∃ b off,a=some ⟨b,off,none⟩∧∀ k x,gs[k]? = some x→GrAt w b (off+k * 3) x)
theorem QA5.below {w w':World} {a:Option Addr} {n:Nat} {gs:List GrI} (h:QA5 w a n gs) (hb:Below w.heap.size w w'):QA5 w' a n gs:=by
 refine ⟨h.1,fun hn=>?_⟩
 obtain ⟨b,off,e,k⟩:=h.2 hn
 exact ⟨b,off,e,fun j x hx=>(k j x hx).below hb (zL w ⟨b,off+j * 3,none⟩ (k j x hx).1)⟩
theorem QA5.at {w:World} {a:Option Addr} {n:Nat} {gs:List GrI} (h:QA5 w a n gs) {k:Nat} (hk:k < n):∃ b off x,a=some ⟨b,off,none⟩∧gs[k]? = some x∧GrAt w b (off+k * 3) x∧b < w.heap.size:=by
 obtain ⟨b,off,e,q⟩:=h.2 (by omega)
 have hx:=List.getElem?_eq_getElem (l:=gs) (i:=k) (by rw [h.1];exact hk)
 exact ⟨b,off,_,e,hx,q k _ hx,zL w ⟨b,off+k * 3,none⟩ (q k _ hx).1⟩
theorem ofG_drop {gs:List GrI} {k:Nat} {x:GrI} (h:gs[k]? = some x) (r:RoI):ofG (gs.drop k) r=if x.1=r then x.2 else ofG (gs.drop (k+1)) r:=by
 have hk:k < gs.length:=by
  by_cases q:k < gs.length
  ·exact q
  ·rw [List.getElem?_eq_none (by omega)] at h;cases h
 have e:gs[k]=x:=by rw [List.getElem?_eq_getElem hk] at h;exact Option.some.inj h
 rw [List.drop_eq_getElem_cons hk,e]
 rfl
def eqRo (p q:RoI):Bool:=p.1==q.1&&p.2==q.2
theorem qS2 (p q:RoI):eqRo p q=true↔p=q:=by
 obtain ⟨a,b⟩:=p
 obtain ⟨c,d⟩:=q
 simp [eqRo]
theorem ro_eql (p q:RoI) (w:World):(binOp .eql 112 (.agg #[.int .i64 p.1,.int .i64 p.2]) (.agg #[.int .i64 q.1,.int .i64 q.2])).run Tryz.prog w = .ok (.bool (eqRo p q)) w:=by
 obtain ⟨a0,a1⟩:=p
 obtain ⟨b0,b1⟩:=q
 simp only [eqRo]
 cases e0:(a0==b0)
 ·simp [go_sem,e0]
 cases e1:(a1==b1)
 ·simp [go_sem,e0,e1]
 ·simp [go_sem,e0,e1]
attribute [local go_sem ↓] ro_eql
theorem QK2 (a:Option Addr) (n c:Nat) (gs:List GrI) (r:RoI) (w:World) (hg:QA5 w a n gs) (hn:n≤1048576) :
  Calls Tryz.prog 153 #[.slice a n c,.agg #[.int .i64 r.1,.int .i64 r.2]] w fun e w'=>e = .returned (.int .i64 (ofG gs r))∧Below w.heap.size w w':=by
 have W0:Hid (QA5 (w.alloc (.cells #[.int .i64 r.1,.int .i64 r.2] 112)) a n gs):=hg.below (zN)
 have R0:Hid ((w.alloc (.cells #[.int .i64 r.1,.int .i64 r.2] 112)).cell? ⟨w.heap.size,0,none⟩=some (.int .i64 r.1)∧(w.alloc (.cells #[.int .i64 r.1,.int .i64 r.2] 112)).cell? ⟨w.heap.size,1,none⟩=some (.int .i64 r.2)):=⟨by simp,by simp⟩
 clear hg
 have hn':(n:Int)≤1048576:=by omega
 go_enter Tryz.func153,Tryz.ntmps153
 go_wp2
 go_loopw [5] (fun i wr=>∃ k:Nat,k≤n∧i = .int .i64 (k:Int)∧ofG gs r=ofG (gs.drop k) r∧∃ m,wr=(w.alloc (.cells #[.int .i64 r.1,.int .i64 r.2] 112)).drewN m) (fun i _=>n - (intOf i).toNat)
 case atStart=>exact ⟨0,Nat.zero_le _,rfl,rfl,0,rfl⟩
 case round =>
  obtain ⟨k,hk,rfl,hof,m,rfl⟩:=hrel
  have HF:Hid (ofG gs r=ofG (gs.drop k) r):=hof
  clear hof
  by_cases hlt:k < n
  ·obtain ⟨b,off,x,e,hx,⟨c0,c1,c2⟩,hbl⟩:=W0.out.at hlt
   obtain ⟨r0,r1⟩:=R0.out
   subst e
   have HX:Hid (gs[k]? = some x):=hx
   clear hx
   have hlt':(k:Int) < (n:Int):=by omega
   cases he:eqRo x.1 r
   ·have HE:Hid (ofG gs r=ofG (gs.drop (k+1)) r):=by
     show ofG gs r=_
     rw [HF.out,ofG_drop HX.out,if_neg (fun q=>by rw [(qS2 _ _).2 q] at he;cases he)]
    go_wp2
    go_quiet (fail)
    go_wp2
    exact ⟨⟨k+1,by omega,by go_num,HE.out,_,rfl⟩,by simp [intOf];omega⟩
   ·have HE:Hid (ofG gs r=x.2):=by
     show ofG gs r=_
     rw [HF.out,ofG_drop HX.out,if_pos ((qS2 _ _).1 he)]
    go_wp2
    go_quiet (fail)
    go_wp2
    go_ret
    exact ⟨by rw [HE.out];rfl,bdN (zN) _⟩
  ·have hkn:k=n:=by omega
   subst hkn
   go_wp2
   go_ret
   have : ofG gs r=0:=by rw [HF.out,List.drop_eq_nil_of_le (by rw [W0.out.1];exact Nat.le_refl _)];rfl
   exact ⟨by rw [this];rfl,bdN (zN) _⟩
end

theorem okR_of {r:qA0} (h:qA5 r=0):okR r∧1≤r.k∧r.k≤4:=by
 unfold qA5 at h
 by_cases hk:1≤r.k∧r.k≤4
 ·rw [if_neg (fun q=>q hk)] at h
  cases hr:qC8 r.ho r.hn
  ·simp [hr] at h
  ·refine ⟨⟨hr,fun e=>?_⟩,hk⟩
   rw [if_neg (by rw [hr];simp)] at h
   cases hb:QL4 r
   ·simp [hb] at h
   ·cases hh:QC5 r
    ·simp [hb,hh] at h
    ·unfold QC5 at hh
     rw [if_pos e] at hh
     simpa [qS8] using hh
 ·rw [if_pos hk] at h;cases h
theorem QI3 {zs:List qA0}:∀ k,qJ7 zs k=0→∀ j z,j < k→zs[j]? = some z→qA5 z=0
 | 0,_,j,_,hj,_=>by omega
 | k+1,h,j,z,hj,hz=>by
  have h0:qJ7 zs k=0:=by
   by_cases q:qJ7 zs k=0
   ·exact q
   ·exact absurd (qP9 zs k (k+1) _ q rfl (by omega)) (by rw [h];exact fun e=>q e.symm)
  by_cases e:j=k
  ·subst e
   by_cases q:qA5 z=0
   ·exact q
   ·rw [QB6 zs j z hz h0 q] at h;exact h
  ·exact QI3 k h0 j z (by omega) hz
theorem pol_ok {zs:List qA0} (h:qC2 zs=0):zs.length≤16∧∀ z∈zs,okR z∧1≤z.k∧z.k≤4:=by
 unfold qC2 at h
 split at h
 ·cases h
 ·refine ⟨by omega,fun z hz=>?_⟩
  obtain ⟨j,hj⟩:=List.mem_iff_getElem?.1 hz
  have hl:j < zs.length:=by
   by_cases q:j < zs.length
   ·exact q
   ·rw [List.getElem?_eq_none (by omega)] at hj;cases hj
  exact okR_of (QI3 _ h j z hl hj)

theorem QB8 {α:Type} [DecidableEq α]:∀ (l L:List α),l.Nodup→(∀ x∈l,x∈L)→l.length≤L.length
 | [],_,_,_=>by simp
 | x::xs,L,h,hs=>by
  have h':=List.nodup_cons.1 h
  have hx:x∈L:=hs x (by simp)
  have:=QB8 xs (L.erase x) h'.2 (fun y hy=>(List.mem_erase_of_ne (fun e=>h'.1 (by rw [← e];exact hy))).2 (hs y (by simp [hy])))
  rw [List.length_erase_of_mem hx] at this
  have : 0 < L.length:=List.length_pos_of_mem hx
  simp only [List.length_cons]
  omega
theorem sum_mono {α:Type} (f g:α→Int):∀ (l:List α),(∀ x∈l,f x≤g x)→(l.map f).sum≤(l.map g).sum
 | [],_=>by simp
 | x::xs,h=>by
  have:=sum_mono f g xs (fun y hy=>h y (by simp [hy]))
  have:=h x (by simp)
  simp only [List.map_cons,List.sum_cons]
  omega
theorem QN6 {α:Type} (f g:α→Int) (a:α):∀ (l:List α),(∀ x∈l,f x≤g x)→a∈l→f a < g a→(l.map f).sum < (l.map g).sum
 | [],_,h,_=>by cases h
 | x::xs,h,ha,hlt=>by
  have hx:=h x (by simp)
  have hm:=sum_mono f g xs (fun y hy=>h y (by simp [hy]))
  simp only [List.map_cons,List.sum_cons]
  rcases List.mem_cons.1 ha with rfl | ha'
  ·omega
  ·have:=QN6 f g a xs (fun y hy=>h y (by simp [hy])) ha' hlt
   omega
def QT9:List RoI:=(List.range 8).flatMap (fun (i:Nat)=>(List.range 5).map (fun (j:Nat)=>((((i:Int)+1),((j:Int)+1)):RoI)))
theorem allRo_len:QT9.length=40:=by decide
theorem QJ2 {r:RoI} (h:qC8 r.1 r.2=true):r∈QT9:=by
 obtain ⟨a,b⟩:=r
 simp [qC8,qS8,qT7] at h
 unfold QT9
 rw [List.mem_flatMap]
 obtain ⟨⟨h1,h2⟩,h3,h4⟩:=h
 obtain ⟨i,rfl⟩:∃ i:Nat,a=(i:Int)+1:=⟨(a - 1).toNat,by omega⟩
 obtain ⟨j,rfl⟩:∃ j:Nat,b=(j:Int)+1:=⟨(b - 1).toNat,by omega⟩
 have hi:i < 8:=by omega
 have hj:j < 5:=by omega
 exact ⟨i,List.mem_range.2 hi,List.mem_map.2 ⟨j,List.mem_range.2 hj,rfl⟩⟩
structure FN (f:RoI→Int):Prop where
 st:∀ r,qJ6 (f r)
 ro:∀ r,f r≠0→qC8 r.1 r.2=true
def zeroF:RoI→Int:=fun _=>0
def qQ9 (f:RoI→Int) (r:RoI) (s:Int):RoI→Int:=fun r'=>if r'=r then orI (f r) s else f r'
theorem fn_zero:FN zeroF:=⟨fun _=>⟨Int.le_refl _,show (0:Int)≤255 by decide⟩,fun _ h=>absurd rfl h⟩
theorem fn_give {f:RoI→Int} (h:FN f) {r:RoI} (hr:qC8 r.1 r.2=true) {s:Int} (hs:qJ6 s):FN (qQ9 f r s):=by
 refine ⟨fun r'=>?_,fun r' hn=>?_⟩
 ·unfold qQ9
  split
  ·exact QW1 (h.st _) hs
  ·exact h.st _
 ·unfold qQ9 at hn
  split at hn
  ·rename_i e;rw [e];exact hr
  ·exact h.ro _ hn
theorem or_same {a b:Int} (ha:qJ6 a) (hb:qJ6 b):orI a b=a↔∀ p,1≤p→qH7 b p=true→qH7 a p=true:=by
 constructor
 ·intro e p _ q
  have:=QK4 ha hb p
  rw [e,q,Bool.or_true] at this
  exact this
 ·intro h
  refine set_ext (QW1 ha hb) ha (fun p h0 _=>?_)
  rw [QK4 ha hb]
  cases q:qH7 b p
  ·simp
  ·rw [h p h0 q];rfl
theorem QK5 {f:RoI→Int} (h:FN f) (r:RoI) {s:Int} (hs:qJ6 s) (r':RoI) (p:Int):qH7 (qQ9 f r s r') p=true↔qH7 (f r') p=true∨(r'=r∧qH7 s p=true):=by
 unfold qQ9
 split
 ·rename_i e
  subst e
  rw [QK4 (h.st _) hs]
  simp
 ·rename_i e
  simp [e]
theorem QX9 {f:RoI→Int} {r:RoI} {s:Int} (e:orI (f r) s=f r):qQ9 f r s=f:=by
 funext r'
 unfold qQ9
 split
 ·rename_i q;subst q;exact e
 ·rfl
theorem sg_keys {f:RoI→Int} (hf:FN f) {rs:List RoI} (hs:SS rs) (hm:∀ r,r∈rs↔f r≠0):SG (rs.map (fun r=>(r,f r)))∧ofG (rs.map (fun r=>(r,f r)))=f:=by
 have h1:SG (rs.map (fun r=>(r,f r))):=by
  refine ⟨List.pairwise_map.2 hs,fun x hx=>?_,fun x hx=>?_⟩
  ·obtain ⟨r,hr,rfl⟩:=List.mem_map.1 hx
   exact hf.ro r ((hm r).1 hr)
  ·obtain ⟨r,hr,rfl⟩:=List.mem_map.1 hx
   have:=(hm r).1 hr
   have:=hf.st r
   unfold qJ6 at this
   show 1≤f r∧f r≤255
   omega
 refine ⟨h1,funext fun r=>?_⟩
 by_cases q:f r=0
 ·rw [q]
  refine ofG_none (fun x hx e=>?_)
  obtain ⟨r',hr,rfl⟩:=List.mem_map.1 hx
  exact (hm r').1 hr (by rw [show r'=r from e];exact q)
 ·exact ofG_mem h1 (x:=(r,f r)) (List.mem_map.2 ⟨r,(hm r).2 q,rfl⟩)
def sumF (f:RoI→Int):Int:=(QT9.map f).sum
theorem sumF_bd {f:RoI→Int} (h:FN f):0≤sumF f∧sumF f≤10200:=by
 have e1:∀ (l:List RoI),0≤(l.map f).sum∧(l.map f).sum≤255 * l.length:=by
  intro l
  induction l with
  | nil=>simp
  | cons x xs ih =>
   have:=h.st x
   unfold qJ6 at this
   simp only [List.map_cons,List.sum_cons,List.length_cons]
   omega
 have:=e1 QT9
 rw [allRo_len] at this
 unfold sumF
 omega
theorem sumF_give {f:RoI→Int} (h:FN f) {r:RoI} (hr:qC8 r.1 r.2=true) {s:Int} (hs:qJ6 s) (hn:orI (f r) s≠f r):sumF f < sumF (qQ9 f r s):=by
 refine QN6 f _ r QT9 (fun x _=>?_) (QJ2 hr) ?_
 ·unfold qQ9
  split
  ·rename_i e;subst e;exact or_le (h.st _) hs
  ·exact Int.le_refl _
 ·have:=or_le (h.st r) hs
  unfold qQ9
  rw [if_pos rfl]
  omega
def qG0 (z:qA0) (h:RoI):Bool:=decide (z.k=3∧z.tn=h.2) || decide (h∈bodyR z)
theorem QW5 {f g:RoI→Int} {n:Int} (h:∀ y,f (y,n)=g (y,n)) (ys:List Int) (k:Nat):qK1 f n ys k=qK1 g n ys k:=by
 have : (fun (o:Int) (y:Int)=>orI o (f (y,n)))=fun o y=>orI o (g (y,n)):=by
  funext o y
  rw [h y]
 unfold qK1
 rw [this]
theorem by_still {f:RoI→Int} {z:qA0} {h:RoI} {s:Int} (hk:1≤z.k∧z.k≤4) (hl:qG0 z h=false):byF (qQ9 f h s) z=byF f z:=by
 unfold qG0 at hl
 rw [Bool.or_eq_false_iff] at hl
 obtain ⟨h1,h2⟩:=hl
 have h1:=of_decide_eq_false h1
 have h2:=of_decide_eq_false h2
 unfold bodyR at h2
 have off:∀ r,r≠h→qQ9 f h s r=f r:=fun r e=>if_neg e
 unfold byF
 by_cases e1:z.k=1
 ·simp only [if_pos e1]
 ·simp only [if_neg e1] at h2 ⊢
  by_cases e2:z.k=2
  ·simp only [if_pos e2]
   rw [if_neg (by omega)] at h2
   exact off _ (fun e=>h2 (by rw [e];simp))
  ·simp only [if_neg e2]
   by_cases e4:z.k=4
   ·simp only [if_pos e4] at h2 ⊢
    rw [off _ (fun e=>h2 (by rw [e];simp)),off _ (fun e=>h2 (by rw [e];simp))]
   ·simp only [if_neg e4] at h2 ⊢
    have e3:z.k=3:=by omega
    rw [off (z.oo,z.on) (fun e=>h2 (by rw [e];simp))]
    exact QW5 (fun y=>off _ (fun e=>h1 ⟨e3,by rw [← e]⟩)) _ _
def qE4 (zs:List qA0) (h:RoI) (ws:List qA0) (k:Nat):List qA0:=(zs.take k).foldl (fun o z=>if qG0 z h=true∧z ∉ o then o++[z] else o) ws
theorem qZ3 {zs:List qA0} {k:Nat} {z:qA0} (e:zs[k]? = some z) (h:RoI) (ws:List qA0):qE4 zs h ws (k+1)=if qG0 z h=true∧z ∉ qE4 zs h ws k then qE4 zs h ws k++[z] else qE4 zs h ws k:=by
 have hk:k < zs.length:=by
  by_cases q:k < zs.length
  ·exact q
  ·rw [List.getElem?_eq_none (by omega)] at e;cases e
 have e:zs[k]=z:=by rw [List.getElem?_eq_getElem hk] at e;exact Option.some.inj e
 rw [qE4,List.take_succ_eq_append_getElem hk,List.foldl_append,e]
 rfl
theorem QA8 (h:RoI) (all:List qA0):∀ (zs ws:List qA0),(∀ z∈zs,z∈all)→(∀ z∈ws,z∈all)→ws.Nodup →
  let o:=zs.foldl (fun o z=>if qG0 z h=true∧z ∉ o then o++[z] else o) ws
  o.Nodup∧(∀ z∈o,z∈all)∧(∀ z∈ws,z∈o)∧(∀ z∈zs,qG0 z h=true→z∈o)
 | [],ws,_,hs,hn=>⟨hn,hs,fun _ q=>q,fun _ q=>by cases q⟩
 | x::xs,ws,hz,hs,hn=>by
  have hx:x∈all:=hz x (by simp)
  by_cases q:qG0 x h=true∧x ∉ ws
  ·have hn':(ws++[x]).Nodup:=List.nodup_append.2 ⟨hn,by simp,fun a ha b hb e=>q.2 (by simp at hb;rw [← hb,← e];exact ha)⟩
   have hs':∀ z∈ws++[x],z∈all:=fun z hzz=>by
    rcases List.mem_append.1 hzz with q | q
    ·exact hs z q
    ·simp at q;rw [q];exact hx
   obtain ⟨i1,i2,i3,i4⟩:=QA8 h all xs (ws++[x]) (fun z hzz=>hz z (by simp [hzz])) hs' hn'
   rw [List.foldl_cons,if_pos q]
   refine ⟨i1,i2,fun z hzz=>i3 z (by simp [hzz]),fun z hzz hl=>?_⟩
   rcases List.mem_cons.1 hzz with rfl | hzz'
   ·exact i3 z (by simp)
   ·exact i4 z hzz' hl
  ·obtain ⟨i1,i2,i3,i4⟩:=QA8 h all xs ws (fun z hzz=>hz z (by simp [hzz])) hs hn
   rw [List.foldl_cons,if_neg q]
   refine ⟨i1,i2,i3,fun z hzz hl=>?_⟩
   rcases List.mem_cons.1 hzz with rfl | hzz'
   ·exact i3 z (Classical.byContradiction fun e=>q ⟨hl,e⟩)
   ·exact i4 z hzz' hl
structure Work (zs:List qA0) (f:RoI→Int) (ws:List qA0):Prop where
 fn:FN f
 has:∀ r p,1≤p→qH7 (f r) p=true→Has zs r p
 sub:∀ z∈ws,z∈zs
 nd:ws.Nodup
 done:∀ z∈zs,z ∉ ws→∀ p,1≤p→qH7 (byF f z) p=true→qH7 (f (z.ho,z.hn)) p=true
theorem Work.len {zs:List qA0} {f:RoI→Int} {ws:List qA0} (h:Work zs f ws):ws.length≤zs.length:=QB8 _ _ h.nd h.sub
theorem work_start {zs:List qA0} (hn:zs.Nodup):Work zs zeroF zs :=
 ⟨fn_zero,fun r p _ q=>by simp [zeroF,QC4] at q,fun _ q=>q,hn,fun z h1 h2=>absurd h1 h2⟩
theorem work_stay {zs:List qA0} {f:RoI→Int} {z:qA0} {ws:List qA0} (h:Work zs f (z::ws)) (hok:okR z) (e:orI (f (z.ho,z.hn)) (byF f z)=f (z.ho,z.hn)):Work zs f ws:=by
 refine ⟨h.fn,h.has,fun x hx=>h.sub x (by simp [hx]),(List.nodup_cons.1 h.nd).2,fun x h1 h2 p hp q=>?_⟩
 by_cases ex:x=z
 ·subst ex
  exact (or_same (h.fn.st _) (QL3 h.fn.st hok)).1 e p hp q
 ·exact h.done x h1 (fun m=>by rcases List.mem_cons.1 m with m | m;exact ex m;exact h2 m) p hp q
theorem work_grow {zs:List qA0} (hz:∀ z∈zs,okR z∧1≤z.k∧z.k≤4) {f:RoI→Int} {z:qA0} {ws:List qA0} (h:Work zs f (z::ws)) :
  Work zs (qQ9 f (z.ho,z.hn) (byF f z)) (qE4 zs (z.ho,z.hn) ws zs.length):=by
 have hok:∀ z∈zs,okR z:=fun z q=>(hz z q).1
 have hzz:z∈zs:=h.sub z (by simp)
 have hs:=QL3 h.fn.st (hok z hzz)
 have hf:=fn_give h.fn (r:=(z.ho,z.hn)) (hok z hzz).1 hs
 have hnd:=List.nodup_cons.1 h.nd
 have w:=QA8 (z.ho,z.hn) zs zs ws (fun _ q=>q) (fun x hx=>h.sub x (by simp [hx])) hnd.2
 have ew:qE4 zs (z.ho,z.hn) ws zs.length=zs.foldl (fun o x=>if qG0 x (z.ho,z.hn)=true∧x ∉ o then o++[x] else o) ws:=by
  unfold qE4
  rw [List.take_length]
 rw [ew]
 obtain ⟨w1,w2,w3,w4⟩:=w
 refine ⟨hf,fun r p hp q=>?_,w2,w1,fun x hx hx2 p hp q=>?_⟩
 ·rcases (QK5 h.fn _ hs r p).1 q with q | ⟨e,q⟩
  ·exact h.has r p hp q
  ·rw [e]
   exact gives_has hok hzz hp (QP3 (fun r p hp q=>h.has r p hp q) hp ((byF_has h.fn.st (hok z hzz) hp).1 q))
 ·have hl:qG0 x (z.ho,z.hn)=false:=by
   cases e:qG0 x (z.ho,z.hn)
   ·rfl
   ·exact absurd (w4 x hx e) hx2
  rw [by_still (hz x hx).2 hl] at q
  by_cases ex:x=z
  ·subst ex
   exact (QK5 h.fn _ hs _ p).2 (.inr ⟨rfl,q⟩)
  ·refine (QK5 h.fn _ hs _ p).2 (.inl (h.done x hx (fun m=>?_) p hp q))
   rcases List.mem_cons.1 m with m | m
   ·exact ex m
   ·exact hx2 (w3 x m)
theorem work_end {zs:List qA0} (hz:∀ z∈zs,okR z) {f:RoI→Int} (h:Work zs f []) {gs:List GrI} (hg:SG gs) (e:ofG gs=f):QH0 zs gs:=by
 subst e
 exact allG_of hz hg h.has (fun z hzz p hp q=>h.done z hzz (by simp) p hp q)

end Go.Proofs.YtlhgjackapdmbaaGreatDoor
