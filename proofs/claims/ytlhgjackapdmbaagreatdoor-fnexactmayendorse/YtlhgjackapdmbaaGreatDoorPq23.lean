/- Contracts. -/
import Derived.Test.YtlhgjackapdmbaaGreatDoorPq05
import Derived.Test.YtlhgjackapdmbaaGreatDoorPq07
import Derived.Test.YtlhgjackapdmbaaGreatDoorPq04
import Derived.Maps.Own
import Derived.Maps.OwnSet
import Derived.Maps.Ext
import Derived.Maps.RangeWalk
import Derived.DeepKeys4
import Derived.WideKeyEntry
namespace Go.Proofs.YtlhgjackapdmbaaGreatDoor
set_option maxRecDepth 100000
set_option maxHeartbeats 8000000
open Go.RowKit
set_option linter.unusedVariables false
set_option linter.unusedSimpArgs false

def qK3 (f:RoI→Int) (n:Int) (ys:List Int) (k:Nat):Int:=(ys.take k).foldl (fun o y=>orI o (f (y,n))) 0
theorem linkTo_zero (f:RoI→Int) (n:Int) (ys:List Int):qK3 f n ys 0=0:=by simp [qK3]
theorem linkTo_succ {ys:List Int} {k:Nat} {y:Int} (h:ys[k]? = some y) (f:RoI→Int) (n:Int):qK3 f n ys (k+1)=orI (qK3 f n ys k) (f (y,n)):=by
 have hk:k < ys.length:=by
  by_cases q:k < ys.length
  ·exact q
  ·rw [List.getElem?_eq_none (by omega)] at h;cases h
 have e:ys[k]=y:=by rw [List.getElem?_eq_getElem hk] at h;exact Option.some.inj h
 rw [qK3,List.take_succ_eq_append_getElem hk,List.foldl_append,e]
 rfl
theorem QC4 {f:RoI→Int} (hf:∀ r,qJ8 (f r)) (n:Int):∀ (ys:List Int) (o:Int),qJ8 o→qJ8 (ys.foldl (fun o y=>orI o (f (y,n))) o)∧∀ p,qH9 (ys.foldl (fun o y=>orI o (f (y,n))) o) p=(qH9 o p || ys.any (fun y=>qH9 (f (y,n)) p))
 | [],o,ho=>⟨ho,fun p=>by simp⟩
 | y::ys,o,ho=>by
  have:=QC4 hf n ys (orI o (f (y,n))) (QW6 ho (hf _))
  refine ⟨this.1,fun p=>?_⟩
  rw [List.foldl_cons,this.2 p,QK8 ho (hf _),List.any_cons,Bool.or_assoc]
theorem linkTo_set {f:RoI→Int} (hf:∀ r,qJ8 (f r)) (n:Int) (ys:List Int) (k:Nat):qJ8 (qK3 f n ys k):=(QC4 hf n (ys.take k) 0 ⟨by omega,by omega⟩).1
theorem qJ6 {s x:Int}:∀ {k:Nat},x∈qB1 s k↔1≤x∧x≤(k:Int)∧qH9 s x=true
 | 0=>by simp [qB1];omega
 | k+1=>by
  unfold qB1
  split
  ·rename_i h
   rw [List.mem_append,List.mem_singleton,qJ6 (k:=k)]
   constructor
   ·rintro (q | rfl)
    ·exact ⟨q.1,by omega,q.2.2⟩
    ·exact ⟨by omega,by omega,h⟩
   ·rintro ⟨q1,q2,q3⟩
    by_cases e:x=(k:Int)+1
    ·exact .inr e
    ·exact .inl ⟨q1,by omega,q3⟩
  ·rename_i h
   rw [qJ6 (k:=k)]
   constructor
   ·rintro ⟨q1,q2,q3⟩
    exact ⟨q1,by omega,q3⟩
   ·rintro ⟨q1,q2,q3⟩
    by_cases e:x=(k:Int)+1
    ·subst e;exact absurd q3 h
    ·exact ⟨q1,by omega,q3⟩
theorem QP2 (s:Int):∀ k,(qB1 s k).length≤k
 | 0=>by simp [qB1]
 | k+1=>by
  have:=QP2 s k
  unfold qB1
  split
  ·simp;omega
  ·omega
def byF (f:RoI→Int) (r:qA0):Int :=
 if r.k=1 then bitI r.w
 else if r.k=2 then f (r.oo,r.on)
 else if r.k=4 then andI (f (r.oo,r.on)) (f (r.to,r.tn))
 else qK3 f r.tn (qB1 (f (r.oo,r.on)) 8) (qB1 (f (r.oo,r.on)) 8).length
def qT5 (m:RoI→Int→Prop) (r:qA0) (p:Int):Prop :=
 if r.k=1 then p=r.w
 else if r.k=2 then m (r.oo,r.on) p
 else if r.k=4 then m (r.oo,r.on) p∧m (r.to,r.tn) p
 else ∃ q,1≤q∧q≤8∧m (r.oo,r.on) q∧m (q,r.tn) p
def okR (r:qA0):Prop:=qC8 r.ho r.hn=true∧(r.k=1→1≤r.w∧r.w≤8)
theorem QL8 {f:RoI→Int} (hf:∀ r,qJ8 (f r)) {r:qA0} (hr:okR r):qJ8 (byF f r):=by
 unfold byF
 split
 ·rename_i e
  exact bit_set (hr.2 e).1 (hr.2 e).2
 ·split
  ·exact hf _
  ·split
   ·exact and_set (hf _) (hf _)
   ·exact linkTo_set hf _ _ _
theorem byF_has {f:RoI→Int} (hf:∀ r,qJ8 (f r)) {r:qA0} (hr:okR r) {p:Int} (hp:1≤p):qH9 (byF f r) p=true↔qT5 (fun r p=>qH9 (f r) p=true) r p:=by
 unfold byF qT5
 split
 ·rename_i e
  rw [hasI_bit (hr.2 e).1 hp]
  simp
 ·split
  ·exact Iff.rfl
  ·split
   ·rw [hasI_and (hf _) (hf _)]
    simp
   ·rw [qK3,List.take_length,(QC4 hf r.tn _ 0 ⟨by omega,by omega⟩).2 p,QC6,Bool.false_or,List.any_eq_true]
    constructor
    ·rintro ⟨q,hq,h⟩
     have:=qJ6.1 hq
     exact ⟨q,this.1,this.2.1,this.2.2,h⟩
    ·rintro ⟨q,h1,h2,h3,h4⟩
     exact ⟨q,qJ6.2 ⟨h1,h2,h3⟩,h4⟩
theorem QP6 {m m':RoI→Int→Prop} (h:∀ r p,1≤p→m r p→m' r p) {r:qA0} {p:Int} (hp:1≤p) (g:qT5 m r p):qT5 m' r p:=by
 unfold qT5 at g ⊢
 split
 ·rename_i e;rw [if_pos e] at g;exact g
 ·rename_i e
  rw [if_neg e] at g
  split
  ·rename_i e;rw [if_pos e] at g;exact h _ _ hp g
  ·rename_i e
   rw [if_neg e] at g
   split
   ·rename_i e;rw [if_pos e] at g;exact ⟨h _ _ hp g.1,h _ _ hp g.2⟩
   ·rename_i e
    rw [if_neg e] at g
    obtain ⟨q,h1,h2,h3,h4⟩:=g
    exact ⟨q,h1,h2,h _ _ h1 h3,h _ _ hp h4⟩
def QM3 (gs:List GrI) (r:RoI) (s:Int):List GrI:=if s=0 then gs else QG6 gs r s
theorem sg_add {gs:List GrI} (h:SG gs) {r:RoI} {s:Int} (hr:qC8 r.1 r.2=true) (hs:qJ8 s):SG (QM3 gs r s):=by
 unfold QM3
 split
 ·exact h
 ·have:=hs.1
  exact sg_ins h hr ⟨by omega,hs.2⟩
theorem has_add {gs:List GrI} (h:SG gs) {r:RoI} {s:Int} (hs:qJ8 s) (r':RoI) (p:Int):qH9 (ofG (QM3 gs r s) r') p=true↔qH9 (ofG gs r') p=true∨(r=r'∧qH9 s p=true):=by
 unfold QM3
 split
 ·rename_i e
  subst e
  simp [QC6]
 ·have:=hs.1
  rw [ofG_ins h ⟨by omega,hs.2⟩]
  split
  ·rename_i e
   subst e
   rw [QK8 (qX1 h _) hs]
   simp
  ·rename_i e
   constructor
   ·exact fun q => .inl q
   ·rintro (q | q)
    ·exact q
    ·exact absurd q.1.symm e
theorem sum_add {gs:List GrI} (h:SG gs) {r:RoI} {s:Int} (hs:qJ8 s):qS7 gs≤qS7 (QM3 gs r s)∧(qS7 gs=qS7 (QM3 gs r s)→QM3 gs r s=gs):=by
 unfold QM3
 split
 ·exact ⟨by omega,fun _=>rfl⟩
 ·have:=hs.1
  exact sum_ins h ⟨by omega,hs.2⟩
def qM8 (zs:List qA0) (gs:List GrI) (k:Nat):List GrI:=(zs.take k).foldl (fun o z=>QM3 o (z.ho,z.hn) (byF (ofG gs) z)) gs
def qN0 (zs:List qA0) (gs:List GrI):List GrI:=qM8 zs gs zs.length
theorem QH9 (zs:List qA0) (gs:List GrI):qM8 zs gs 0=gs:=by simp [qM8]
theorem stepTo_succ {zs:List qA0} {k:Nat} {z:qA0} (h:zs[k]? = some z) (gs:List GrI):qM8 zs gs (k+1)=QM3 (qM8 zs gs k) (z.ho,z.hn) (byF (ofG gs) z):=by
 have hk:k < zs.length:=by
  by_cases q:k < zs.length
  ·exact q
  ·rw [List.getElem?_eq_none (by omega)] at h;cases h
 have e:zs[k]=z:=by rw [List.getElem?_eq_getElem hk] at h;exact Option.some.inj h
 rw [qM8,List.take_succ_eq_append_getElem hk,List.foldl_append,e]
 rfl
theorem qW9 {gs:List GrI} (hg:SG gs):∀ (zs:List qA0) (o:List GrI),(∀ z∈zs,okR z)→SG o →
  SG (zs.foldl (fun o z=>QM3 o (z.ho,z.hn) (byF (ofG gs) z)) o) ∧
  (∀ r p,qH9 (ofG (zs.foldl (fun o z=>QM3 o (z.ho,z.hn) (byF (ofG gs) z)) o) r) p=true↔qH9 (ofG o r) p=true∨∃ z∈zs,(z.ho,z.hn)=r∧qH9 (byF (ofG gs) z) p=true) ∧
  qS7 o≤qS7 (zs.foldl (fun o z=>QM3 o (z.ho,z.hn) (byF (ofG gs) z)) o) ∧
  (qS7 o=qS7 (zs.foldl (fun o z=>QM3 o (z.ho,z.hn) (byF (ofG gs) z)) o)→zs.foldl (fun o z=>QM3 o (z.ho,z.hn) (byF (ofG gs) z)) o=o)
 | [],o,_,ho=>⟨ho,fun r p=>by simp,by simp,by simp⟩
 | z::zs,o,hz,ho=>by
  have hs:=QL8 (qX1 hg) (hz z (by simp))
  have h1:=sg_add ho (r:=(z.ho,z.hn)) (hz z (by simp)).1 hs
  have h2:=sum_add ho (r:=(z.ho,z.hn)) hs
  obtain ⟨i1,i2,i3,i4⟩:=qW9 hg zs _ (fun y hy=>hz y (by simp [hy])) h1
  rw [List.foldl_cons]
  refine ⟨i1,fun r p=>?_,by omega,fun q=>?_⟩
  ·rw [i2 r p,has_add ho hs]
   constructor
   ·rintro ((q | q) | ⟨y,hy,q⟩)
    ·exact .inl q
    ·exact .inr ⟨z,by simp,q⟩
    ·exact .inr ⟨y,by simp [hy],q⟩
   ·rintro (q | ⟨y,hy,q⟩)
    ·exact .inl (.inl q)
    ·rcases List.mem_cons.1 hy with rfl | hy'
     ·exact .inl (.inr q)
     ·exact .inr ⟨y,hy',q⟩
  ·have q1:qS7 o=qS7 (QM3 o (z.ho,z.hn) (byF (ofG gs) z)):=by omega
   have e:=h2.2 q1
   rw [i4 (by omega),e]
theorem sg_step {zs:List qA0} {gs:List GrI} (hz:∀ z∈zs,okR z) (hg:SG gs):SG (qN0 zs gs):=by
 unfold qN0 qM8
 rw [List.take_length]
 exact (qW9 hg zs gs hz hg).1
theorem sg_stepTo {zs:List qA0} {gs:List GrI} (hz:∀ z∈zs,okR z) (hg:SG gs) (k:Nat):SG (qM8 zs gs k) :=
 (qW9 hg (zs.take k) gs (fun z h=>hz z (List.mem_of_mem_take h)) hg).1
theorem has_step {zs:List qA0} {gs:List GrI} (hz:∀ z∈zs,okR z) (hg:SG gs) (r:RoI) (p:Int):qH9 (ofG (qN0 zs gs) r) p=true↔qH9 (ofG gs r) p=true∨∃ z∈zs,(z.ho,z.hn)=r∧qH9 (byF (ofG gs) z) p=true:=by
 unfold qN0 qM8
 rw [List.take_length]
 exact (qW9 hg zs gs hz hg).2.1 r p
theorem sum_step {zs:List qA0} {gs:List GrI} (hz:∀ z∈zs,okR z) (hg:SG gs):qS7 gs≤qS7 (qN0 zs gs)∧(qS7 gs=qS7 (qN0 zs gs)→qN0 zs gs=gs):=by
 unfold qN0 qM8
 rw [List.take_length]
 exact (qW9 hg zs gs hz hg).2.2
def itG (zs:List qA0):Nat→List GrI
 | 0=>[]
 | n+1=>qN0 zs (itG zs n)
theorem QF4 {zs:List qA0} (hz:∀ z∈zs,okR z):∀ n,SG (itG zs n)
 | 0=>sg_nil
 | n+1=>sg_step hz (QF4 hz n)
def InN (zs:List qA0) (n:Nat) (r:RoI) (p:Int):Prop:=qH9 (ofG (itG zs n) r) p=true
theorem QS2 {zs:List qA0} (hz:∀ z∈zs,okR z) (n:Nat) (r:RoI) {p:Int} (hp:1≤p):InN zs (n+1) r p↔InN zs n r p∨∃ z∈zs,(z.ho,z.hn)=r∧qT5 (InN zs n) z p:=by
 unfold InN
 rw [itG,has_step hz (QF4 hz n)]
 refine or_congr_right (exists_congr (fun z=>and_congr_right (fun h=>and_congr_right (fun _=>?_))))
 exact byF_has (qX1 (QF4 hz n)) (hz z h) hp
theorem QG7 {zs:List qA0} (hz:∀ z∈zs,okR z) {n k:Nat} (h:n≤k) {r:RoI} {p:Int} (hp:1≤p) (g:InN zs n r p):InN zs k r p:=by
 induction h with
 | refl=>exact g
 | step _ ih=>exact (QS2 hz _ r hp).2 (.inl ih)
def Has (zs:List qA0) (r:RoI) (p:Int):Prop:=∃ n,InN zs n r p
theorem has_least {zs:List qA0} (hz:∀ z∈zs,okR z) {m:RoI→Int→Prop} (h:∀ z∈zs,∀ p,1≤p→qT5 m z p→m (z.ho,z.hn) p) {r:RoI} {p:Int} (hp:1≤p) (g:Has zs r p):m r p:=by
 obtain ⟨n,g⟩:=g
 induction n generalizing r p with
 | zero=>simp [InN,itG,ofG,QC6] at g
 | succ n ih =>
  rcases (QS2 hz n r hp).1 g with q | ⟨z,h1,h2,h3⟩
  ·exact ih hp q
  ·rw [← h2]
   exact h z h1 p hp (QP6 (fun r p hp q=>ih hp q) hp h3)
theorem gives_has {zs:List qA0} (hz:∀ z∈zs,okR z) {z:qA0} (h:z∈zs) {p:Int} (hp:1≤p) (g:qT5 (Has zs) z p):Has zs (z.ho,z.hn) p:=by
 have key:∃ n,qT5 (InN zs n) z p:=by
  unfold qT5 at g ⊢
  by_cases e1:z.k=1
  ·simp only [if_pos e1] at g ⊢;exact ⟨0,g⟩
  ·simp only [if_neg e1] at g ⊢
   by_cases e2:z.k=2
   ·simp only [if_pos e2] at g ⊢;exact g
   ·simp only [if_neg e2] at g ⊢
    by_cases e4:z.k=4
    ·simp only [if_pos e4] at g ⊢
     obtain ⟨⟨a,ha⟩,b,hb⟩:=g
     exact ⟨a+b,QG7 hz (by omega) hp ha,QG7 hz (by omega) hp hb⟩
    ·simp only [if_neg e4] at g ⊢
     obtain ⟨q,h1,h2,⟨a,ha⟩,b,hb⟩:=g
     exact ⟨a+b,q,h1,h2,QG7 hz (by omega) h1 ha,QG7 hz (by omega) hp hb⟩
 obtain ⟨n,g⟩:=key
 exact ⟨n+1,(QS2 hz n _ hp).2 (.inr ⟨z,h,rfl,g⟩)⟩
structure QH3 (zs:List qA0) (gs:List GrI):Prop where
 sg:SG gs
 al:∀ r p,1≤p→p≤8→(qH9 (ofG gs r) p=true↔Has zs r p)
theorem QM1 {zs:List qA0} {a b:List GrI} (ha:QH3 zs a) (hb:QH3 zs b):a=b:=by
 refine sg_ext ha.sg hb.sg (fun r=>set_ext (qX1 ha.sg r) (qX1 hb.sg r) (fun p h0 h1=>?_))
 rw [Bool.eq_iff_iff,ha.al r p h0 h1,hb.al r p h0 h1]
theorem allG_of {zs:List qA0} (hz:∀ z∈zs,okR z) {gs:List GrI} (hg:SG gs) (hs:∀ r p,1≤p→qH9 (ofG gs r) p=true→Has zs r p) (hc:∀ z∈zs,∀ p,1≤p→qH9 (byF (ofG gs) z) p=true→qH9 (ofG gs (z.ho,z.hn)) p=true):QH3 zs gs:=by
 refine ⟨hg,fun r p h0 _=>⟨hs r p h0,fun g=>?_⟩⟩
 refine has_least (m:=fun r p=>qH9 (ofG gs r) p=true) hz (fun z h p hp q=>?_) h0 g
 exact hc z h p hp ((byF_has (qX1 hg) (hz z h) hp).2 q)
theorem allG_it {zs:List qA0} (hz:∀ z∈zs,okR z) {n:Nat} (h:qN0 zs (itG zs n)=itG zs n):QH3 zs (itG zs n):=by
 refine allG_of hz (QF4 hz n) (fun r p _ q=>⟨n,q⟩) (fun z hzz p _ q=>?_)
 have:=(has_step hz (QF4 hz n) (z.ho,z.hn) p).2 (.inr ⟨z,hzz,rfl,q⟩)
 rw [h] at this
 exact this
theorem it_sum {zs:List qA0} (hz:∀ z∈zs,okR z):∀ (n:Nat),(∀ k,k < n→qN0 zs (itG zs k)≠itG zs k)→(n:Int)≤qS7 (itG zs n)
 | 0,_=>by simp [itG,qS7]
 | n+1,h=>by
  have i:=it_sum hz n (fun k hk=>h k (by omega))
  have s:=sum_step hz (QF4 hz n)
  have : qS7 (itG zs n)≠qS7 (itG zs (n+1)):=fun e=>h n (by omega) (s.2 e)
  have:=s.1
  simp only [itG] at *
  omega
theorem it_bd {zs:List qA0} (hz:∀ z∈zs,okR z) {n:Nat} (h:∀ k,k < n→qN0 zs (itG zs k)≠itG zs k):n≤10200:=by
 have:=it_sum hz n h
 have:=(sum_le (QF4 hz n)).2
 omega
theorem it_ends {zs:List qA0} (hz:∀ z∈zs,okR z):∃ n,n≤10200∧qN0 zs (itG zs n)=itG zs n:=by
 refine Classical.byContradiction (fun hno=>?_)
 have:=it_bd (zs:=zs) hz (n:=10201) (fun k hk e=>hno ⟨k,by omega,e⟩)
 omega

section
def GrAt (w:World) (b o:Nat) (x:GrI):Prop:=w.cell? ⟨b,o,none⟩=some (.int .i64 x.1.1)∧w.cell? ⟨b,o+1,none⟩=some (.int .i64 x.1.2)∧w.cell? ⟨b,o+2,none⟩=some (.int .i64 x.2)
theorem GrAt.below {w w':World} {B b o:Nat} {x:GrI} (h:GrAt w b o x) (hb:Below B w w') (hB:b < B):GrAt w' b o x :=
 ⟨(hb.cell (p:=⟨b,o,none⟩) hB).trans h.1,(hb.cell (p:=⟨b,o+1,none⟩) hB).trans h.2.1,(hb.cell (p:=⟨b,o+2,none⟩) hB).trans h.2.2⟩
def QA9 (w:World) (a:Option Addr) (n:Nat) (gs:List GrI):Prop:=gs.length=n∧(0 < n→∃ b off,a=some ⟨b,off,none⟩∧∀ k x,gs[k]? = some x→GrAt w b (off+k * 3) x)
theorem QA9.below {w w':World} {a:Option Addr} {n:Nat} {gs:List GrI} (h:QA9 w a n gs) (hb:Below w.heap.size w w'):QA9 w' a n gs:=by
 refine ⟨h.1,fun hn=>?_⟩
 obtain ⟨b,off,e,k⟩:=h.2 hn
 exact ⟨b,off,e,fun j x hx=>(k j x hx).below hb (zL w ⟨b,off+j * 3,none⟩ (k j x hx).1)⟩
theorem QA9.at {w:World} {a:Option Addr} {n:Nat} {gs:List GrI} (h:QA9 w a n gs) {k:Nat} (hk:k < n):∃ b off x,a=some ⟨b,off,none⟩∧gs[k]? = some x∧GrAt w b (off+k * 3) x∧b < w.heap.size:=by
 obtain ⟨b,off,e,q⟩:=h.2 (by omega)
 have hx:=List.getElem?_eq_getElem (l:=gs) (i:=k) (by rw [h.1];exact hk)
 exact ⟨b,off,_,e,hx,q k _ hx,zL w ⟨b,off+k * 3,none⟩ (q k _ hx).1⟩
theorem ofG_drop {gs:List GrI} {k:Nat} {x:GrI} (h:gs[k]? = some x) (r:RoI):ofG (gs.drop k) r=if x.1=r then x.2 else ofG (gs.drop (k+1)) r:=by
 have hk:k < gs.length:=by
  by_cases q:k < gs.length
  ·exact q
  ·rw [List.getElem?_eq_none (by omega)] at h;cases h
 have e:gs[k]=x:=by rw [List.getElem?_eq_getElem hk] at h;exact Option.some.inj h
 rw [List.drop_eq_getElem_cons hk,e]
 rfl
def eqRo (p q:RoI):Bool:=p.1==q.1&&p.2==q.2
theorem qS5 (p q:RoI):eqRo p q=true↔p=q:=by
 obtain ⟨a,b⟩:=p
 obtain ⟨c,d⟩:=q
 simp [eqRo]
theorem ro_eql (p q:RoI) (w:World):(binOp .eql 112 (.agg #[.int .i64 p.1,.int .i64 p.2]) (.agg #[.int .i64 q.1,.int .i64 q.2])).run Tryz.prog w = .ok (.bool (eqRo p q)) w:=by
 obtain ⟨a0,a1⟩:=p
 obtain ⟨b0,b1⟩:=q
 simp only [eqRo]
 cases e0:(a0==b0)
 ·simp [go_sem,e0]
 cases e1:(a1==b1)
 ·simp [go_sem,e0,e1]
 ·simp [go_sem,e0,e1]
attribute [local go_sem ↓] ro_eql
theorem QK6 (a:Option Addr) (n c:Nat) (gs:List GrI) (r:RoI) (w:World) (hg:QA9 w a n gs) (hn:n≤1048576) :
  Calls Tryz.prog 153 #[.slice a n c,.agg #[.int .i64 r.1,.int .i64 r.2]] w fun e w'=>e = .returned (.int .i64 (ofG gs r))∧Below w.heap.size w w':=by
 have W0:Hid (QA9 (w.alloc (.cells #[.int .i64 r.1,.int .i64 r.2] 112)) a n gs):=hg.below (zN)
 have R0:Hid ((w.alloc (.cells #[.int .i64 r.1,.int .i64 r.2] 112)).cell? ⟨w.heap.size,0,none⟩=some (.int .i64 r.1)∧(w.alloc (.cells #[.int .i64 r.1,.int .i64 r.2] 112)).cell? ⟨w.heap.size,1,none⟩=some (.int .i64 r.2)):=⟨by simp,by simp⟩
 clear hg
 have hn':(n:Int)≤1048576:=by omega
 go_enter Tryz.func153,Tryz.ntmps153
 go_wp2
 go_loopw [5] (fun i wr=>∃ k:Nat,k≤n∧i = .int .i64 (k:Int)∧ofG gs r=ofG (gs.drop k) r∧∃ m,wr=(w.alloc (.cells #[.int .i64 r.1,.int .i64 r.2] 112)).drewN m) (fun i _=>n - (intOf i).toNat)
 case atStart=>exact ⟨0,Nat.zero_le _,rfl,rfl,0,rfl⟩
 case round =>
  obtain ⟨k,hk,rfl,hof,m,rfl⟩:=hrel
  have HF:Hid (ofG gs r=ofG (gs.drop k) r):=hof
  clear hof
  by_cases hlt:k < n
  ·obtain ⟨b,off,x,e,hx,⟨c0,c1,c2⟩,hbl⟩:=W0.out.at hlt
   obtain ⟨r0,r1⟩:=R0.out
   subst e
   have HX:Hid (gs[k]? = some x):=hx
   clear hx
   have hlt':(k:Int) < (n:Int):=by omega
   cases he:eqRo x.1 r
   ·have HE:Hid (ofG gs r=ofG (gs.drop (k+1)) r):=by
     show ofG gs r=_
     rw [HF.out,ofG_drop HX.out,if_neg (fun q=>by rw [(qS5 _ _).2 q] at he;cases he)]
    go_wp2
    go_quiet (fail)
    go_wp2
    exact ⟨⟨k+1,by omega,by go_num,HE.out,_,rfl⟩,by simp [intOf];omega⟩
   ·have HE:Hid (ofG gs r=x.2):=by
     show ofG gs r=_
     rw [HF.out,ofG_drop HX.out,if_pos ((qS5 _ _).1 he)]
    go_wp2
    go_quiet (fail)
    go_wp2
    go_ret
    exact ⟨by rw [HE.out];rfl,bdN (zN) _⟩
  ·have hkn:k=n:=by omega
   subst hkn
   go_wp2
   go_ret
   have : ofG gs r=0:=by rw [HF.out,List.drop_eq_nil_of_le (by rw [W0.out.1];exact Nat.le_refl _)];rfl
   exact ⟨by rw [this];rfl,bdN (zN) _⟩
end

theorem okR_of {r:qA0} (h:qA7 r=0):okR r∧1≤r.k∧r.k≤4:=by
 unfold qA7 at h
 by_cases hk:1≤r.k∧r.k≤4
 ·rw [if_neg (fun q=>q hk)] at h
  cases hr:qC8 r.ho r.hn
  ·simp [hr] at h
  ·refine ⟨⟨hr,fun e=>?_⟩,hk⟩
   rw [if_neg (by rw [hr];simp)] at h
   cases hb:QL9 r
   ·simp [hb] at h
   ·cases hh:QC7 r
    ·simp [hb,hh] at h
    ·unfold QC7 at hh
     rw [if_pos e] at hh
     simpa [qT1] using hh
 ·rw [if_pos hk] at h;cases h
theorem QI7 {zs:List qA0}:∀ k,qJ9 zs k=0→∀ j z,j < k→zs[j]? = some z→qA7 z=0
 | 0,_,j,_,hj,_=>by omega
 | k+1,h,j,z,hj,hz=>by
  have h0:qJ9 zs k=0:=by
   by_cases q:qJ9 zs k=0
   ·exact q
   ·exact absurd (qQ2 zs k (k+1) _ q rfl (by omega)) (by rw [h];exact fun e=>q e.symm)
  by_cases e:j=k
  ·subst e
   by_cases q:qA7 z=0
   ·exact q
   ·rw [QB9 zs j z hz h0 q] at h;exact h
  ·exact QI7 k h0 j z (by omega) hz
theorem pol_ok {zs:List qA0} (h:qC4 zs=0):zs.length≤16∧∀ z∈zs,okR z∧1≤z.k∧z.k≤4:=by
 unfold qC4 at h
 split at h
 ·cases h
 ·refine ⟨by omega,fun z hz=>?_⟩
  obtain ⟨j,hj⟩:=List.mem_iff_getElem?.1 hz
  have hl:j < zs.length:=by
   by_cases q:j < zs.length
   ·exact q
   ·rw [List.getElem?_eq_none (by omega)] at hj;cases hj
  exact okR_of (QI7 _ h j z hl hj)

theorem QC1 {α:Type} [DecidableEq α]:∀ (l L:List α),l.Nodup→(∀ x∈l,x∈L)→l.length≤L.length
 | [],_,_,_=>by simp
 | x::xs,L,h,hs=>by
  have h':=List.nodup_cons.1 h
  have hx:x∈L:=hs x (by simp)
  have:=QC1 xs (L.erase x) h'.2 (fun y hy=>(List.mem_erase_of_ne (fun e=>h'.1 (by rw [← e];exact hy))).2 (hs y (by simp [hy])))
  rw [List.length_erase_of_mem hx] at this
  have : 0 < L.length:=List.length_pos_of_mem hx
  simp only [List.length_cons]
  omega
theorem sum_mono {α:Type} (f g:α→Int):∀ (l:List α),(∀ x∈l,f x≤g x)→(l.map f).sum≤(l.map g).sum
 | [],_=>by simp
 | x::xs,h=>by
  have:=sum_mono f g xs (fun y hy=>h y (by simp [hy]))
  have:=h x (by simp)
  simp only [List.map_cons,List.sum_cons]
  omega
theorem QN9 {α:Type} (f g:α→Int) (a:α):∀ (l:List α),(∀ x∈l,f x≤g x)→a∈l→f a < g a→(l.map f).sum < (l.map g).sum
 | [],_,h,_=>by cases h
 | x::xs,h,ha,hlt=>by
  have hx:=h x (by simp)
  have hm:=sum_mono f g xs (fun y hy=>h y (by simp [hy]))
  simp only [List.map_cons,List.sum_cons]
  rcases List.mem_cons.1 ha with rfl | ha'
  ·omega
  ·have:=QN9 f g a xs (fun y hy=>h y (by simp [hy])) ha' hlt
   omega
def QU3:List RoI:=(List.range 8).flatMap (fun (i:Nat)=>(List.range 5).map (fun (j:Nat)=>((((i:Int)+1),((j:Int)+1)):RoI)))
theorem allRo_len:QU3.length=40:=by decide
theorem QJ6 {r:RoI} (h:qC8 r.1 r.2=true):r∈QU3:=by
 obtain ⟨a,b⟩:=r
 simp [qC8,qT1,qU0] at h
 unfold QU3
 rw [List.mem_flatMap]
 obtain ⟨⟨h1,h2⟩,h3,h4⟩:=h
 obtain ⟨i,rfl⟩:∃ i:Nat,a=(i:Int)+1:=⟨(a - 1).toNat,by omega⟩
 obtain ⟨j,rfl⟩:∃ j:Nat,b=(j:Int)+1:=⟨(b - 1).toNat,by omega⟩
 have hi:i < 8:=by omega
 have hj:j < 5:=by omega
 exact ⟨i,List.mem_range.2 hi,List.mem_map.2 ⟨j,List.mem_range.2 hj,rfl⟩⟩
structure FN (f:RoI→Int):Prop where
 st:∀ r,qJ8 (f r)
 ro:∀ r,f r≠0→qC8 r.1 r.2=true
def zeroF:RoI→Int:=fun _=>0
def qR2 (f:RoI→Int) (r:RoI) (s:Int):RoI→Int:=fun r'=>if r'=r then orI (f r) s else f r'
theorem fn_zero:FN zeroF:=⟨fun _=>⟨Int.le_refl _,show (0:Int)≤255 by decide⟩,fun _ h=>absurd rfl h⟩
theorem fn_give {f:RoI→Int} (h:FN f) {r:RoI} (hr:qC8 r.1 r.2=true) {s:Int} (hs:qJ8 s):FN (qR2 f r s):=by
 refine ⟨fun r'=>?_,fun r' hn=>?_⟩
 ·unfold qR2
  split
  ·exact QW6 (h.st _) hs
  ·exact h.st _
 ·unfold qR2 at hn
  split at hn
  ·rename_i e;rw [e];exact hr
  ·exact h.ro _ hn
theorem or_same {a b:Int} (ha:qJ8 a) (hb:qJ8 b):orI a b=a↔∀ p,1≤p→qH9 b p=true→qH9 a p=true:=by
 constructor
 ·intro e p _ q
  have:=QK8 ha hb p
  rw [e,q,Bool.or_true] at this
  exact this
 ·intro h
  refine set_ext (QW6 ha hb) ha (fun p h0 _=>?_)
  rw [QK8 ha hb]
  cases q:qH9 b p
  ·simp
  ·rw [h p h0 q];rfl
theorem QK9 {f:RoI→Int} (h:FN f) (r:RoI) {s:Int} (hs:qJ8 s) (r':RoI) (p:Int):qH9 (qR2 f r s r') p=true↔qH9 (f r') p=true∨(r'=r∧qH9 s p=true):=by
 unfold qR2
 split
 ·rename_i e
  subst e
  rw [QK8 (h.st _) hs]
  simp
 ·rename_i e
  simp [e]
theorem QY3 {f:RoI→Int} {r:RoI} {s:Int} (e:orI (f r) s=f r):qR2 f r s=f:=by
 funext r'
 unfold qR2
 split
 ·rename_i q;subst q;exact e
 ·rfl
theorem sg_keys {f:RoI→Int} (hf:FN f) {rs:List RoI} (hs:SS rs) (hm:∀ r,r∈rs↔f r≠0):SG (rs.map (fun r=>(r,f r)))∧ofG (rs.map (fun r=>(r,f r)))=f:=by
 have h1:SG (rs.map (fun r=>(r,f r))):=by
  refine ⟨List.pairwise_map.2 hs,fun x hx=>?_,fun x hx=>?_⟩
  ·obtain ⟨r,hr,rfl⟩:=List.mem_map.1 hx
   exact hf.ro r ((hm r).1 hr)
  ·obtain ⟨r,hr,rfl⟩:=List.mem_map.1 hx
   have:=(hm r).1 hr
   have:=hf.st r
   unfold qJ8 at this
   show 1≤f r∧f r≤255
   omega
 refine ⟨h1,funext fun r=>?_⟩
 by_cases q:f r=0
 ·rw [q]
  refine ofG_none (fun x hx e=>?_)
  obtain ⟨r',hr,rfl⟩:=List.mem_map.1 hx
  exact (hm r').1 hr (by rw [show r'=r from e];exact q)
 ·exact ofG_mem h1 (x:=(r,f r)) (List.mem_map.2 ⟨r,(hm r).2 q,rfl⟩)
def sumF (f:RoI→Int):Int:=(QU3.map f).sum
theorem sumF_bd {f:RoI→Int} (h:FN f):0≤sumF f∧sumF f≤10200:=by
 have e1:∀ (l:List RoI),0≤(l.map f).sum∧(l.map f).sum≤255 * l.length:=by
  intro l
  induction l with
  | nil=>simp
  | cons x xs ih =>
   have:=h.st x
   unfold qJ8 at this
   simp only [List.map_cons,List.sum_cons,List.length_cons]
   omega
 have:=e1 QU3
 rw [allRo_len] at this
 unfold sumF
 omega
theorem sumF_give {f:RoI→Int} (h:FN f) {r:RoI} (hr:qC8 r.1 r.2=true) {s:Int} (hs:qJ8 s) (hn:orI (f r) s≠f r):sumF f < sumF (qR2 f r s):=by
 refine QN9 f _ r QU3 (fun x _=>?_) (QJ6 hr) ?_
 ·unfold qR2
  split
  ·rename_i e;subst e;exact or_le (h.st _) hs
  ·exact Int.le_refl _
 ·have:=or_le (h.st r) hs
  unfold qR2
  rw [if_pos rfl]
  omega
def qG1 (z:qA0) (h:RoI):Bool:=decide (z.k=3∧z.tn=h.2) || decide (h∈bodyR z)
theorem QX0 {f g:RoI→Int} {n:Int} (h:∀ y,f (y,n)=g (y,n)) (ys:List Int) (k:Nat):qK3 f n ys k=qK3 g n ys k:=by
 have : (fun (o:Int) (y:Int)=>orI o (f (y,n)))=fun o y=>orI o (g (y,n)):=by
  funext o y
  rw [h y]
 unfold qK3
 rw [this]
theorem by_still {f:RoI→Int} {z:qA0} {h:RoI} {s:Int} (hk:1≤z.k∧z.k≤4) (hl:qG1 z h=false):byF (qR2 f h s) z=byF f z:=by
 unfold qG1 at hl
 rw [Bool.or_eq_false_iff] at hl
 obtain ⟨h1,h2⟩:=hl
 have h1:=of_decide_eq_false h1
 have h2:=of_decide_eq_false h2
 unfold bodyR at h2
 have off:∀ r,r≠h→qR2 f h s r=f r:=fun r e=>if_neg e
 unfold byF
 by_cases e1:z.k=1
 ·simp only [if_pos e1]
 ·simp only [if_neg e1] at h2 ⊢
  by_cases e2:z.k=2
  ·simp only [if_pos e2]
   rw [if_neg (by omega)] at h2
   exact off _ (fun e=>h2 (by rw [e];simp))
  ·simp only [if_neg e2]
   by_cases e4:z.k=4
   ·simp only [if_pos e4] at h2 ⊢
    rw [off _ (fun e=>h2 (by rw [e];simp)),off _ (fun e=>h2 (by rw [e];simp))]
   ·simp only [if_neg e4] at h2 ⊢
    have e3:z.k=3:=by omega
    rw [off (z.oo,z.on) (fun e=>h2 (by rw [e];simp))]
    exact QX0 (fun y=>off _ (fun e=>h1 ⟨e3,by rw [← e]⟩)) _ _
def qE6 (zs:List qA0) (h:RoI) (ws:List qA0) (k:Nat):List qA0:=(zs.take k).foldl (fun o z=>if qG1 z h=true∧z ∉ o then o++[z] else o) ws
theorem qZ7 {zs:List qA0} {k:Nat} {z:qA0} (e:zs[k]? = some z) (h:RoI) (ws:List qA0):qE6 zs h ws (k+1)=if qG1 z h=true∧z ∉ qE6 zs h ws k then qE6 zs h ws k++[z] else qE6 zs h ws k:=by
 have hk:k < zs.length:=by
  by_cases q:k < zs.length
  ·exact q
  ·rw [List.getElem?_eq_none (by omega)] at e;cases e
 have e:zs[k]=z:=by rw [List.getElem?_eq_getElem hk] at e;exact Option.some.inj e
 rw [qE6,List.take_succ_eq_append_getElem hk,List.foldl_append,e]
 rfl
theorem QB2 (h:RoI) (all:List qA0):∀ (zs ws:List qA0),(∀ z∈zs,z∈all)→(∀ z∈ws,z∈all)→ws.Nodup →
  let o:=zs.foldl (fun o z=>if qG1 z h=true∧z ∉ o then o++[z] else o) ws
  o.Nodup∧(∀ z∈o,z∈all)∧(∀ z∈ws,z∈o)∧(∀ z∈zs,qG1 z h=true→z∈o)
 | [],ws,_,hs,hn=>⟨hn,hs,fun _ q=>q,fun _ q=>by cases q⟩
 | x::xs,ws,hz,hs,hn=>by
  have hx:x∈all:=hz x (by simp)
  by_cases q:qG1 x h=true∧x ∉ ws
  ·have hn':(ws++[x]).Nodup:=List.nodup_append.2 ⟨hn,by simp,fun a ha b hb e=>q.2 (by simp at hb;rw [← hb,← e];exact ha)⟩
   have hs':∀ z∈ws++[x],z∈all:=fun z hzz=>by
    rcases List.mem_append.1 hzz with q | q
    ·exact hs z q
    ·simp at q;rw [q];exact hx
   obtain ⟨i1,i2,i3,i4⟩:=QB2 h all xs (ws++[x]) (fun z hzz=>hz z (by simp [hzz])) hs' hn'
   rw [List.foldl_cons,if_pos q]
   refine ⟨i1,i2,fun z hzz=>i3 z (by simp [hzz]),fun z hzz hl=>?_⟩
   rcases List.mem_cons.1 hzz with rfl | hzz'
   ·exact i3 z (by simp)
   ·exact i4 z hzz' hl
  ·obtain ⟨i1,i2,i3,i4⟩:=QB2 h all xs ws (fun z hzz=>hz z (by simp [hzz])) hs hn
   rw [List.foldl_cons,if_neg q]
   refine ⟨i1,i2,i3,fun z hzz hl=>?_⟩
   rcases List.mem_cons.1 hzz with rfl | hzz'
   ·exact i3 z (Classical.byContradiction fun e=>q ⟨hl,e⟩)
   ·exact i4 z hzz' hl
structure Work (zs:List qA0) (f:RoI→Int) (ws:List qA0):Prop where
 fn:FN f
 has:∀ r p,1≤p→qH9 (f r) p=true→Has zs r p
 sub:∀ z∈ws,z∈zs
 nd:ws.Nodup
 done:∀ z∈zs,z ∉ ws→∀ p,1≤p→qH9 (byF f z) p=true→qH9 (f (z.ho,z.hn)) p=true
theorem Work.len {zs:List qA0} {f:RoI→Int} {ws:List qA0} (h:Work zs f ws):ws.length≤zs.length:=QC1 _ _ h.nd h.sub
theorem work_start {zs:List qA0} (hn:zs.Nodup):Work zs zeroF zs :=
 ⟨fn_zero,fun r p _ q=>by simp [zeroF,QC6] at q,fun _ q=>q,hn,fun z h1 h2=>absurd h1 h2⟩
theorem work_stay {zs:List qA0} {f:RoI→Int} {z:qA0} {ws:List qA0} (h:Work zs f (z::ws)) (hok:okR z) (e:orI (f (z.ho,z.hn)) (byF f z)=f (z.ho,z.hn)):Work zs f ws:=by
 refine ⟨h.fn,h.has,fun x hx=>h.sub x (by simp [hx]),(List.nodup_cons.1 h.nd).2,fun x h1 h2 p hp q=>?_⟩
 by_cases ex:x=z
 ·subst ex
  exact (or_same (h.fn.st _) (QL8 h.fn.st hok)).1 e p hp q
 ·exact h.done x h1 (fun m=>by rcases List.mem_cons.1 m with m | m;exact ex m;exact h2 m) p hp q
theorem work_grow {zs:List qA0} (hz:∀ z∈zs,okR z∧1≤z.k∧z.k≤4) {f:RoI→Int} {z:qA0} {ws:List qA0} (h:Work zs f (z::ws)) :
  Work zs (qR2 f (z.ho,z.hn) (byF f z)) (qE6 zs (z.ho,z.hn) ws zs.length):=by
 have hok:∀ z∈zs,okR z:=fun z q=>(hz z q).1
 have hzz:z∈zs:=h.sub z (by simp)
 have hs:=QL8 h.fn.st (hok z hzz)
 have hf:=fn_give h.fn (r:=(z.ho,z.hn)) (hok z hzz).1 hs
 have hnd:=List.nodup_cons.1 h.nd
 have w:=QB2 (z.ho,z.hn) zs zs ws (fun _ q=>q) (fun x hx=>h.sub x (by simp [hx])) hnd.2
 have ew:qE6 zs (z.ho,z.hn) ws zs.length=zs.foldl (fun o x=>if qG1 x (z.ho,z.hn)=true∧x ∉ o then o++[x] else o) ws:=by
  unfold qE6
  rw [List.take_length]
 rw [ew]
 obtain ⟨w1,w2,w3,w4⟩:=w
 refine ⟨hf,fun r p hp q=>?_,w2,w1,fun x hx hx2 p hp q=>?_⟩
 ·rcases (QK9 h.fn _ hs r p).1 q with q | ⟨e,q⟩
  ·exact h.has r p hp q
  ·rw [e]
   exact gives_has hok hzz hp (QP6 (fun r p hp q=>h.has r p hp q) hp ((byF_has h.fn.st (hok z hzz) hp).1 q))
 ·have hl:qG1 x (z.ho,z.hn)=false:=by
   cases e:qG1 x (z.ho,z.hn)
   ·rfl
   ·exact absurd (w4 x hx e) hx2
  rw [by_still (hz x hx).2 hl] at q
  by_cases ex:x=z
  ·subst ex
   exact (QK9 h.fn _ hs _ p).2 (.inr ⟨rfl,q⟩)
  ·refine (QK9 h.fn _ hs _ p).2 (.inl (h.done x hx (fun m=>?_) p hp q))
   rcases List.mem_cons.1 m with m | m
   ·exact ex m
   ·exact hx2 (w3 x m)
theorem work_end {zs:List qA0} (hz:∀ z∈zs,okR z) {f:RoI→Int} (h:Work zs f []) {gs:List GrI} (hg:SG gs) (e:ofG gs=f):QH3 zs gs:=by
 subst e
 exact allG_of hz hg h.has (fun z hzz p hp q=>h.done z hzz (by simp) p hp q)

section
open Go.RowKit Go.Maps
open Go.ChangeMaps (setBlock heap_setBlock_same heap_setBlock_other)
theorem QE5:Tryz.prog.underlying 240=some (.map 112 220):=by kernel_rfl
theorem mp_set:Tryz.prog.underlying 220=some (.int .u8):=by kernel_rfl
theorem mp_laid:laidOutB Tryz.prog=true:=by kernel_rfl
theorem mp_row:(112:TypeId) < Tryz.prog.types.size:=of_decide_eq_true (by kernel_rfl)
theorem mp_kt:Tryz.prog.keyTypeAt 2 112=true:=by kernel_rfl
theorem mp_lim:2+1≤10000:=by omega
theorem qV8:WideMaps.KeyLaw Tryz.prog 112:=by
 refine deep_law_laid (m:=2) mp_laid mp_lim mp_row mp_kt ?_
 rw [Tryz.underlying112]
theorem QG3:Keyed Tryz.prog 112:=Keyed.of_law qV8
theorem QR6 (w:World):(zeroValue 220).run Tryz.prog w = .ok (.int .u8 0) w:=by kernel_rfl
theorem QR7:Tryz.prog.cellsOf 112=2:=by kernel_rfl
theorem mp_cell1:Tryz.prog.cellsOf 2=1:=by kernel_rfl
theorem mp_keyT:Tryz.prog.keyType 112=true:=by kernel_rfl
theorem mp_types:∃ d,Tryz.prog.types.size+1=d+2:=by
 have h:112 < Tryz.prog.types.size:=mp_row
 generalize Tryz.prog.types.size=n at h ⊢
 exact ⟨n - 1,by omega⟩
abbrev roV (r:RoI):Value:=.agg #[.int .i64 r.1,.int .i64 r.2]
def roW (r:RoI):Prop:=(Lit.int .i64 r.1).wf=true∧(Lit.int .i64 r.2).wf=true
def keyL (r:RoI):Lit:=.string (keyBytes [.int .i64 r.1,.int .i64 r.2])
theorem QI3 {r:RoI} (h:qC8 r.1 r.2=true):roW r:=by
 simp [qC8,qT1,qU0] at h
 constructor
 ·simp [Lit.wf,IntKind.min,IntKind.max,IntKind.signed,IntKind.bits];omega
 ·simp [Lit.wf,IntKind.min,IntKind.max,IntKind.signed,IntKind.bits];omega
theorem QS0 (d:Nat) (v:Value):Tryz.prog.keyLits (d+1) 2 [v]=match v with | .int q n=>if q = .i64∧(Lit.int .i64 n).wf=true then some [.int .i64 n] else none | _=>none:=by
 cases v <;> simp [Program.keyLits,Tryz.underlying2]
theorem key_lits (d:Nat) (a b:Value):Tryz.prog.keyLits (d+2) 112 [a,b]=(Tryz.prog.keyLits (d+1) 2 [a]).bind fun x=>(Tryz.prog.keyLits (d+1) 2 [b]).map fun y=>x++y:=by
 generalize hx:Tryz.prog.keyLits (d+1) 2 [a]=x
 generalize hy:Tryz.prog.keyLits (d+1) 2 [b]=y
 conv=>lhs;unfold Program.keyLits
 simp only [Tryz.underlying112]
 simp [QR7,mp_cell1,List.mapM_cons,hx,hy]
 cases x <;> simp
 cases y <;> simp
theorem qP2 {r:RoI} (h:roW r):keyOf Tryz.prog 112 (roV r)=some (keyL r):=by
 obtain ⟨d,hd⟩:=mp_types
 unfold keyOf
 simp only [Tryz.underlying112]
 simp [mp_keyT,Value.formed,Tryz.underlying112,QR7,Value.cells,hd,key_lits,QS0,h.1,h.2,keyL]
theorem key_inv {v:Value} {kl:Lit} (h:keyOf Tryz.prog 112 v=some kl):∃ r,roW r∧v=roV r∧kl=keyL r:=by
 obtain ⟨d,hd⟩:=mp_types
 unfold keyOf at h
 simp only [Tryz.underlying112] at h
 split at h
 ·rename_i hc
  rw [Bool.and_eq_true] at hc
  have hf:=hc.2
  cases v <;> simp [Value.formed,Tryz.underlying112,QR7] at hf
  rename_i xs
  obtain ⟨a,b,rfl⟩:∃ a b,xs = #[a,b]:=by
   rcases xs with ⟨l⟩
   match l,hf with
   | [a,b],_=>exact ⟨a,b,rfl⟩
  rw [hd,show (Value.cells (.agg #[a,b])).toList=[a,b] from rfl,key_lits,QS0,QS0] at h
  obtain ⟨ls,h1,rfl⟩:=Option.map_eq_some_iff.1 h
  obtain ⟨l1,hx,h2⟩:=Option.bind_eq_some_iff.1 h1
  obtain ⟨l2,hy,rfl⟩:=Option.map_eq_some_iff.1 h2
  cases a <;> simp at hx
  cases b <;> simp at hy
  obtain ⟨⟨rfl,wx⟩,rfl⟩:=hx
  obtain ⟨⟨rfl,wy⟩,rfl⟩:=hy
  exact ⟨(_,_),⟨wx,wy⟩,rfl,rfl⟩
 ·cases h
theorem keyL_inj {a b:RoI} (ha:roW a) (hb:roW b) (h:keyL a=keyL b):a=b:=by
 have:=QG3.inj (qP2 ha) (h ▸ qP2 hb)
 simp at this
 exact Prod.ext this.1 this.2
theorem QS1 (r:RoI):WideAt.IsKeyLit (keyL r):=trivial
structure View (D:DataW Unit) (f:RoI→Int):Prop where
 at':∀ r,roW r→D.atKey (keyL r) (.lit (.int .u8 0)) = .lit (.int .u8 (f r))
 has:∀ r,roW r→Maps.has D (keyL r)=decide (f r≠0)
noncomputable abbrev elU:Value→Option (DataW Unit × List MemPlace):=plainElem Tryz.prog 220
theorem elU_int {s:Int} (h:qJ8 s):elU (.int .u8 s)=some (.lit (.int .u8 s),[]):=by
 refine plainElem_int mp_set ?_
 have:=h.1
 have:=h.2
 simp [Lit.wf,IntKind.min,IntKind.max,IntKind.signed,IntKind.bits]
 omega
def GM (w:World) (b:Nat) (f:RoI→Int):Prop:=FN f∧∃ D n,w.ownsMap Tryz.prog 112 elU b n D∧View D f
theorem GM.fn {w:World} {b:Nat} {f:RoI→Int} (h:GM w b f):FN f:=h.1
theorem GM.lt {w:World} {b:Nat} {f:RoI→Int} (h:GM w b f):b < w.heap.size:=by
 obtain ⟨_,D,n,ho,_⟩:=h
 exact ho.lt
theorem qO9 {w w':World} {b b':Nat} {f:RoI→Int} (h:GM w b f) (e:w'.heap[b']? = w.heap[b]?):GM w' b' f:=by
 obtain ⟨h1,D,n,⟨es,clock,hb,F,hs,hD⟩,hv⟩:=h
 exact ⟨h1,D,n,⟨es,clock,e.trans hb,F,hs,hD⟩,hv⟩
theorem GM.below {w w':World} {b k:Nat} {f:RoI→Int} (h:GM w b f) (hk:b < k) (hb:Below k w w'):GM w' b f:=qO9 h (hb.block b hk)
theorem own_size {w:World} {b n:Nat} {D:DataW Unit} {f:RoI→Int} (hf:FN f) (ho:w.ownsMap Tryz.prog 112 elU b n D) (hv:View D f):w.ownsMap Tryz.prog 112 elU b 40 D∧Maps.size D≤40:=by
 obtain ⟨es',hD',hne,_⟩:=ho.entries QG3
 obtain ⟨es,clock,hb,F,hs,hD⟩:=ho
 have hlen:Maps.size D=es.size:=by
  rw [hD]
  show ((es.toList.map _).foldr DataW.insert []).length=_
  rw [length_sorted]
  simp
 have hkeys:∀ p∈es',∃ r,qC8 r.1 r.2=true∧p.1=keyL r:=by
  intro p hp
  have hp':p∈es.toList.map (WideElems.rg Tryz.prog 112 elU):=by
   rw [hD] at hD'
   have:=(DataW.map.inj hD').symm
   rw [this] at hp
   exact mem_sorted.1 hp
  obtain ⟨v,hvv⟩:=fit_keys F p hp'
  obtain ⟨r,hr,_,e⟩:=key_inv hvv
  refine ⟨r,?_,e⟩
  refine hf.ro r ?_
  have h1:=hv.has r hr
  rw [hD',has_eq] at h1
  have : (es'.any fun p=>p.1.sameKey (keyL r))=true:=List.any_eq_true.2 ⟨p,hp,by rw [e];exact WideAt.sameKey_self (QS1 r)⟩
  rw [this] at h1
  exact of_decide_eq_true h1.symm
 have h40:es'.length≤40:=by
  have hnd:(es'.map Prod.fst).Nodup:=List.pairwise_map.2 hne
  have:=@QC1 Lit (fun _ _=>Classical.propDecidable _) (es'.map Prod.fst) (QU3.map keyL) hnd (fun x hx=>by
   obtain ⟨p,hp,rfl⟩:=List.mem_map.1 hx
   obtain ⟨r,hr,e⟩:=hkeys p hp
   rw [e]
   exact List.mem_map.2 ⟨r,QJ6 hr,rfl⟩)
  simpa [allRo_len] using this
 have hsz:Maps.size D≤40:=by rw [hD',size_eq];exact h40
 exact ⟨⟨es,clock,hb,F,by omega,hD⟩,hsz⟩
theorem gm_made (w:World):GM (w.alloc (.map #[] 0)) w.heap.size zeroF:=by
 refine ⟨fn_zero,.map [],0,World.ownsMap_made w _ _ _,⟨fun r _=>?_,fun r _=>?_⟩⟩
 ·rfl
 ·rfl
theorem QA7 {w:World} {b:Nat} {f:RoI→Int} (h:GM w b f) {r:RoI} (hr:roW r):(Instr.lookup 240 (.map (some b)) (roV r) false).run Tryz.prog w = .ok (.int .u8 (f r)) w:=by
 obtain ⟨_,D,n,ho,hv⟩:=h
 obtain ⟨c,h1,h2,_⟩:=ho.lookup_int QG3 QE5 mp_set (QR6 w) (qP2 hr)
 rw [hv.at' r hr] at h2
 cases h2
 exact h1
def setF (f:RoI→Int) (r:RoI) (s:Int):RoI→Int:=fun r'=>if r'=r then s else f r'
theorem view_put {D:DataW Unit} {f:RoI→Int} (hm:IsMap D) (h:View D f) {r:RoI} (hr:roW r) {s:Int} (hs:s≠0):View (D.put (keyL r) (.lit (.int .u8 s))) (setF f r s):=by
 refine ⟨fun r' hr'=>?_,fun r' hr'=>?_⟩
 ·by_cases e:r'=r
  ·subst e
   rw [atKey_put_same hm (QS1 _),setF,if_pos rfl]
  ·rw [atKey_put_other (fun q=>e (keyL_inj hr' hr q)),h.at' r' hr',setF,if_neg e]
 ·by_cases e:r'=r
  ·subst e
   rw [has_put_same hm (QS1 _),setF,if_pos rfl]
   simp [hs]
  ·rw [has_put_other (fun q=>e (keyL_inj hr' hr q)),h.has r' hr',setF,if_neg e]
end

end Go.Proofs.YtlhgjackapdmbaaGreatDoor
