/- Contracts. -/
import Derived.Test.YtlhgjackapdmbaaGreatDoorPc17
import Derived.Test.YtlhgjackapdmbaaGreatDoorPc09
namespace Go.Proofs.YtlhgjackapdmbaaGreatDoor
set_option maxRecDepth 100000
set_option maxHeartbeats 8000000
open Go.RowKit
set_option linter.unusedVariables false
set_option linter.unusedSimpArgs false

theorem tk_steps {locks needs:List LkI} (hs:SL locks) (ho:∀ x∈locks,okL x=true) (hn:SL needs) (hno:∀ x∈needs,okL x=true):∀ k,k≤needs.length→qJ2 locks needs k=none∨∃ all,TkS locks needs k all
 | 0,_ => .inr ⟨locks,TkS.zero needs hs ho⟩
 | k+1,hk=>by
  rcases tk_steps hs ho hn hno k (by omega) with h | ⟨all,h⟩
  ·exact .inl (qT3 h (by omega))
  ·have hx:=List.getElem?_eq_getElem (l:=needs) (i:=k) (by omega)
   have hok:=hno _ (List.mem_of_getElem? hx)
   rcases QD1 locks all needs[k] with ⟨h0,_⟩ | ⟨h0,h1,_⟩ | ⟨h0,h1,h2⟩
   ·exact .inr ⟨_,h.put hn hx hok h0⟩
   ·exact .inr ⟨_,h.stay hx h0 h1⟩
   ·exact .inl (by rw [qJ1 h.tk hx];exact h2)

theorem qZ3:∀ {gs:List LkI} {x:LkI},SL gs→x∈gs→qE6 gs x.e x.c x.p=x.f
 | y::r,x,hs,hx=>by
  have hs':=List.pairwise_cons.1 hs
  rw [qW3]
  by_cases q:y.e=x.e∧y.c=x.c∧y.p=x.p
  ·rw [if_pos q]
   rcases List.mem_cons.1 hx with rfl | h
   ·rfl
   ·have hlt:=hs'.1 x h
    simp only [ltL,decide_eq_true_eq] at hlt
    omega
  ·rw [if_neg q]
   rcases List.mem_cons.1 hx with rfl | h
   ·exact absurd ⟨rfl,rfl,rfl⟩ q
   ·exact qZ3 hs'.2 h
theorem QL2:∀ {gs:List LkI} {x:LkI},qE6 gs x.e x.c x.p=x.f→x.f≠0→x∈gs
 | [],x,h,h0=>absurd h.symm h0
 | y::r,x,h,h0=>by
  rw [qW3] at h
  by_cases q:y.e=x.e∧y.c=x.c∧y.p=x.p
  ·rw [if_pos q] at h
   have : y=x:=by
    cases x;cases y
    simp_all
   rw [this]
   exact List.mem_cons_self
  ·rw [if_neg q] at h
   exact List.mem_cons_of_mem _ (QL2 h h0)
theorem okL_form {x:LkI} (h:okL x=true):x.f≠0:=by
 simp [okL,inR] at h
 omega
theorem tk_needs {locks needs:List LkI} (hs:SL locks) (ho:∀ x∈locks,okL x=true) (hn:SL needs) (hno:∀ x∈needs,okL x=true):∀ k,k≤needs.length→∀ all,qJ2 locks needs k=some all→TkS locks needs k all∧∀ j x,j < k→needs[j]? = some x→x∈all
 | 0,_,all,h=>by
  have : locks=all:=Option.some.inj h
  subst this
  exact ⟨TkS.zero needs hs ho,fun j x hj _=>by omega⟩
 | k+1,hk,all,h=>by
  have hx:=List.getElem?_eq_getElem (l:=needs) (i:=k) (by omega)
  have hok:=hno _ (List.mem_of_getElem? hx)
  rcases tk_steps hs ho hn hno k (by omega) with q | ⟨all0,q⟩
  ·rw [qT3 q (by omega)] at h;cases h
  ·have ih:=(tk_needs hs ho hn hno k (by omega) all0 q.tk).2
   rw [qJ1 q.tk hx] at h
   rcases QD1 locks all0 needs[k] with ⟨h0,h1⟩ | ⟨h0,h1,h2⟩ | ⟨h0,h1,h2⟩
   ·rw [h1] at h
    have e:QB1 all0 needs[k]=all:=Option.some.inj h
    subst e
    refine ⟨q.put hn hx hok h0,fun j x hj hjx=>?_⟩
    by_cases e:j=k
    ·subst e
     rw [hx] at hjx
     cases hjx
     exact QI2.2 (.inl rfl)
    ·exact QI2.2 (.inr (ih j x (by omega) hjx))
   ·rw [h2] at h
    have e:all0=all:=Option.some.inj h
    subst e
    refine ⟨q.stay hx h0 h1,fun j x hj hjx=>?_⟩
    by_cases e:j=k
    ·subst e
     rw [hx] at hjx
     cases hjx
     exact q.old _ (QL2 h1 (okL_form hok))
    ·exact ih j x (by omega) hjx
   ·rw [h2] at h;cases h
theorem tk_again {all needs:List LkI} (hs:SL all) (hno:∀ x∈needs,okL x=true) (hm:∀ x∈needs,x∈all):∀ k,k≤needs.length→qJ2 all needs k=some all
 | 0,_=>rfl
 | k+1,hk=>by
  have hx:=List.getElem?_eq_getElem (l:=needs) (i:=k) (by omega)
  have hmem:=List.mem_of_getElem? hx
  have hf:=qZ3 hs (hm _ hmem)
  have h0:=okL_form (hno _ hmem)
  rw [qJ1 (tk_again hs hno hm k (by omega)) hx,qO2,if_neg (by rw [hf];exact h0),if_pos hf]
theorem tk_refused {locks needs:List LkI} {j:Nat} {x:LkI} (hx:needs[j]? = some x) (h0:qE6 locks x.e x.c x.p≠0) (h1:qE6 locks x.e x.c x.p≠x.f):qI9 locks needs=6:=by
 have hj:j < needs.length:=by
  by_cases q:j < needs.length
  ·exact q
  ·rw [List.getElem?_eq_none (by omega)] at hx;cases hx
 have hn:qJ2 locks needs (j+1)=none:=by
  cases h:qJ2 locks needs j with
  | none=>exact qT3 h (by omega)
  | some all=>rw [qJ1 h hx,qO2,if_neg h0,if_neg h1]
 exact (QD0 hn (by omega)).1

theorem lk_of {gs:List LkI} (hl:gs.length≤200) (hs:SL gs) (ho:∀ x∈gs,okL x=true):qJ7 gs=0:=by
 have key:∀ k,k≤gs.length→QI3 gs k=0:=by
  intro k
  induction k with
  | zero=>intro _;rfl
  | succ k ih =>
   intro hk
   have hx:=List.getElem?_eq_getElem (l:=gs) (i:=k) (by omega)
   rw [QM0 hx (ih (by omega)),QF7]
   refine ⟨ho _ (List.mem_of_getElem? hx),?_⟩
   cases k with
   | zero=>rfl
   | succ j =>
    have hy:=List.getElem?_eq_getElem (l:=gs) (i:=j) (by omega)
    rw [prevL_of hy]
    exact List.pairwise_iff_getElem.1 hs j (j+1) (by omega) (by omega) (by omega)
 unfold qJ7
 rw [if_neg (by omega)]
 exact key _ (Nat.le_refl _)
theorem QR8 {s p:Int}:∀ {k:Nat},1≤p→p≤(k:Int)→qI8 s p=true→p∈qB2 s k
 | 0,h1,h2,_=>by omega
 | k+1,h1,h2,h=>by
  by_cases e:p=(k:Int)+1
  ·subst e
   rw [qW0 s k h]
   simp
  ·have ih:=QR8 (s:=s) (p:=p) (k:=k) h1 (by omega) h
   unfold qB2
   split
   ·exact List.mem_append.2 (.inl ih)
   ·exact ih
theorem QF5 {zs:List Int} {e f s p z:Int} {k:Nat} (hz:zs[k]? = some z) (hf:qI8 z f=true) (h1:1≤p) (h2:p≤8) (hp:qI8 s p=true):∀ n,k < n→(⟨e,(k:Int),p,f⟩:LkI)∈qB3 zs e f s n
 | 0,h=>by omega
 | n+1,h=>by
  unfold qB3
  by_cases e':k=n
  ·subst e'
   refine List.mem_append.2 (.inr ?_)
   unfold qS5
   rw [hz,if_pos (by simpa using hf)]
   unfold qG0
   exact List.mem_map.2 ⟨p,QR8 h1 (by simpa using h2) hp,rfl⟩
  ·exact List.mem_append.2 (.inl (QF5 hz hf h1 h2 hp n (by omega)))
theorem some_bit:∀ n:Fin 256,n.val=0∨∃ k:Fin 8,n.val.testBit k.val=true:=by decide +kernel
theorem some_in {s:Int} (h0:0≤s) (h1:s≤255) (hs:s≠0):∃ p:Int,1≤p∧p≤8∧qI8 s p=true:=by
 obtain ⟨n,rfl⟩:=Int.eq_ofNat_of_zero_le h0
 rcases some_bit ⟨n,by omega⟩ with h | ⟨k,h⟩
 ·simp only at h;omega
 ·refine ⟨(k.val:Int)+1,by omega,by have:=k.isLt;omega,?_⟩
  simpa [qI8] using h
theorem classes_law {L:List LkI} {zs:List Int} {e f s:Int} (h:qE2 L zs e f s=0) :
  qE4 zs e f s=0∧qJ7 (qL4 L zs e f s)=0∧(qL4 L zs e f s).length≤200∧(∀ x∈qB3 zs e f s zs.length,qE6 (qL4 L zs e f s) e x.c x.p=f)∧(∀ x∈L,qE6 (qL4 L zs e f s) x.e x.c x.p=x.f)∧L.length≤200
   ∧ qE2 (qL4 L zs e f s) zs e f s=0∧qL4 (qL4 L zs e f s) zs e f s=qL4 L zs e f s∧(∀ o,clashV zs f o=true→s≠0→qE2 (qL4 L zs e f s) zs e o s=6):=by
 have hk:qJ7 L=0:=by
  by_cases q:qJ7 L=0
  ·exact q
  ·unfold qE2 at h;rw [if_neg q] at h;exact absurd h q
 have hn:qE4 zs e f s=0:=by
  by_cases q:qE4 zs e f s=0
  ·exact q
  ·unfold qE2 at h;rw [if_pos hk,if_neg q] at h;exact absurd h q
 have ht:qI9 L (qB3 zs e f s zs.length)=0:=by unfold qE2 at h;rw [if_pos hk,if_pos hn] at h;exact h
 have hR:qL4 L zs e f s=tkL L (qB3 zs e f s zs.length):=by unfold qL4;rw [if_pos ⟨hk,hn⟩]
 obtain ⟨l1,l2,l3⟩:=QF6 hk
 obtain ⟨n1,n2⟩:=QU2 hn
 obtain ⟨n0,ne,nf,ns⟩:=QL0 hn
 cases ha:qJ2 L (qB3 zs e f s zs.length) (qB3 zs e f s zs.length).length with
 | none=>rw [(QD0 ha (Nat.le_refl _)).1] at ht;cases ht
 | some all =>
  have hm:¬ 200 < all.length:=fun q=>by rw [(QT2 ha q).1] at ht;cases ht
  have hRa:qL4 L zs e f s=all:=by rw [hR];exact (QF2 ha hm).2
  obtain ⟨T,hin⟩:=tk_needs l2 l3 n1 n2 _ (Nat.le_refl _) all ha
  have hmem:∀ x∈qB3 zs e f s zs.length,x∈all:=fun x hx=>by
   obtain ⟨j,hj,e'⟩:=List.getElem_of_mem hx
   exact hin j x hj (by rw [List.getElem?_eq_getElem hj,e'])
  have hlk:qJ7 all=0:=lk_of (by omega) T.sl T.ok
  have hag:=tk_again T.sl n2 hmem (qB3 zs e f s zs.length).length (Nat.le_refl _)
  rw [hRa]
  refine ⟨hn,hlk,by omega,fun x hx=>?_,fun x hx=>qZ3 T.sl (T.old x hx),l1,?_,?_,fun o hc hs0=>?_⟩
  ·have q:=(QL1 zs e f s zs.length).2 x hx
   have:=qZ3 T.sl (hmem x hx)
   rw [q.1,q.2.2.2] at this
   exact this
  ·unfold qE2;rw [if_pos hlk,if_pos hn];exact (QF2 hag hm).1
  ·unfold qL4;rw [if_pos ⟨hlk,hn⟩];exact (QF2 hag hm).2
  ·simp only [clashV,clashB,bothB,Bool.and_eq_true,List.any_eq_true,beq_iff_eq,bne_iff_ne] at hc
   obtain ⟨_,_,ho,hne,z,hz,hzf,hzo⟩:=hc
   obtain ⟨k,hkl,hzk⟩:=List.getElem_of_mem hz
   have hzk':zs[k]? = some z:=by rw [List.getElem?_eq_getElem hkl,hzk]
   rw [qG5] at ns
   obtain ⟨p,p1,p2,hp⟩:=some_in ns.1 ns.2 hs0
   have m1:=hmem _ (QF5 (e:=e) hzk' hzf p1 p2 hp zs.length hkl)
   have m2:=QF5 (e:=e) hzk' hzo p1 p2 hp zs.length hkl
   have f1:qE6 all e (k:Int) p=f:=qZ3 T.sl m1
   obtain ⟨j,hj,ej⟩:=List.getElem_of_mem m2
   have hno:qE4 zs e o s=0:=need_of n0 ne ho (by rw [qG5];exact ns)
   unfold qE2
   rw [if_pos hlk,if_pos hno]
   rw [qG5] at nf
   exact tk_refused (j:=j) (x:=⟨e,(k:Int),p,o⟩) (by rw [List.getElem?_eq_getElem hj,ej]) (by show qE6 all e (k:Int) p≠0;rw [f1];omega) (by show qE6 all e (k:Int) p≠o;rw [f1];exact hne)

structure qH0 where
 es:List Int
 al:Nat→Int→Int→Bool
 cl:Nat→List Int
def nextOf (o:Option StI):Int:=match o with
 | some y=>y.n
 | none => -1
def qB4 (E:qH0) (said:List StI) (e:Int):Int:=if e=E.es.headD 0 then 0 else nextOf (qI5 said 4 (e - 1))
def qD2 (E:qH0) (said:List StI) (x:StI):Int:=if qQ8 said x.k x.e=true then 6 else if (E.es.length:Int)≤x.n then 3 else if E.es[x.n.toNat]?.getD 0≠x.e+1 then 10 else 0
def qH5 (E:qH0) (said:List StI) (locks:List LkI) (p:Nat) (x:StI):Int:=if (qU6 said x.e || qD7 said (qT0 x))=true then 9 else if E.al p x.f x.s=false then 8 else qE2 locks (E.cl p) x.e x.f x.s
def qF8 (E:qH0) (said:List StI) (locks:List LkI) (x:StI):Int:=if qB4 E said x.e < 0 then 4 else if 40≤said.length then 2 else if x.k=1 then qH5 E said locks (qB4 E said x.e).toNat x else if x.k=2 then 0 else qD2 E said x
def qF3 (E:qH0) (said:List StI) (locks:List LkI) (x:StI):Int:=if qC4 x=0 then (if qD7 said x=true then 0 else qF8 E said locks x) else qC4 x
def qE3 (E:qH0) (said:List StI) (locks:List LkI) (x:StI):List LkI:=if x.k=1 then qL4 locks (E.cl (qB4 E said x.e).toNat) x.e x.f x.s else locks
def qZ5 (said:List StI) (x:StI):List StI:=if qD7 said x=true then said else said++[x]
def qU0 (E:qH0) (said:List StI) (locks:List LkI) (x:StI):List LkI:=if qD7 said x=true then locks else qE3 E said locks x
def qD4 (E:qH0) (xs:List StI):Nat→Option (List LkI)
 | 0=>some []
 | k+1=>match qD4 E xs k with
  | none=>none
  | some ls=>match xs[k]? with
   | none=>some ls
   | some x=>if qD7 (xs.take k) x=true then none else if qF3 E (xs.take k) ls x=0 then some (qE3 E (xs.take k) ls x) else none
theorem qV5 {E:qH0} {xs:List StI} {k m:Nat} (h:qD4 E xs k=none) (hm:k≤m):qD4 E xs m=none:=by
  induction m with
  | zero => obtain rfl:k=0:=by omega
            exact h
  | succ m ih =>
    by_cases e:k=m+1
    · subst e;exact h
    · simp [qD4,ih (by omega)]
theorem QK6 {E:qH0} {xs:List StI} {k:Nat} {ls:List LkI} {x:StI} (h:qD4 E xs k=some ls) (hx:xs[k]? = some x):qD4 E xs (k+1)=if qD7 (xs.take k) x=true then none else if qF3 E (xs.take k) ls x=0 then some (qE3 E (xs.take k) ls x) else none:=by
 simp [qD4,h,hx]
structure RpS (E:qH0) (said:List StI) (ls:List LkI):Prop where
 lk:qJ7 ls=0
 st:∀ x∈said,qC4 x=0
 nx:∀ x∈said,x.k=4→0≤x.n∧x.n < (E.es.length:Int)
 len:said.length≤40
theorem RpS.nil (E:qH0):RpS E [] []:=⟨rfl,fun x h=>(List.not_mem_nil h).elim,fun x h=>(List.not_mem_nil h).elim,Nat.zero_le _⟩
theorem st_zero {x:StI} (h:qC4 x=0):inR x.k 1 4=true∧ownB x=true∧rngB x=true:=by
 unfold qC4 at h
 cases h1:inR x.k 1 4 with
 | false=>rw [h1] at h;simp at h
 | true =>
  cases h2:ownB x with
  | false=>rw [h1,h2] at h;simp at h
  | true =>
   cases h3:rngB x with
   | false=>rw [h1,h2,h3] at h;simp at h
   | true=>exact ⟨rfl,rfl,rfl⟩
theorem qH9 {x:StI} (h:qC4 x=0):(1≤x.k∧x.k≤4)∧(1≤x.e∧x.e≤9)∧(0≤x.n∧x.n≤7)∧(0≤x.f∧x.f≤4)∧(0≤x.s∧x.s≤255)∧(x.k≤2→1≤x.f∧1≤x.s∧x.n=0)∧(3≤x.k→x.f=0∧x.s=0):=by
 obtain ⟨h1,h2,h3⟩:=st_zero h
 rw [qG5] at h1
 have h2':x=ownI x:=by
  have : qP3 x (ownI x)=true:=h2
  exact of_decide_eq_true this
 unfold rngB at h3
 cases q:inR x.e 1 9 with
 | false=>rw [q] at h3;simp at h3
 | true =>
  rw [q] at h3
  rw [qG5] at q
  unfold ownI at h2'
  cases f:QH6 x.k with
  | true =>
   rw [f] at h3 h2'
   simp only [Bool.true_eq_false, ↓reduceIte] at h3 h2'
   have hn:x.n=0:=by rw [h2']
   cases g:inR x.f 1 4 with
   | false=>rw [g] at h3;simp at h3
   | true =>
    rw [g] at h3
    simp only [Bool.true_eq_false, ↓reduceIte] at h3
    rw [qG5] at g h3
    have hk:x.k=1∨x.k=2:=by simpa [QH6] using f
    omega
  | false =>
   rw [f] at h3 h2'
   simp only [Bool.true_eq_false,Bool.false_eq_true, ↓reduceIte] at h3 h2'
   rw [qG5] at h3
   have hf:x.f=0:=by rw [h2']
   have hs:x.s=0:=by rw [h2']
   have hk:¬ (x.k=1∨x.k=2):=by
    intro q
    have : QH6 x.k=true:=by simpa [QH6] using q
    rw [this] at f;cases f
   omega
theorem take_lk {L:List LkI} {zs:List Int} {e f s:Int} (h:qE2 L zs e f s=0):qJ7 (qL4 L zs e f s)=0:=(classes_law h).2.1
theorem QK9 {E:qH0} {said:List StI} {ls:List LkI} {x:StI} (hc:qF8 E said ls x=0):¬ qB4 E said x.e < 0∧¬ 40≤said.length∧(x.k=1→qH5 E said ls (qB4 E said x.e).toNat x=0)∧(x.k≠1→x.k≠2→qD2 E said x=0):=by
 unfold qF8 at hc
 by_cases h1:qB4 E said x.e < 0
 ·rw [if_pos h1] at hc;omega
 ·rw [if_neg h1] at hc
  by_cases h2:40≤said.length
  ·rw [if_pos h2] at hc;omega
  ·rw [if_neg h2] at hc
   refine ⟨h1,h2,fun q=>?_,fun q q2=>?_⟩
   ·rw [if_pos q] at hc;exact hc
   ·rw [if_neg q,if_neg q2] at hc;exact hc
theorem issue_parts {E:qH0} {said:List StI} {ls:List LkI} {p:Nat} {x:StI} (hc:qH5 E said ls p x=0):(qU6 said x.e || qD7 said (qT0 x))=false∧E.al p x.f x.s=true∧qE2 ls (E.cl p) x.e x.f x.s=0:=by
 unfold qH5 at hc
 cases h1:(qU6 said x.e || qD7 said (qT0 x)) with
 | true=>rw [if_pos h1] at hc;omega
 | false =>
  rw [if_neg (by rw [h1];simp)] at hc
  cases h2:E.al p x.f x.s with
  | false=>rw [if_pos h2] at hc;omega
  | true=>rw [if_neg (by rw [h2];simp)] at hc;exact ⟨rfl,rfl,hc⟩
theorem next_parts {E:qH0} {said:List StI} {x:StI} (hc:qD2 E said x=0):qQ8 said x.k x.e=false∧x.n < (E.es.length:Int)∧E.es[x.n.toNat]?.getD 0=x.e+1:=by
 unfold qD2 at hc
 cases h1:qQ8 said x.k x.e with
 | true=>rw [if_pos h1] at hc;omega
 | false =>
  rw [if_neg (by rw [h1];simp)] at hc
  by_cases h2:(E.es.length:Int)≤x.n
  ·rw [if_pos h2] at hc;omega
  ·rw [if_neg h2] at hc
   by_cases h3:E.es[x.n.toNat]?.getD 0=x.e+1
   ·exact ⟨rfl,by omega,h3⟩
   ·rw [if_pos h3] at hc;omega
theorem new_lk {E:qH0} {said:List StI} {ls:List LkI} {x:StI} (h:RpS E said ls) (hc:qF8 E said ls x=0):qJ7 (qE3 E said ls x)=0:=by
 unfold qE3
 by_cases q:x.k=1
 ·rw [if_pos q]
  exact take_lk (issue_parts ((QK9 hc).2.2.1 q)).2.2
 ·rw [if_neg q];exact h.lk
theorem RpS.next {E:qH0} {said:List StI} {ls:List LkI} {x:StI} (h:RpS E said ls) (hs:qC4 x=0) (hc:qF8 E said ls x=0):RpS E (said++[x]) (qE3 E said ls x):=by
 have hl:=(QK9 hc).2.1
 refine ⟨new_lk h hc,fun y hy=>?_,fun y hy hk=>?_,by rw [List.length_append];simp;omega⟩
 ·rcases List.mem_append.1 hy with q | q
  ·exact h.st y q
  ·rw [List.mem_singleton] at q;rw [q];exact hs
 ·rcases List.mem_append.1 hy with q | q
  ·exact h.nx y q hk
  ·rw [List.mem_singleton] at q
   subst q
   exact ⟨(qH9 hs).2.2.1.1,(next_parts ((QK9 hc).2.2.2 (by omega) (by omega))).2.1⟩
theorem end_new {E:qH0} {said:List StI} {ls:List LkI} {x:StI} (hn:qD7 said x=false) (hc:qF3 E said ls x=0):qC4 x=0∧qF8 E said ls x=0:=by
 unfold qF3 at hc
 split at hc
 ·rename_i q
  rw [hn] at hc
  simp only [Bool.false_eq_true, ↓reduceIte] at hc
  exact ⟨q,hc⟩
 ·rename_i q;exact absurd hc q
theorem QT9 {E:qH0} {xs:List StI}:∀ k ls,k≤xs.length→qD4 E xs k=some ls→RpS E (xs.take k) ls
 | 0,ls,_,h=>by
  have : ([]:List LkI)=ls:=Option.some.inj h
  subst this
  simpa using RpS.nil E
 | k+1,ls,hk,h=>by
  cases hp:qD4 E xs k with
  | none=>rw [qV5 hp (by omega)] at h;cases h
  | some l0 =>
   have hx:=List.getElem?_eq_getElem (l:=xs) (i:=k) (by omega)
   have ih:=QT9 k l0 (by omega) hp
   rw [QK6 hp hx] at h
   split at h
   ·cases h
   ·rename_i hn
    split at h
    ·rename_i hc
     have e:qE3 E (xs.take k) l0 xs[k]=ls:=Option.some.inj h
     subst e
     have hn':qD7 (xs.take k) xs[k]=false:=by simpa using hn
     obtain ⟨q1,q2⟩:=end_new hn' hc
     rw [List.take_succ_eq_append_getElem (by omega)]
     exact ih.next q1 q2
    ·cases h
theorem known_in {E:qH0} {said:List StI} {ls:List LkI} (h:RpS E said ls) (hE:0 < E.es.length) (e:Int):qB4 E said e = -1∨(0≤qB4 E said e∧qB4 E said e < (E.es.length:Int)):=by
 unfold qB4
 split
 ·exact .inr ⟨by omega,by omega⟩
 ·cases hk:qI5 said 4 (e - 1) with
  | none=>exact .inl rfl
  | some y =>
   have hm:=List.mem_of_find?_eq_some hk
   have hp:=List.find?_some hk
   simp only [Bool.and_eq_true,decide_eq_true_eq] at hp
   exact .inr (h.nx y hm hp.1)

end Go.Proofs.YtlhgjackapdmbaaGreatDoor
