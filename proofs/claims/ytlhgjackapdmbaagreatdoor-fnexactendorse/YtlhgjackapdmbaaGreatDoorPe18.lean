/- Contracts. -/
import Derived.Test.YtlhgjackapdmbaaGreatDoorPe17
import Derived.Test.YtlhgjackapdmbaaGreatDoorPe09
namespace Go.Proofs.YtlhgjackapdmbaaGreatDoor
set_option maxRecDepth 100000
set_option maxHeartbeats 8000000
open Go.RowKit
set_option linter.unusedVariables false
set_option linter.unusedSimpArgs false

theorem tk_steps {locks needs:List LkI} (hs:SL locks) (ho:∀ x∈locks,okL x=true) (hn:SL needs) (hno:∀ x∈needs,okL x=true):∀ k,k≤needs.length→qJ4 locks needs k=none∨∃ all,TkS locks needs k all
 | 0,_ => .inr ⟨locks,TkS.zero needs hs ho⟩
 | k+1,hk=>by
  rcases tk_steps hs ho hn hno k (by omega) with h | ⟨all,h⟩
  ·exact .inl (qT3 h (by omega))
  ·have hx:=List.getElem?_eq_getElem (l:=needs) (i:=k) (by omega)
   have hok:=hno _ (List.mem_of_getElem? hx)
   rcases QD2 locks all needs[k] with ⟨h0,_⟩ | ⟨h0,h1,_⟩ | ⟨h0,h1,h2⟩
   ·exact .inr ⟨_,h.put hn hx hok h0⟩
   ·exact .inr ⟨_,h.stay hx h0 h1⟩
   ·exact .inl (by rw [qJ3 h.tk hx];exact h2)

theorem qZ0:∀ {gs:List LkI} {x:LkI},SL gs→x∈gs→qE6 gs x.e x.c x.p=x.f
 | y::r,x,hs,hx=>by
  have hs':=List.pairwise_cons.1 hs
  rw [qW0]
  by_cases q:y.e=x.e∧y.c=x.c∧y.p=x.p
  ·rw [if_pos q]
   rcases List.mem_cons.1 hx with rfl | h
   ·rfl
   ·have hlt:=hs'.1 x h
    simp only [ltL,decide_eq_true_eq] at hlt
    omega
  ·rw [if_neg q]
   rcases List.mem_cons.1 hx with rfl | h
   ·exact absurd ⟨rfl,rfl,rfl⟩ q
   ·exact qZ0 hs'.2 h
theorem QL1:∀ {gs:List LkI} {x:LkI},qE6 gs x.e x.c x.p=x.f→x.f≠0→x∈gs
 | [],x,h,h0=>absurd h.symm h0
 | y::r,x,h,h0=>by
  rw [qW0] at h
  by_cases q:y.e=x.e∧y.c=x.c∧y.p=x.p
  ·rw [if_pos q] at h
   have : y=x:=by
    cases x;cases y
    simp_all
   rw [this]
   exact List.mem_cons_self
  ·rw [if_neg q] at h
   exact List.mem_cons_of_mem _ (QL1 h h0)
theorem okL_form {x:LkI} (h:okL x=true):x.f≠0:=by
 simp [okL,inR] at h
 omega
theorem tk_needs {locks needs:List LkI} (hs:SL locks) (ho:∀ x∈locks,okL x=true) (hn:SL needs) (hno:∀ x∈needs,okL x=true):∀ k,k≤needs.length→∀ all,qJ4 locks needs k=some all→TkS locks needs k all∧∀ j x,j < k→needs[j]? = some x→x∈all
 | 0,_,all,h=>by
  have : locks=all:=Option.some.inj h
  subst this
  exact ⟨TkS.zero needs hs ho,fun j x hj _=>by omega⟩
 | k+1,hk,all,h=>by
  have hx:=List.getElem?_eq_getElem (l:=needs) (i:=k) (by omega)
  have hok:=hno _ (List.mem_of_getElem? hx)
  rcases tk_steps hs ho hn hno k (by omega) with q | ⟨all0,q⟩
  ·rw [qT3 q (by omega)] at h;cases h
  ·have ih:=(tk_needs hs ho hn hno k (by omega) all0 q.tk).2
   rw [qJ3 q.tk hx] at h
   rcases QD2 locks all0 needs[k] with ⟨h0,h1⟩ | ⟨h0,h1,h2⟩ | ⟨h0,h1,h2⟩
   ·rw [h1] at h
    have e:QB0 all0 needs[k]=all:=Option.some.inj h
    subst e
    refine ⟨q.put hn hx hok h0,fun j x hj hjx=>?_⟩
    by_cases e:j=k
    ·subst e
     rw [hx] at hjx
     cases hjx
     exact QI1.2 (.inl rfl)
    ·exact QI1.2 (.inr (ih j x (by omega) hjx))
   ·rw [h2] at h
    have e:all0=all:=Option.some.inj h
    subst e
    refine ⟨q.stay hx h0 h1,fun j x hj hjx=>?_⟩
    by_cases e:j=k
    ·subst e
     rw [hx] at hjx
     cases hjx
     exact q.old _ (QL1 h1 (okL_form hok))
    ·exact ih j x (by omega) hjx
   ·rw [h2] at h;cases h
theorem tk_again {all needs:List LkI} (hs:SL all) (hno:∀ x∈needs,okL x=true) (hm:∀ x∈needs,x∈all):∀ k,k≤needs.length→qJ4 all needs k=some all
 | 0,_=>rfl
 | k+1,hk=>by
  have hx:=List.getElem?_eq_getElem (l:=needs) (i:=k) (by omega)
  have hmem:=List.mem_of_getElem? hx
  have hf:=qZ0 hs (hm _ hmem)
  have h0:=okL_form (hno _ hmem)
  rw [qJ3 (tk_again hs hno hm k (by omega)) hx,qO7,if_neg (by rw [hf];exact h0),if_pos hf]
theorem tk_refused {locks needs:List LkI} {j:Nat} {x:LkI} (hx:needs[j]? = some x) (h0:qE6 locks x.e x.c x.p≠0) (h1:qE6 locks x.e x.c x.p≠x.f):qJ1 locks needs=6:=by
 have hj:j < needs.length:=by
  by_cases q:j < needs.length
  ·exact q
  ·rw [List.getElem?_eq_none (by omega)] at hx;cases hx
 have hn:qJ4 locks needs (j+1)=none:=by
  cases h:qJ4 locks needs j with
  | none=>exact qT3 h (by omega)
  | some all=>rw [qJ3 h hx,qO7,if_neg h0,if_neg h1]
 exact (QD1 hn (by omega)).1

theorem lk_of {gs:List LkI} (hl:gs.length≤200) (hs:SL gs) (ho:∀ x∈gs,okL x=true):qJ8 gs=0:=by
 have key:∀ k,k≤gs.length→QI2 gs k=0:=by
  intro k
  induction k with
  | zero=>intro _;rfl
  | succ k ih =>
   intro hk
   have hx:=List.getElem?_eq_getElem (l:=gs) (i:=k) (by omega)
   rw [QL9 hx (ih (by omega)),QF6]
   refine ⟨ho _ (List.mem_of_getElem? hx),?_⟩
   cases k with
   | zero=>rfl
   | succ j =>
    have hy:=List.getElem?_eq_getElem (l:=gs) (i:=j) (by omega)
    rw [prevL_of hy]
    exact List.pairwise_iff_getElem.1 hs j (j+1) (by omega) (by omega) (by omega)
 unfold qJ8
 rw [if_neg (by omega)]
 exact key _ (Nat.le_refl _)
theorem QR7 {s p:Int}:∀ {k:Nat},1≤p→p≤(k:Int)→qJ0 s p=true→p∈qB2 s k
 | 0,h1,h2,_=>by omega
 | k+1,h1,h2,h=>by
  by_cases e:p=(k:Int)+1
  ·subst e
   rw [qV7 s k h]
   simp
  ·have ih:=QR7 (s:=s) (p:=p) (k:=k) h1 (by omega) h
   unfold qB2
   split
   ·exact List.mem_append.2 (.inl ih)
   ·exact ih
theorem QF4 {zs:List Int} {e f s p z:Int} {k:Nat} (hz:zs[k]? = some z) (hf:qJ0 z f=true) (h1:1≤p) (h2:p≤8) (hp:qJ0 s p=true):∀ n,k < n→(⟨e,(k:Int),p,f⟩:LkI)∈qB3 zs e f s n
 | 0,h=>by omega
 | n+1,h=>by
  unfold qB3
  by_cases e':k=n
  ·subst e'
   refine List.mem_append.2 (.inr ?_)
   unfold qS5
   rw [hz,if_pos (by simpa using hf)]
   unfold qG3
   exact List.mem_map.2 ⟨p,QR7 h1 (by simpa using h2) hp,rfl⟩
  ·exact List.mem_append.2 (.inl (QF4 hz hf h1 h2 hp n (by omega)))
theorem some_bit:∀ n:Fin 256,n.val=0∨∃ k:Fin 8,n.val.testBit k.val=true:=by decide +kernel
theorem some_in {s:Int} (h0:0≤s) (h1:s≤255) (hs:s≠0):∃ p:Int,1≤p∧p≤8∧qJ0 s p=true:=by
 obtain ⟨n,rfl⟩:=Int.eq_ofNat_of_zero_le h0
 rcases some_bit ⟨n,by omega⟩ with h | ⟨k,h⟩
 ·simp only at h;omega
 ·refine ⟨(k.val:Int)+1,by omega,by have:=k.isLt;omega,?_⟩
  simpa [qJ0] using h
theorem classes_law {L:List LkI} {zs:List Int} {e f s:Int} (h:qE4 L zs e f s=0) :
  qE5 zs e f s=0∧qJ8 (qL1 L zs e f s)=0∧(qL1 L zs e f s).length≤200∧(∀ x∈qB3 zs e f s zs.length,qE6 (qL1 L zs e f s) e x.c x.p=f)∧(∀ x∈L,qE6 (qL1 L zs e f s) x.e x.c x.p=x.f)∧L.length≤200
   ∧ qE4 (qL1 L zs e f s) zs e f s=0∧qL1 (qL1 L zs e f s) zs e f s=qL1 L zs e f s∧(∀ o,clashV zs f o=true→s≠0→qE4 (qL1 L zs e f s) zs e o s=6):=by
 have hk:qJ8 L=0:=by
  by_cases q:qJ8 L=0
  ·exact q
  ·unfold qE4 at h;rw [if_neg q] at h;exact absurd h q
 have hn:qE5 zs e f s=0:=by
  by_cases q:qE5 zs e f s=0
  ·exact q
  ·unfold qE4 at h;rw [if_pos hk,if_neg q] at h;exact absurd h q
 have ht:qJ1 L (qB3 zs e f s zs.length)=0:=by unfold qE4 at h;rw [if_pos hk,if_pos hn] at h;exact h
 have hR:qL1 L zs e f s=tkL L (qB3 zs e f s zs.length):=by unfold qL1;rw [if_pos ⟨hk,hn⟩]
 obtain ⟨l1,l2,l3⟩:=QF5 hk
 obtain ⟨n1,n2⟩:=QU0 hn
 obtain ⟨n0,ne,nf,ns⟩:=QK9 hn
 cases ha:qJ4 L (qB3 zs e f s zs.length) (qB3 zs e f s zs.length).length with
 | none=>rw [(QD1 ha (Nat.le_refl _)).1] at ht;cases ht
 | some all =>
  have hm:¬ 200 < all.length:=fun q=>by rw [(QT1 ha q).1] at ht;cases ht
  have hRa:qL1 L zs e f s=all:=by rw [hR];exact (QF0 ha hm).2
  obtain ⟨T,hin⟩:=tk_needs l2 l3 n1 n2 _ (Nat.le_refl _) all ha
  have hmem:∀ x∈qB3 zs e f s zs.length,x∈all:=fun x hx=>by
   obtain ⟨j,hj,e'⟩:=List.getElem_of_mem hx
   exact hin j x hj (by rw [List.getElem?_eq_getElem hj,e'])
  have hlk:qJ8 all=0:=lk_of (by omega) T.sl T.ok
  have hag:=tk_again T.sl n2 hmem (qB3 zs e f s zs.length).length (Nat.le_refl _)
  rw [hRa]
  refine ⟨hn,hlk,by omega,fun x hx=>?_,fun x hx=>qZ0 T.sl (T.old x hx),l1,?_,?_,fun o hc hs0=>?_⟩
  ·have q:=(QL0 zs e f s zs.length).2 x hx
   have:=qZ0 T.sl (hmem x hx)
   rw [q.1,q.2.2.2] at this
   exact this
  ·unfold qE4;rw [if_pos hlk,if_pos hn];exact (QF0 hag hm).1
  ·unfold qL1;rw [if_pos ⟨hlk,hn⟩];exact (QF0 hag hm).2
  ·simp only [clashV,clashB,bothB,Bool.and_eq_true,List.any_eq_true,beq_iff_eq,bne_iff_ne] at hc
   obtain ⟨_,_,ho,hne,z,hz,hzf,hzo⟩:=hc
   obtain ⟨k,hkl,hzk⟩:=List.getElem_of_mem hz
   have hzk':zs[k]? = some z:=by rw [List.getElem?_eq_getElem hkl,hzk]
   rw [qG9] at ns
   obtain ⟨p,p1,p2,hp⟩:=some_in ns.1 ns.2 hs0
   have m1:=hmem _ (QF4 (e:=e) hzk' hzf p1 p2 hp zs.length hkl)
   have m2:=QF4 (e:=e) hzk' hzo p1 p2 hp zs.length hkl
   have f1:qE6 all e (k:Int) p=f:=qZ0 T.sl m1
   obtain ⟨j,hj,ej⟩:=List.getElem_of_mem m2
   have hno:qE5 zs e o s=0:=need_of n0 ne ho (by rw [qG9];exact ns)
   unfold qE4
   rw [if_pos hlk,if_pos hno]
   rw [qG9] at nf
   exact tk_refused (j:=j) (x:=⟨e,(k:Int),p,o⟩) (by rw [List.getElem?_eq_getElem hj,ej]) (by show qE6 all e (k:Int) p≠0;rw [f1];omega) (by show qE6 all e (k:Int) p≠o;rw [f1];exact hne)

structure qI1 where
 es:List Int
 al:Nat→Int→Int→Bool
 cl:Nat→List Int
def nextOf (o:Option StI):Int:=match o with
 | some y=>y.n
 | none => -1
def qB5 (E:qI1) (said:List StI) (e:Int):Int:=if e=E.es.headD 0 then 0 else nextOf (qI5 said 4 (e - 1))
def qD1 (E:qI1) (said:List StI) (x:StI):Int:=if qR1 said x.k x.e=true then 6 else if (E.es.length:Int)≤x.n then 3 else if E.es[x.n.toNat]?.getD 0≠x.e+1 then 10 else 0
def qH7 (E:qI1) (said:List StI) (locks:List LkI) (p:Nat) (x:StI):Int:=if (qU4 said x.e || qD8 said (qT0 x))=true then 9 else if E.al p x.f x.s=false then 8 else qE4 locks (E.cl p) x.e x.f x.s
def qG0 (E:qI1) (said:List StI) (locks:List LkI) (x:StI):Int:=if qB5 E said x.e < 0 then 4 else if 40≤said.length then 2 else if x.k=1 then qH7 E said locks (qB5 E said x.e).toNat x else if x.k=2 then 0 else qD1 E said x
def qE1 (E:qI1) (said:List StI) (locks:List LkI) (x:StI):Int:=if qC3 x=0 then (if qD8 said x=true then 0 else qG0 E said locks x) else qC3 x
def qD9 (E:qI1) (said:List StI) (locks:List LkI) (x:StI):List LkI:=if x.k=1 then qL1 locks (E.cl (qB5 E said x.e).toNat) x.e x.f x.s else locks
def qI6 (said:List StI) (x:StI):List StI:=if qD8 said x=true then said else said++[x]
def qG5 (E:qI1) (said:List StI) (locks:List LkI) (x:StI):List LkI:=if qD8 said x=true then locks else qD9 E said locks x
def qF6 (E:qI1) (xs:List StI):Nat→Option (List LkI)
 | 0=>some []
 | k+1=>match qF6 E xs k with
  | none=>none
  | some ls=>match xs[k]? with
   | none=>some ls
   | some x=>if qD8 (xs.take k) x=true then none else if qE1 E (xs.take k) ls x=0 then some (qD9 E (xs.take k) ls x) else none
theorem qZ9 {E:qI1} {xs:List StI} {k m:Nat} (h:qF6 E xs k=none) (hm:k≤m):qF6 E xs m=none:=by
  induction m with
  | zero => obtain rfl:k=0:=by omega
            exact h
  | succ m ih =>
    by_cases e:k=m+1
    · subst e;exact h
    · simp [qF6,ih (by omega)]
theorem QK5 {E:qI1} {xs:List StI} {k:Nat} {ls:List LkI} {x:StI} (h:qF6 E xs k=some ls) (hx:xs[k]? = some x):qF6 E xs (k+1)=if qD8 (xs.take k) x=true then none else if qE1 E (xs.take k) ls x=0 then some (qD9 E (xs.take k) ls x) else none:=by
 simp [qF6,h,hx]
structure RpS (E:qI1) (said:List StI) (ls:List LkI):Prop where
 lk:qJ8 ls=0
 st:∀ x∈said,qC3 x=0
 nx:∀ x∈said,x.k=4→0≤x.n∧x.n < (E.es.length:Int)
 len:said.length≤40
theorem RpS.nil (E:qI1):RpS E [] []:=⟨rfl,fun x h=>(List.not_mem_nil h).elim,fun x h=>(List.not_mem_nil h).elim,Nat.zero_le _⟩
theorem st_zero {x:StI} (h:qC3 x=0):inR x.k 1 4=true∧ownB x=true∧rngB x=true:=by
 unfold qC3 at h
 cases h1:inR x.k 1 4 with
 | false=>rw [h1] at h;simp at h
 | true =>
  cases h2:ownB x with
  | false=>rw [h1,h2] at h;simp at h
  | true =>
   cases h3:rngB x with
   | false=>rw [h1,h2,h3] at h;simp at h
   | true=>exact ⟨rfl,rfl,rfl⟩
theorem qI2 {x:StI} (h:qC3 x=0):(1≤x.k∧x.k≤4)∧(1≤x.e∧x.e≤9)∧(0≤x.n∧x.n≤7)∧(0≤x.f∧x.f≤4)∧(0≤x.s∧x.s≤255)∧(x.k≤2→1≤x.f∧1≤x.s∧x.n=0)∧(3≤x.k→x.f=0∧x.s=0):=by
 obtain ⟨h1,h2,h3⟩:=st_zero h
 rw [qG9] at h1
 have h2':x=ownI x:=by
  have : qP7 x (ownI x)=true:=h2
  exact of_decide_eq_true this
 unfold rngB at h3
 cases q:inR x.e 1 9 with
 | false=>rw [q] at h3;simp at h3
 | true =>
  rw [q] at h3
  rw [qG9] at q
  unfold ownI at h2'
  cases f:QH5 x.k with
  | true =>
   rw [f] at h3 h2'
   simp only [Bool.true_eq_false, ↓reduceIte] at h3 h2'
   have hn:x.n=0:=by rw [h2']
   cases g:inR x.f 1 4 with
   | false=>rw [g] at h3;simp at h3
   | true =>
    rw [g] at h3
    simp only [Bool.true_eq_false, ↓reduceIte] at h3
    rw [qG9] at g h3
    have hk:x.k=1∨x.k=2:=by simpa [QH5] using f
    omega
  | false =>
   rw [f] at h3 h2'
   simp only [Bool.true_eq_false,Bool.false_eq_true, ↓reduceIte] at h3 h2'
   rw [qG9] at h3
   have hf:x.f=0:=by rw [h2']
   have hs:x.s=0:=by rw [h2']
   have hk:¬ (x.k=1∨x.k=2):=by
    intro q
    have : QH5 x.k=true:=by simpa [QH5] using q
    rw [this] at f;cases f
   omega
theorem take_lk {L:List LkI} {zs:List Int} {e f s:Int} (h:qE4 L zs e f s=0):qJ8 (qL1 L zs e f s)=0:=(classes_law h).2.1
theorem QK8 {E:qI1} {said:List StI} {ls:List LkI} {x:StI} (hc:qG0 E said ls x=0):¬ qB5 E said x.e < 0∧¬ 40≤said.length∧(x.k=1→qH7 E said ls (qB5 E said x.e).toNat x=0)∧(x.k≠1→x.k≠2→qD1 E said x=0):=by
 unfold qG0 at hc
 by_cases h1:qB5 E said x.e < 0
 ·rw [if_pos h1] at hc;omega
 ·rw [if_neg h1] at hc
  by_cases h2:40≤said.length
  ·rw [if_pos h2] at hc;omega
  ·rw [if_neg h2] at hc
   refine ⟨h1,h2,fun q=>?_,fun q q2=>?_⟩
   ·rw [if_pos q] at hc;exact hc
   ·rw [if_neg q,if_neg q2] at hc;exact hc
theorem issue_parts {E:qI1} {said:List StI} {ls:List LkI} {p:Nat} {x:StI} (hc:qH7 E said ls p x=0):(qU4 said x.e || qD8 said (qT0 x))=false∧E.al p x.f x.s=true∧qE4 ls (E.cl p) x.e x.f x.s=0:=by
 unfold qH7 at hc
 cases h1:(qU4 said x.e || qD8 said (qT0 x)) with
 | true=>rw [if_pos h1] at hc;omega
 | false =>
  rw [if_neg (by rw [h1];simp)] at hc
  cases h2:E.al p x.f x.s with
  | false=>rw [if_pos h2] at hc;omega
  | true=>rw [if_neg (by rw [h2];simp)] at hc;exact ⟨rfl,rfl,hc⟩
theorem next_parts {E:qI1} {said:List StI} {x:StI} (hc:qD1 E said x=0):qR1 said x.k x.e=false∧x.n < (E.es.length:Int)∧E.es[x.n.toNat]?.getD 0=x.e+1:=by
 unfold qD1 at hc
 cases h1:qR1 said x.k x.e with
 | true=>rw [if_pos h1] at hc;omega
 | false =>
  rw [if_neg (by rw [h1];simp)] at hc
  by_cases h2:(E.es.length:Int)≤x.n
  ·rw [if_pos h2] at hc;omega
  ·rw [if_neg h2] at hc
   by_cases h3:E.es[x.n.toNat]?.getD 0=x.e+1
   ·exact ⟨rfl,by omega,h3⟩
   ·rw [if_pos h3] at hc;omega
theorem new_lk {E:qI1} {said:List StI} {ls:List LkI} {x:StI} (h:RpS E said ls) (hc:qG0 E said ls x=0):qJ8 (qD9 E said ls x)=0:=by
 unfold qD9
 by_cases q:x.k=1
 ·rw [if_pos q]
  exact take_lk (issue_parts ((QK8 hc).2.2.1 q)).2.2
 ·rw [if_neg q];exact h.lk
theorem RpS.next {E:qI1} {said:List StI} {ls:List LkI} {x:StI} (h:RpS E said ls) (hs:qC3 x=0) (hc:qG0 E said ls x=0):RpS E (said++[x]) (qD9 E said ls x):=by
 have hl:=(QK8 hc).2.1
 refine ⟨new_lk h hc,fun y hy=>?_,fun y hy hk=>?_,by rw [List.length_append];simp;omega⟩
 ·rcases List.mem_append.1 hy with q | q
  ·exact h.st y q
  ·rw [List.mem_singleton] at q;rw [q];exact hs
 ·rcases List.mem_append.1 hy with q | q
  ·exact h.nx y q hk
  ·rw [List.mem_singleton] at q
   subst q
   exact ⟨(qI2 hs).2.2.1.1,(next_parts ((QK8 hc).2.2.2 (by omega) (by omega))).2.1⟩
theorem end_new {E:qI1} {said:List StI} {ls:List LkI} {x:StI} (hn:qD8 said x=false) (hc:qE1 E said ls x=0):qC3 x=0∧qG0 E said ls x=0:=by
 unfold qE1 at hc
 split at hc
 ·rename_i q
  rw [hn] at hc
  simp only [Bool.false_eq_true, ↓reduceIte] at hc
  exact ⟨q,hc⟩
 ·rename_i q;exact absurd hc q
theorem QF3 {E:qI1} {xs:List StI}:∀ k ls,k≤xs.length→qF6 E xs k=some ls→RpS E (xs.take k) ls
 | 0,ls,_,h=>by
  have : ([]:List LkI)=ls:=Option.some.inj h
  subst this
  simpa using RpS.nil E
 | k+1,ls,hk,h=>by
  cases hp:qF6 E xs k with
  | none=>rw [qZ9 hp (by omega)] at h;cases h
  | some l0 =>
   have hx:=List.getElem?_eq_getElem (l:=xs) (i:=k) (by omega)
   have ih:=QF3 k l0 (by omega) hp
   rw [QK5 hp hx] at h
   split at h
   ·cases h
   ·rename_i hn
    split at h
    ·rename_i hc
     have e:qD9 E (xs.take k) l0 xs[k]=ls:=Option.some.inj h
     subst e
     have hn':qD8 (xs.take k) xs[k]=false:=by simpa using hn
     obtain ⟨q1,q2⟩:=end_new hn' hc
     rw [List.take_succ_eq_append_getElem (by omega)]
     exact ih.next q1 q2
    ·cases h
theorem known_in {E:qI1} {said:List StI} {ls:List LkI} (h:RpS E said ls) (hE:0 < E.es.length) (e:Int):qB5 E said e = -1∨(0≤qB5 E said e∧qB5 E said e < (E.es.length:Int)):=by
 unfold qB5
 split
 ·exact .inr ⟨by omega,by omega⟩
 ·cases hk:qI5 said 4 (e - 1) with
  | none=>exact .inl rfl
  | some y =>
   have hm:=List.mem_of_find?_eq_some hk
   have hp:=List.find?_some hk
   simp only [Bool.and_eq_true,decide_eq_true_eq] at hp
   exact .inr (h.nx y hm hp.1)

end Go.Proofs.YtlhgjackapdmbaaGreatDoor
