/- Contracts. -/
import Derived.Test.YtdppdbihhlipeaaGreatDoorPl16
import Derived.Test.YtdppdbihhlipeaaGreatDoorPl11
import Derived.Test.YtdppdbihhlipeaaGreatDoorPl25
namespace Go.Proofs.YtdppdbihhlipeaaGreatDoor
set_option maxRecDepth 100000
set_option maxHeartbeats 8000000
open Go.RowKit
set_option linter.unusedVariables false
set_option linter.unusedSimpArgs false

theorem tk_steps {locks needs:List LkI} (hs:SL locks) (ho:∀ x∈locks,okL x=true) (hn:SL needs) (hno:∀ x∈needs,okL x=true):∀ k,k≤needs.length→qI9 locks needs k=none∨∃ all,TkS locks needs k all
 | 0,_ => .inr ⟨locks,TkS.zero needs hs ho⟩
 | k+1,hk=>by
  rcases tk_steps hs ho hn hno k (by omega) with h | ⟨all,h⟩
  ·exact .inl (qT1 h (by omega))
  ·have hx:=List.getElem?_eq_getElem (l:=needs) (i:=k) (by omega)
   have hok:=hno _ (List.mem_of_getElem? hx)
   rcases QD7 locks all needs[k] with ⟨h0,_⟩ | ⟨h0,h1,_⟩ | ⟨h0,h1,h2⟩
   ·exact .inr ⟨_,h.put hn hx hok h0⟩
   ·exact .inr ⟨_,h.stay hx h0 h1⟩
   ·exact .inl (by rw [qI7 h.tk hx];exact h2)

theorem qZ3:∀ {gs:List LkI} {x:LkI},SL gs→x∈gs→qE5 gs x.e x.c x.p=x.f
 | y::r,x,hs,hx=>by
  have hs':=List.pairwise_cons.1 hs
  rw [qV9]
  by_cases q:y.e=x.e∧y.c=x.c∧y.p=x.p
  ·rw [if_pos q]
   rcases List.mem_cons.1 hx with rfl | h
   ·rfl
   ·have hlt:=hs'.1 x h
    simp only [ltL,decide_eq_true_eq] at hlt
    omega
  ·rw [if_neg q]
   rcases List.mem_cons.1 hx with rfl | h
   ·exact absurd ⟨rfl,rfl,rfl⟩ q
   ·exact qZ3 hs'.2 h
theorem QL6:∀ {gs:List LkI} {x:LkI},qE5 gs x.e x.c x.p=x.f→x.f≠0→x∈gs
 | [],x,h,h0=>absurd h.symm h0
 | y::r,x,h,h0=>by
  rw [qV9] at h
  by_cases q:y.e=x.e∧y.c=x.c∧y.p=x.p
  ·rw [if_pos q] at h
   have : y=x:=by
    cases x;cases y
    simp_all
   rw [this]
   exact List.mem_cons_self
  ·rw [if_neg q] at h
   exact List.mem_cons_of_mem _ (QL6 h h0)
theorem okL_form {x:LkI} (h:okL x=true):x.f≠0:=by
 simp [okL,inR] at h
 omega
theorem tk_needs {locks needs:List LkI} (hs:SL locks) (ho:∀ x∈locks,okL x=true) (hn:SL needs) (hno:∀ x∈needs,okL x=true):∀ k,k≤needs.length→∀ all,qI9 locks needs k=some all→TkS locks needs k all∧∀ j x,j < k→needs[j]? = some x→x∈all
 | 0,_,all,h=>by
  have : locks=all:=Option.some.inj h
  subst this
  exact ⟨TkS.zero needs hs ho,fun j x hj _=>by omega⟩
 | k+1,hk,all,h=>by
  have hx:=List.getElem?_eq_getElem (l:=needs) (i:=k) (by omega)
  have hok:=hno _ (List.mem_of_getElem? hx)
  rcases tk_steps hs ho hn hno k (by omega) with q | ⟨all0,q⟩
  ·rw [qT1 q (by omega)] at h;cases h
  ·have ih:=(tk_needs hs ho hn hno k (by omega) all0 q.tk).2
   rw [qI7 q.tk hx] at h
   rcases QD7 locks all0 needs[k] with ⟨h0,h1⟩ | ⟨h0,h1,h2⟩ | ⟨h0,h1,h2⟩
   ·rw [h1] at h
    have e:QB4 all0 needs[k]=all:=Option.some.inj h
    subst e
    refine ⟨q.put hn hx hok h0,fun j x hj hjx=>?_⟩
    by_cases e:j=k
    ·subst e
     rw [hx] at hjx
     cases hjx
     exact QI6.2 (.inl rfl)
    ·exact QI6.2 (.inr (ih j x (by omega) hjx))
   ·rw [h2] at h
    have e:all0=all:=Option.some.inj h
    subst e
    refine ⟨q.stay hx h0 h1,fun j x hj hjx=>?_⟩
    by_cases e:j=k
    ·subst e
     rw [hx] at hjx
     cases hjx
     exact q.old _ (QL6 h1 (okL_form hok))
    ·exact ih j x (by omega) hjx
   ·rw [h2] at h;cases h
theorem tk_again {all needs:List LkI} (hs:SL all) (hno:∀ x∈needs,okL x=true) (hm:∀ x∈needs,x∈all):∀ k,k≤needs.length→qI9 all needs k=some all
 | 0,_=>rfl
 | k+1,hk=>by
  have hx:=List.getElem?_eq_getElem (l:=needs) (i:=k) (by omega)
  have hmem:=List.mem_of_getElem? hx
  have hf:=qZ3 hs (hm _ hmem)
  have h0:=okL_form (hno _ hmem)
  rw [qI7 (tk_again hs hno hm k (by omega)) hx,qO1,if_neg (by rw [hf];exact h0),if_pos hf]
theorem tk_refused {locks needs:List LkI} {j:Nat} {x:LkI} (hx:needs[j]? = some x) (h0:qE5 locks x.e x.c x.p≠0) (h1:qE5 locks x.e x.c x.p≠x.f):qI5 locks needs=6:=by
 have hj:j < needs.length:=by
  by_cases q:j < needs.length
  ·exact q
  ·rw [List.getElem?_eq_none (by omega)] at hx;cases hx
 have hn:qI9 locks needs (j+1)=none:=by
  cases h:qI9 locks needs j with
  | none=>exact qT1 h (by omega)
  | some all=>rw [qI7 h hx,qO1,if_neg h0,if_neg h1]
 exact (QD6 hn (by omega)).1

theorem lk_of {gs:List LkI} (hl:gs.length≤200) (hs:SL gs) (ho:∀ x∈gs,okL x=true):qJ5 gs=0:=by
 have key:∀ k,k≤gs.length→QI7 gs k=0:=by
  intro k
  induction k with
  | zero=>intro _;rfl
  | succ k ih =>
   intro hk
   have hx:=List.getElem?_eq_getElem (l:=gs) (i:=k) (by omega)
   rw [QM4 hx (ih (by omega)),QG2]
   refine ⟨ho _ (List.mem_of_getElem? hx),?_⟩
   cases k with
   | zero=>rfl
   | succ j =>
    have hy:=List.getElem?_eq_getElem (l:=gs) (i:=j) (by omega)
    rw [prevL_of hy]
    exact List.pairwise_iff_getElem.1 hs j (j+1) (by omega) (by omega) (by omega)
 unfold qJ5
 rw [if_neg (by omega)]
 exact key _ (Nat.le_refl _)
theorem QS4 {s p:Int}:∀ {k:Nat},1≤p→p≤(k:Int)→qI4 s p=true→p∈qB1 s k
 | 0,h1,h2,_=>by omega
 | k+1,h1,h2,h=>by
  by_cases e:p=(k:Int)+1
  ·subst e
   rw [qV6 s k h]
   simp
  ·have ih:=QS4 (s:=s) (p:=p) (k:=k) h1 (by omega) h
   unfold qB1
   split
   ·exact List.mem_append.2 (.inl ih)
   ·exact ih
theorem QG0 {zs:List Int} {e f s p z:Int} {k:Nat} (hz:zs[k]? = some z) (hf:qI4 z f=true) (h1:1≤p) (h2:p≤8) (hp:qI4 s p=true):∀ n,k < n→(⟨e,(k:Int),p,f⟩:LkI)∈qB2 zs e f s n
 | 0,h=>by omega
 | n+1,h=>by
  unfold qB2
  by_cases e':k=n
  ·subst e'
   refine List.mem_append.2 (.inr ?_)
   unfold qS3
   rw [hz,if_pos (by simpa using hf)]
   unfold qF9
   exact List.mem_map.2 ⟨p,QS4 h1 (by simpa using h2) hp,rfl⟩
  ·exact List.mem_append.2 (.inl (QG0 hz hf h1 h2 hp n (by omega)))
theorem some_bit:∀ n:Fin 256,n.val=0∨∃ k:Fin 8,n.val.testBit k.val=true:=by decide +kernel
theorem some_in {s:Int} (h0:0≤s) (h1:s≤255) (hs:s≠0):∃ p:Int,1≤p∧p≤8∧qI4 s p=true:=by
 obtain ⟨n,rfl⟩:=Int.eq_ofNat_of_zero_le h0
 rcases some_bit ⟨n,by omega⟩ with h | ⟨k,h⟩
 ·simp only at h;omega
 ·refine ⟨(k.val:Int)+1,by omega,by have:=k.isLt;omega,?_⟩
  simpa [qI4] using h
theorem classes_law {L:List LkI} {zs:List Int} {e f s:Int} (h:qE0 L zs e f s=0) :
  qE2 zs e f s=0∧qJ5 (qL3 L zs e f s)=0∧(qL3 L zs e f s).length≤200∧(∀ x∈qB2 zs e f s zs.length,qE5 (qL3 L zs e f s) e x.c x.p=f)∧(∀ x∈L,qE5 (qL3 L zs e f s) x.e x.c x.p=x.f)∧L.length≤200
   ∧ qE0 (qL3 L zs e f s) zs e f s=0∧qL3 (qL3 L zs e f s) zs e f s=qL3 L zs e f s∧(∀ o,clashV zs f o=true→s≠0→qE0 (qL3 L zs e f s) zs e o s=6):=by
 have hk:qJ5 L=0:=by
  by_cases q:qJ5 L=0
  ·exact q
  ·unfold qE0 at h;rw [if_neg q] at h;exact absurd h q
 have hn:qE2 zs e f s=0:=by
  by_cases q:qE2 zs e f s=0
  ·exact q
  ·unfold qE0 at h;rw [if_pos hk,if_neg q] at h;exact absurd h q
 have ht:qI5 L (qB2 zs e f s zs.length)=0:=by unfold qE0 at h;rw [if_pos hk,if_pos hn] at h;exact h
 have hR:qL3 L zs e f s=tkL L (qB2 zs e f s zs.length):=by unfold qL3;rw [if_pos ⟨hk,hn⟩]
 obtain ⟨l1,l2,l3⟩:=QG1 hk
 obtain ⟨n1,n2⟩:=QU8 hn
 obtain ⟨n0,ne,nf,ns⟩:=QL4 hn
 cases ha:qI9 L (qB2 zs e f s zs.length) (qB2 zs e f s zs.length).length with
 | none=>rw [(QD6 ha (Nat.le_refl _)).1] at ht;cases ht
 | some all =>
  have hm:¬ 200 < all.length:=fun q=>by rw [(QT8 ha q).1] at ht;cases ht
  have hRa:qL3 L zs e f s=all:=by rw [hR];exact (QF7 ha hm).2
  obtain ⟨T,hin⟩:=tk_needs l2 l3 n1 n2 _ (Nat.le_refl _) all ha
  have hmem:∀ x∈qB2 zs e f s zs.length,x∈all:=fun x hx=>by
   obtain ⟨j,hj,e'⟩:=List.getElem_of_mem hx
   exact hin j x hj (by rw [List.getElem?_eq_getElem hj,e'])
  have hlk:qJ5 all=0:=lk_of (by omega) T.sl T.ok
  have hag:=tk_again T.sl n2 hmem (qB2 zs e f s zs.length).length (Nat.le_refl _)
  rw [hRa]
  refine ⟨hn,hlk,by omega,fun x hx=>?_,fun x hx=>qZ3 T.sl (T.old x hx),l1,?_,?_,fun o hc hs0=>?_⟩
  ·have q:=(QL5 zs e f s zs.length).2 x hx
   have:=qZ3 T.sl (hmem x hx)
   rw [q.1,q.2.2.2] at this
   exact this
  ·unfold qE0;rw [if_pos hlk,if_pos hn];exact (QF7 hag hm).1
  ·unfold qL3;rw [if_pos ⟨hlk,hn⟩];exact (QF7 hag hm).2
  ·simp only [clashV,clashB,bothB,Bool.and_eq_true,List.any_eq_true,beq_iff_eq,bne_iff_ne] at hc
   obtain ⟨_,_,ho,hne,z,hz,hzf,hzo⟩:=hc
   obtain ⟨k,hkl,hzk⟩:=List.getElem_of_mem hz
   have hzk':zs[k]? = some z:=by rw [List.getElem?_eq_getElem hkl,hzk]
   rw [qE4] at ns
   obtain ⟨p,p1,p2,hp⟩:=some_in ns.1 ns.2 hs0
   have m1:=hmem _ (QG0 (e:=e) hzk' hzf p1 p2 hp zs.length hkl)
   have m2:=QG0 (e:=e) hzk' hzo p1 p2 hp zs.length hkl
   have f1:qE5 all e (k:Int) p=f:=qZ3 T.sl m1
   obtain ⟨j,hj,ej⟩:=List.getElem_of_mem m2
   have hno:qE2 zs e o s=0:=need_of n0 ne ho (by rw [qE4];exact ns)
   unfold qE0
   rw [if_pos hlk,if_pos hno]
   rw [qE4] at nf
   exact tk_refused (j:=j) (x:=⟨e,(k:Int),p,o⟩) (by rw [List.getElem?_eq_getElem hj,ej]) (by show qE5 all e (k:Int) p≠0;rw [f1];omega) (by show qE5 all e (k:Int) p≠o;rw [f1];exact hne)

structure qH4 where
 es:List Int
 al:Nat→Int→Int→Bool
 cl:Nat→List Int
def nextOf (o:Option StI):Int:=match o with
 | some y=>y.n
 | none => -1
def qB3 (E:qH4) (said:List StI) (e:Int):Int:=if e=E.es.headD 0 then 0 else nextOf (qI0 said 4 (e - 1))
def qC7 (E:qH4) (said:List StI) (x:StI):Int:=if qQ8 said x.k x.e=true then 6 else if (E.es.length:Int)≤x.n then 3 else if E.es[x.n.toNat]?.getD 0≠x.e+1 then 10 else 0
def qH1 (E:qH4) (said:List StI) (locks:List LkI) (p:Nat) (x:StI):Int:=if (qU3 said x.e || qD2 said (qS8 x))=true then 9 else if E.al p x.f x.s=false then 8 else qE0 locks (E.cl p) x.e x.f x.s
def qF5 (E:qH4) (said:List StI) (locks:List LkI) (x:StI):Int:=if qB3 E said x.e < 0 then 4 else if 40≤said.length then 2 else if x.k=1 then qH1 E said locks (qB3 E said x.e).toNat x else if x.k=2 then 0 else qC7 E said x
def qF0 (E:qH4) (said:List StI) (locks:List LkI) (x:StI):Int:=if qB8 x=0 then (if qD2 said x=true then 0 else qF5 E said locks x) else qB8 x
def qE1 (E:qH4) (said:List StI) (locks:List LkI) (x:StI):List LkI:=if x.k=1 then qL3 locks (E.cl (qB3 E said x.e).toNat) x.e x.f x.s else locks
def qZ4 (said:List StI) (x:StI):List StI:=if qD2 said x=true then said else said++[x]
def qT9 (E:qH4) (said:List StI) (locks:List LkI) (x:StI):List LkI:=if qD2 said x=true then locks else qE1 E said locks x
def qF4 (E:qH4) (xs:List StI):Nat→Option (List LkI)
 | 0=>some []
 | k+1=>match qF4 E xs k with
  | none=>none
  | some ls=>match xs[k]? with
   | none=>some ls
   | some x=>if qD2 (xs.take k) x=true then none else if qF0 E (xs.take k) ls x=0 then some (qE1 E (xs.take k) ls x) else none
theorem QA4 {E:qH4} {xs:List StI} {k m:Nat} (h:qF4 E xs k=none) (hm:k≤m):qF4 E xs m=none:=by
  induction m with
  | zero => obtain rfl:k=0:=by omega
            exact h
  | succ m ih =>
    by_cases e:k=m+1
    · subst e;exact h
    · simp [qF4,ih (by omega)]
theorem QL0 {E:qH4} {xs:List StI} {k:Nat} {ls:List LkI} {x:StI} (h:qF4 E xs k=some ls) (hx:xs[k]? = some x):qF4 E xs (k+1)=if qD2 (xs.take k) x=true then none else if qF0 E (xs.take k) ls x=0 then some (qE1 E (xs.take k) ls x) else none:=by
 simp [qF4,h,hx]
structure RpS (E:qH4) (said:List StI) (ls:List LkI):Prop where
 lk:qJ5 ls=0
 st:∀ x∈said,qB8 x=0
 nx:∀ x∈said,x.k=4→0≤x.n∧x.n < (E.es.length:Int)
 len:said.length≤40
theorem RpS.nil (E:qH4):RpS E [] []:=⟨rfl,fun x h=>(List.not_mem_nil h).elim,fun x h=>(List.not_mem_nil h).elim,Nat.zero_le _⟩
theorem st_zero {x:StI} (h:qB8 x=0):inR x.k 1 4=true∧ownB x=true∧rngB x=true:=by
 unfold qB8 at h
 cases h1:inR x.k 1 4 with
 | false=>rw [h1] at h;simp at h
 | true =>
  cases h2:ownB x with
  | false=>rw [h1,h2] at h;simp at h
  | true =>
   cases h3:rngB x with
   | false=>rw [h1,h2,h3] at h;simp at h
   | true=>exact ⟨rfl,rfl,rfl⟩
theorem qH6 {x:StI} (h:qB8 x=0):(1≤x.k∧x.k≤4)∧(1≤x.e∧x.e≤9)∧(0≤x.n∧x.n≤7)∧(0≤x.f∧x.f≤4)∧(0≤x.s∧x.s≤255)∧(x.k≤2→1≤x.f∧1≤x.s∧x.n=0)∧(3≤x.k→x.f=0∧x.s=0):=by
 obtain ⟨h1,h2,h3⟩:=st_zero h
 rw [qE4] at h1
 have h2':x=ownI x:=by
  have : qP2 x (ownI x)=true:=h2
  exact of_decide_eq_true this
 unfold rngB at h3
 cases q:inR x.e 1 9 with
 | false=>rw [q] at h3;simp at h3
 | true =>
  rw [q] at h3
  rw [qE4] at q
  unfold ownI at h2'
  cases f:QI0 x.k with
  | true =>
   rw [f] at h3 h2'
   simp only [Bool.true_eq_false, ↓reduceIte] at h3 h2'
   have hn:x.n=0:=by rw [h2']
   cases g:inR x.f 1 4 with
   | false=>rw [g] at h3;simp at h3
   | true =>
    rw [g] at h3
    simp only [Bool.true_eq_false, ↓reduceIte] at h3
    rw [qE4] at g h3
    have hk:x.k=1∨x.k=2:=by simpa [QI0] using f
    omega
  | false =>
   rw [f] at h3 h2'
   simp only [Bool.true_eq_false,Bool.false_eq_true, ↓reduceIte] at h3 h2'
   rw [qE4] at h3
   have hf:x.f=0:=by rw [h2']
   have hs:x.s=0:=by rw [h2']
   have hk:¬ (x.k=1∨x.k=2):=by
    intro q
    have : QI0 x.k=true:=by simpa [QI0] using q
    rw [this] at f;cases f
   omega
theorem take_lk {L:List LkI} {zs:List Int} {e f s:Int} (h:qE0 L zs e f s=0):qJ5 (qL3 L zs e f s)=0:=(classes_law h).2.1
theorem QL3 {E:qH4} {said:List StI} {ls:List LkI} {x:StI} (hc:qF5 E said ls x=0):¬ qB3 E said x.e < 0∧¬ 40≤said.length∧(x.k=1→qH1 E said ls (qB3 E said x.e).toNat x=0)∧(x.k≠1→x.k≠2→qC7 E said x=0):=by
 unfold qF5 at hc
 by_cases h1:qB3 E said x.e < 0
 ·rw [if_pos h1] at hc;omega
 ·rw [if_neg h1] at hc
  by_cases h2:40≤said.length
  ·rw [if_pos h2] at hc;omega
  ·rw [if_neg h2] at hc
   refine ⟨h1,h2,fun q=>?_,fun q q2=>?_⟩
   ·rw [if_pos q] at hc;exact hc
   ·rw [if_neg q,if_neg q2] at hc;exact hc
theorem issue_parts {E:qH4} {said:List StI} {ls:List LkI} {p:Nat} {x:StI} (hc:qH1 E said ls p x=0):(qU3 said x.e || qD2 said (qS8 x))=false∧E.al p x.f x.s=true∧qE0 ls (E.cl p) x.e x.f x.s=0:=by
 unfold qH1 at hc
 cases h1:(qU3 said x.e || qD2 said (qS8 x)) with
 | true=>rw [if_pos h1] at hc;omega
 | false =>
  rw [if_neg (by rw [h1];simp)] at hc
  cases h2:E.al p x.f x.s with
  | false=>rw [if_pos h2] at hc;omega
  | true=>rw [if_neg (by rw [h2];simp)] at hc;exact ⟨rfl,rfl,hc⟩
theorem next_parts {E:qH4} {said:List StI} {x:StI} (hc:qC7 E said x=0):qQ8 said x.k x.e=false∧x.n < (E.es.length:Int)∧E.es[x.n.toNat]?.getD 0=x.e+1:=by
 unfold qC7 at hc
 cases h1:qQ8 said x.k x.e with
 | true=>rw [if_pos h1] at hc;omega
 | false =>
  rw [if_neg (by rw [h1];simp)] at hc
  by_cases h2:(E.es.length:Int)≤x.n
  ·rw [if_pos h2] at hc;omega
  ·rw [if_neg h2] at hc
   by_cases h3:E.es[x.n.toNat]?.getD 0=x.e+1
   ·exact ⟨rfl,by omega,h3⟩
   ·rw [if_pos h3] at hc;omega
theorem new_lk {E:qH4} {said:List StI} {ls:List LkI} {x:StI} (h:RpS E said ls) (hc:qF5 E said ls x=0):qJ5 (qE1 E said ls x)=0:=by
 unfold qE1
 by_cases q:x.k=1
 ·rw [if_pos q]
  exact take_lk (issue_parts ((QL3 hc).2.2.1 q)).2.2
 ·rw [if_neg q];exact h.lk
theorem RpS.next {E:qH4} {said:List StI} {ls:List LkI} {x:StI} (h:RpS E said ls) (hs:qB8 x=0) (hc:qF5 E said ls x=0):RpS E (said++[x]) (qE1 E said ls x):=by
 have hl:=(QL3 hc).2.1
 refine ⟨new_lk h hc,fun y hy=>?_,fun y hy hk=>?_,by rw [List.length_append];simp;omega⟩
 ·rcases List.mem_append.1 hy with q | q
  ·exact h.st y q
  ·rw [List.mem_singleton] at q;rw [q];exact hs
 ·rcases List.mem_append.1 hy with q | q
  ·exact h.nx y q hk
  ·rw [List.mem_singleton] at q
   subst q
   exact ⟨(qH6 hs).2.2.1.1,(next_parts ((QL3 hc).2.2.2 (by omega) (by omega))).2.1⟩
theorem end_new {E:qH4} {said:List StI} {ls:List LkI} {x:StI} (hn:qD2 said x=false) (hc:qF0 E said ls x=0):qB8 x=0∧qF5 E said ls x=0:=by
 unfold qF0 at hc
 split at hc
 ·rename_i q
  rw [hn] at hc
  simp only [Bool.false_eq_true, ↓reduceIte] at hc
  exact ⟨q,hc⟩
 ·rename_i q;exact absurd hc q
theorem QU6 {E:qH4} {xs:List StI}:∀ k ls,k≤xs.length→qF4 E xs k=some ls→RpS E (xs.take k) ls
 | 0,ls,_,h=>by
  have : ([]:List LkI)=ls:=Option.some.inj h
  subst this
  simpa using RpS.nil E
 | k+1,ls,hk,h=>by
  cases hp:qF4 E xs k with
  | none=>rw [QA4 hp (by omega)] at h;cases h
  | some l0 =>
   have hx:=List.getElem?_eq_getElem (l:=xs) (i:=k) (by omega)
   have ih:=QU6 k l0 (by omega) hp
   rw [QL0 hp hx] at h
   split at h
   ·cases h
   ·rename_i hn
    split at h
    ·rename_i hc
     have e:qE1 E (xs.take k) l0 xs[k]=ls:=Option.some.inj h
     subst e
     have hn':qD2 (xs.take k) xs[k]=false:=by simpa using hn
     obtain ⟨q1,q2⟩:=end_new hn' hc
     rw [List.take_succ_eq_append_getElem (by omega)]
     exact ih.next q1 q2
    ·cases h
theorem known_in {E:qH4} {said:List StI} {ls:List LkI} (h:RpS E said ls) (hE:0 < E.es.length) (e:Int):qB3 E said e = -1∨(0≤qB3 E said e∧qB3 E said e < (E.es.length:Int)):=by
 unfold qB3
 split
 ·exact .inr ⟨by omega,by omega⟩
 ·cases hk:qI0 said 4 (e - 1) with
  | none=>exact .inl rfl
  | some y =>
   have hm:=List.mem_of_find?_eq_some hk
   have hp:=List.find?_some hk
   simp only [Bool.and_eq_true,decide_eq_true_eq] at hp
   exact .inr (h.nx y hm hp.1)

abbrev KR (W W':World):Prop:=(∀ b o,b < W.heap.size→W'.cell? ⟨b,o,none⟩=W.cell? ⟨b,o,none⟩)∧Below W.heap.size W W'
theorem known_is {E:qH4} {cs:List qA1} {c0:qA1} (hE:E.es=cs.map (·.e)) (h0:cs[0]? = some c0) (said:List StI) (e:Int):qB3 E said e=if e=c0.e then 0 else nextOf (qI0 said 4 (e - 1)):=by
 unfold qB3
 rw [hE]
 have : (cs.map (·.e)).headD 0=c0.e:=by
  cases cs with
  | nil=>cases h0
  | cons x r=>simp at h0;subst h0;rfl
 rw [this]
theorem QM7 (E:qH4) (b:Nat) (r:qG5) (a:Option Addr) (m cap:Nat) (cs:List qA1) (e:Int) (w:World) (hE:E.es=cs.map (·.e)) (hx:qG4 w b r) (h:qL2 w r.sa r.sn r.ss) (hn:r.sn≤1048576) (hc:qA5 w a m cs) (hm:0 < m) (hm8:m≤8) (he:1≤e∧e≤9) :
  Calls Tryz.prog 75 #[.pointer (some ⟨b,0,none⟩),.slice a m cap,.int .i64 e] w fun d w'=>d = .returned (.int .i64 (qB3 E r.ss e))∧Below w.heap.size w w':=by
 obtain ⟨g0,off0,c0,rfl,hc0,hat0,_⟩:=hc.at hm
 rw [known_is hE hc0]
 have hg0:=hat0.lt
 obtain ⟨v0,_⟩:=hat0
 simp only [Nat.zero_mul,Nat.add_zero] at v0
 clear hc hE hc0
 obtain ⟨i,u,sa,n,sc,said,la,ln,lc,ls⟩:=r
 simp only at hx h hn ⊢
 have HZ:Hid (said.length=n):=h.1
 have H:Hid (qL2 w sa n said):=h
 have hbl:=hx.lt
 obtain ⟨_,_,x2,_⟩:=hx
 have X2:Hid (w.cell? ⟨b,2,none⟩=some (.slice sa n sc)):=x2
 clear h x2
 have hn':(n:Int)≤1048576:=by omega
 have hm':(0:Int) < (m:Int):=by omega
 by_cases q0:e=c0.e
 ·have b0:(e==c0.e)=true:=by simp [q0]
  rw [if_pos q0]
  clear q0
  go_enter Tryz.func75,Tryz.ntmps75
  go_wp2
  go_ret
  exact ⟨rfl,Below.refl _ _⟩
 ·have b0:(e==c0.e)=false:=by simp [q0]
  rw [if_neg q0]
  clear q0
  obtain ⟨t,ht⟩:∃ t,qI0 said 4 (e - 1)=t:=⟨_,rfl⟩
  have HT:Hid (qI0 said 4 (e - 1)=t):=ht
  rw [ht]
  clear ht
  obtain ⟨v,hv⟩:∃ v:Int,nextOf t=v:=⟨_,rfl⟩
  have HV:Hid (nextOf t=v):=hv
  rw [hv]
  clear hv
  obtain ⟨he1,he9⟩:=he
  go_enter Tryz.func75,Tryz.ntmps75
  go_wp2
  clear v0 b0
  go_loopw [7] (fun i wr=>∃ j:Nat,j≤n∧i = .int .i64 (j:Int)∧qI0 (said.drop j) 4 (e - 1)=t∧Below w.heap.size w wr) (fun i _=>n - (intOf i).toNat)
  case atStart=>exact ⟨0,Nat.zero_le _,rfl,HT.out,Below.refl _ _⟩
  case round =>
   obtain ⟨j,hj,rfl,hp,hnx⟩:=hrel
   have x2:=(hnx.cell (p:=⟨b,2,none⟩) hbl).trans X2.out
   have hbw2:b < wr.heap.size:=Nat.lt_of_lt_of_le hbl hnx.size
   by_cases hlt:j < n
   ·obtain ⟨g,off,x,rfl,hs,hxa,hgl⟩:=H.out.at hlt
    rw [QC4 hs] at hp
    obtain ⟨y0,y1,y2,y3,y4⟩:=hxa.below hnx hgl
    have hbw:g < wr.heap.size:=Nat.lt_of_lt_of_le hgl hnx.size
    have hlt':(j:Int) < (n:Int):=by omega
    clear hs hxa
    by_cases q1:x.k=4
    ·have b1:(x.k==4)=true:=by simp [q1]
     by_cases q2:x.e=e - 1
     ·have b2:(x.e==e - 1)=true:=by simp [q2]
      rw [if_pos ⟨q1,q2⟩] at hp
      have HP:Hid (x.n=v):=by have:=HV.out;rw [← hp] at this;exact this
      clear hp q1 q2
      go_wp2
      go_ret
      exact ⟨by rw [← HP.out];rfl,hnx⟩
     ·have b2:(x.e==e - 1)=false:=by simp [q2]
      rw [if_neg (fun q=>q2 q.2)] at hp
      have HP:Hid (qI0 (said.drop (j+1)) 4 (e - 1)=t):=hp
      clear hp q1 q2
      go_wp2
      exact ⟨⟨j+1,by omega,by go_num,HP.out,hnx⟩,by simp [intOf];omega⟩
    ·have b1:(x.k==4)=false:=by simp [q1]
     rw [if_neg (fun q=>q1 q.1)] at hp
     have HP:Hid (qI0 (said.drop (j+1)) 4 (e - 1)=t):=hp
     clear hp q1
     go_wp2
     exact ⟨⟨j+1,by omega,by go_num,HP.out,hnx⟩,by simp [intOf];omega⟩
   ·have hkn:j=n:=by omega
    subst hkn
    rw [List.drop_of_length_le (by rw [HZ.out];exact Nat.le_refl _)] at hp
    have HP:Hid ((-1:Int)=v):=by have:=HV.out;rw [← hp] at this;exact this
    clear hp
    go_wp2
    go_ret
    exact ⟨by rw [← HP.out];rfl,hnx⟩
theorem es_at {E:qH4} {cs:List qA1} (hE:E.es=cs.map (·.e)) {k:Nat} {c:qA1} (hc:cs[k]? = some c):E.es[k]?.getD 0=c.e:=by
 rw [hE,List.getElem?_map,hc];rfl
theorem l8Next_c (E:qH4) (b:Nat) (r:qG5) (a:Option Addr) (m cap:Nat) (cs:List qA1) (bx:Nat) (x:StI) (w:World) (hE:E.es=cs.map (·.e)) (hr:qG4 w b r) (h:qL2 w r.sa r.sn r.ss) (hn:r.sn≤1048576) (hc:qA5 w a m cs) (hm8:m≤8) (hx:qQ3 w bx 0 x) (he:1≤x.e∧x.e≤9) (hxn:0≤x.n∧x.n≤7) :
  Calls Tryz.prog 77 #[.pointer (some ⟨b,0,none⟩),.slice a m cap,.pointer (some ⟨bx,0,none⟩)] w fun d w'=>d = .returned (.int .i64 (qC7 E r.ss x))∧Below w.heap.size w w':=by
 have HK:Hid (∀ w2,KR w w2→Calls Tryz.prog 101 #[.pointer (some ⟨b,0,none⟩),.int .i64 x.k,.int .i64 x.e] w2 fun d w'=>d = .returned (.bool (qQ8 r.ss x.k x.e))∧Below w2.heap.size w2 w'):=fun w2 q=>l8Kind_c b r x.k x.e w2 (hr.below q.2) (h.below q.2) hn
 have hbx:bx < w.heap.size:=zL w ⟨bx,0,none⟩ (by simpa using hx.1)
 have HC:Hid (qA5 w a m cs):=hc
 have HL:Hid (E.es.length=m):=by show E.es.length=m;rw [hE,List.length_map];exact hc.len
 have HE:Hid (E.es=cs.map (·.e)):=hE
 have HX:Hid (qQ3 w bx 0 x):=hx
 obtain ⟨x0,x1,x2,x3,x4⟩:=hx
 simp only [Nat.zero_add] at x0 x1 x2 x3 x4
 clear hr h hc hE x2 x3
 have hm':(m:Int)≤8:=by omega
 obtain ⟨he1,he9⟩:=he
 obtain ⟨hn0,hn7⟩:=hxn
 cases hk:qQ8 r.ss x.k x.e
 ·rw [hk] at HK
  by_cases hl:(m:Int)≤x.n
  ·have HV:Hid (qC7 E r.ss x=3):=by show qC7 E r.ss x=3;unfold qC7;rw [if_neg (by rw [hk];simp),if_pos (by rw [HL.out];exact hl)]
   rw [HV.out]
   clear hk
   go_enter Tryz.func77,Tryz.ntmps77
   go_upto_region 1 with fail
   go_region_held3 (fun w'=>KR w w') (first | exact hS | exact qB6 _)
    (first | (go_at_call 101;refine (HK.out _ (by assumption)).mono ?_;rintro d w' ⟨rfl,hb2⟩;have hS:=qA7 (by assumption) hb2))
   go_wp2
   go_ret
   exact ⟨rfl,hS.2⟩
  ·obtain ⟨k,hk'⟩:∃ k:Nat,x.n=(k:Int):=Int.eq_ofNat_of_zero_le hn0
   have hkm:k < m:=by omega
   obtain ⟨g,off,c,rfl,hck,hat,_⟩:=HC.out.at hkm
   have hes:=es_at HE.out hck
   have hgl:=hat.lt
   have HAT:Hid (qI2 w g (off+k * 5) c):=hat
   by_cases hce:c.e=x.e+1
   ·have HV:Hid (qC7 E r.ss x=0):=by show qC7 E r.ss x=0;unfold qC7;rw [if_neg (by rw [hk];simp),if_neg (by rw [HL.out];exact hl),hk',Int.toNat_natCast,hes,if_neg (by rw [hce];simp)]
    have hceb:(c.e != x.e+1)=false:=by simp [hce]
    rw [HV.out]
    rw [hk'] at x4 hl
    have HX4:Hid (x.n=(k:Int)):=hk'
    clear hk hce hck hat hes hk' hn0 hn7
    have hl':¬ ((m:Int)≤(k:Int)):=hl
    have hlt':(k:Int) < (m:Int):=by omega
    go_enter Tryz.func77,Tryz.ntmps77
    go_upto_region 1 with fail
    go_region_held3 (fun w'=>KR w w') (first | exact hS | exact qB6 _)
     (first | (go_at_call 101;refine (HK.out _ (by assumption)).mono ?_;rintro d w' ⟨rfl,hb2⟩;have hS:=qA7 (by assumption) hb2))
    obtain ⟨y0,y1,_⟩:=HAT.out
    go_wp2
    go_quiet (fail)
    go_wp2
    go_ret
    exact ⟨rfl,below_drewN hS.2 _⟩
   ·have HV:Hid (qC7 E r.ss x=10):=by show qC7 E r.ss x=10;unfold qC7;rw [if_neg (by rw [hk];simp),if_neg (by rw [HL.out];exact hl),hk',Int.toNat_natCast,hes,if_pos hce]
    have hceb:(c.e != x.e+1)=true:=by simp [hce]
    rw [HV.out]
    rw [hk'] at x4 hl
    have HX4:Hid (x.n=(k:Int)):=hk'
    clear hk hce hck hat hes hk' hn0 hn7
    have hl':¬ ((m:Int)≤(k:Int)):=hl
    have hlt':(k:Int) < (m:Int):=by omega
    go_enter Tryz.func77,Tryz.ntmps77
    go_upto_region 1 with fail
    go_region_held3 (fun w'=>KR w w') (first | exact hS | exact qB6 _)
     (first | (go_at_call 101;refine (HK.out _ (by assumption)).mono ?_;rintro d w' ⟨rfl,hb2⟩;have hS:=qA7 (by assumption) hb2))
    obtain ⟨y0,y1,_⟩:=HAT.out
    go_wp2
    go_quiet (fail)
    go_wp2
    go_ret
    exact ⟨rfl,below_drewN hS.2 _⟩
 ·rw [hk] at HK
  have HV:Hid (qC7 E r.ss x=6):=by show qC7 E r.ss x=6;unfold qC7;rw [if_pos hk]
  rw [HV.out]
  clear hk
  go_enter Tryz.func77,Tryz.ntmps77
  go_upto_region 1 with fail
  go_region_held3 (fun w'=>KR w w') (first | exact hS | exact qB6 _)
   (first | (go_at_call 101;refine (HK.out _ (by assumption)).mono ?_;rintro d w' ⟨rfl,hb2⟩;have hS:=qA7 (by assumption) hb2))
  go_wp2
  go_ret
  exact ⟨rfl,hS.2⟩

section
attribute [local go_sem ↓] st_eql
theorem mem_takeS {said:List StI} {x:StI} {k:Nat}:x∈said.take k↔∃ j,j < k∧said[j]? = some x:=by
 rw [List.mem_take_iff_getElem]
 constructor
 ·rintro ⟨j,hj,e⟩
  exact ⟨j,by omega,by rw [List.getElem?_eq_getElem (by omega),e]⟩
 ·rintro ⟨j,hj,e⟩
  have hl:j < said.length:=by
   by_cases q:j < said.length
   ·exact q
   ·rw [List.getElem?_eq_none (by omega)] at e;cases e
  rw [List.getElem?_eq_getElem hl] at e
  exact ⟨j,by omega,Option.some.inj e⟩
theorem slIndexS_c (a:Option Addr) (n cap:Nat) (zs:List StI) (r:StI) (w:World) (hn:n≤1048576) (h:qL2 w a n zs) :
  Calls Tryz.prog 138 #[.slice a n cap,.agg #[.int .i64 r.k,.int .i64 r.e,.int .i64 r.f,.int .i64 r.s,.int .i64 r.n]] w fun e w'=>(∃ i:Int,e = .returned (.int .i64 i)∧((0≤i∧r∈zs)∨(i = -1∧¬ r∈zs)))∧Below w.heap.size w w':=by
 have hz:Hid (zs.length=n):=h.1
 have hn':(n:Int)≤1048576:=by omega
 obtain ⟨w0,hw0⟩:∃ w0,w0=w.alloc (.cells #[.int .i64 r.k,.int .i64 r.e,.int .i64 r.f,.int .i64 r.s,.int .i64 r.n] 85):=⟨_,rfl⟩
 have hb0:Below w.heap.size w w0:=by rw [hw0];exact zN
 have hs0:w.heap.size < w0.heap.size:=by rw [hw0];simp
 have HB0:Hid (Below w.heap.size w w0):=hb0
 have H:Hid (qL2 w0 a n zs):=h.below hb0
 have HY:Hid (qQ3 w0 w.heap.size 0 r):=by rw [hw0];exact qQ3.new w r _
 clear h hb0
 go_enter Tryz.func138,Tryz.ntmps138
 go_wp2
 rw [← hw0]
 clear hw0
 go_loopw [8] (fun i wr=>∃ k:Nat,k≤n∧i = .int .i64 (k:Int)∧¬ r∈zs.take k∧Below w0.heap.size w0 wr) (fun i _=>n - (intOf i).toNat)
 case atStart=>exact ⟨0,Nat.zero_le _,rfl,by simp,Below.refl _ _⟩
 case round =>
  obtain ⟨k,hk,rfl,hm,hnx⟩:=hrel
  have HM:Hid (¬ r∈zs.take k):=hm
  have BN:Hid (Below w.heap.size w wr):=HB0.out.trans (hnx.mono (by omega))
  clear hm
  by_cases hlt:k < n
  ·obtain ⟨g,off,x,rfl,hs,hxa,hgl⟩:=H.out.at hlt
   have HS:Hid (zs[k]? = some x):=hs
   obtain ⟨g0,g1,g2,g3,g4⟩:=hxa.below hnx hgl
   obtain ⟨y0,y1,y2,y3,y4⟩:=HY.out.below hnx hs0
   simp only [Nat.zero_add] at y0 y1 y2 y3 y4
   have hbw:g < wr.heap.size:=Nat.lt_of_lt_of_le hgl hnx.size
   have hyw:w.heap.size < wr.heap.size:=Nat.lt_of_lt_of_le hs0 hnx.size
   have hlt':(k:Int) < (n:Int):=by omega
   clear hs hxa
   cases hsame:qP2 r x
   ·have HN:Hid (¬ r∈zs.take (k+1)):=by
     show ¬ r∈zs.take (k+1)
     rw [mem_takeS]
     rintro ⟨j,hj,hjs⟩
     by_cases e:j=k
     ·subst e
      rw [HS.out] at hjs
      simp [qP2] at hsame
      exact hsame (Option.some.inj hjs).symm
     ·exact HM.out (mem_takeS.2 ⟨j,by omega,hjs⟩)
    go_wp2
    go_quiet (fail)
    go_wp2
    exact ⟨⟨k+1,by omega,by go_num,HN.out,below_drewN hnx _⟩,by simp [intOf];omega⟩
   ·have HI:Hid (r∈zs):=by
     show r∈zs
     simp [qP2] at hsame
     subst hsame
     exact List.mem_of_getElem? HS.out
    go_wp2
    go_quiet (fail)
    go_wp2
    go_ret
    exact ⟨⟨_,rfl,Or.inl ⟨by omega,HI.out⟩⟩,below_drewN BN.out _⟩
  ·have hkn:k=n:=by omega
   subst hkn
   have HN:Hid (¬ r∈zs):=by
    have:=HM.out
    rw [List.take_of_length_le (by rw [hz.out];exact Nat.le_refl _)] at this
    exact this
   go_wp2
   go_ret
   exact ⟨⟨_,rfl,Or.inr ⟨rfl,HN.out⟩⟩,BN.out⟩
theorem qF3 (a:Option Addr) (n cap:Nat) (zs:List StI) (r:StI) (w:World) (hn:n≤1048576) (h:qL2 w a n zs) :
  Calls Tryz.prog 108 #[.slice a n cap,.agg #[.int .i64 r.k,.int .i64 r.e,.int .i64 r.f,.int .i64 r.s,.int .i64 r.n]] w fun e w'=>e = .returned (.bool (qD2 zs r))∧Below w.heap.size w w':=by
 have H:Hid (qL2 (w.alloc (.cells #[.int .i64 r.k,.int .i64 r.e,.int .i64 r.f,.int .i64 r.s,.int .i64 r.n] 85)) a n zs):=h.below (zN)
 clear h
 go_enter Tryz.func108,Tryz.ntmps108
 go_wp2_with fail
 refine (slIndexS_c a n cap zs r _ hn H.out).mono ?_
 rintro e w1 ⟨⟨i,rfl,hi⟩,hb1⟩
 have HX:Hid (decide (0≤i)=qD2 zs r):=by
  show decide (0≤i)=qD2 zs r
  cases q:qD2 zs r
  ·have hq:¬ r∈zs:=fun m=>by rw [QZ2.2 m] at q;cases q
   rcases hi with ⟨_,h2⟩ | ⟨rfl,_⟩
   ·exact absurd h2 hq
   ·rfl
  ·have hq:=QZ2.1 q
   rcases hi with ⟨h1,_⟩ | ⟨_,h2⟩
   ·simp [h1]
   ·exact absurd hq h2
 clear hi
 go_wp2
 go_ret
 exact ⟨by rw [HX.out];rfl,qC1 hb1⟩
structure qZ9 (w:World) (b:Nat) (cv sv lv:Value):Prop where
 c0:w.cell? ⟨b,0,none⟩=some cv
 c1:w.cell? ⟨b,1,none⟩=some sv
 c2:w.cell? ⟨b,2,none⟩=some lv
 fz:∀ j,w.frozen? ⟨b,j,none⟩=false
theorem qZ9.lt {w:World} {b:Nat} {cv sv lv:Value} (h:qZ9 w b cv sv lv):b < w.heap.size:=zL w ⟨b,0,none⟩ h.c0
theorem qZ9.below {w w':World} {b:Nat} {cv sv lv:Value} (h:qZ9 w b cv sv lv) (hb:Below w.heap.size w w'):qZ9 w' b cv sv lv :=
 ⟨(hb.cell (p:=⟨b,0,none⟩) h.lt).trans h.c0,(hb.cell (p:=⟨b,1,none⟩) h.lt).trans h.c1,(hb.cell (p:=⟨b,2,none⟩) h.lt).trans h.c2,fun j=>(hb.frozen (p:=⟨b,j,none⟩) h.lt).trans (h.fz j)⟩
theorem hasRevoked_c (b:Nat) (cv lv:Value) (sa:Option Addr) (n sc:Nat) (said:List StI) (x:StI) (w:World) (hs:qZ9 w b cv (.slice sa n sc) lv) (hn:n≤1048576) (h:qL2 w sa n said) :
  Calls Tryz.prog 141 #[.pointer (some ⟨b,0,none⟩),.agg #[.int .i64 x.k,.int .i64 x.e,.int .i64 x.f,.int .i64 x.s,.int .i64 x.n]] w fun d w'=>d = .returned (.bool (qD2 said (qS8 x)))∧Below w.heap.size w w':=by
 obtain ⟨V,hV⟩:∃ V,V=w.alloc (.cells #[.int .i64 x.k,.int .i64 x.e,.int .i64 x.f,.int .i64 x.s,.int .i64 x.n] 85):=⟨_,rfl⟩
 have B0:Below w.heap.size w V:=by rw [hV];exact zN
 have HX:qQ3 V w.heap.size 0 x:=by rw [hV];exact qQ3.new w x _
 have hwl:w.heap.size < V.heap.size:=by rw [hV];simp
 have hS:=hs.below B0
 have hbl:=hS.lt
 have c1:=hS.c1
 have HC:Hid (∀ w2,KR V w2→Calls Tryz.prog 108 #[.slice sa n sc,.agg #[.int .i64 2,.int .i64 x.e,.int .i64 x.f,.int .i64 x.s,.int .i64 0]] w2 fun e w'=>e = .returned (.bool (qD2 said (qS8 x)))∧Below w2.heap.size w2 w'):=fun w2 q=>qF3 sa n sc said (qS8 x) w2 hn ((h.below B0).below q.2)
 obtain ⟨x0,x1,x2,x3,x4⟩:=HX
 simp only [Nat.zero_add] at x0 x1 x2 x3 x4
 clear h hs hS
 go_enter Tryz.func141,Tryz.ntmps141
 go_upto_region 1 with fail
 rw [← hV]
 clear hV
 go_region_held3 (fun w'=>KR V w') (first | exact hS | exact qB6 _)
  (first | (go_at_call 169;refine (revokeOf_c x _).mono ?_;rintro d w' ⟨rfl,hb2⟩;have hS:=qA7 (by assumption) hb2) | (go_at_call 108;refine (HC.out _ (by assumption)).mono ?_;rintro d w' ⟨rfl,hb2⟩;have hS:=qA7 (by assumption) hb2))
 go_wp2
 go_ret
 exact ⟨rfl,B0.trans (hS.2.mono B0.size)⟩
end

def QF3 (cs:List qA1) (p:Int) (d:Ending):Prop:=(p < 0→d = .returned (.tuple #[.agg #[.int .i64 0,.int .i64 0,.slice none 0 0,.slice none 0 0,.slice none 0 0],.bool false]))∧(∀ c,0≤p→cs[p.toNat]? = some c→d = .returned (.tuple #[.agg #[.int .i64 c.e,.int .i64 c.f,.slice c.ra c.rn c.rc,.slice c.fa c.fn c.fc,.slice c.ca c.cn c.cc],.bool true]))
theorem qM6 (E:qH4) (b:Nat) (lv:Value) (sa:Option Addr) (n sc:Nat) (said:List StI) (a:Option Addr) (m cap:Nat) (cs:List qA1) (e:Int) (w:World) (hE:E.es=cs.map (·.e)) (hs:qZ9 w b (.slice a m cap) (.slice sa n sc) lv) (h:qL2 w sa n said) (hn:n≤1048576) (hc:qA5 w a m cs) (hm:0 < m) (hm8:m≤8) (he:1≤e∧e≤9) (hk:∀ x∈said,x.k=4→0≤x.n∧x.n < (m:Int)) :
  Calls Tryz.prog 110 #[.pointer (some ⟨b,0,none⟩),.int .i64 e] w fun d w'=>QF3 cs (qB3 E said e) d∧Below w.heap.size w w':=by
 obtain ⟨g0,off0,c0,rfl,hc0,hat0,_⟩:=hc.at hm
 rw [known_is hE hc0]
 obtain ⟨V,hV⟩:∃ V,V=w.alloc (.cells #[.int .i64 0,.int .i64 0,.slice none 0 0,.slice none 0 0,.slice none 0 0] 71):=⟨_,rfl⟩
 have HV:Hid (V=w.alloc (.cells #[.int .i64 0,.int .i64 0,.slice none 0 0,.slice none 0 0,.slice none 0 0] 71)):=hV
 have B0:Below w.heap.size w V:=by rw [hV];exact zN
 have hwl:w.heap.size < V.heap.size:=by rw [hV];simp
 have R0:Hid ((V.cell? ⟨w.heap.size,0,none⟩=some (.int .i64 0)∧V.cell? ⟨w.heap.size,1,none⟩=some (.int .i64 0)∧V.cell? ⟨w.heap.size,2,none⟩=some (.slice none 0 0)∧V.cell? ⟨w.heap.size,3,none⟩=some (.slice none 0 0)∧V.cell? ⟨w.heap.size,4,none⟩=some (.slice none 0 0))∧∀ j,V.frozen? ⟨w.heap.size,j,none⟩=false):=by rw [hV];exact ⟨⟨by simp,by simp,by simp,by simp,by simp⟩,fun j=>by simp [go_sem]⟩
 have hS:=hs.below B0
 have hSw:=hS.lt
 have hbw:b < w.heap.size:=hs.lt
 have HS:Hid (qZ9 V b (.slice (some ⟨g0,off0,none⟩) m cap) (.slice sa n sc) lv):=hS
 have c0':=hs.c0
 have c1':=hs.c1
 have hat:=hat0
 have hg0:=hat.lt
 have hg0w:g0 < w.heap.size:=hat0.lt
 obtain ⟨v0,v1,v2,v3,v4⟩:=hat
 simp only [Nat.zero_mul,Nat.add_zero] at v0 v1 v2 v3 v4
 have HC:Hid (qA5 V (some ⟨g0,off0,none⟩) m cs):=hc.below B0
 have HST:Hid (qL2 V sa n said):=h.below B0
 have HB0:Hid (Below w.heap.size w V):=B0
 have HC0:Hid (cs[0]? = some c0):=hc0
 have HKN:Hid (∀ x∈said,x.k=4→0≤x.n∧x.n < (m:Int)):=hk
 have hm':(0:Int) < (m:Int):=by omega
 clear hS hs h hc hat0 hE hc0 hk hV B0
 by_cases q0:e=c0.e
 ·have b0:(e==c0.e)=true:=by simp [q0]
  rw [if_pos q0]
  clear q0
  obtain ⟨⟨r0,r1,r2,r3,r4⟩,rf⟩:=R0.out
  have f0:=rf 0
  have f1:=rf 1
  have f2:=rf 2
  have f3:=rf 3
  have f4:=rf 4
  clear rf
  have hne:g0≠w.heap.size:=by omega
  go_enter Tryz.func110,Tryz.ntmps110
  go_wp2_with fail
  refine bodyPost_ret (v:=.tuple #[.agg #[.int .i64 c0.e,.int .i64 c0.f,.slice c0.ra c0.rn c0.rc,.slice c0.fa c0.fn c0.fc,.slice c0.ca c0.cn c0.cc],.bool true]) (by simp [results,Tryz.results110,go_sem,r0,r1,r2,r3,r4]) rfl ⟨⟨fun q=>by omega,fun c _ hc=>?_⟩,?_⟩
  ·rw [show ((0:Int)).toNat=0 by rfl,HC0.out] at hc;cases hc;rfl
  ·exact zN
 ·have b0:(e==c0.e)=false:=by simp [q0]
  rw [if_neg q0]
  clear q0 v1 v2 v3 v4
  obtain ⟨he1,he9⟩:=he
  go_enter Tryz.func110,Tryz.ntmps110
  go_wp2_with fail
  rw [← HV.out]
  refine (QU2 sa n sc said 4 (e - 1) _ hn HST.out).mono ?_
  rintro d w1 ⟨⟨i,rfl,hi⟩,hb1⟩
  have B1:Hid (Below w.heap.size w w1):=HB0.out.trans (hb1.mono HB0.out.size)
  have hz1:=hb1.size
  have hwl1:w.heap.size < w1.heap.size:=by omega
  have R1:(w1.cell? ⟨w.heap.size,0,none⟩=some (.int .i64 0)∧w1.cell? ⟨w.heap.size,1,none⟩=some (.int .i64 0)∧w1.cell? ⟨w.heap.size,2,none⟩=some (.slice none 0 0)∧w1.cell? ⟨w.heap.size,3,none⟩=some (.slice none 0 0)∧w1.cell? ⟨w.heap.size,4,none⟩=some (.slice none 0 0))∧∀ j,w1.frozen? ⟨w.heap.size,j,none⟩=false:=by
   obtain ⟨⟨r0,r1,r2,r3,r4⟩,rf⟩:=R0.out
   exact ⟨⟨(hb1.cell (p:=⟨w.heap.size,0,none⟩) hwl).trans r0,(hb1.cell (p:=⟨w.heap.size,1,none⟩) hwl).trans r1,(hb1.cell (p:=⟨w.heap.size,2,none⟩) hwl).trans r2,(hb1.cell (p:=⟨w.heap.size,3,none⟩) hwl).trans r3,(hb1.cell (p:=⟨w.heap.size,4,none⟩) hwl).trans r4⟩,fun j=>(hb1.frozen (p:=⟨w.heap.size,j,none⟩) hwl).trans (rf j)⟩
  obtain ⟨⟨r0,r1,r2,r3,r4⟩,rf⟩:=R1
  have f0:=rf 0
  have f1:=rf 1
  have f2:=rf 2
  have f3:=rf 3
  have f4:=rf 4
  have S1:=HS.out.below hb1
  have s0:=S1.c0
  have s1:=S1.c1
  have hSw1:=S1.lt
  have HC1:Hid (qA5 w1 (some ⟨g0,off0,none⟩) m cs):=HC.out.below hb1
  have HST1:Hid (qL2 w1 sa n said):=HST.out.below hb1
  clear rf S1 hb1 R0 HS HC HST c0' c1' v0 hSw
  rcases hi with ⟨rfl,hno⟩ | ⟨j,x,rfl,hj,hat⟩
  ·have HNO:Hid (qI0 said 4 (e - 1)=none):=hno
   clear hno
   go_wp2_with fail
   rw [HNO.out]
   refine bodyPost_ret (v:=.tuple #[.agg #[.int .i64 0,.int .i64 0,.slice none 0 0,.slice none 0 0,.slice none 0 0],.bool false]) (by simp [results,Tryz.results110,go_sem,r0,r1,r2,r3,r4]) rfl ⟨⟨fun q=>rfl,fun c q _=>by have h0:(0:Int) ≤ -1:=q;omega⟩,?_⟩
   exact B1.out.setCell (Nat.le_refl _) _ |>.setCell (Nat.le_refl _) _ |>.setCell (Nat.le_refl _) _ |>.setCell (Nat.le_refl _) _ |>.setCell (Nat.le_refl _) _
  ·have HAT:Hid (qI0 said 4 (e - 1)=some x):=hat
   have hjn:j < n:=by
    have:=HST1.out.1
    by_cases q:j < said.length
    ·omega
    ·rw [List.getElem?_eq_none (by omega)] at hj;cases hj
   have hp:=List.find?_some hat
   simp only [Bool.and_eq_true,decide_eq_true_eq] at hp
   have hxn:=HKN.out x (List.mem_of_getElem? hj) hp.1
   obtain ⟨k,hk⟩:∃ k:Nat,x.n=(k:Int):=Int.eq_ofNat_of_zero_le hxn.1
   have hkm:k < m:=by omega
   obtain ⟨gs,os,x',rfl,hx',hxa,hgs⟩:=HST1.out.at hjn
   rw [hj] at hx'
   cases hx'
   obtain ⟨g,off,c,e',hck,hca,_⟩:=HC1.out.at hkm
   cases e'
   have hgc:=hca.lt
   have y4:=hxa.2.2.2.2
   rw [hk] at y4
   obtain ⟨u0,u1,u2,u3,u4⟩:=hca
   have hjn':(j:Int) < (n:Int):=by omega
   have hkm':(k:Int) < (m:Int):=by omega
   have hn':(n:Int)≤1048576:=by omega
   have HCK:Hid (cs[k]? = some c):=hck
   have HXK:Hid (x.n=(k:Int)):=hk
   have hgne:g0≠w.heap.size:=by omega
   clear hat hj hp hxn hk hxa hck
   go_upto_region 6 with fail
   go_region
   go_wp2_with fail
   rw [HAT.out]
   refine bodyPost_ret (v:=.tuple #[.agg #[.int .i64 c.e,.int .i64 c.f,.slice c.ra c.rn c.rc,.slice c.fa c.fn c.fc,.slice c.ca c.cn c.cc],.bool true]) (by simp [results,Tryz.results110,go_sem,r0,r1,r2,r3,r4]) rfl ⟨⟨fun q=>by have h0:x.n < 0:=q;have:=HXK.out;omega,fun c' _ hc=>?_⟩,?_⟩
   ·have h0:cs[x.n.toNat]? = some c':=hc
    rw [HXK.out,Int.toNat_natCast,HCK.out] at h0;cases h0;rfl
   ·exact (B1.out.setCell (Nat.le_refl _) _ |>.setCell (Nat.le_refl _) _ |>.setCell (Nat.le_refl _) _ |>.setCell (Nat.le_refl _) _ |>.setCell (Nat.le_refl _) _).drew

theorem nf_next {E:qH4} {cs:List qA1} {said:List StI} {x:StI} (hE:E.es=cs.map (·.e)) (hn:0≤x.n) (hk:qQ8 said x.k x.e=false):qC7 E said x=nfC cs x.e x.n:=by
 have hl:E.es.length=cs.length:=by rw [hE,List.length_map]
 have hl:E.es.length=cs.length:=hl
 by_cases h1:(cs.length:Int)≤x.n
 ·have e1:nfC cs x.e x.n=3:=by unfold nfC;rw [if_pos (.inr h1)]
  rw [e1]
  unfold qC7
  rw [if_neg (by rw [hk];simp),if_pos (by rw [hl];exact h1)]
 ·have e2:nfC cs x.e x.n=if (cs[x.n.toNat]?.getD default).e≠x.e+1 then 10 else 0:=by unfold nfC;rw [if_neg (by omega)]
  have hlt:x.n.toNat < cs.length:=by omega
  have hc:cs[x.n.toNat]? = some cs[x.n.toNat]:=List.getElem?_eq_getElem hlt
  rw [e2]
  unfold qC7
  rw [if_neg (by rw [hk];simp),if_neg (by rw [hl];exact h1),es_at hE hc,hc]
  rfl
theorem step_c (E:qH4) (b:Nat) (lv:Value) (sa:Option Addr) (n sc:Nat) (said:List StI) (a:Option Addr) (m cap:Nat) (cs:List qA1) (x:StI) (w:World) (hE:E.es=cs.map (·.e)) (hs:qZ9 w b (.slice a m cap) (.slice sa n sc) lv) (h:qL2 w sa n said) (hn:n≤1048576) (hc:qA5 w a m cs) (hm8:m≤8) (he:1≤x.e∧x.e≤9) (hxn:0≤x.n∧x.n≤7) :
  Calls Tryz.prog 112 #[.pointer (some ⟨b,0,none⟩),.agg #[.int .i64 x.k,.int .i64 x.e,.int .i64 x.f,.int .i64 x.s,.int .i64 x.n]] w fun d w'=>d = .returned (.int .i64 (qC7 E said x))∧Below w.heap.size w w':=by
 obtain ⟨V,hV⟩:∃ V,V=w.alloc (.cells #[.int .i64 x.k,.int .i64 x.e,.int .i64 x.f,.int .i64 x.s,.int .i64 x.n] 85):=⟨_,rfl⟩
 have HV:Hid (V=w.alloc (.cells #[.int .i64 x.k,.int .i64 x.e,.int .i64 x.f,.int .i64 x.s,.int .i64 x.n] 85)):=hV
 have B0:Below w.heap.size w V:=by rw [hV];exact zN
 have hwl:w.heap.size < V.heap.size:=by rw [hV];simp
 have HX:qQ3 V w.heap.size 0 x:=by rw [hV];exact qQ3.new w x _
 have hS0:=hs.below B0
 have hbl:=hS0.lt
 have c0':=hS0.c0
 have c1':=hS0.c1
 have HSO:Hid (∀ w2,KR V w2→Calls Tryz.prog 139 #[.slice sa n sc,.int .i64 x.k,.int .i64 x.e] w2 fun d w'=>(∃ i:Int,d = .returned (.int .i64 i)∧QA0 said x.k x.e i)∧Below w2.heap.size w2 w'):=fun w2 q=>QU2 sa n sc said x.k x.e w2 hn ((h.below B0).below q.2)
 have HC1:Hid (qA5 V a m cs):=hc.below B0
 have HB0:Hid (Below w.heap.size w V):=B0
 have HL:Hid (E.es.length=m):=by show E.es.length=m;rw [hE,List.length_map];exact hc.len
 have HE:Hid (E.es=cs.map (·.e)):=hE
 have hm':(m:Int)≤8:=by omega
 obtain ⟨he1,he9⟩:=he
 obtain ⟨hn0,hn7⟩:=hxn
 obtain ⟨x0,r1,x2,x3,r4⟩:=HX
 simp only [Nat.zero_add] at x0 r1 r4
 clear hs h hc hE B0 hS0 x2 x3
 obtain ⟨v,hv⟩:∃ v,qC7 E said x=v:=⟨_,rfl⟩
 have HVE:Hid (qC7 E said x=v):=hv
 rw [hv]
 clear hv
 go_enter Tryz.func112,Tryz.ntmps112
 go_upto_region 1 with fail
 rw [← hV]
 clear hV HV
 go_region_held3 (fun w'=>KR V w') (first | exact hS | exact qB6 _)
  (first | (go_at_call 139;refine (HSO.out _ (by assumption)).mono ?_;rintro d w' ⟨⟨i,rfl,hi⟩,hb2⟩;have hS:=qA7 (by assumption) hb2))
 have hsl:=QJ0 hi
 by_cases hi0:0≤i
 ·have HV':Hid (v=6):=by show v=6;rw [← HVE.out];unfold qC7;rw [if_pos (by rw [← hsl];exact decide_eq_true hi0)]
  clear hi hsl
  go_wp2_with fail
  go_ret
  exact ⟨by rw [HV'.out];rfl,HB0.out.trans (hS.2.mono HB0.out.size)⟩
 ·have hkf:qQ8 said x.k x.e=false:=by rw [← hsl];exact decide_eq_false hi0
  clear hi hsl
  have HNF:Hid (∀ w2,KR V w2→Calls Tryz.prog 144 #[.slice a m cap,.int .i64 x.e,.int .i64 x.n] w2 fun d w'=>d = .returned (.int .i64 v)∧Below w2.heap.size w2 w'):=fun w2 q=>by
   rw [← HVE.out,nf_next HE.out hn0 hkf]
   exact nextFault_c a m cap cs x.e x.n w2 (by omega) ⟨by omega,by omega⟩ (HC1.out.below q.2)
  clear hkf
  go_wp2_with fail
  go_region_held3 (fun w'=>KR V w') (first | exact hS | exact qA7 hS (Below.refl _ _).drew | exact qB6 _)
   (first | (go_at_call 144;refine (HNF.out _ (by assumption)).mono ?_;rintro d w' ⟨rfl,hb2⟩;have hS:=qA7 (by assumption) hb2))
  go_wp2_with fail
  go_ret
  exact ⟨rfl,HB0.out.trans (hS.2.mono HB0.out.size)⟩

end Go.Proofs.YtdppdbihhlipeaaGreatDoor
