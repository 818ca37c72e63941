/- Contracts. -/
import Derived.Test.YtlhgjackapdmbaaGreatDoorPv18
import Derived.Test.YtlhgjackapdmbaaGreatDoorPv09
namespace Go.Proofs.YtlhgjackapdmbaaGreatDoor
set_option maxRecDepth 100000
set_option maxHeartbeats 8000000
open Go.RowKit
set_option linter.unusedVariables false
set_option linter.unusedSimpArgs false

theorem tk_steps {locks needs:List LkI} (hs:SL locks) (ho:∀ x∈locks,okL x=true) (hn:SL needs) (hno:∀ x∈needs,okL x=true):∀ k,k≤needs.length→qJ0 locks needs k=none∨∃ all,TkS locks needs k all
 | 0,_ => .inr ⟨locks,TkS.zero needs hs ho⟩
 | k+1,hk=>by
  rcases tk_steps hs ho hn hno k (by omega) with h | ⟨all,h⟩
  ·exact .inl (qS7 h (by omega))
  ·have hx:=List.getElem?_eq_getElem (l:=needs) (i:=k) (by omega)
   have hok:=hno _ (List.mem_of_getElem? hx)
   rcases QC6 locks all needs[k] with ⟨h0,_⟩ | ⟨h0,h1,_⟩ | ⟨h0,h1,h2⟩
   ·exact .inr ⟨_,h.put hn hx hok h0⟩
   ·exact .inr ⟨_,h.stay hx h0 h1⟩
   ·exact .inl (by rw [qI9 h.tk hx];exact h2)

theorem qY6:∀ {gs:List LkI} {x:LkI},SL gs→x∈gs→qE3 gs x.e x.c x.p=x.f
 | y::r,x,hs,hx=>by
  have hs':=List.pairwise_cons.1 hs
  rw [qV3]
  by_cases q:y.e=x.e∧y.c=x.c∧y.p=x.p
  ·rw [if_pos q]
   rcases List.mem_cons.1 hx with rfl | h
   ·rfl
   ·have hlt:=hs'.1 x h
    simp only [ltL,decide_eq_true_eq] at hlt
    omega
  ·rw [if_neg q]
   rcases List.mem_cons.1 hx with rfl | h
   ·exact absurd ⟨rfl,rfl,rfl⟩ q
   ·exact qY6 hs'.2 h
theorem QK3:∀ {gs:List LkI} {x:LkI},qE3 gs x.e x.c x.p=x.f→x.f≠0→x∈gs
 | [],x,h,h0=>absurd h.symm h0
 | y::r,x,h,h0=>by
  rw [qV3] at h
  by_cases q:y.e=x.e∧y.c=x.c∧y.p=x.p
  ·rw [if_pos q] at h
   have : y=x:=by
    cases x;cases y
    simp_all
   rw [this]
   exact List.mem_cons_self
  ·rw [if_neg q] at h
   exact List.mem_cons_of_mem _ (QK3 h h0)
theorem okL_form {x:LkI} (h:okL x=true):x.f≠0:=by
 simp [okL,inR] at h
 omega
theorem tk_needs {locks needs:List LkI} (hs:SL locks) (ho:∀ x∈locks,okL x=true) (hn:SL needs) (hno:∀ x∈needs,okL x=true):∀ k,k≤needs.length→∀ all,qJ0 locks needs k=some all→TkS locks needs k all∧∀ j x,j < k→needs[j]? = some x→x∈all
 | 0,_,all,h=>by
  have : locks=all:=Option.some.inj h
  subst this
  exact ⟨TkS.zero needs hs ho,fun j x hj _=>by omega⟩
 | k+1,hk,all,h=>by
  have hx:=List.getElem?_eq_getElem (l:=needs) (i:=k) (by omega)
  have hok:=hno _ (List.mem_of_getElem? hx)
  rcases tk_steps hs ho hn hno k (by omega) with q | ⟨all0,q⟩
  ·rw [qS7 q (by omega)] at h;cases h
  ·have ih:=(tk_needs hs ho hn hno k (by omega) all0 q.tk).2
   rw [qI9 q.tk hx] at h
   rcases QC6 locks all0 needs[k] with ⟨h0,h1⟩ | ⟨h0,h1,h2⟩ | ⟨h0,h1,h2⟩
   ·rw [h1] at h
    have e:QA5 all0 needs[k]=all:=Option.some.inj h
    subst e
    refine ⟨q.put hn hx hok h0,fun j x hj hjx=>?_⟩
    by_cases e:j=k
    ·subst e
     rw [hx] at hjx
     cases hjx
     exact QH4.2 (.inl rfl)
    ·exact QH4.2 (.inr (ih j x (by omega) hjx))
   ·rw [h2] at h
    have e:all0=all:=Option.some.inj h
    subst e
    refine ⟨q.stay hx h0 h1,fun j x hj hjx=>?_⟩
    by_cases e:j=k
    ·subst e
     rw [hx] at hjx
     cases hjx
     exact q.old _ (QK3 h1 (okL_form hok))
    ·exact ih j x (by omega) hjx
   ·rw [h2] at h;cases h
theorem tk_again {all needs:List LkI} (hs:SL all) (hno:∀ x∈needs,okL x=true) (hm:∀ x∈needs,x∈all):∀ k,k≤needs.length→qJ0 all needs k=some all
 | 0,_=>rfl
 | k+1,hk=>by
  have hx:=List.getElem?_eq_getElem (l:=needs) (i:=k) (by omega)
  have hmem:=List.mem_of_getElem? hx
  have hf:=qY6 hs (hm _ hmem)
  have h0:=okL_form (hno _ hmem)
  rw [qI9 (tk_again hs hno hm k (by omega)) hx,qN8,if_neg (by rw [hf];exact h0),if_pos hf]
theorem tk_refused {locks needs:List LkI} {j:Nat} {x:LkI} (hx:needs[j]? = some x) (h0:qE3 locks x.e x.c x.p≠0) (h1:qE3 locks x.e x.c x.p≠x.f):qI7 locks needs=6:=by
 have hj:j < needs.length:=by
  by_cases q:j < needs.length
  ·exact q
  ·rw [List.getElem?_eq_none (by omega)] at hx;cases hx
 have hn:qJ0 locks needs (j+1)=none:=by
  cases h:qJ0 locks needs j with
  | none=>exact qS7 h (by omega)
  | some all=>rw [qI9 h hx,qN8,if_neg h0,if_neg h1]
 exact (QC5 hn (by omega)).1

theorem lk_of {gs:List LkI} (hl:gs.length≤200) (hs:SL gs) (ho:∀ x∈gs,okL x=true):qJ5 gs=0:=by
 have key:∀ k,k≤gs.length→QH5 gs k=0:=by
  intro k
  induction k with
  | zero=>intro _;rfl
  | succ k ih =>
   intro hk
   have hx:=List.getElem?_eq_getElem (l:=gs) (i:=k) (by omega)
   rw [QL1 hx (ih (by omega)),QE9]
   refine ⟨ho _ (List.mem_of_getElem? hx),?_⟩
   cases k with
   | zero=>rfl
   | succ j =>
    have hy:=List.getElem?_eq_getElem (l:=gs) (i:=j) (by omega)
    rw [prevL_of hy]
    exact List.pairwise_iff_getElem.1 hs j (j+1) (by omega) (by omega) (by omega)
 unfold qJ5
 rw [if_neg (by omega)]
 exact key _ (Nat.le_refl _)
theorem QQ7 {s p:Int}:∀ {k:Nat},1≤p→p≤(k:Int)→qI5 s p=true→p∈qB2 s k
 | 0,h1,h2,_=>by omega
 | k+1,h1,h2,h=>by
  by_cases e:p=(k:Int)+1
  ·subst e
   rw [qV0 s k h]
   simp
  ·have ih:=QQ7 (s:=s) (p:=p) (k:=k) h1 (by omega) h
   unfold qB2
   split
   ·exact List.mem_append.2 (.inl ih)
   ·exact ih
theorem QE7 {zs:List Int} {e f s p z:Int} {k:Nat} (hz:zs[k]? = some z) (hf:qI5 z f=true) (h1:1≤p) (h2:p≤8) (hp:qI5 s p=true):∀ n,k < n→(⟨e,(k:Int),p,f⟩:LkI)∈qB3 zs e f s n
 | 0,h=>by omega
 | n+1,h=>by
  unfold qB3
  by_cases e':k=n
  ·subst e'
   refine List.mem_append.2 (.inr ?_)
   unfold qR9
   rw [hz,if_pos (by simpa using hf)]
   unfold qF9
   exact List.mem_map.2 ⟨p,QQ7 h1 (by simpa using h2) hp,rfl⟩
  ·exact List.mem_append.2 (.inl (QE7 hz hf h1 h2 hp n (by omega)))
theorem some_bit:∀ n:Fin 256,n.val=0∨∃ k:Fin 8,n.val.testBit k.val=true:=by decide +kernel
theorem some_in {s:Int} (h0:0≤s) (h1:s≤255) (hs:s≠0):∃ p:Int,1≤p∧p≤8∧qI5 s p=true:=by
 obtain ⟨n,rfl⟩:=Int.eq_ofNat_of_zero_le h0
 rcases some_bit ⟨n,by omega⟩ with h | ⟨k,h⟩
 ·simp only at h;omega
 ·refine ⟨(k.val:Int)+1,by omega,by have:=k.isLt;omega,?_⟩
  simpa [qI5] using h
theorem classes_law {L:List LkI} {zs:List Int} {e f s:Int} (h:qD9 L zs e f s=0) :
  qE1 zs e f s=0∧qJ5 (qL1 L zs e f s)=0∧(qL1 L zs e f s).length≤200∧(∀ x∈qB3 zs e f s zs.length,qE3 (qL1 L zs e f s) e x.c x.p=f)∧(∀ x∈L,qE3 (qL1 L zs e f s) x.e x.c x.p=x.f)∧L.length≤200
   ∧ qD9 (qL1 L zs e f s) zs e f s=0∧qL1 (qL1 L zs e f s) zs e f s=qL1 L zs e f s∧(∀ o,clashV zs f o=true→s≠0→qD9 (qL1 L zs e f s) zs e o s=6):=by
 have hk:qJ5 L=0:=by
  by_cases q:qJ5 L=0
  ·exact q
  ·unfold qD9 at h;rw [if_neg q] at h;exact absurd h q
 have hn:qE1 zs e f s=0:=by
  by_cases q:qE1 zs e f s=0
  ·exact q
  ·unfold qD9 at h;rw [if_pos hk,if_neg q] at h;exact absurd h q
 have ht:qI7 L (qB3 zs e f s zs.length)=0:=by unfold qD9 at h;rw [if_pos hk,if_pos hn] at h;exact h
 have hR:qL1 L zs e f s=tkL L (qB3 zs e f s zs.length):=by unfold qL1;rw [if_pos ⟨hk,hn⟩]
 obtain ⟨l1,l2,l3⟩:=QE8 hk
 obtain ⟨n1,n2⟩:=QT0 hn
 obtain ⟨n0,ne,nf,ns⟩:=QK1 hn
 cases ha:qJ0 L (qB3 zs e f s zs.length) (qB3 zs e f s zs.length).length with
 | none=>rw [(QC5 ha (Nat.le_refl _)).1] at ht;cases ht
 | some all =>
  have hm:¬ 200 < all.length:=fun q=>by rw [(QS1 ha q).1] at ht;cases ht
  have hRa:qL1 L zs e f s=all:=by rw [hR];exact (QE4 ha hm).2
  obtain ⟨T,hin⟩:=tk_needs l2 l3 n1 n2 _ (Nat.le_refl _) all ha
  have hmem:∀ x∈qB3 zs e f s zs.length,x∈all:=fun x hx=>by
   obtain ⟨j,hj,e'⟩:=List.getElem_of_mem hx
   exact hin j x hj (by rw [List.getElem?_eq_getElem hj,e'])
  have hlk:qJ5 all=0:=lk_of (by omega) T.sl T.ok
  have hag:=tk_again T.sl n2 hmem (qB3 zs e f s zs.length).length (Nat.le_refl _)
  rw [hRa]
  refine ⟨hn,hlk,by omega,fun x hx=>?_,fun x hx=>qY6 T.sl (T.old x hx),l1,?_,?_,fun o hc hs0=>?_⟩
  ·have q:=(QK2 zs e f s zs.length).2 x hx
   have:=qY6 T.sl (hmem x hx)
   rw [q.1,q.2.2.2] at this
   exact this
  ·unfold qD9;rw [if_pos hlk,if_pos hn];exact (QE4 hag hm).1
  ·unfold qL1;rw [if_pos ⟨hlk,hn⟩];exact (QE4 hag hm).2
  ·simp only [clashV,clashB,bothB,Bool.and_eq_true,List.any_eq_true,beq_iff_eq,bne_iff_ne] at hc
   obtain ⟨_,_,ho,hne,z,hz,hzf,hzo⟩:=hc
   obtain ⟨k,hkl,hzk⟩:=List.getElem_of_mem hz
   have hzk':zs[k]? = some z:=by rw [List.getElem?_eq_getElem hkl,hzk]
   rw [qG4] at ns
   obtain ⟨p,p1,p2,hp⟩:=some_in ns.1 ns.2 hs0
   have m1:=hmem _ (QE7 (e:=e) hzk' hzf p1 p2 hp zs.length hkl)
   have m2:=QE7 (e:=e) hzk' hzo p1 p2 hp zs.length hkl
   have f1:qE3 all e (k:Int) p=f:=qY6 T.sl m1
   obtain ⟨j,hj,ej⟩:=List.getElem_of_mem m2
   have hno:qE1 zs e o s=0:=need_of n0 ne ho (by rw [qG4];exact ns)
   unfold qD9
   rw [if_pos hlk,if_pos hno]
   rw [qG4] at nf
   exact tk_refused (j:=j) (x:=⟨e,(k:Int),p,o⟩) (by rw [List.getElem?_eq_getElem hj,ej]) (by show qE3 all e (k:Int) p≠0;rw [f1];omega) (by show qE3 all e (k:Int) p≠o;rw [f1];exact hne)

structure qI3 where
 es:List Int
 al:Nat→Int→Int→Bool
 cl:Nat→List Int
def nextOf (o:Option StI):Int:=match o with
 | some y=>y.n
 | none => -1
def qB4 (E:qI3) (said:List StI) (e:Int):Int:=if e=E.es.headD 0 then 0 else nextOf (qI0 said 4 (e - 1))
def qD0 (E:qI3) (said:List StI) (x:StI):Int:=if qQ4 said x.k x.e=true then 6 else if (E.es.length:Int)≤x.n then 3 else if E.es[x.n.toNat]?.getD 0≠x.e+1 then 10 else 0
def qH2 (E:qI3) (said:List StI) (locks:List LkI) (p:Nat) (x:StI):Int:=if (qT7 said x.e || qD5 said (qS4 x))=true then 9 else if E.al p x.f x.s=false then 8 else qD9 locks (E.cl p) x.e x.f x.s
def qF5 (E:qI3) (said:List StI) (locks:List LkI) (x:StI):Int:=if qB4 E said x.e < 0 then 4 else if 40≤said.length then 2 else if x.k=1 then qH2 E said locks (qB4 E said x.e).toNat x else if x.k=2 then 0 else qD0 E said x
def qF0 (E:qI3) (said:List StI) (locks:List LkI) (x:StI):Int:=if qC2 x=0 then (if qD5 said x=true then 0 else qF5 E said locks x) else qC2 x
def qE0 (E:qI3) (said:List StI) (locks:List LkI) (x:StI):List LkI:=if x.k=1 then qL1 locks (E.cl (qB4 E said x.e).toNat) x.e x.f x.s else locks
def qY8 (said:List StI) (x:StI):List StI:=if qD5 said x=true then said else said++[x]
def qT3 (E:qI3) (said:List StI) (locks:List LkI) (x:StI):List LkI:=if qD5 said x=true then locks else qE0 E said locks x
def qF4 (E:qI3) (xs:List StI):Nat→Option (List LkI)
 | 0=>some []
 | k+1=>match qF4 E xs k with
  | none=>none
  | some ls=>match xs[k]? with
   | none=>some ls
   | some x=>if qD5 (xs.take k) x=true then none else if qF0 E (xs.take k) ls x=0 then some (qE0 E (xs.take k) ls x) else none
theorem qZ5 {E:qI3} {xs:List StI} {k m:Nat} (h:qF4 E xs k=none) (hm:k≤m):qF4 E xs m=none:=by
  induction m with
  | zero => obtain rfl:k=0:=by omega
            exact h
  | succ m ih =>
    by_cases e:k=m+1
    · subst e;exact h
    · simp [qF4,ih (by omega)]
theorem QJ7 {E:qI3} {xs:List StI} {k:Nat} {ls:List LkI} {x:StI} (h:qF4 E xs k=some ls) (hx:xs[k]? = some x):qF4 E xs (k+1)=if qD5 (xs.take k) x=true then none else if qF0 E (xs.take k) ls x=0 then some (qE0 E (xs.take k) ls x) else none:=by
 simp [qF4,h,hx]
structure RpS (E:qI3) (said:List StI) (ls:List LkI):Prop where
 lk:qJ5 ls=0
 st:∀ x∈said,qC2 x=0
 nx:∀ x∈said,x.k=4→0≤x.n∧x.n < (E.es.length:Int)
 len:said.length≤40
theorem RpS.nil (E:qI3):RpS E [] []:=⟨rfl,fun x h=>(List.not_mem_nil h).elim,fun x h=>(List.not_mem_nil h).elim,Nat.zero_le _⟩
theorem st_zero {x:StI} (h:qC2 x=0):inR x.k 1 4=true∧ownB x=true∧rngB x=true:=by
 unfold qC2 at h
 cases h1:inR x.k 1 4 with
 | false=>rw [h1] at h;simp at h
 | true =>
  cases h2:ownB x with
  | false=>rw [h1,h2] at h;simp at h
  | true =>
   cases h3:rngB x with
   | false=>rw [h1,h2,h3] at h;simp at h
   | true=>exact ⟨rfl,rfl,rfl⟩
theorem qH7 {x:StI} (h:qC2 x=0):(1≤x.k∧x.k≤4)∧(1≤x.e∧x.e≤9)∧(0≤x.n∧x.n≤7)∧(0≤x.f∧x.f≤4)∧(0≤x.s∧x.s≤255)∧(x.k≤2→1≤x.f∧1≤x.s∧x.n=0)∧(3≤x.k→x.f=0∧x.s=0):=by
 obtain ⟨h1,h2,h3⟩:=st_zero h
 rw [qG4] at h1
 have h2':x=ownI x:=by
  have : qO8 x (ownI x)=true:=h2
  exact of_decide_eq_true this
 unfold rngB at h3
 cases q:inR x.e 1 9 with
 | false=>rw [q] at h3;simp at h3
 | true =>
  rw [q] at h3
  rw [qG4] at q
  unfold ownI at h2'
  cases f:QG8 x.k with
  | true =>
   rw [f] at h3 h2'
   simp only [Bool.true_eq_false, ↓reduceIte] at h3 h2'
   have hn:x.n=0:=by rw [h2']
   cases g:inR x.f 1 4 with
   | false=>rw [g] at h3;simp at h3
   | true =>
    rw [g] at h3
    simp only [Bool.true_eq_false, ↓reduceIte] at h3
    rw [qG4] at g h3
    have hk:x.k=1∨x.k=2:=by simpa [QG8] using f
    omega
  | false =>
   rw [f] at h3 h2'
   simp only [Bool.true_eq_false,Bool.false_eq_true, ↓reduceIte] at h3 h2'
   rw [qG4] at h3
   have hf:x.f=0:=by rw [h2']
   have hs:x.s=0:=by rw [h2']
   have hk:¬ (x.k=1∨x.k=2):=by
    intro q
    have : QG8 x.k=true:=by simpa [QG8] using q
    rw [this] at f;cases f
   omega
theorem take_lk {L:List LkI} {zs:List Int} {e f s:Int} (h:qD9 L zs e f s=0):qJ5 (qL1 L zs e f s)=0:=(classes_law h).2.1
theorem QK0 {E:qI3} {said:List StI} {ls:List LkI} {x:StI} (hc:qF5 E said ls x=0):¬ qB4 E said x.e < 0∧¬ 40≤said.length∧(x.k=1→qH2 E said ls (qB4 E said x.e).toNat x=0)∧(x.k≠1→x.k≠2→qD0 E said x=0):=by
 unfold qF5 at hc
 by_cases h1:qB4 E said x.e < 0
 ·rw [if_pos h1] at hc;omega
 ·rw [if_neg h1] at hc
  by_cases h2:40≤said.length
  ·rw [if_pos h2] at hc;omega
  ·rw [if_neg h2] at hc
   refine ⟨h1,h2,fun q=>?_,fun q q2=>?_⟩
   ·rw [if_pos q] at hc;exact hc
   ·rw [if_neg q,if_neg q2] at hc;exact hc
theorem issue_parts {E:qI3} {said:List StI} {ls:List LkI} {p:Nat} {x:StI} (hc:qH2 E said ls p x=0):(qT7 said x.e || qD5 said (qS4 x))=false∧E.al p x.f x.s=true∧qD9 ls (E.cl p) x.e x.f x.s=0:=by
 unfold qH2 at hc
 cases h1:(qT7 said x.e || qD5 said (qS4 x)) with
 | true=>rw [if_pos h1] at hc;omega
 | false =>
  rw [if_neg (by rw [h1];simp)] at hc
  cases h2:E.al p x.f x.s with
  | false=>rw [if_pos h2] at hc;omega
  | true=>rw [if_neg (by rw [h2];simp)] at hc;exact ⟨rfl,rfl,hc⟩
theorem next_parts {E:qI3} {said:List StI} {x:StI} (hc:qD0 E said x=0):qQ4 said x.k x.e=false∧x.n < (E.es.length:Int)∧E.es[x.n.toNat]?.getD 0=x.e+1:=by
 unfold qD0 at hc
 cases h1:qQ4 said x.k x.e with
 | true=>rw [if_pos h1] at hc;omega
 | false =>
  rw [if_neg (by rw [h1];simp)] at hc
  by_cases h2:(E.es.length:Int)≤x.n
  ·rw [if_pos h2] at hc;omega
  ·rw [if_neg h2] at hc
   by_cases h3:E.es[x.n.toNat]?.getD 0=x.e+1
   ·exact ⟨rfl,by omega,h3⟩
   ·rw [if_pos h3] at hc;omega
theorem new_lk {E:qI3} {said:List StI} {ls:List LkI} {x:StI} (h:RpS E said ls) (hc:qF5 E said ls x=0):qJ5 (qE0 E said ls x)=0:=by
 unfold qE0
 by_cases q:x.k=1
 ·rw [if_pos q]
  exact take_lk (issue_parts ((QK0 hc).2.2.1 q)).2.2
 ·rw [if_neg q];exact h.lk
theorem RpS.next {E:qI3} {said:List StI} {ls:List LkI} {x:StI} (h:RpS E said ls) (hs:qC2 x=0) (hc:qF5 E said ls x=0):RpS E (said++[x]) (qE0 E said ls x):=by
 have hl:=(QK0 hc).2.1
 refine ⟨new_lk h hc,fun y hy=>?_,fun y hy hk=>?_,by rw [List.length_append];simp;omega⟩
 ·rcases List.mem_append.1 hy with q | q
  ·exact h.st y q
  ·rw [List.mem_singleton] at q;rw [q];exact hs
 ·rcases List.mem_append.1 hy with q | q
  ·exact h.nx y q hk
  ·rw [List.mem_singleton] at q
   subst q
   exact ⟨(qH7 hs).2.2.1.1,(next_parts ((QK0 hc).2.2.2 (by omega) (by omega))).2.1⟩
theorem end_new {E:qI3} {said:List StI} {ls:List LkI} {x:StI} (hn:qD5 said x=false) (hc:qF0 E said ls x=0):qC2 x=0∧qF5 E said ls x=0:=by
 unfold qF0 at hc
 split at hc
 ·rename_i q
  rw [hn] at hc
  simp only [Bool.false_eq_true, ↓reduceIte] at hc
  exact ⟨q,hc⟩
 ·rename_i q;exact absurd hc q
theorem QS8 {E:qI3} {xs:List StI}:∀ k ls,k≤xs.length→qF4 E xs k=some ls→RpS E (xs.take k) ls
 | 0,ls,_,h=>by
  have : ([]:List LkI)=ls:=Option.some.inj h
  subst this
  simpa using RpS.nil E
 | k+1,ls,hk,h=>by
  cases hp:qF4 E xs k with
  | none=>rw [qZ5 hp (by omega)] at h;cases h
  | some l0 =>
   have hx:=List.getElem?_eq_getElem (l:=xs) (i:=k) (by omega)
   have ih:=QS8 k l0 (by omega) hp
   rw [QJ7 hp hx] at h
   split at h
   ·cases h
   ·rename_i hn
    split at h
    ·rename_i hc
     have e:qE0 E (xs.take k) l0 xs[k]=ls:=Option.some.inj h
     subst e
     have hn':qD5 (xs.take k) xs[k]=false:=by simpa using hn
     obtain ⟨q1,q2⟩:=end_new hn' hc
     rw [List.take_succ_eq_append_getElem (by omega)]
     exact ih.next q1 q2
    ·cases h
theorem known_in {E:qI3} {said:List StI} {ls:List LkI} (h:RpS E said ls) (hE:0 < E.es.length) (e:Int):qB4 E said e = -1∨(0≤qB4 E said e∧qB4 E said e < (E.es.length:Int)):=by
 unfold qB4
 split
 ·exact .inr ⟨by omega,by omega⟩
 ·cases hk:qI0 said 4 (e - 1) with
  | none=>exact .inl rfl
  | some y =>
   have hm:=List.mem_of_find?_eq_some hk
   have hp:=List.find?_some hk
   simp only [Bool.and_eq_true,decide_eq_true_eq] at hp
   exact .inr (h.nx y hm hp.1)

end Go.Proofs.YtlhgjackapdmbaaGreatDoor
