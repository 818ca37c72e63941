/- Contracts. -/
import Derived.Test.YtlhgjackapdmbaaGreatDoorPq18
namespace Go.Proofs.YtlhgjackapdmbaaGreatDoor
set_option maxRecDepth 100000
set_option maxHeartbeats 8000000
open Go.RowKit
set_option linter.unusedVariables false
set_option linter.unusedSimpArgs false

theorem tk_steps {locks needs:List LkI} (hs:SL locks) (ho:∀ x∈locks,okL x=true) (hn:SL needs) (hno:∀ x∈needs,okL x=true):∀ k,k≤needs.length→qI4 locks needs k=none∨∃ all,TkS locks needs k all
 | 0,_ => .inr ⟨locks,TkS.zero needs hs ho⟩
 | k+1,hk=>by
  rcases tk_steps hs ho hn hno k (by omega) with h | ⟨all,h⟩
  ·exact .inl (qR9 h (by omega))
  ·have hx:=List.getElem?_eq_getElem (l:=needs) (i:=k) (by omega)
   have hok:=hno _ (List.mem_of_getElem? hx)
   rcases QB5 locks all needs[k] with ⟨h0,_⟩ | ⟨h0,h1,_⟩ | ⟨h0,h1,h2⟩
   ·exact .inr ⟨_,h.put hn hx hok h0⟩
   ·exact .inr ⟨_,h.stay hx h0 h1⟩
   ·exact .inl (by rw [qI1 h.tk hx];exact h2)

theorem qX5:∀ {gs:List LkI} {x:LkI},SL gs→x∈gs→qE2 gs x.e x.c x.p=x.f
 | y::r,x,hs,hx=>by
  have hs':=List.pairwise_cons.1 hs
  rw [qU4]
  by_cases q:y.e=x.e∧y.c=x.c∧y.p=x.p
  ·rw [if_pos q]
   rcases List.mem_cons.1 hx with rfl | h
   ·rfl
   ·have hlt:=hs'.1 x h
    simp only [ltL,decide_eq_true_eq] at hlt
    omega
  ·rw [if_neg q]
   rcases List.mem_cons.1 hx with rfl | h
   ·exact absurd ⟨rfl,rfl,rfl⟩ q
   ·exact qX5 hs'.2 h
theorem QJ4:∀ {gs:List LkI} {x:LkI},qE2 gs x.e x.c x.p=x.f→x.f≠0→x∈gs
 | [],x,h,h0=>absurd h.symm h0
 | y::r,x,h,h0=>by
  rw [qU4] at h
  by_cases q:y.e=x.e∧y.c=x.c∧y.p=x.p
  ·rw [if_pos q] at h
   have : y=x:=by
    cases x;cases y
    simp_all
   rw [this]
   exact List.mem_cons_self
  ·rw [if_neg q] at h
   exact List.mem_cons_of_mem _ (QJ4 h h0)
theorem okL_form {x:LkI} (h:okL x=true):x.f≠0:=by
 simp [okL,inR] at h
 omega
theorem tk_needs {locks needs:List LkI} (hs:SL locks) (ho:∀ x∈locks,okL x=true) (hn:SL needs) (hno:∀ x∈needs,okL x=true):∀ k,k≤needs.length→∀ all,qI4 locks needs k=some all→TkS locks needs k all∧∀ j x,j < k→needs[j]? = some x→x∈all
 | 0,_,all,h=>by
  have : locks=all:=Option.some.inj h
  subst this
  exact ⟨TkS.zero needs hs ho,fun j x hj _=>by omega⟩
 | k+1,hk,all,h=>by
  have hx:=List.getElem?_eq_getElem (l:=needs) (i:=k) (by omega)
  have hok:=hno _ (List.mem_of_getElem? hx)
  rcases tk_steps hs ho hn hno k (by omega) with q | ⟨all0,q⟩
  ·rw [qR9 q (by omega)] at h;cases h
  ·have ih:=(tk_needs hs ho hn hno k (by omega) all0 q.tk).2
   rw [qI1 q.tk hx] at h
   rcases QB5 locks all0 needs[k] with ⟨h0,h1⟩ | ⟨h0,h1,h2⟩ | ⟨h0,h1,h2⟩
   ·rw [h1] at h
    have e:qZ3 all0 needs[k]=all:=Option.some.inj h
    subst e
    refine ⟨q.put hn hx hok h0,fun j x hj hjx=>?_⟩
    by_cases e:j=k
    ·subst e
     rw [hx] at hjx
     cases hjx
     exact QG4.2 (.inl rfl)
    ·exact QG4.2 (.inr (ih j x (by omega) hjx))
   ·rw [h2] at h
    have e:all0=all:=Option.some.inj h
    subst e
    refine ⟨q.stay hx h0 h1,fun j x hj hjx=>?_⟩
    by_cases e:j=k
    ·subst e
     rw [hx] at hjx
     cases hjx
     exact q.old _ (QJ4 h1 (okL_form hok))
    ·exact ih j x (by omega) hjx
   ·rw [h2] at h;cases h
theorem tk_again {all needs:List LkI} (hs:SL all) (hno:∀ x∈needs,okL x=true) (hm:∀ x∈needs,x∈all):∀ k,k≤needs.length→qI4 all needs k=some all
 | 0,_=>rfl
 | k+1,hk=>by
  have hx:=List.getElem?_eq_getElem (l:=needs) (i:=k) (by omega)
  have hmem:=List.mem_of_getElem? hx
  have hf:=qX5 hs (hm _ hmem)
  have h0:=okL_form (hno _ hmem)
  rw [qI1 (tk_again hs hno hm k (by omega)) hx,qM9,if_neg (by rw [hf];exact h0),if_pos hf]
theorem tk_refused {locks needs:List LkI} {j:Nat} {x:LkI} (hx:needs[j]? = some x) (h0:qE2 locks x.e x.c x.p≠0) (h1:qE2 locks x.e x.c x.p≠x.f):qI0 locks needs=6:=by
 have hj:j < needs.length:=by
  by_cases q:j < needs.length
  ·exact q
  ·rw [List.getElem?_eq_none (by omega)] at hx;cases hx
 have hn:qI4 locks needs (j+1)=none:=by
  cases h:qI4 locks needs j with
  | none=>exact qR9 h (by omega)
  | some all=>rw [qI1 h hx,qM9,if_neg h0,if_neg h1]
 exact (QB4 hn (by omega)).1

theorem lk_of {gs:List LkI} (hl:gs.length≤200) (hs:SL gs) (ho:∀ x∈gs,okL x=true):qI7 gs=0:=by
 have key:∀ k,k≤gs.length→QG5 gs k=0:=by
  intro k
  induction k with
  | zero=>intro _;rfl
  | succ k ih =>
   intro hk
   have hx:=List.getElem?_eq_getElem (l:=gs) (i:=k) (by omega)
   rw [QK1 hx (ih (by omega)),QD9]
   refine ⟨ho _ (List.mem_of_getElem? hx),?_⟩
   cases k with
   | zero=>rfl
   | succ j =>
    have hy:=List.getElem?_eq_getElem (l:=gs) (i:=j) (by omega)
    rw [prevL_of hy]
    exact List.pairwise_iff_getElem.1 hs j (j+1) (by omega) (by omega) (by omega)
 unfold qI7
 rw [if_neg (by omega)]
 exact key _ (Nat.le_refl _)
theorem QP4 {s p:Int}:∀ {k:Nat},1≤p→p≤(k:Int)→qH9 s p=true→p∈qB1 s k
 | 0,h1,h2,_=>by omega
 | k+1,h1,h2,h=>by
  by_cases e:p=(k:Int)+1
  ·subst e
   rw [qU1 s k h]
   simp
  ·have ih:=QP4 (s:=s) (p:=p) (k:=k) h1 (by omega) h
   unfold qB1
   split
   ·exact List.mem_append.2 (.inl ih)
   ·exact ih
theorem QD7 {zs:List Int} {e f s p z:Int} {k:Nat} (hz:zs[k]? = some z) (hf:qH9 z f=true) (h1:1≤p) (h2:p≤8) (hp:qH9 s p=true):∀ n,k < n→(⟨e,(k:Int),p,f⟩:LkI)∈qB2 zs e f s n
 | 0,h=>by omega
 | n+1,h=>by
  unfold qB2
  by_cases e':k=n
  ·subst e'
   refine List.mem_append.2 (.inr ?_)
   unfold qR1
   rw [hz,if_pos (by simpa using hf)]
   unfold qF3
   exact List.mem_map.2 ⟨p,QP4 h1 (by simpa using h2) hp,rfl⟩
  ·exact List.mem_append.2 (.inl (QD7 hz hf h1 h2 hp n (by omega)))
theorem some_bit:∀ n:Fin 256,n.val=0∨∃ k:Fin 8,n.val.testBit k.val=true:=by decide +kernel
theorem some_in {s:Int} (h0:0≤s) (h1:s≤255) (hs:s≠0):∃ p:Int,1≤p∧p≤8∧qH9 s p=true:=by
 obtain ⟨n,rfl⟩:=Int.eq_ofNat_of_zero_le h0
 rcases some_bit ⟨n,by omega⟩ with h | ⟨k,h⟩
 ·simp only at h;omega
 ·refine ⟨(k.val:Int)+1,by omega,by have:=k.isLt;omega,?_⟩
  simpa [qH9] using h
theorem classes_law {L:List LkI} {zs:List Int} {e f s:Int} (h:qD9 L zs e f s=0) :
  qE1 zs e f s=0∧qI7 (qK2 L zs e f s)=0∧(qK2 L zs e f s).length≤200∧(∀ x∈qB2 zs e f s zs.length,qE2 (qK2 L zs e f s) e x.c x.p=f)∧(∀ x∈L,qE2 (qK2 L zs e f s) x.e x.c x.p=x.f)∧L.length≤200
   ∧ qD9 (qK2 L zs e f s) zs e f s=0∧qK2 (qK2 L zs e f s) zs e f s=qK2 L zs e f s∧(∀ o,clashV zs f o=true→s≠0→qD9 (qK2 L zs e f s) zs e o s=6):=by
 have hk:qI7 L=0:=by
  by_cases q:qI7 L=0
  ·exact q
  ·unfold qD9 at h;rw [if_neg q] at h;exact absurd h q
 have hn:qE1 zs e f s=0:=by
  by_cases q:qE1 zs e f s=0
  ·exact q
  ·unfold qD9 at h;rw [if_pos hk,if_neg q] at h;exact absurd h q
 have ht:qI0 L (qB2 zs e f s zs.length)=0:=by unfold qD9 at h;rw [if_pos hk,if_pos hn] at h;exact h
 have hR:qK2 L zs e f s=tkL L (qB2 zs e f s zs.length):=by unfold qK2;rw [if_pos ⟨hk,hn⟩]
 obtain ⟨l1,l2,l3⟩:=QD8 hk
 obtain ⟨n1,n2⟩:=QR5 hn
 obtain ⟨n0,ne,nf,ns⟩:=QJ2 hn
 cases ha:qI4 L (qB2 zs e f s zs.length) (qB2 zs e f s zs.length).length with
 | none=>rw [(QB4 ha (Nat.le_refl _)).1] at ht;cases ht
 | some all =>
  have hm:¬ 200 < all.length:=fun q=>by rw [(QQ6 ha q).1] at ht;cases ht
  have hRa:qK2 L zs e f s=all:=by rw [hR];exact (QD3 ha hm).2
  obtain ⟨T,hin⟩:=tk_needs l2 l3 n1 n2 _ (Nat.le_refl _) all ha
  have hmem:∀ x∈qB2 zs e f s zs.length,x∈all:=fun x hx=>by
   obtain ⟨j,hj,e'⟩:=List.getElem_of_mem hx
   exact hin j x hj (by rw [List.getElem?_eq_getElem hj,e'])
  have hlk:qI7 all=0:=lk_of (by omega) T.sl T.ok
  have hag:=tk_again T.sl n2 hmem (qB2 zs e f s zs.length).length (Nat.le_refl _)
  rw [hRa]
  refine ⟨hn,hlk,by omega,fun x hx=>?_,fun x hx=>qX5 T.sl (T.old x hx),l1,?_,?_,fun o hc hs0=>?_⟩
  ·have q:=(QJ3 zs e f s zs.length).2 x hx
   have:=qX5 T.sl (hmem x hx)
   rw [q.1,q.2.2.2] at this
   exact this
  ·unfold qD9;rw [if_pos hlk,if_pos hn];exact (QD3 hag hm).1
  ·unfold qK2;rw [if_pos ⟨hlk,hn⟩];exact (QD3 hag hm).2
  ·simp only [clashV,clashB,bothB,Bool.and_eq_true,List.any_eq_true,beq_iff_eq,bne_iff_ne] at hc
   obtain ⟨_,_,ho,hne,z,hz,hzf,hzo⟩:=hc
   obtain ⟨k,hkl,hzk⟩:=List.getElem_of_mem hz
   have hzk':zs[k]? = some z:=by rw [List.getElem?_eq_getElem hkl,hzk]
   rw [qF9] at ns
   obtain ⟨p,p1,p2,hp⟩:=some_in ns.1 ns.2 hs0
   have m1:=hmem _ (QD7 (e:=e) hzk' hzf p1 p2 hp zs.length hkl)
   have m2:=QD7 (e:=e) hzk' hzo p1 p2 hp zs.length hkl
   have f1:qE2 all e (k:Int) p=f:=qX5 T.sl m1
   obtain ⟨j,hj,ej⟩:=List.getElem_of_mem m2
   have hno:qE1 zs e o s=0:=need_of n0 ne ho (by rw [qF9];exact ns)
   unfold qD9
   rw [if_pos hlk,if_pos hno]
   rw [qF9] at nf
   exact tk_refused (j:=j) (x:=⟨e,(k:Int),p,o⟩) (by rw [List.getElem?_eq_getElem hj,ej]) (by show qE2 all e (k:Int) p≠0;rw [f1];omega) (by show qE2 all e (k:Int) p≠o;rw [f1];exact hne)

end Go.Proofs.YtlhgjackapdmbaaGreatDoor
