/- Contracts. -/
import Derived.Test.YtlhgjackapdmbaaGreatDoorPe12
import Derived.Test.YtlhgjackapdmbaaGreatDoorPe13
import Derived.Deep.DeepCutAuto
import Derived.ArgAppend
namespace Go.Proofs.YtlhgjackapdmbaaGreatDoor
set_option maxRecDepth 100000
set_option maxHeartbeats 8000000
open Go.RowKit
set_option linter.unusedVariables false
set_option linter.unusedSimpArgs false

def cutN (gs:List LkI) (x:LkI):Nat:=(gs.takeWhile (fun y=>ltL y x)).length
theorem QT2 {gs:List LkI} {x:LkI}:∀ {i:Nat},QO4 gs x i→(gs.takeWhile (fun y=>ltL y x)).length=i:=by
 induction gs with
 | nil=>intro i h;have:=h.1;simp at this;simp [this]
 | cons y ys ih =>
  intro i h
  cases i with
  | zero =>
   have:=h.2.2 0 y (Nat.le_refl _) rfl
   simp [List.takeWhile_cons,this]
  | succ i =>
   have h0:=h.2.1 0 y (by omega) rfl
   have h1:QO4 ys x i:=⟨by have:=h.1;simp at this;omega,fun k z hk hz=>h.2.1 (k+1) z (by omega) (by simpa using hz),fun k z hk hz=>h.2.2 (k+1) z (by omega) (by simpa using hz)⟩
   simp [List.takeWhile_cons,h0,ih h1]
theorem cutN_of {gs:List LkI} {x:LkI} {i:Nat} (h:QO4 gs x i):cutN gs x=i:=QT2 h
theorem cut_of_sl {gs:List LkI} (hs:SL gs) (x:LkI):QO4 gs x (cutN gs x):=by
 unfold cutN
 induction gs with
 | nil=>exact ⟨by simp,fun k y hk hy=>by simp at hy,fun k y hk hy=>by simp at hy⟩
 | cons y ys ih =>
  have hp:=List.pairwise_cons.1 hs
  have h1:=ih hp.2
  cases q:ltL y x
  ·simp only [List.takeWhile_cons,q]
   refine ⟨by simp,fun k z hk hz=>by simp at hk,fun k z hk hz=>?_⟩
   cases k with
   | zero=>simp at hz;rw [← hz];exact q
   | succ k =>
    have hm:z∈ys:=List.mem_of_getElem? (by simpa using hz)
    cases q2:ltL z x
    ·rfl
    ·rw [QE0 (hp.1 z hm) q2] at q;cases q
  ·simp only [List.takeWhile_cons,q,if_true,List.length_cons]
   refine ⟨by have:=h1.1;simp;omega,fun k z hk hz=>?_,fun k z hk hz=>?_⟩
   ·cases k with
    | zero=>simp at hz;rw [← hz];exact q
    | succ k=>exact h1.2.1 k z (by omega) (by simpa using hz)
   ·cases k with
    | zero=>omega
    | succ k=>exact h1.2.2 k z (by omega) (by simpa using hz)
def QB0 (gs:List LkI) (x:LkI):List LkI:=gs.take (cutN gs x)++x::gs.drop (cutN gs x)
theorem QD4 (gs:List LkI) (x:LkI):(QB0 gs x).length=gs.length+1:=by
 unfold QB0
 simp only [List.length_append,List.length_cons,List.length_take,List.length_drop]
 have : cutN gs x≤gs.length:=by unfold cutN;exact (List.takeWhile_prefix _).length_le
 omega
theorem QI1 {gs:List LkI} {x y:LkI}:y∈QB0 gs x↔y=x∨y∈gs:=by
 unfold QB0
 rw [List.mem_append,List.mem_cons]
 have h:y∈gs↔y∈gs.take (cutN gs x)∨y∈gs.drop (cutN gs x):=by
  rw [← List.mem_append,List.take_append_drop]
 rw [h]
 constructor
 ·rintro (h | h | h)
  ·exact .inr (.inl h)
  ·exact .inl h
  ·exact .inr (.inr h)
 ·rintro (h | h | h)
  ·exact .inr (.inl h)
  ·exact .inl h
  ·exact .inr (.inr h)
def keyB (x y:LkI):Prop:=x.e=y.e∧x.c=y.c∧x.p=y.p
theorem ltL_total {x y:LkI} (h:ltL x y=false) (hk:¬ keyB x y):ltL y x=true:=by
 unfold keyB at hk
 simp only [ltL,decide_eq_true_eq,decide_eq_false_iff_not] at *
 omega
theorem QV3 {gs:List LkI} (ho:∀ x∈gs,okL x=true) {t:LkI}:qE6 gs t.e t.c t.p=0↔∀ x∈gs,¬ keyB x t:=by
 induction gs with
 | nil=>simp [qE6]
 | cons y ys ih =>
  have h1:=ih (fun x hx=>ho x (by simp [hx]))
  unfold qE6
  by_cases q:y.e=t.e∧y.c=t.c∧y.p=t.p
  ·rw [if_pos q]
   have hy:=ho y (by simp)
   simp [okL,inR] at hy
   constructor
   ·intro h;omega
   ·intro h;exact absurd q (h y (by simp))
  ·rw [if_neg q,h1]
   constructor
   ·intro h x hx
    rcases List.mem_cons.1 hx with rfl | hx
    ·exact q
    ·exact h x hx
   ·intro h x hx;exact h x (by simp [hx])
theorem putL_SL {gs:List LkI} (hs:SL gs) (ho:∀ x∈gs,okL x=true) {t:LkI} (h:qE6 gs t.e t.c t.p=0):SL (QB0 gs t):=by
 have hn:=(QV3 ho).1 h
 have hc:=cut_of_sl hs t
 unfold SL QB0
 have hlen:cutN gs t≤gs.length:=hc.1
 have hT:∀ a∈gs.take (cutN gs t),ltL a t=true:=by
  intro a ha
  obtain ⟨k,hk⟩:=List.mem_iff_getElem?.1 ha
  rw [List.getElem?_take] at hk
  split at hk
  ·exact hc.2.1 k a (by assumption) hk
  ·cases hk
 have hD:∀ a∈gs.drop (cutN gs t),ltL t a=true:=by
  intro a ha
  obtain ⟨k,hk⟩:=List.mem_iff_getElem?.1 ha
  rw [List.getElem?_drop] at hk
  exact ltL_total (hc.2.2 _ a (by omega) hk) (hn a (List.mem_of_getElem? hk))
 have hp:(gs.take (cutN gs t)++gs.drop (cutN gs t)).Pairwise (fun a b=>ltL a b=true):=by rw [List.take_append_drop];exact hs
 obtain ⟨p1,p2,p3⟩:=List.pairwise_append.1 hp
 refine List.pairwise_append.2 ⟨p1,List.pairwise_cons.2 ⟨hD,p2⟩,fun a ha b hb=>?_⟩
 rcases List.mem_cons.1 hb with rfl | hb
 ·exact hT a ha
 ·exact p3 a ha b hb
theorem qW0 (y:LkI) (ys:List LkI) (e c p:Int):qE6 (y::ys) e c p=if y.e=e∧y.c=c∧y.p=p then y.f else qE6 ys e c p:=rfl
theorem formL_app (a b:List LkI) (e c p:Int):qE6 (a++b) e c p=if (∃ x∈a,x.e=e∧x.c=c∧x.p=p) then qE6 a e c p else qE6 b e c p:=by
 induction a with
 | nil=>simp
 | cons y ys ih =>
  rw [List.cons_append,qW0,qW0]
  by_cases q:y.e=e∧y.c=c∧y.p=p
  ·rw [if_pos q,if_pos ⟨y,by simp,q⟩,if_pos q]
  ·rw [if_neg q,ih]
   by_cases r:∃ x∈ys,x.e=e∧x.c=c∧x.p=p
   ·rw [if_pos r,if_pos (by obtain ⟨x,hx,h⟩:=r;exact ⟨x,by simp [hx],h⟩),if_neg q]
   ·rw [if_neg r,if_neg (by
     rintro ⟨x,hx,h⟩
     rcases List.mem_cons.1 hx with hx | hx
     ·subst hx;exact q h
     ·exact r ⟨x,hx,h⟩)]
theorem formL_put {gs:List LkI} {x t:LkI} (h:¬ keyB x t):qE6 (QB0 gs x) t.e t.c t.p=qE6 gs t.e t.c t.p:=by
 unfold keyB at h
 unfold QB0
 rw [formL_app]
 have e1:qE6 (x::gs.drop (cutN gs x)) t.e t.c t.p=qE6 (gs.drop (cutN gs x)) t.e t.c t.p:=by
  rw [qW0,if_neg h]
 rw [e1,← formL_app,List.take_append_drop]
def qO7 (locks all:List LkI) (x:LkI):Option (List LkI):=if qE6 locks x.e x.c x.p=0 then some (QB0 all x) else if qE6 locks x.e x.c x.p=x.f then some all else none
def qJ4 (locks needs:List LkI):Nat→Option (List LkI)
 | 0=>some locks
 | k+1=>match qJ4 locks needs k with
  | none=>none
  | some all=>match needs[k]? with
   | none=>some all
   | some x=>qO7 locks all x
theorem qJ3 {locks needs all:List LkI} {k:Nat} {x:LkI} (h:qJ4 locks needs k=some all) (hx:needs[k]? = some x):qJ4 locks needs (k+1)=qO7 locks all x:=by
 simp [qJ4,h,hx]
theorem qT3 {locks needs:List LkI} {k m:Nat} (h:qJ4 locks needs k=none) (hm:k≤m):qJ4 locks needs m=none:=by
  induction m with
  | zero => obtain rfl:k=0:=by omega
            exact h
  | succ m ih =>
    by_cases e:k=m+1
    · subst e;exact h
    · simp [qJ4,ih (by omega)]
theorem QD2 (locks all:List LkI) (x:LkI):(qE6 locks x.e x.c x.p=0∧qO7 locks all x=some (QB0 all x))∨(qE6 locks x.e x.c x.p≠0∧qE6 locks x.e x.c x.p=x.f∧qO7 locks all x=some all)∨(qE6 locks x.e x.c x.p≠0∧qE6 locks x.e x.c x.p≠x.f∧qO7 locks all x=none):=by
 unfold qO7
 by_cases h0:qE6 locks x.e x.c x.p=0
 ·exact .inl ⟨h0,by rw [if_pos h0]⟩
 ·by_cases h1:qE6 locks x.e x.c x.p=x.f
  ·exact .inr (.inl ⟨h0,h1,by rw [if_neg h0,if_pos h1]⟩)
  ·exact .inr (.inr ⟨h0,h1,by rw [if_neg h0,if_neg h1]⟩)
structure TkS (locks needs:List LkI) (k:Nat) (all:List LkI):Prop where
 tk:qJ4 locks needs k=some all
 sl:SL all
 ok:∀ x∈all,okL x=true
 len:all.length≤locks.length+k
 low:locks.length≤all.length
 same:∀ j x,k≤j→needs[j]? = some x→qE6 all x.e x.c x.p=qE6 locks x.e x.c x.p
 old:∀ x∈locks,x∈all
theorem TkS.zero {locks:List LkI} (needs:List LkI) (hs:SL locks) (ho:∀ x∈locks,okL x=true):TkS locks needs 0 locks :=
 ⟨rfl,hs,ho,by omega,by omega,fun _ _ _ _=>rfl,fun _ h=>h⟩
theorem TkS.stay {locks needs all:List LkI} {k:Nat} {x:LkI} (h:TkS locks needs k all) (hx:needs[k]? = some x) (h0:qE6 locks x.e x.c x.p≠0) (h1:qE6 locks x.e x.c x.p=x.f):TkS locks needs (k+1) all :=
 ⟨by rw [qJ3 h.tk hx,qO7,if_neg h0,if_pos h1],h.sl,h.ok,by have:=h.len;omega,h.low,fun j y hj hy=>h.same j y (by omega) hy,h.old⟩
theorem TkS.put {locks needs all:List LkI} {k:Nat} {x:LkI} (h:TkS locks needs k all) (hn:SL needs) (hx:needs[k]? = some x) (hok:okL x=true) (h0:qE6 locks x.e x.c x.p=0):TkS locks needs (k+1) (QB0 all x):=by
 have hf:qE6 all x.e x.c x.p=0:=(h.same k x (Nat.le_refl _) hx).trans h0
 refine ⟨by rw [qJ3 h.tk hx,qO7,if_pos h0],putL_SL h.sl h.ok hf,fun y hy=>?_,by rw [QD4];have:=h.len;omega,by rw [QD4];have:=h.low;omega,fun j y hj hy=>?_,fun y hy=>QI1.2 (.inr (h.old y hy))⟩
 ·rcases QI1.1 hy with rfl | hy
  ·exact hok
  ·exact h.ok y hy
 ·have hkl:k < needs.length:=by
   by_cases q:k < needs.length
   ·exact q
   ·rw [List.getElem?_eq_none (by omega)] at hx;cases hx
  have hjl:j < needs.length:=by
   by_cases q:j < needs.length
   ·exact q
   ·rw [List.getElem?_eq_none (by omega)] at hy;cases hy
  have hlt:=List.pairwise_iff_getElem.1 hn k j hkl hjl (by omega)
  rw [List.getElem?_eq_getElem hkl] at hx
  rw [List.getElem?_eq_getElem hjl] at hy
  rw [Option.some.inj hx,Option.some.inj hy] at hlt
  rw [formL_put (by unfold keyB;simp only [ltL,decide_eq_true_eq] at hlt;omega)]
  exact h.same j y (by omega) (by rw [List.getElem?_eq_getElem hjl];exact hy)
theorem QM0 (s:Int):∀ k,(qB2 s k).Pairwise (fun a b=>a < b)∧∀ x∈qB2 s k,1≤x∧x≤(k:Int)
 | 0=>by simp [qB2]
 | k+1=>by
  obtain ⟨h1,h2⟩:=QM0 s k
  unfold qB2
  split
  ·refine ⟨List.pairwise_append.2 ⟨h1,by simp,fun a ha b hb=>?_⟩,fun x hx=>?_⟩
   ·simp at hb
    have:=h2 a ha
    omega
   ·rcases List.mem_append.1 hx with q | q
    ·have:=h2 x q;omega
    ·simp at q;omega
  ·exact ⟨h1,fun x hx=>by have:=h2 x hx;omega⟩
theorem needAt_SL (e f:Int) (k:Nat) {ps:List Int} (h:ps.Pairwise (fun a b=>a < b)):SL (qG3 e f k ps):=by
 unfold SL qG3
 rw [List.pairwise_map]
 exact h.imp (fun {a b} q=>by simp [ltL,q])
theorem QL2 {zs:List Int} {e f s:Int} {k:Nat} {x:LkI} (h:x∈qS5 zs e f s k):x.e=e∧x.c=(k:Int)∧(1≤x.p∧x.p≤8)∧x.f=f:=by
 unfold qS5 at h
 split at h
 ·simp only [qG3,List.mem_map] at h
  obtain ⟨p,hp,rfl⟩:=h
  exact ⟨rfl,rfl,(QM0 s 8).2 p hp,rfl⟩
 ·cases h
theorem QL0 (zs:List Int) (e f s:Int):∀ k,SL (qB3 zs e f s k)∧∀ x∈qB3 zs e f s k,x.e=e∧(0≤x.c∧x.c < (k:Int))∧(1≤x.p∧x.p≤8)∧x.f=f
 | 0=>by simp [qB3,SL]
 | k+1=>by
  obtain ⟨h1,h2⟩:=QL0 zs e f s k
  unfold qB3
  refine ⟨List.pairwise_append.2 ⟨h1,?_,fun a ha b hb=>?_⟩,fun x hx=>?_⟩
  ·unfold qS5
   split
   ·exact needAt_SL e f k (QM0 s 8).1
   ·exact List.Pairwise.nil
  ·have ga:=h2 a ha
   have gb:=QL2 hb
   simp only [ltL,decide_eq_true_eq]
   omega
  ·rcases List.mem_append.1 hx with q | q
   ·have:=h2 x q;omega
   ·have:=QL2 q;omega
theorem QU0 {zs:List Int} {e f s:Int} (h:qE5 zs e f s=0):SL (qB3 zs e f s zs.length)∧∀ x∈qB3 zs e f s zs.length,okL x=true:=by
 obtain ⟨h0,h1,h2,h3⟩:=QK9 h
 obtain ⟨u1,u2⟩:=QL0 zs e f s zs.length
 refine ⟨u1,fun x hx=>?_⟩
 have hl:=(cl_ok h0).1
 obtain ⟨q1,q2,q3,q4⟩:=u2 x hx
 rw [qG9] at h1 h2
 simp only [okL,Bool.and_eq_true,qG9]
 omega
def qJ1 (locks needs:List LkI):Int:=match qJ4 locks needs needs.length with
 | none=>6
 | some all=>if 200 < all.length then 2 else 0
def tkL (locks needs:List LkI):List LkI:=match qJ4 locks needs needs.length with
 | none=>[]
 | some all=>if 200 < all.length then [] else all
theorem QD1 {locks needs:List LkI} {k:Nat} (h:qJ4 locks needs k=none) (hk:k≤needs.length):qJ1 locks needs=6∧tkL locks needs=[]:=by
 have:=qT3 h hk
 simp [qJ1,tkL,this]
theorem QT1 {locks needs all:List LkI} (h:qJ4 locks needs needs.length=some all) (hm:200 < all.length):qJ1 locks needs=2∧tkL locks needs=[]:=by
 simp [qJ1,tkL,h,hm]
theorem QF0 {locks needs all:List LkI} (h:qJ4 locks needs needs.length=some all) (hm:¬ 200 < all.length):qJ1 locks needs=0∧tkL locks needs=all:=by
 simp [qJ1,tkL,h,hm]
theorem found_formS {gs:List LkI} (hs:SL gs) (ho:∀ x∈gs,okL x=true) {t:LkI} {i:Nat} {b:Bool} (h:QO4 gs t i) (hb:b=true↔∃ x,gs[i]? = some x∧cfL x t=0):(b=false∧qE6 gs t.e t.c t.p=0)∨(b=true∧∃ x,gs[i]? = some x∧qE6 gs t.e t.c t.p=x.f∧x.f≠0):=by
 have hf:=parts_form hs h
 cases b
 ·refine .inl ⟨rfl,?_⟩
  rw [hf]
  cases hi:gs[i]? with
  | none=>rfl
  | some x =>
   show (if cfL x t=0 then x.f else 0)=0
   rw [if_neg]
   intro q
   have:=hb.2 ⟨x,hi,q⟩
   cases this
 ·obtain ⟨x,hx,q⟩:=hb.1 rfl
  refine .inr ⟨rfl,x,hx,?_,?_⟩
  ·rw [hf,hx]
   show (if cfL x t=0 then x.f else 0)=x.f
   rw [if_pos q]
  ·have:=ho x (List.mem_of_getElem? hx)
   simp [okL,inR] at this
   omega

theorem flatLk_take (a:List LkI):∀ k,qA3 (a.take k)=(qA3 a).take (k * 4):=by
 induction a with
 | nil=>intro k;simp [qA3]
 | cons p ps ih =>
  intro k
  cases k with
  | zero=>simp [qA3]
  | succ k =>
   rw [show (k+1) * 4=k * 4+1+1+1+1 by omega]
   simp [qA3,ih]
theorem flatLk_drop (a:List LkI):∀ k,qA3 (a.drop k)=(qA3 a).drop (k * 4):=by
 induction a with
 | nil=>intro k;simp [qA3]
 | cons p ps ih =>
  intro k
  cases k with
  | zero=>simp
  | succ k =>
   rw [show (k+1) * 4=k * 4+1+1+1+1 by omega]
   simp [qA3,ih]
theorem newsLk_take {w w':World} {B Bd g n cap k:Nat} {gs:List LkI} (hz:n=gs.length) (h:qA4 w B (.slice (some ⟨g,0,none⟩) n cap) gs) (hg:g < Bd) (hb:Below Bd w w') (hk:k≤n):∀ j u,(qA3 (gs.take k))[j]? = some u→w'.cell? ((⟨g,0,none⟩:Addr).add j)=some u:=by
 intro j u hj
 subst hz
 have h0:w.ownsRow B 98 4 (.slice (some ⟨g,0,none⟩) gs.length cap) gs.length (qA3 gs):=h
 have hjl:j < k * 4:=by
  by_cases q:j < k * 4
  ·exact q
  ·rw [List.getElem?_eq_none (by rw [qF4,List.length_take];omega)] at hj;cases hj
 rw [Go.WideShapes.add_plain,Nat.zero_add,hb.cell (p:=⟨g,j,none⟩) hg,h0.cellAt j (by omega)]
 rw [flatLk_take,List.getElem?_take,if_pos hjl] at hj
 exact hj
theorem newsLk_drop {w w':World} {B Bd g n cap k:Nat} {gs:List LkI} (hz:n=gs.length) (h:qA4 w B (.slice (some ⟨g,0,none⟩) n cap) gs) (hg:g < Bd) (hb:Below Bd w w') (hk:k≤n):∀ j u,(qA3 (gs.drop k))[j]? = some u→w'.cell? ((⟨g,k * 4,none⟩:Addr).add j)=some u:=by
 intro j u hj
 subst hz
 have h0:w.ownsRow B 98 4 (.slice (some ⟨g,0,none⟩) gs.length cap) gs.length (qA3 gs):=h
 have hjl:j < (gs.length - k) * 4:=by
  by_cases q:j < (gs.length - k) * 4
  ·exact q
  ·rw [List.getElem?_eq_none (by rw [qF4,List.length_drop];omega)] at hj;cases hj
 rw [Go.WideShapes.add_plain,hb.cell (p:=⟨g,k * 4+j,none⟩) hg,h0.cellAt (k * 4+j) (by omega)]
 rw [flatLk_drop,List.getElem?_drop] at hj
 exact hj
theorem qT6 {w:World} {b:Nat} {v:Value} {n:Nat} {xs:List Value} (h:w.ownsRow b 98 4 v n xs) (hv:v ≠ .slice none 0 0):∃ g cap,v = .slice (some ⟨g,0,none⟩) n cap:=by
 rcases h.2 with ⟨h',_⟩ | ⟨g,cap,cur,h',_⟩
 ·exact absurd h' hv
 ·exact ⟨g,cap,h'⟩
theorem kpL {B:Nat} {w w':World} (hb:Below B w w'):(∀ b o,b < B→w'.cell? ⟨b,o,none⟩=w.cell? ⟨b,o,none⟩)∧Below B w w' :=
 ⟨fun b o h=>hb.cell (p:=⟨b,o,none⟩) h,hb⟩
theorem qL9 {P:Program} {w:World} {ops:Array Oper} {o:Oper} {a:Act} {K:Act→World→Prop} {Q:Exit→Act→World→Prop} {E:Prop} (hgd:o.guard=none) (s x:Operand) (t:TypeId)
  (ho:o.op = .call { callee:=.builtin .append,args:=#[s,x],argTypes:=#[t,t] })
  (base:Nat) (e:TypeId) (i:TypeInfo) (z:Value) (size bytes:Nat) (ht:P.underlying t=some (.slice e)) (hi:P.info? e=some i) (hz:i.zero=some z)
  (hsize:i.size=size) (hby:i.bytes=bytes) (hzs:z.cells.size=size) (hsz:0 < size)
  (v:Value) (n:Nat) (xs:List Value) (hs:a.eval s=v) (hown:w.ownsRow base e size v n xs)
  (ad:Addr) (m c:Nat) (news:List Value) (hx:a.eval x = .slice (some ad) m c) (hl:news.length=m * size) (hnews:∀ j u,news[j]? = some u→w.cell? (ad.add j)=some u) (h1:∀ u∈news,u.oneCell'=true)
  (h63:n+m≤maxLen) (hbytes:(n+m) * bytes≤140737488355328) (hbase:base≤w.heap.size)
  (h:∀ v' w',w'.ownsRow base e size v' (n+m) (xs++news)→w.grownBy w' v.ownBlock→(v' = .slice none 0 0↔v = .slice none 0 0∧m=0)→K (a.put o.dst v') w') :
  if Region.wanted o (yielded ops a.tmps)=true then Oper.wp P o a w K Q else E:=by
 have hw:Region.wanted o (yielded ops a.tmps)=true:=by simp [Region.wanted,hgd]
 rw [if_pos hw]
 exact wp_append_own w s x t ho base e i z size bytes ht hi hz hsize hby hzs hsz v n xs hs hown ad m c news hx hl hnews h1 h63 hbytes hbase h
theorem l5Put_c (B g n cap:Nat) (gs:List LkI) (x:LkI) (w:World) (hz:n=gs.length) (hn:n≤1000) (h:qA4 w B (.slice (some ⟨g,0,none⟩) n cap) gs) (hs:SL gs) (hB:B≤w.heap.size) :
  Calls Tryz.prog 127 #[.slice (some ⟨g,0,none⟩) n cap,.agg #[.int .i64 x.e,.int .i64 x.c,.int .i64 x.p,.int .i64 x.f]] w fun e w'=>∃ (g' cap':Nat),e = .returned (.slice (some ⟨g',0,none⟩) (n+1) cap')∧qA4 w' w.heap.size (.slice (some ⟨g',0,none⟩) (n+1) cap') (QB0 gs x)∧Below w.heap.size w w':=by
 have HO:Hid (qA4 w B (.slice (some ⟨g,0,none⟩) n cap) gs):=h
 have HZ:Hid (n=gs.length):=hz
 have HS:Hid (SL gs):=hs
 have hgl:g < w.heap.size:=by
  rcases h.form with ⟨h1,_⟩ | ⟨g',cap',h1,_,h3,_⟩
  ·simp at h1
  ·simp at h1;omega
 have hcap:n≤cap∧cap≤maxLen:=by
  rcases h.form with ⟨h1,_⟩ | ⟨g',cap',h1,_,h3,h4,h5⟩
  ·simp at h1
  ·simp at h1;omega
 have HIN:Hid (qK1 w (some ⟨g,0,none⟩) n gs):=(h.view).isIn hz.symm
 clear h hz hs
 obtain ⟨i0,hi,hz0,hz1,hz2⟩:=info_parts Tryz.info98
 have hn':(n:Int)≤1000:=by omega
 have hcn:(n:Int)≤(cap:Int):=by omega
 obtain ⟨W,hW⟩:∃ W,W=w.alloc (.cells #[.int .i64 x.e,.int .i64 x.c,.int .i64 x.p,.int .i64 x.f] 98):=⟨_,rfl⟩
 have HW:Hid (W=w.alloc (.cells #[.int .i64 x.e,.int .i64 x.c,.int .i64 x.p,.int .i64 x.f] 98)):=hW
 have hzW:W.heap.size=w.heap.size+1:=by rw [hW];simp
 have B0:Hid (Below w.heap.size w W):=by rw [hW];exact zN
 have R0:Hid (QC7 W w.heap.size 0 x):=by rw [hW];simp [Hid,QC7]
 clear hW
 go_enter Tryz.func127,Tryz.ntmps127
 go_upto_block 0 with fail
 go_cut [5] (fun s5 wx=>∃ (k:Nat) (w5:World),w5=wx∧k≤n∧s5 = .int .i64 (k:Int)∧QO4 gs x k∧Below W.heap.size W w5)
 case first =>
  go_wp2_with fail
  rw [← HW.out]
  go_loopw [5] (fun i wr=>∃ k:Nat,k≤n∧i = .int .i64 (k:Int)∧(∀ j y,j < k→gs[j]? = some y→ltL y x=true)∧Below W.heap.size W wr) (fun i _=>n - (intOf i).toNat)
  case atStart=>exact ⟨0,Nat.zero_le _,rfl,fun j y hj=>by omega,Below.refl _ _⟩
  case round =>
   obtain ⟨k,hk,rfl,hlo,hbr⟩:=hrel
   have HL:Hid (∀ j y,j < k→gs[j]? = some y→ltL y x=true):=hlo
   have HBR:Hid (Below W.heap.size W wr):=hbr
   have hzr:=hbr.size
   clear hlo
   by_cases hlt:k < n
   ·have hlt':decide ((k:Int) < (n:Int))=true:=by simp;omega
    have hltk:(k:Int) < (n:Int):=by omega
    obtain ⟨b1,o1,y,e1,hy,hr,hb1⟩:=HIN.out.at hlt
    obtain ⟨c0,c1,c2,c3⟩:=(hr.below B0.out hb1).below hbr (by omega)
    cases e1
    obtain ⟨r0,r1,r2,r3⟩:=R0.out.below hbr (by omega)
    simp only [Nat.zero_add] at r0 r1 r2 r3 c0 c1 c2 c3
    have HY:Hid (gs[k]? = some y):=hy
    clear hy hbr hr
    obtain ⟨t,ht⟩:∃ t,ltL y x=t:=⟨_,rfl⟩
    have HA:Hid (∀ w:World,Calls Tryz.prog 155 #[.agg #[.int .i64 y.e,.int .i64 y.c,.int .i64 y.p,.int .i64 y.f],.agg #[.int .i64 x.e,.int .i64 x.c,.int .i64 x.p,.int .i64 x.f]] w fun e w'=>e = .returned (.bool t)∧Below w.heap.size w w'):=fun w=>by rw [← ht];exact l5Ahead_c y x w
    have HT:Hid (ltL y x=t):=ht
    clear ht
    have hwr:w.heap.size < wr.heap.size:=by omega
    have hgr:g < wr.heap.size:=by omega
    go_wp2_with fail
    go_region_held3 (fun w'=>(∀ b o,b < wr.heap.size→w'.cell? ⟨b,o,none⟩=wr.cell? ⟨b,o,none⟩)∧Below wr.heap.size wr w') (first | exact hS | exact qB4 _)
     (first | (go_at_call 155;refine (HA.out _).mono ?_;rintro e w' ⟨rfl,hb9⟩;have hS:=qA0 (by assumption) hb9))
    cases t
    ·go_wp2_with fail
     go_meet
     case rel=>exact ⟨k,_,rfl,hk,rfl,⟨by rw [← HZ.out];exact hk,HL.out,cut_hi HS.out HY.out HT.out⟩,HBR.out.trans (hS.2.mono hzr)⟩
    ·go_wp2
     exact ⟨⟨k+1,by omega,by go_num,cut_lo HS.out HY.out HT.out,HBR.out.trans (hS.2.mono hzr)⟩,by simp [intOf];omega⟩
   ·have hkn:k=n:=by omega
    subst hkn
    have hlt':decide ((k:Int) < (k:Int))=false:=by simp
    go_wp2_with fail
    go_quiet (fail)
    go_wp2_with fail
    go_meet
    case rel=>exact ⟨k,_,rfl,Nat.le_refl _,rfl,⟨by rw [← HZ.out];exact Nat.le_refl _,HL.out,fun j y hj hy=>by rw [List.getElem?_eq_none (by rw [← HZ.out];exact hj)] at hy;cases hy⟩,below_drewN HBR.out _⟩
 case rest =>
  obtain ⟨k,w5,rfl,hk,rfl,hcutk,hb5⟩:=hcut
  have HCUT:Hid (QO4 gs x k):=hcutk
  have BW:Hid (Below w.heap.size w w5):=B0.out.trans (hb5.mono (by omega))
  obtain ⟨r0,r1,r2,r3⟩:=R0.out.below hb5 (by omega)
  simp only [Nat.zero_add] at r0 r1 r2 r3
  have hz5:=hb5.size
  clear hcutk hb5
  have hw5:w.heap.size < w5.heap.size:=by omega
  have H5:Hid ((w5.alloc (.cells #[] 98)).ownsRow w5.heap.size 98 4 (.slice (some ⟨w5.heap.size,0,none⟩) 0 0) 0 []):=World.ownsRow_lit (base:=w5.heap.size) (e:=98) (size:=4) w5 #[] 0 (Nat.le_refl _) (Nat.zero_le _) rfl
  have hkc:(k:Int)≤(cap:Int):=by omega
  have hkn:(k:Int)≤(n:Int):=by omega
  have hk0:(0:Int)≤(k:Int):=by omega
  go_wp2_with (first
   | (at_builtin;refine wpList_append_own _ rfl _ _ 31 rfl w5.heap.size 98 i0 (.agg #[.int .i64 0,.int .i64 0,.int .i64 0,.int .i64 0]) 4 32 Tryz.underlying31 hi hz0 hz1 hz2 rfl (by decide) (.slice (some ⟨w5.heap.size,0,none⟩) 0 0) 0 [] rfl H5.out ⟨g,0,none⟩ k cap (qA3 (gs.take k)) rfl (by rw [qF4,List.length_take,← HZ.out];omega) (newsLk_take HZ.out HO.out hgl (BW.out.alloc (by omega) _) hk) (qP1 _) (by unfold maxLen;omega) (by omega) (by simp) ?_))
  intro v6 w6 hown6 hgrow6 hnil6
  obtain ⟨g6,cap6,hv6⟩:=qT6 hown6 hnil6
  subst hv6
  have H6:Hid (w6.ownsRow w5.heap.size 98 4 (.slice (some ⟨g6,0,none⟩) k cap6) k (qA3 (gs.take k))):=by
   have h0:=hown6
   try simp only [Nat.zero_add,List.nil_append] at h0
   exact h0
  have BW6:Hid (Below w.heap.size w w6):=(BW.out.alloc (by omega) _).grown hgrow6 (by simp;omega) (fun q e=>by simp [Value.ownBlock] at e;omega)
  have hz6:w5.heap.size+1≤w6.heap.size:=by have:=hgrow6.size;simp at this;omega
  have s0:w6.cell? ⟨w.heap.size,0,none⟩=some (.int .i64 x.e):=hgrow6.cell ((World.cell?_alloc_past _ _ _ (by show w.heap.size < w5.heap.size;omega)).trans r0) (by simp [Value.ownBlock];omega)
  have s1:w6.cell? ⟨w.heap.size,1,none⟩=some (.int .i64 x.c):=hgrow6.cell ((World.cell?_alloc_past _ _ _ (by show w.heap.size < w5.heap.size;omega)).trans r1) (by simp [Value.ownBlock];omega)
  have s2:w6.cell? ⟨w.heap.size,2,none⟩=some (.int .i64 x.p):=hgrow6.cell ((World.cell?_alloc_past _ _ _ (by show w.heap.size < w5.heap.size;omega)).trans r2) (by simp [Value.ownBlock];omega)
  have s3:w6.cell? ⟨w.heap.size,3,none⟩=some (.int .i64 x.f):=hgrow6.cell ((World.cell?_alloc_past _ _ _ (by show w.heap.size < w5.heap.size;omega)).trans r3) (by simp [Value.ownBlock];omega)
  clear hown6 hgrow6 hnil6 H5 r0 r1 r2 r3
  go_wp2_with fail
  refine wp_region_held_drew (S:=(fun w'=>(∀ b o,b < w5.heap.size→w'.cell? ⟨b,o,none⟩=w6.cell? ⟨b,o,none⟩)∧Below w5.heap.size w6 w')) (by kernel_rfl) (kpL ⟨rfl,rfl,rfl,Nat.le_refl _,fun _ _=>rfl⟩) (fun hHeld=>?_)
  refine Zk.go [0,1,4,5,6] ?_
  iterate 5
   refine Zk.st (v:=?_) rfl ?_ ?_
   rotate_left 1
   ·intro w hSw;(try dsimp only at hSw);go_simp;try (with_reducible rfl)
   try simp only [Act.put,zA,zB,zC,zD,zE,zF]
  refine Zk.fin ?_
  refine Zk.rd (i:=2) rfl (fun K hK=>?_)
  go_simp
  have hS:=kpL (hHeld.2.alloc (by show w5.heap.size≤w6.heap.size;omega) (.cells #[.int .i64 x.e,.int .i64 x.c,.int .i64 x.p,.int .i64 x.f] 98))
  refine hK.out _ _ hS (fun hHeld=>?_)
  clear hK K
  try simp only [Act.put,zA,zB,zC,zD,zE,zF]
  refine wpAnyH_ready (rs:=[3]) (by kernel_rfl) (by simp) ?_
  refine AllReadyH.cons rfl (fun K hK=>?_) AllReadyH.nil
  refine qL9 rfl (.tmp 26) (.tmp 28) 31 rfl w5.heap.size 98 i0 (.agg #[.int .i64 0,.int .i64 0,.int .i64 0,.int .i64 0]) 4 32 Tryz.underlying31 hi hz0 hz1 hz2 rfl (by decide) (.slice (some ⟨g6,0,none⟩) k cap6) k (qA3 (gs.take k)) (by rfl) (H6.out.alloc _) ⟨w6.heap.size,0,none⟩ 1 1 [.int .i64 x.e,.int .i64 x.c,.int .i64 x.p,.int .i64 x.f] (by rfl) (by rfl) (fun j u hj=>by match j,hj with | 0,hj=>simp at hj;subst hj;simp [Addr.add] | 1,hj=>simp at hj;subst hj;simp [Addr.add] | 2,hj=>simp at hj;subst hj;simp [Addr.add] | 3,hj=>simp at hj;subst hj;simp [Addr.add]) (fun u hu=>by simp at hu;rcases hu with rfl | rfl | rfl | rfl <;> rfl) (by unfold maxLen;omega) (by omega) (by show w5.heap.size≤(w6.alloc _).heap.size;simp;omega) ?_
  intro v7 w7 hown7 hgrow7 hnil7
  have hS:=kpL (hHeld.2.grown hgrow7 (by show w5.heap.size≤(w6.alloc _).heap.size;simp;omega) (fun q e=>by have:=(H6.out.lt q e).1;omega))
  have H7:Hid (w7.ownsRow w5.heap.size 98 4 v7 (k+1) (qA3 (gs.take k)++[.int .i64 x.e,.int .i64 x.c,.int .i64 x.p,.int .i64 x.f])):=hown7
  have N7:Hid (v7 ≠ .slice none 0 0):=fun e=>by have:=(hnil7.1 e).1;simp at this
  clear hown7 hnil7 hgrow7
  refine hK.out _ _ hS (fun hHeld=>?_)
  clear hK K
  try simp only [Act.put,zA,zB,zC,zD,zE,zF]
  refine wpAnyH_ready (rs:=[7]) (by kernel_rfl) (by simp) ?_
  refine AllReadyH.cons rfl (fun K hK=>?_) AllReadyH.nil
  have hsl:(if cap=k then (some ⟨g,0,none⟩:Option Addr) else some ⟨g,k * 4,none⟩)=some (if cap=k then ⟨g,0,none⟩ else ⟨g,k * 4,none⟩):=by split <;> rfl
  have hnw:∀ j u,(qA3 (gs.drop k))[j]? = some u→w7.cell? ((if cap=k then (⟨g,0,none⟩:Addr) else ⟨g,k * 4,none⟩).add j)=some u:=by
   by_cases hck:cap=k
   ·intro j u hj;rw [List.drop_of_length_le (by rw [← HZ.out];omega)] at hj;simp [qA3] at hj
   ·rw [if_neg hck];exact newsLk_drop HZ.out HO.out hgl (BW6.out.trans (hHeld.2.mono (by omega))) hk
  refine qL9 rfl (.tmp 29) (.tmp 32) 31 rfl w5.heap.size 98 i0 (.agg #[.int .i64 0,.int .i64 0,.int .i64 0,.int .i64 0]) 4 32 Tryz.underlying31 hi hz0 hz1 hz2 rfl (by decide) v7 (k+1) (qA3 (gs.take k)++[.int .i64 x.e,.int .i64 x.c,.int .i64 x.p,.int .i64 x.f]) (by rfl) H7.out _ (n - k) (cap - k) (qA3 (gs.drop k)) (by rw [← hsl];rfl) (by rw [qF4,List.length_drop,HZ.out]) hnw (qP1 _) (by unfold maxLen;omega) (by omega) (by have h1:=hHeld.2.size;omega) ?_
  intro v8 w8 hown8 hgrow8 hnil8
  have hS:=kpL (hHeld.2.grown hgrow8 (by have h1:=hHeld.2.size;omega) (fun q e=>by have:=(H7.out.lt q e).1;omega))
  have H8:Hid (w8.ownsRow w5.heap.size 98 4 v8 (k+1+(n - k)) (qA3 (gs.take k)++[.int .i64 x.e,.int .i64 x.c,.int .i64 x.p,.int .i64 x.f]++qA3 (gs.drop k))):=hown8
  have N8:Hid (v8 ≠ .slice none 0 0):=fun e=>N7.out (hnil8.1 e).1
  clear hown8 hnil8 hgrow8
  refine hK.out _ _ hS (fun hHeld=>?_)
  clear hK K
  try simp only [Act.put,zA,zB,zC,zD,zE,zF]
  refine Zk.rd (i:=8) rfl (fun K hK=>?_)
  go_simp
  refine hK.out _ _ (by assumption) (fun hHeld=>?_)
  clear hK K
  try simp only [Act.put,zA,zB,zC,zD,zE,zF]
  refine wpAnyH_done (by kernel_rfl) ?_ _
  obtain ⟨g8,cap8,hv8⟩:=qT6 H8.out N8.out
  subst hv8
  have BF:Hid (Below w.heap.size w w8):=BW6.out.trans (hHeld.2.mono (by omega))
  have E3:Hid (k+1+(n - k)=n+1):=by show k+1+(n - k)=n+1;omega
  have HF:Hid (qA4 w8 w.heap.size (.slice (some ⟨g8,0,none⟩) (n+1) cap8) (QB0 gs x)):=by
   have h8:=H8.out
   rw [E3.out] at h8
   have e1:qA3 (QB0 gs x)=qA3 (gs.take k)++[.int .i64 x.e,.int .i64 x.c,.int .i64 x.p,.int .i64 x.f]++qA3 (gs.drop k):=by unfold QB0;rw [cutN_of HCUT.out,qR3];simp [qA3]
   refine qA9 (B:=w5.heap.size) ?_ (by omega)
   show World.ownsRow _ w5.heap.size 98 4 _ (QB0 gs x).length (qA3 (QB0 gs x))
   rw [e1,QD4,← HZ.out]
   exact h8
  clear hsl hnw H8 N8 H7 N7 hHeld
  go_wp2_with fail
  all_goals
   go_ret
   exact ⟨g8,cap8,by show Ending.returned (Value.slice (some ⟨g8,0,none⟩) (k+1+(n - k)) cap8)=_;rw [E3.out],HF.out,BF.out⟩

end Go.Proofs.YtlhgjackapdmbaaGreatDoor
