/- Contracts. -/
import Derived.Test.YtdppdbihhlipeaaGreatDoorPr11
import Derived.Test.YtdppdbihhlipeaaGreatDoorPr10
import Derived.Deep.DeepCutAuto
import Derived.ArgAppend
import Derived.Laws.AppendOwnNone
namespace Go.Proofs.YtdppdbihhlipeaaGreatDoor
set_option maxRecDepth 100000
set_option maxHeartbeats 8000000
open Go.RowKit
set_option linter.unusedVariables false
set_option linter.unusedSimpArgs false

def qBH (gs:List LkI) (x:LkI):Nat:=(gs.takeWhile (fun y=>ltL y x)).length
theorem QV2 {gs:List LkI} {x:LkI}:∀ {i:Nat},QQ2 gs x i->(gs.takeWhile (fun y=>ltL y x)).length=i:=by
 induction gs with
 | nil=>intro i h;have:=h.1;simp at this;simp [this]
 | cons y ys ih =>
  intro i h;cases i with
  | zero =>
   have:=h.2.2 0 y (Nat.le_refl _) rfl;simp [List.takeWhile_cons,this]
  | succ i =>
   have h0:=h.2.1 0 y (by omega) rfl;have h1:QQ2 ys x i:=⟨by have:=h.1;simp at this;omega,fun k z hk hz=>h.2.1 (k+1) z (by omega) (by simpa using hz),fun k z hk hz=>h.2.2 (k+1) z (by omega) (by simpa using hz)⟩;simp [List.takeWhile_cons,h0,ih h1]
theorem qCl {gs:List LkI} {x:LkI} {i:Nat} (h:QQ2 gs x i):qBH gs x=i:=QV2 h
theorem qHa {gs:List LkI} (hs:SL gs) (x:LkI):QQ2 gs x (qBH gs x):=by
 unfold qBH;induction gs with
 | nil=>exact ⟨by simp,fun k y hk hy=>by simp at hy,fun k y hk hy=>by simp at hy⟩
 | cons y ys ih =>
  have hp:=List.pairwise_cons.1 hs;have h1:=ih hp.2;cases q:ltL y x
  ·simp only [List.takeWhile_cons,q];refine ⟨by simp,fun k z hk hz=>by simp at hk,fun k z hk hz=>?_⟩;cases k with
   | zero=>simp at hz;rw [<- hz];exact q
   | succ k =>
    have hm:z∈ys:=List.mem_of_getElem? (by simpa using hz);cases q2:ltL z x
    ·rfl
    ·rw [QD9 (hp.1 z hm) q2] at q;cases q
  ·simp only [List.takeWhile_cons,q,if_true,List.length_cons];refine ⟨by have:=h1.1;simp;omega,fun k z hk hz=>?_,fun k z hk hz=>?_⟩
   ·cases k with
    | zero=>simp at hz;rw [<- hz];exact q
    | succ k=>exact h1.2.1 k z (by omega) (by simpa using hz)
   ·cases k with
    | zero=>omega
    | succ k=>exact h1.2.2 k z (by omega) (by simpa using hz)
def QA6 (gs:List LkI) (x:LkI):List LkI:=gs.take (qBH gs x)++x::gs.drop (qBH gs x)
theorem QD0 (gs:List LkI) (x:LkI):(QA6 gs x).length=gs.length+1:=by
 unfold QA6;simp only [List.length_append,List.length_cons,List.length_take,List.length_drop];have : qBH gs x<=gs.length:=by unfold qBH;exact (List.takeWhile_prefix _).length_le
 omega
theorem QI9 {gs:List LkI} {x y:LkI}:y∈QA6 gs x↔y=x\/y∈gs:=by
 unfold QA6;rw [List.mem_append,List.mem_cons]
 have h:y∈gs↔y∈gs.take (qBH gs x)\/y∈gs.drop (qBH gs x):=by
  rw [<- List.mem_append,List.take_append_drop]
 rw [h];constructor
 ·rintro (h | h | h)
  ·exact .inr (.inl h)
  ·exact .inl h
  ·exact .inr (.inr h)
 ·rintro (h | h | h)
  ·exact .inr (.inl h)
  ·exact .inl h
  ·exact .inr (.inr h)
def qLR (x y:LkI):Prop:=x.e=y.e/\x.c=y.c/\x.p=y.p
theorem qGm {x y:LkI} (h:ltL x y=false) (hk:¬ qLR x y):ltL y x=true:=by
 unfold qLR at hk;simp only [ltL,decide_eq_true_eq,decide_eq_false_iff_not] at *
 omega
theorem QX6 {gs:List LkI} (ho:∀ x∈gs,okL x=true) {t:LkI}:qE8 gs t.e t.c t.p=0↔∀ x∈gs,¬ qLR x t:=by
 induction gs with
 | nil=>simp [qE8]
 | cons y ys ih =>
  have h1:=ih (fun x hx=>ho x (by simp [hx]));unfold qE8;by_cases q:y.e=t.e/\y.c=t.c/\y.p=t.p
  ·rw [if_pos q];have hy:=ho y (by simp);simp [okL,inR] at hy;constructor
   ·intro h;omega
   ·intro h;exact absurd q (h y (by simp))
  ·rw [if_neg q,h1];constructor
   ·intro h x hx;rcases List.mem_cons.1 hx with rfl | hx
    ·exact q
    ·exact h x hx
   ·intro h x hx;exact h x (by simp [hx])
theorem qKX {gs:List LkI} (hs:SL gs) (ho:∀ x∈gs,okL x=true) {t:LkI} (h:qE8 gs t.e t.c t.p=0):SL (QA6 gs t):=by
 have hn:=(QX6 ho).1 h;have hc:=qHa hs t;unfold SL QA6;have hlen:qBH gs t<=gs.length:=hc.1
 have hT:∀ a∈gs.take (qBH gs t),ltL a t=true:=by
  intro a ha;obtain ⟨k,hk⟩:=List.mem_iff_getElem?.1 ha;rw [List.getElem?_take] at hk;split at hk
  ·exact hc.2.1 k a (by assumption) hk
  ·cases hk
 have hD:∀ a∈gs.drop (qBH gs t),ltL t a=true:=by
  intro a ha;obtain ⟨k,hk⟩:=List.mem_iff_getElem?.1 ha;rw [List.getElem?_drop] at hk;exact qGm (hc.2.2 _ a (by omega) hk) (hn a (List.mem_of_getElem? hk))
 have hp:(gs.take (qBH gs t)++gs.drop (qBH gs t)).Pairwise (fun a b=>ltL a b=true):=by rw [List.take_append_drop];exact hs
 obtain ⟨p1,p2,p3⟩:=List.pairwise_append.1 hp;refine List.pairwise_append.2 ⟨p1,List.pairwise_cons.2 ⟨hD,p2⟩,fun a ha b hb=>?_⟩;rcases List.mem_cons.1 hb with rfl | hb
 ·exact hT a ha
 ·exact p3 a ha b hb
theorem qV5 (y:LkI) (ys:List LkI) (e c p:Int):qE8 (y::ys) e c p=if y.e=e/\y.c=c/\y.p=p then y.f else qE8 ys e c p:=rfl
theorem qAr (a b:List LkI) (e c p:Int):qE8 (a++b) e c p=if (∃ x∈a,x.e=e/\x.c=c/\x.p=p) then qE8 a e c p else qE8 b e c p:=by
 induction a with
 | nil=>simp
 | cons y ys ih =>
  rw [List.cons_append,qV5,qV5];by_cases q:y.e=e/\y.c=c/\y.p=p
  ·rw [if_pos q,if_pos ⟨y,by simp,q⟩,if_pos q]
  ·rw [if_neg q,ih];by_cases r:∃ x∈ys,x.e=e/\x.c=c/\x.p=p
   ·rw [if_pos r,if_pos (by obtain ⟨x,hx,h⟩:=r;exact ⟨x,by simp [hx],h⟩),if_neg q]
   ·rw [if_neg r,if_neg (by
     rintro ⟨x,hx,h⟩;rcases List.mem_cons.1 hx with hx | hx
     ·subst hx;exact q h
     ·exact r ⟨x,hx,h⟩)]
theorem qHR {gs:List LkI} {x t:LkI} (h:¬ qLR x t):qE8 (QA6 gs x) t.e t.c t.p=qE8 gs t.e t.c t.p:=by
 unfold qLR at h;unfold QA6;rw [qAr]
 have e1:qE8 (x::gs.drop (qBH gs x)) t.e t.c t.p=qE8 (gs.drop (qBH gs x)) t.e t.c t.p:=by
  rw [qV5,if_neg h]
 rw [e1,<- qAr,List.take_append_drop]
def qO0 (locks all:List LkI) (x:LkI):Option (List LkI):=if qE8 locks x.e x.c x.p=0 then some (QA6 all x) else if qE8 locks x.e x.c x.p=x.f then some all else none
def qI8 (locks needs:List LkI):Nat->Option (List LkI)
 | 0=>some locks
 | k+1=>match qI8 locks needs k with
  | none=>none
  | some all=>match needs[k]? with
   | none=>some all
   | some x=>qO0 locks all x
theorem qI7 {locks needs all:List LkI} {k:Nat} {x:LkI} (h:qI8 locks needs k=some all) (hx:needs[k]? = some x):qI8 locks needs (k+1)=qO0 locks all x:=by
 simp [qI8,h,hx]
theorem qS6 {locks needs:List LkI} {k m:Nat} (h:qI8 locks needs k=none) (hm:k<=m):qI8 locks needs m=none:=by
  induction m with
  | zero => obtain rfl:k=0:=by omega
            exact h
  | succ m ih =>
    by_cases e:k=m+1
    · subst e;exact h
    · simp [qI8,ih (by omega)]
theorem QC6 (locks all:List LkI) (x:LkI):(qE8 locks x.e x.c x.p=0/\qO0 locks all x=some (QA6 all x))\/(qE8 locks x.e x.c x.p≠0/\qE8 locks x.e x.c x.p=x.f/\qO0 locks all x=some all)\/(qE8 locks x.e x.c x.p≠0/\qE8 locks x.e x.c x.p≠x.f/\qO0 locks all x=none):=by
 unfold qO0;by_cases h0:qE8 locks x.e x.c x.p=0
 ·exact .inl ⟨h0,by rw [if_pos h0]⟩
 ·by_cases h1:qE8 locks x.e x.c x.p=x.f
  ·exact .inr (.inl ⟨h0,h1,by rw [if_neg h0,if_pos h1]⟩)
  ·exact .inr (.inr ⟨h0,h1,by rw [if_neg h0,if_neg h1]⟩)
structure TkS (locks needs:List LkI) (k:Nat) (all:List LkI):Prop where
 tk:qI8 locks needs k=some all
 sl:SL all
 ok:∀ x∈all,okL x=true
 len:all.length<=locks.length+k
 low:locks.length<=all.length
 same:∀ j x,k<=j->needs[j]? = some x->qE8 all x.e x.c x.p=qE8 locks x.e x.c x.p
 old:∀ x∈locks,x∈all
theorem TkS.zero {locks:List LkI} (needs:List LkI) (hs:SL locks) (ho:∀ x∈locks,okL x=true):TkS locks needs 0 locks :=
 ⟨rfl,hs,ho,by omega,by omega,fun _ _ _ _=>rfl,fun _ h=>h⟩
theorem TkS.stay {locks needs all:List LkI} {k:Nat} {x:LkI} (h:TkS locks needs k all) (hx:needs[k]? = some x) (h0:qE8 locks x.e x.c x.p≠0) (h1:qE8 locks x.e x.c x.p=x.f):TkS locks needs (k+1) all :=
 ⟨by rw [qI7 h.tk hx,qO0,if_neg h0,if_pos h1],h.sl,h.ok,by have:=h.len;omega,h.low,fun j y hj hy=>h.same j y (by omega) hy,h.old⟩
theorem TkS.put {locks needs all:List LkI} {k:Nat} {x:LkI} (h:TkS locks needs k all) (hn:SL needs) (hx:needs[k]? = some x) (hok:okL x=true) (h0:qE8 locks x.e x.c x.p=0):TkS locks needs (k+1) (QA6 all x):=by
 have hf:qE8 all x.e x.c x.p=0:=(h.same k x (Nat.le_refl _) hx).trans h0;refine ⟨by rw [qI7 h.tk hx,qO0,if_pos h0],qKX h.sl h.ok hf,fun y hy=>?_,by rw [QD0];have:=h.len;omega,by rw [QD0];have:=h.low;omega,fun j y hj hy=>?_,fun y hy=>QI9.2 (.inr (h.old y hy))⟩
 ·rcases QI9.1 hy with rfl | hy
  ·exact hok
  ·exact h.ok y hy
 ·have hkl:k < needs.length:=by
   by_cases q:k < needs.length
   ·exact q
   ·rw [List.getElem?_eq_none (by omega)] at hx;cases hx
  have hjl:j < needs.length:=by
   by_cases q:j < needs.length
   ·exact q
   ·rw [List.getElem?_eq_none (by omega)] at hy;cases hy
  have hlt:=List.pairwise_iff_getElem.1 hn k j hkl hjl (by omega);rw [List.getElem?_eq_getElem hkl] at hx;rw [List.getElem?_eq_getElem hjl] at hy;rw [Option.some.inj hx,Option.some.inj hy] at hlt;rw [qHR (by unfold qLR;simp only [ltL,decide_eq_true_eq] at hlt;omega)];exact h.same j y (by omega) (by rw [List.getElem?_eq_getElem hjl];exact hy)
theorem QN6 (s:Int):∀ k,(qB3 s k).Pairwise (fun a b=>a < b)/\∀ x∈qB3 s k,1<=x/\x<=(k:Int)
 | 0=>by simp [qB3]
 | k+1=>by
  obtain ⟨h1,h2⟩:=QN6 s k;unfold qB3;split
  ·refine ⟨List.pairwise_append.2 ⟨h1,by simp,fun a ha b hb=>?_⟩,fun x hx=>?_⟩
   ·simp at hb;have:=h2 a ha;omega
   ·rcases List.mem_append.1 hx with q | q
    ·have:=h2 x q;omega
    ·simp at q;omega
  ·exact ⟨h1,fun x hx=>by have:=h2 x hx;omega⟩
theorem qGe (e f:Int) (k:Nat) {ps:List Int} (h:ps.Pairwise (fun a b=>a < b)):SL (qG3 e f k ps):=by
 unfold SL qG3;rw [List.pairwise_map];exact h.imp (fun {a b} q=>by simp [ltL,q])
theorem QM8 {zs:List Int} {e f s:Int} {k:Nat} {x:LkI} (h:x∈qS0 zs e f s k):x.e=e/\x.c=(k:Int)/\(1<=x.p/\x.p<=8)/\x.f=f:=by
 unfold qS0 at h;split at h
 ·simp only [qG3,List.mem_map] at h;obtain ⟨p,hp,rfl⟩:=h;exact ⟨rfl,rfl,(QN6 s 8).2 p hp,rfl⟩
 ·cases h
theorem QM6 (zs:List Int) (e f s:Int):∀ k,SL (qB4 zs e f s k)/\∀ x∈qB4 zs e f s k,x.e=e/\(0<=x.c/\x.c < (k:Int))/\(1<=x.p/\x.p<=8)/\x.f=f
 | 0=>by simp [qB4,SL]
 | k+1=>by
  obtain ⟨h1,h2⟩:=QM6 zs e f s k;unfold qB4;refine ⟨List.pairwise_append.2 ⟨h1,?_,fun a ha b hb=>?_⟩,fun x hx=>?_⟩
  ·unfold qS0;split
   ·exact qGe e f k (QN6 s 8).1
   ·exact List.Pairwise.nil
  ·have ga:=h2 a ha;have gb:=QM8 hb;simp only [ltL,decide_eq_true_eq];omega
  ·rcases List.mem_append.1 hx with q | q
   ·have:=h2 x q;omega
   ·have:=QM8 q;omega
theorem QW4 {zs:List Int} {e f s:Int} (h:qE5 zs e f s=0):SL (qB4 zs e f s zs.length)/\∀ x∈qB4 zs e f s zs.length,okL x=true:=by
 obtain ⟨h0,h1,h2,h3⟩:=QM5 h;obtain ⟨u1,u2⟩:=QM6 zs e f s zs.length;refine ⟨u1,fun x hx=>?_⟩;have hl:=(qFR h0).1;obtain ⟨q1,q2,q3,q4⟩:=u2 x hx;rw [qE7] at h1 h2;simp only [okL,Bool.and_eq_true,qE7];omega
def qI6 (locks needs:List LkI):Int:=match qI8 locks needs needs.length with
 | none=>6
 | some all=>if 200 < all.length then 2 else 0
def tkL (locks needs:List LkI):List LkI:=match qI8 locks needs needs.length with
 | none=>[]
 | some all=>if 200 < all.length then [] else all
theorem QC5 {locks needs:List LkI} {k:Nat} (h:qI8 locks needs k=none) (hk:k<=needs.length):qI6 locks needs=6/\tkL locks needs=[]:=by
 have:=qS6 h hk;simp [qI6,tkL,this]
theorem QV1 {locks needs all:List LkI} (h:qI8 locks needs needs.length=some all) (hm:200 < all.length):qI6 locks needs=2/\tkL locks needs=[]:=by
 simp [qI6,tkL,h,hm]
theorem QF1 {locks needs all:List LkI} (h:qI8 locks needs needs.length=some all) (hm:¬ 200 < all.length):qI6 locks needs=0/\tkL locks needs=all:=by
 simp [qI6,tkL,h,hm]
theorem qCX {gs:List LkI} (hs:SL gs) (ho:∀ x∈gs,okL x=true) {t:LkI} {i:Nat} {b:Bool} (h:QQ2 gs t i) (hb:b=true↔∃ x,gs[i]? = some x/\cfL x t=0):(b=false/\qE8 gs t.e t.c t.p=0)\/(b=true/\∃ x,gs[i]? = some x/\qE8 gs t.e t.c t.p=x.f/\x.f≠0):=by
 have hf:=qEf hs h;cases b
 ·refine .inl ⟨rfl,?_⟩;rw [hf];cases hi:gs[i]? with
  | none=>rfl
  | some x =>
   show (if cfL x t=0 then x.f else 0)=0
   rw [if_neg];intro q;have:=hb.2 ⟨x,hi,q⟩;cases this
 ·obtain ⟨x,hx,q⟩:=hb.1 rfl;refine .inr ⟨rfl,x,hx,?_,?_⟩
  ·rw [hf,hx];show (if cfL x t=0 then x.f else 0)=x.f
   rw [if_pos q]
  ·have:=ho x (List.mem_of_getElem? hx);simp [okL,inR] at this;omega

theorem qCa (a:List LkI):∀ k,qA3 (a.take k)=(qA3 a).take (k * 4):=by
 induction a with
 | nil=>intro k;simp [qA3]
 | cons p ps ih =>
  intro k;cases k with
  | zero=>simp [qA3]
  | succ k =>
   rw [show (k+1) * 4=k * 4+1+1+1+1 by omega];simp [qA3,ih]
theorem qCb (a:List LkI):∀ k,qA3 (a.drop k)=(qA3 a).drop (k * 4):=by
 induction a with
 | nil=>intro k;simp [qA3]
 | cons p ps ih =>
  intro k;cases k with
  | zero=>simp
  | succ k =>
   rw [show (k+1) * 4=k * 4+1+1+1+1 by omega];simp [qA3,ih]
theorem qCA {w w':World} {B Bd g n cap k:Nat} {gs:List LkI} (hz:n=gs.length) (h:qA7 w B (.slice (some ⟨g,0,none⟩) n cap) gs) (hg:g < Bd) (hb:Below Bd w w') (hk:k<=n):∀ j u,(qA3 (gs.take k))[j]? = some u->w'.cell? ((⟨g,0,none⟩:Addr).add j)=some u:=by
 intro j u hj;subst hz;have h0:w.ownsRow B 103 4 (.slice (some ⟨g,0,none⟩) gs.length cap) gs.length (qA3 gs):=h
 have hjl:j < k * 4:=by
  by_cases q:j < k * 4
  ·exact q
  ·rw [List.getElem?_eq_none (by rw [qF4,List.length_take];omega)] at hj;cases hj
 rw [Go.WideShapes.add_plain,Nat.zero_add,hb.cell (p:=⟨g,j,none⟩) hg,h0.cellAt j (by omega)];rw [qCa,List.getElem?_take,if_pos hjl] at hj;exact hj
theorem qCB {w w':World} {B Bd g n cap k:Nat} {gs:List LkI} (hz:n=gs.length) (h:qA7 w B (.slice (some ⟨g,0,none⟩) n cap) gs) (hg:g < Bd) (hb:Below Bd w w') (hk:k<=n):∀ j u,(qA3 (gs.drop k))[j]? = some u->w'.cell? ((⟨g,k * 4,none⟩:Addr).add j)=some u:=by
 intro j u hj;subst hz;have h0:w.ownsRow B 103 4 (.slice (some ⟨g,0,none⟩) gs.length cap) gs.length (qA3 gs):=h
 have hjl:j < (gs.length - k) * 4:=by
  by_cases q:j < (gs.length - k) * 4
  ·exact q
  ·rw [List.getElem?_eq_none (by rw [qF4,List.length_drop];omega)] at hj;cases hj
 rw [Go.WideShapes.add_plain,hb.cell (p:=⟨g,k * 4+j,none⟩) hg,h0.cellAt (k * 4+j) (by omega)];rw [qCb,List.getElem?_drop] at hj;exact hj
theorem qS9 {w:World} {b:Nat} {v:Value} {n:Nat} {xs:List Value} (h:w.ownsRow b 103 4 v n xs) (hv:v ≠ .slice none 0 0):∃ g cap,v = .slice (some ⟨g,0,none⟩) n cap:=by
 rcases h.2 with ⟨h',_⟩ | ⟨g,cap,cur,h',_⟩
 ·exact absurd h' hv
 ·exact ⟨g,cap,h'⟩
theorem kpL {B:Nat} {w w':World} (hb:Below B w w'):(∀ b o,b < B->w'.cell? ⟨b,o,none⟩=w.cell? ⟨b,o,none⟩)/\Below B w w' :=
 ⟨fun b o h=>hb.cell (p:=⟨b,o,none⟩) h,hb⟩
theorem qM0 {P:Program} {w:World} {ops:Array Oper} {o:Oper} {a:Act} {K:Act->World->Prop} {Q:Exit->Act->World->Prop} {E:Prop} (hgd:o.guard=none) (s x:Operand) (t:TypeId)
  (ho:o.op = .call { callee:=.builtin .append,args:=#[s,x],argTypes:=#[t,t] })
  (base:Nat) (e:TypeId) (i:TypeInfo) (z:Value) (size bytes:Nat) (ht:P.underlying t=some (.slice e)) (hi:P.info? e=some i) (hz:i.zero=some z)
  (hsize:i.size=size) (hby:i.bytes=bytes) (hzs:z.cells.size=size) (hsz:0 < size)
  (v:Value) (n:Nat) (xs:List Value) (hs:a.eval s=v) (hown:w.ownsRow base e size v n xs)
  (ad:Addr) (m c:Nat) (news:List Value) (hx:a.eval x = .slice (some ad) m c) (hl:news.length=m * size) (hnews:∀ j u,news[j]? = some u->w.cell? (ad.add j)=some u) (h1:∀ u∈news,u.oneCell'=true)
  (h63:n+m<=maxLen) (hbytes:(n+m) * bytes<=140737488355328) (hbase:base<=w.heap.size)
  (h:∀ v' w',w'.ownsRow base e size v' (n+m) (xs++news)->w.grownBy w' v.ownBlock->(v' = .slice none 0 0↔v = .slice none 0 0/\m=0)->K (a.put o.dst v') w') :
  if Region.wanted o (yielded ops a.tmps)=true then Oper.wp P o a w K Q else E:=by
 have hw:Region.wanted o (yielded ops a.tmps)=true:=by simp [Region.wanted,hgd]
 rw [if_pos hw];exact wp_append_own w s x t ho base e i z size bytes ht hi hz hsize hby hzs hsz v n xs hs hown ad m c news hx hl hnews h1 h63 hbytes hbase h
theorem qGu (B g n cap:Nat) (gs:List LkI) (x:LkI) (w:World) (hz:n=gs.length) (hn:n<=1000) (h:qA7 w B (.slice (some ⟨g,0,none⟩) n cap) gs) (hs:SL gs) (hB:B<=w.heap.size) :
  Calls Tryz.prog 128 #[.slice (some ⟨g,0,none⟩) n cap,.agg #[.int .i64 x.e,.int .i64 x.c,.int .i64 x.p,.int .i64 x.f]] w fun e w'=>∃ (g' cap':Nat),e = .returned (.slice (some ⟨g',0,none⟩) (n+1) cap')/\qA7 w' w.heap.size (.slice (some ⟨g',0,none⟩) (n+1) cap') (QA6 gs x)/\Below w.heap.size w w':=by
 have HO:Hid (qA7 w B (.slice (some ⟨g,0,none⟩) n cap) gs):=h;have HZ:Hid (n=gs.length):=hz;have HS:Hid (SL gs):=hs
 have hgl:g < w.heap.size:=by
  rcases h.form with ⟨h1,_⟩ | ⟨g',cap',h1,_,h3,_⟩
  ·simp at h1
  ·simp at h1;omega
 have hcap:n<=cap/\cap<=maxLen:=by
  rcases h.form with ⟨h1,_⟩ | ⟨g',cap',h1,_,h3,h4,h5⟩
  ·simp at h1
  ·simp at h1;omega
 have HIN:Hid (qK8 w (some ⟨g,0,none⟩) n gs):=(h.view).isIn hz.symm;clear h hz hs;obtain ⟨i0,hi,hz0,hz1,hz2⟩:=info_parts Tryz.info103;have hn':(n:Int)<=1000:=by omega
 have hcn:(n:Int)<=(cap:Int):=by omega
 obtain ⟨W,hW⟩:∃ W,W=w.alloc (.cells #[.int .i64 x.e,.int .i64 x.c,.int .i64 x.p,.int .i64 x.f] 103):=⟨_,rfl⟩;have HW:Hid (W=w.alloc (.cells #[.int .i64 x.e,.int .i64 x.c,.int .i64 x.p,.int .i64 x.f] 103)):=hW;have hzW:W.heap.size=w.heap.size+1:=by rw [hW];simp
 have B0:Hid (Below w.heap.size w W):=by rw [hW];exact zN
 have R0:Hid (QE9 W w.heap.size 0 x):=by rw [hW];simp [Hid,QE9]
 clear hW;go_enter Tryz.func128,Tryz.ntmps128;go_upto_block 0 with fail
 go_cut [5] (fun s5 wx=>∃ (k:Nat) (w5:World),w5=wx/\k<=n/\s5 = .int .i64 (k:Int)/\QQ2 gs x k/\Below W.heap.size W w5)
 case first =>
  go_wp2_with fail
  rw [<- HW.out];go_loopw [5] (fun i wr=>∃ k:Nat,k<=n/\i = .int .i64 (k:Int)/\(∀ j y,j < k->gs[j]? = some y->ltL y x=true)/\Below W.heap.size W wr) (fun i _=>n - (intOf i).toNat)
  case atStart=>exact ⟨0,Nat.zero_le _,rfl,fun j y hj=>by omega,Below.refl _ _⟩
  case round =>
   obtain ⟨k,hk,rfl,hlo,hbr⟩:=hrel;have HL:Hid (∀ j y,j < k->gs[j]? = some y->ltL y x=true):=hlo;have HBR:Hid (Below W.heap.size W wr):=hbr;have hzr:=hbr.size;clear hlo;by_cases hlt:k < n
   ·have hlt':decide ((k:Int) < (n:Int))=true:=by simp;omega
    have hltk:(k:Int) < (n:Int):=by omega
    obtain ⟨b1,o1,y,e1,hy,hr,hb1⟩:=HIN.out.at hlt
    obtain ⟨c0,c1,c2,c3⟩:=(hr.below B0.out hb1).below hbr (by omega);cases e1;obtain ⟨r0,r1,r2,r3⟩:=R0.out.below hbr (by omega);simp only [Nat.zero_add] at r0 r1 r2 r3 c0 c1 c2 c3;have HY:Hid (gs[k]? = some y):=hy;clear hy hbr hr;obtain ⟨t,ht⟩:∃ t,ltL y x=t:=⟨_,rfl⟩;have HA:Hid (∀ w:World,Calls Tryz.prog 157 #[.agg #[.int .i64 y.e,.int .i64 y.c,.int .i64 y.p,.int .i64 y.f],.agg #[.int .i64 x.e,.int .i64 x.c,.int .i64 x.p,.int .i64 x.f]] w fun e w'=>e = .returned (.bool t)/\Below w.heap.size w w'):=fun w=>by rw [<- ht];exact qGw y x w
    have HT:Hid (ltL y x=t):=ht;clear ht;have hwr:w.heap.size < wr.heap.size:=by omega
    have hgr:g < wr.heap.size:=by omega
    go_wp2_with fail
    go_region_held3 (fun w'=>(∀ b o,b < wr.heap.size->w'.cell? ⟨b,o,none⟩=wr.cell? ⟨b,o,none⟩)/\Below wr.heap.size wr w') (first | exact hS | exact qC1 _)
     (first | (go_at_call 157;refine (HA.out _).mono ?_;rintro e w' ⟨rfl,hb9⟩;have hS:=qA9 (by assumption) hb9))
    cases t
    ·go_wp2_with fail
     go_meet
     case rel=>exact ⟨k,_,rfl,hk,rfl,⟨by rw [<- HZ.out];exact hk,HL.out,qJu HS.out HY.out HT.out⟩,HBR.out.trans (hS.2.mono hzr)⟩
    ·go_wp2;exact ⟨⟨k+1,by omega,by go_num,qJt HS.out HY.out HT.out,HBR.out.trans (hS.2.mono hzr)⟩,by simp [intOf];omega⟩
   ·have hkn:k=n:=by omega
    subst hkn;have hlt':decide ((k:Int) < (k:Int))=false:=by simp
    go_wp2_with fail
    go_quiet (fail)
    go_wp2_with fail
    go_meet
    case rel=>exact ⟨k,_,rfl,Nat.le_refl _,rfl,⟨by rw [<- HZ.out];exact Nat.le_refl _,HL.out,fun j y hj hy=>by rw [List.getElem?_eq_none (by rw [<- HZ.out];exact hj)] at hy;cases hy⟩,below_drewN HBR.out _⟩
 case rest =>
  obtain ⟨k,w5,rfl,hk,rfl,hcutk,hb5⟩:=hcut;have HCUT:Hid (QQ2 gs x k):=hcutk;have BW:Hid (Below w.heap.size w w5):=B0.out.trans (hb5.mono (by omega));obtain ⟨r0,r1,r2,r3⟩:=R0.out.below hb5 (by omega);simp only [Nat.zero_add] at r0 r1 r2 r3;have hz5:=hb5.size;clear hcutk hb5;have hw5:w.heap.size < w5.heap.size:=by omega
  have H5:Hid ((w5.alloc (.cells #[] 103)).ownsRow w5.heap.size 103 4 (.slice (some ⟨w5.heap.size,0,none⟩) 0 0) 0 []):=World.ownsRow_lit (base:=w5.heap.size) (e:=103) (size:=4) w5 #[] 0 (Nat.le_refl _) (Nat.zero_le _) rfl;have hkc:(k:Int)<=(cap:Int):=by omega
  have hkn:(k:Int)<=(n:Int):=by omega
  have hk0:(0:Int)<=(k:Int):=by omega
  go_wp2_with (first
   | (at_builtin;refine wpList_append_own _ rfl _ _ 34 rfl w5.heap.size 103 i0 (.agg #[.int .i64 0,.int .i64 0,.int .i64 0,.int .i64 0]) 4 32 Tryz.underlying34 hi hz0 hz1 hz2 rfl (by decide) (.slice (some ⟨w5.heap.size,0,none⟩) 0 0) 0 [] rfl H5.out ⟨g,0,none⟩ k cap (qA3 (gs.take k)) rfl (by rw [qF4,List.length_take,<- HZ.out];omega) (qCA HZ.out HO.out hgl (BW.out.alloc (by omega) _) hk) (qO4 _) (by unfold maxLen;omega) (by omega) (by simp) ?_))
  intro v6 w6 hown6 hgrow6 hnil6;obtain ⟨g6,cap6,hv6⟩:=qS9 hown6 hnil6;subst hv6
  have H6:Hid (w6.ownsRow w5.heap.size 103 4 (.slice (some ⟨g6,0,none⟩) k cap6) k (qA3 (gs.take k))):=by
   have h0:=hown6;try simp only [Nat.zero_add,List.nil_append] at h0
   exact h0
  have BW6:Hid (Below w.heap.size w w6):=(BW.out.alloc (by omega) _).grown hgrow6 (by simp;omega) (fun q e=>by simp [Value.ownBlock] at e;omega);have hz6:w5.heap.size+1<=w6.heap.size:=by have:=hgrow6.size;simp at this;omega
  have s0:w6.cell? ⟨w.heap.size,0,none⟩=some (.int .i64 x.e):=hgrow6.cell ((World.cell?_alloc_past _ _ _ (by show w.heap.size < w5.heap.size;omega)).trans r0) (by simp [Value.ownBlock];omega);have s1:w6.cell? ⟨w.heap.size,1,none⟩=some (.int .i64 x.c):=hgrow6.cell ((World.cell?_alloc_past _ _ _ (by show w.heap.size < w5.heap.size;omega)).trans r1) (by simp [Value.ownBlock];omega);have s2:w6.cell? ⟨w.heap.size,2,none⟩=some (.int .i64 x.p):=hgrow6.cell ((World.cell?_alloc_past _ _ _ (by show w.heap.size < w5.heap.size;omega)).trans r2) (by simp [Value.ownBlock];omega);have s3:w6.cell? ⟨w.heap.size,3,none⟩=some (.int .i64 x.f):=hgrow6.cell ((World.cell?_alloc_past _ _ _ (by show w.heap.size < w5.heap.size;omega)).trans r3) (by simp [Value.ownBlock];omega);clear hown6 hgrow6 hnil6 H5 r0 r1 r2 r3;go_wp2_with fail
  refine wp_region_held_drew (S:=(fun w'=>(∀ b o,b < w5.heap.size->w'.cell? ⟨b,o,none⟩=w6.cell? ⟨b,o,none⟩)/\Below w5.heap.size w6 w')) (by kernel_rfl) (kpL ⟨rfl,rfl,rfl,Nat.le_refl _,fun _ _=>rfl⟩) (fun hHeld=>?_);refine Zk.go [0,1,4,5,6] ?_
  iterate 5
   refine Zk.st (v:=?_) rfl ?_ ?_;rotate_left 1
   ·intro w hSw;(try dsimp only at hSw);go_simp;try (with_reducible rfl)
   try simp only [Act.put,zA,zB,zC,zD,zE,zF]
  refine Zk.fin ?_;refine Zk.rd (i:=2) rfl (fun K hK=>?_);go_simp;have hS:=kpL (hHeld.2.alloc (by show w5.heap.size<=w6.heap.size;omega) (.cells #[.int .i64 x.e,.int .i64 x.c,.int .i64 x.p,.int .i64 x.f] 103));refine hK.out _ _ hS (fun hHeld=>?_);clear hK K;try simp only [Act.put,zA,zB,zC,zD,zE,zF]
  refine wpAnyH_ready (rs:=[3]) (by kernel_rfl) (by simp) ?_;refine AllReadyH.cons rfl (fun K hK=>?_) AllReadyH.nil;refine qM0 rfl (.tmp 26) (.tmp 28) 34 rfl w5.heap.size 103 i0 (.agg #[.int .i64 0,.int .i64 0,.int .i64 0,.int .i64 0]) 4 32 Tryz.underlying34 hi hz0 hz1 hz2 rfl (by decide) (.slice (some ⟨g6,0,none⟩) k cap6) k (qA3 (gs.take k)) (by rfl) (H6.out.alloc _) ⟨w6.heap.size,0,none⟩ 1 1 [.int .i64 x.e,.int .i64 x.c,.int .i64 x.p,.int .i64 x.f] (by rfl) (by rfl) (fun j u hj=>by match j,hj with | 0,hj=>simp at hj;subst hj;simp [Addr.add] | 1,hj=>simp at hj;subst hj;simp [Addr.add] | 2,hj=>simp at hj;subst hj;simp [Addr.add] | 3,hj=>simp at hj;subst hj;simp [Addr.add]) (fun u hu=>by simp at hu;rcases hu with rfl | rfl | rfl | rfl <;> rfl) (by unfold maxLen;omega) (by omega) (by show w5.heap.size<=(w6.alloc _).heap.size;simp;omega) ?_;intro v7 w7 hown7 hgrow7 hnil7;have hS:=kpL (hHeld.2.grown hgrow7 (by show w5.heap.size<=(w6.alloc _).heap.size;simp;omega) (fun q e=>by have:=(H6.out.lt q e).1;omega));have H7:Hid (w7.ownsRow w5.heap.size 103 4 v7 (k+1) (qA3 (gs.take k)++[.int .i64 x.e,.int .i64 x.c,.int .i64 x.p,.int .i64 x.f])):=hown7;have N7:Hid (v7 ≠ .slice none 0 0):=fun e=>by have:=(hnil7.1 e).1;simp at this
  clear hown7 hnil7 hgrow7;refine hK.out _ _ hS (fun hHeld=>?_);clear hK K;try simp only [Act.put,zA,zB,zC,zD,zE,zF]
  refine wpAnyH_ready (rs:=[7]) (by kernel_rfl) (by simp) ?_;refine AllReadyH.cons rfl (fun K hK=>?_) AllReadyH.nil;have hsl:(if cap=k then (some ⟨g,0,none⟩:Option Addr) else some ⟨g,k * 4,none⟩)=some (if cap=k then ⟨g,0,none⟩ else ⟨g,k * 4,none⟩):=by split <;> rfl
  have hnw:∀ j u,(qA3 (gs.drop k))[j]? = some u->w7.cell? ((if cap=k then (⟨g,0,none⟩:Addr) else ⟨g,k * 4,none⟩).add j)=some u:=by
   by_cases hck:cap=k
   ·intro j u hj;rw [List.drop_of_length_le (by rw [<- HZ.out];omega)] at hj;simp [qA3] at hj
   ·rw [if_neg hck];exact qCB HZ.out HO.out hgl (BW6.out.trans (hHeld.2.mono (by omega))) hk
  refine qM0 rfl (.tmp 29) (.tmp 32) 34 rfl w5.heap.size 103 i0 (.agg #[.int .i64 0,.int .i64 0,.int .i64 0,.int .i64 0]) 4 32 Tryz.underlying34 hi hz0 hz1 hz2 rfl (by decide) v7 (k+1) (qA3 (gs.take k)++[.int .i64 x.e,.int .i64 x.c,.int .i64 x.p,.int .i64 x.f]) (by rfl) H7.out _ (n - k) (cap - k) (qA3 (gs.drop k)) (by rw [<- hsl];rfl) (by rw [qF4,List.length_drop,HZ.out]) hnw (qO4 _) (by unfold maxLen;omega) (by omega) (by have h1:=hHeld.2.size;omega) ?_;intro v8 w8 hown8 hgrow8 hnil8;have hS:=kpL (hHeld.2.grown hgrow8 (by have h1:=hHeld.2.size;omega) (fun q e=>by have:=(H7.out.lt q e).1;omega));have H8:Hid (w8.ownsRow w5.heap.size 103 4 v8 (k+1+(n - k)) (qA3 (gs.take k)++[.int .i64 x.e,.int .i64 x.c,.int .i64 x.p,.int .i64 x.f]++qA3 (gs.drop k))):=hown8;have N8:Hid (v8 ≠ .slice none 0 0):=fun e=>N7.out (hnil8.1 e).1
  clear hown8 hnil8 hgrow8;refine hK.out _ _ hS (fun hHeld=>?_);clear hK K;try simp only [Act.put,zA,zB,zC,zD,zE,zF]
  refine Zk.rd (i:=8) rfl (fun K hK=>?_);go_simp;refine hK.out _ _ (by assumption) (fun hHeld=>?_);clear hK K;try simp only [Act.put,zA,zB,zC,zD,zE,zF]
  refine wpAnyH_done (by kernel_rfl) ?_ _;obtain ⟨g8,cap8,hv8⟩:=qS9 H8.out N8.out;subst hv8;have BF:Hid (Below w.heap.size w w8):=BW6.out.trans (hHeld.2.mono (by omega));have E3:Hid (k+1+(n - k)=n+1):=by show k+1+(n - k)=n+1;omega
  have HF:Hid (qA7 w8 w.heap.size (.slice (some ⟨g8,0,none⟩) (n+1) cap8) (QA6 gs x)):=by
   have h8:=H8.out;rw [E3.out] at h8;have e1:qA3 (QA6 gs x)=qA3 (gs.take k)++[.int .i64 x.e,.int .i64 x.c,.int .i64 x.p,.int .i64 x.f]++qA3 (gs.drop k):=by unfold QA6;rw [qCl HCUT.out,qQ6];simp [qA3]
   refine qB0 (B:=w5.heap.size) ?_ (by omega);show World.ownsRow _ w5.heap.size 103 4 _ (QA6 gs x).length (qA3 (QA6 gs x))
   rw [e1,QD0,<- HZ.out];exact h8
  clear hsl hnw H8 N8 H7 N7 hHeld;go_wp2_with fail
  all_goals
   go_ret;exact ⟨g8,cap8,by show Ending.returned (Value.slice (some ⟨g8,0,none⟩) (k+1+(n - k)) cap8)=_;rw [E3.out],HF.out,BF.out⟩

section
open Go.RowKit Go.Shelf
attribute [local go_sem] Oper.semAt_some
attribute [local go_sem] QK2
set_option linter.unusedVariables false
set_option linter.unusedSimpArgs false
theorem qJd (s:Int) (w:World):Calls Tryz.prog 151 #[.int .i64 s] w fun e w'=>e = .returned (.int .i64 (if inR s 0 255=true then 0 else 3))/\w=w':=by
 by_cases q0:s < 0
 ·rw [if_neg (by simp [inR];omega)];go_enter Tryz.func151,Tryz.ntmps151;go_wp2;go_ret;exact ⟨rfl,rfl⟩
 ·by_cases q1:256<=s
  ·rw [if_neg (by simp [inR];omega)];go_enter Tryz.func151,Tryz.ntmps151;go_wp2;go_ret;exact ⟨rfl,rfl⟩
  ·rw [if_pos (by simp [inR];omega)];go_enter Tryz.func151,Tryz.ntmps151;go_wp2;go_ret;exact ⟨rfl,rfl⟩
abbrev mkD (D:Nat):Deferred:={ target:=.collected D,args:=#[] }
def qHp (B:Nat) (Ds:List Nat) (W:World):Prop:=Ds.Nodup/\∀ D∈Ds,B < D/\W.heap[D]? = some (.deferred (some []))
theorem QG8 {F:Fence} {n:Nat} {P:Program} {fn:Func} {tmps:Array Value} {R:Ending->World->Prop} {B:Nat} {S:World->Prop} (hS:∀ W D,S W->B < D->W.heap[D]? = some (.deferred (some []))->S (W.putObj D (.deferred none)))
  (hR:∀ W,S W->LeavesIn F n P fn tmps R [] .returning W):∀ (Ds:List Nat) (W:World),qHp B Ds W->S W->LeavesInM F n P fn tmps R (Ds.map mkD) .returning W
 | [],W,_,h=>hR W h
 | D::Ds,W,hm,h=>by
  obtain ⟨hnd,hall⟩:=hm;obtain ⟨hD,hK⟩:=hall D (by simp);refine ⟨by simp,.inl ⟨D,_,rfl,run_takeDeferred hK,?_⟩⟩;refine QG8 hS hR Ds _ ⟨(List.nodup_cons.1 hnd).2,fun E hE=>⟨(hall E (by simp [hE])).1,?_⟩⟩ (hS W D h hD hK);have hne:E≠D:=fun q=>(List.nodup_cons.1 hnd).1 (q ▸ hE)
  exact (World.putObj_heap_other hne).trans (hall E (by simp [hE])).2
structure NI (w W:World) (e f:Int) (es:List LkI) (Ds:List Nat):Prop where
 be:Boxed W w.heap.size 2 (.int .i64 e)
 bf:Boxed W (w.heap.size+1) 2 (.int .i64 f)
 rs:W.heap[w.heap.size+1+1]? = some (.cells #[.int .i64 0,.slice none 0 0] 135 (0,0))
 nb:∃ v,Boxed W (w.heap.size+1+1+1) 34 v/\W.ownsRow (w.heap.size+1+1+1) 103 4 v es.length (qA3 es)
 bl:Below w.heap.size w W
 mq:qHp (w.heap.size+1+1+1) Ds W
theorem NI.box {w W:World} {e f:Int} {es:List LkI} {Ds:List Nat} (h:NI w W e f es Ds) (o:Obj):NI w (W.alloc o) e f es Ds:=by
 obtain ⟨v,hv,hr⟩:=h.nb;have hb:Below W.heap.size W (W.alloc o):=zN;exact ⟨h.be.alloc o,h.bf.alloc o,(hb.block _ (by have:=(Array.getElem?_eq_some_iff.1 h.rs).1;omega)).trans h.rs,⟨v,hv.alloc o,hr.alloc o⟩,h.bl.alloc h.bl.size o,h.mq.1,fun D hD=>⟨(h.mq.2 D hD).1,(hb.block _ (Array.getElem?_eq_some_iff.1 (h.mq.2 D hD).2).1).trans (h.mq.2 D hD).2⟩⟩
def qBR (fn:Nat) (a:Option Addr) (n cap:Nat) (ep fo se c:Int) (ys:List LkI) (w:World):Prop:=Calls Tryz.prog fn #[.slice a n cap,.int .i64 ep,.int .i64 fo,.int .i64 se] w fun r w'=>∃ (a':Option Addr) (cap':Nat),r = .returned (.agg #[.int .i64 c,.slice a' ys.length cap'])/\qA7 w' w.heap.size (.slice a' ys.length cap') ys/\Below w.heap.size w w'
theorem qCU (rm:Nat) (hrm:3<=rm) (a:Option Addr) (n cap:Nat) (zs:List Int) (e f s:Int) (w:World) (h:qC9 w a n zs) (hc:qE5 zs e f s=0) :
  CallsIn Fence.wide rm Tryz.prog 172 #[.slice a n cap,.int .i64 e,.int .i64 f,.int .i64 s] w fun r w'=>∃ (a':Option Addr) (cap':Nat),r = .returned (.agg #[.int .i64 0,.slice a' (qB4 zs e f s n).length cap'])/\qA7 w' w.heap.size (.slice a' (qB4 zs e f s n).length cap') (qB4 zs e f s n)/\Below w.heap.size w w':=by
 have h1:1<=rm:=by omega
 obtain ⟨hcl,he,hf,hs⟩:=QM5 hc;have HC:Hid (qG6 zs=0):=hcl;have HE:Hid (inR e 1 9=true):=he;have HF:Hid (inR f 1 4=true):=hf;have HS:Hid (inR s 0 255=true):=hs;obtain ⟨f0,f1⟩:=(qE7 _ _ _).1 hf;obtain ⟨s0,s1⟩:=(qE7 _ _ _).1 hs;have HZ:Hid (zs.length=n):=h.1;have hn:n<=4:=by rw [<- HZ.out];exact (qFR hcl).1
 have HK:Hid (∀ x∈zs,inR x 0 15=true):=(qFR hcl).2;have hn':(n:Int)<=4:=by omega
 have hs2:s < (256:Int):=by omega
 obtain ⟨i0,hi,hz0,hz1,hz2⟩:=info_parts Tryz.info103;have HI1:Hid (qC9 (((w.alloc (.cells #[.int .i64 e] 2)).alloc (.cells #[.int .i64 f] 2)).alloc (.cells #[.int .i64 0,.slice none 0 0] 135)) a n zs):=h.below ((((Below.refl _ w).alloc (Nat.le_refl _) _).alloc (by simp) _).alloc (by simp;omega) _);have h0:=h;clear hcl he hf hs hc h;refine callsIn_of_wp_marks Tryz.func172 rfl trivial ?_ rfl;simp only [Tryz.ntmps172,List.size_toArray,List.length_cons,List.length_nil,Nat.reduceAdd,Nat.reduceSub,Array.replicate_succ,Array.replicate_zero,List.push_toArray,List.append_toArray,List.nil_append,List.cons_append];gi_wp2_with (first | (gi_at_call 183;refine (callsIn_wide.2 (qG4 _ _ _ zs _ HI1.out)).mono ?_;rintro r w' ⟨rfl,rfl⟩;rw [HC.out]) | (gi_at_call 149;refine (callsIn_wide.2 (qI0 _ _)).mono ?_;rintro r w' ⟨rfl,rfl⟩;rw [HE.out]) | (gi_at_call 150;refine (callsIn_wide.2 (QB6 _ _)).mono ?_;rintro r w' ⟨rfl,rfl⟩;rw [HF.out]) | (gi_at_call 151;refine (callsIn_wide.2 (qJd _ _)).mono ?_;rintro r w' ⟨rfl,rfl⟩;rw [HS.out,if_pos rfl]))
 have hI0:NI w ((((w.alloc (.cells #[.int .i64 e] 2)).alloc (.cells #[.int .i64 f] 2)).alloc (.cells #[.int .i64 0,.slice none 0 0] 135)).alloc (.cells #[.slice none 0 0] 34)) e f (qB4 zs e f s 0) []:=by
  have b1:=Boxed.new w 2 (.int .i64 e);have b2:=Boxed.new (w.alloc (.cells #[.int .i64 e] 2)) 2 (.int .i64 f);rw [World.size_alloc] at b2;have b3:=World.alloc_heap_new ((w.alloc (.cells #[.int .i64 e] 2)).alloc (.cells #[.int .i64 f] 2)) (.cells #[.int .i64 0,.slice none 0 0] 135);rw [World.size_alloc,World.size_alloc] at b3;have b4:=Boxed.new (((w.alloc (.cells #[.int .i64 e] 2)).alloc (.cells #[.int .i64 f] 2)).alloc (.cells #[.int .i64 0,.slice none 0 0] 135)) 34 (.slice none 0 0);rw [World.size_alloc,World.size_alloc,World.size_alloc] at b4;exact ⟨((b1.alloc _).alloc _).alloc _,(b2.alloc _).alloc _,(Below.heap_alloc _ _ _ (by simp)).trans b3,⟨_,b4,World.ownsRow_nil _ _ _ _⟩,((((Below.refl _ w).alloc (Nat.le_refl _) _).alloc (by simp) _).alloc (by simp;omega) _).alloc (by simp;omega) _,by simp,fun D hD=>by simp at hD⟩
 have HIN:Hid (qC9 w a n zs):=h0;generalize (((w.alloc (.cells #[.int .i64 e] 2)).alloc (.cells #[.int .i64 f] 2)).alloc (.cells #[.int .i64 0,.slice none 0 0] 135)).alloc (.cells #[.slice none 0 0] 34)=W0 at hI0 ⊢
 clear HI1 HC HE HF HS h0;refine wpIn_loop (fun a' W=>∃ (k:Nat) (Ds:List Nat) (u11 u12 u13 u37 u38 u39 u40 u41 u42 u43 u44 u45 u46 u47 u48 u49 u50 u51 u52 u53 u54 u55 u56 u57:Value),k<=n/\a' = { tmps:=#[.slice a n cap,.int .i64 e,.int .i64 f,.int .i64 s,undef,.pointer (some ⟨w.heap.size,0,none⟩),.pointer (some ⟨w.heap.size+1,0,none⟩),undef,.pointer (some ⟨w.heap.size+1+1,0,none⟩),.int .i64 0,.pointer (some ⟨w.heap.size+1+1+1,0,none⟩),u11,u12,u13,.slice a n cap,.int .i64 0,.int .i64 0,.bool false,undef,undef,.int .i64 e,.bool true,.bool false,.bool false,.int .i64 f,.bool true,.bool false,.bool false,.bool false,.int .i64 s,.int .i64 0,.bool false,.bool false,undef,.slice a n cap,.int .i64 (n:Int),.int .i64 (k:Int),u37,u38,u39,u40,u41,u42,u43,u44,u45,u46,u47,u48,u49,u50,u51,u52,u53,u54,u55,u56,u57,undef,undef],defers:=Ds.map mkD }/\NI w W e f (qB4 zs e f s k) Ds) (fun a' _=>n - (intOf (a'.tmps.getD 36 undef)).toNat) ⟨0,[],_,_,_,_,_,_,_,_,_,_,_,_,_,_,_,_,_,_,_,_,_,_,_,_,Nat.zero_le _,rfl,hI0⟩ ?_;rintro _ wr ⟨k,Ds,u11,u12,u13,u37,u38,u39,u40,u41,u42,u43,u44,u45,u46,u47,u48,u49,u50,u51,u52,u53,u54,u55,u56,u57,hk,rfl,hI⟩;have HNI:Hid (NI w wr e f (qB4 zs e f s k) Ds):=hI;clear hI hI0;by_cases hlt:k < n
 ·have hlt':(k:Int) < (n:Int):=by omega
  obtain ⟨b,off,x,e2,hx,c0,hbl⟩:=(HIN.out).at hlt
  have hc0:wr.cell? ⟨b,off+k,none⟩=some (.int .i64 x):=(HNI.out.bl.cell (p:=⟨b,off+k,none⟩) hbl).trans c0;obtain ⟨x0,x1⟩:=qMJ HK.out hx;have HX:Hid (zs[k]? = some x):=hx;have cF:(wr.alloc (.cells #[.int .i64 (k:Int)] 3)).cell? ⟨w.heap.size+1,0,none⟩=some (.int .i64 f):=(HNI.out.bf.alloc _).cell;have hbw:b < wr.heap.size:=Nat.lt_of_lt_of_le hbl HNI.out.bl.size;subst e2;clear hx c0;obtain ⟨t,ht⟩:∃ t,qI5 x f=t:=⟨_,rfl⟩;have HT:Hid (qI5 x f=t):=ht;clear ht;cases t
  ·have HN:Hid (qB4 zs e f s (k+1)=qB4 zs e f s k):=by show qB4 zs e f s (k+1)=_;simp [qB4,qS0,HX.out,HT.out]
   gi_wp2_with (gi_at_call 188;refine (callsIn_wide.2 (qAn _ _ (by omega) (by omega) (by omega) (by omega) _)).mono ?_;rintro r w' ⟨rfl,rfl⟩;rw [HT.out])
   exact ⟨⟨k+1,Ds,_,_,_,_,_,_,_,_,_,_,_,_,_,_,_,_,_,_,_,_,_,_,_,_,by omega,rfl,by rw [HN.out];exact HNI.out.box _⟩,by simp [intOf];omega⟩
  ·have HN:Hid (qB4 zs e f s (k+1)=qB4 zs e f s k++qG3 e f k (qB3 s 8)):=by show qB4 zs e f s (k+1)=_;simp [qB4,qS0,HX.out,HT.out]
   have HLE:Hid ((qB4 zs e f s k).length<=32):=by have:=qV0 zs e f s k;show (qB4 zs e f s k).length<=32;omega
   gi_wp2_with (first | (gi_at_call 188;refine (callsIn_wide.2 (qAn _ _ (by omega) (by omega) (by omega) (by omega) _)).mono ?_;rintro r w' ⟨rfl,rfl⟩;rw [HT.out]) | (gi_at_call 189;refine (qBk _ _ _).mono ?_;rintro r w' ⟨rfl,rfl⟩))
   have bP:=(Boxed.new wr 3 (.int .i64 (k:Int))).alloc (.cells #[.int .u8 s] 257);have bS:=Boxed.new (wr.alloc (.cells #[.int .i64 (k:Int)] 3)) 257 (.int .u8 s);rw [World.size_alloc] at bS;have hNI:=(HNI.out.box (.cells #[.int .i64 (k:Int)] 3)).box (.cells #[.int .u8 s] 257);obtain ⟨W1,hW1⟩:∃ W1,(wr.alloc (.cells #[.int .i64 (k:Int)] 3)).alloc (.cells #[.int .u8 s] 257)=W1:=⟨_,rfl⟩;have hsz:W1.heap.size=wr.heap.size+2:=by rw [<- hW1];simp
   rw [hW1] at bP bS hNI ⊢
   clear hW1 cF hc0;obtain ⟨v0,hv0,hr0⟩:=hNI.nb;have hNBlt:=hv0.lt;have hNBwr:w.heap.size+1+1+1 < wr.heap.size:=by obtain ⟨v9,hv9,_⟩:=HNI.out.nb;exact hv9.lt
   obtain ⟨es,hes⟩:∃ es,qB4 zs e f s k=es:=⟨_,rfl⟩;have HN2:Hid (qB4 zs e f s (k+1)=es++qG3 e f k (qB3 s 8)):=by show qB4 zs e f s (k+1)=_;rw [HN.out,hes]
   have HLE2:Hid (es.length<=32):=by show es.length<=32;rw [<- hes];exact HLE.out
   rw [hes] at hr0;have HB1:Hid (NI w W1 e f es Ds):=by rw [hes] at hNI;exact hNI
   clear hes HN HLE hNI HNI;have hmk:∀ D∈Ds,D < W1.heap.size/\W1.heap[D]? = some (.deferred (some [])):=fun D hD=>⟨(Array.getElem?_eq_some_iff.1 (HB1.out.mq.2 D hD).2).1,(HB1.out.mq.2 D hD).2⟩
   have hOM:OwnFrom W1.heap.size (fun (_:List Int) W=>∀ D∈Ds,W.heap[D]? = some (.deferred (some []))):=fun _ X Y row hs hg hr D hD=>(hg.block D (Array.getElem?_eq_some_iff.1 (hs D hD)).1 (fun q=>by have:=(hr D q.symm).1;have:=(hmk D hD).1;omega)).trans (hs D hD)
   refine wpIn_rangeFunc_ownG rfl h1 (gf:=209) (lb:=#[.pointer (some ⟨wr.heap.size+1,0,none⟩)]) rfl trivial (enters_of Tryz.func209 (by kernel_rfl) rfl)
    (qEc (rm - 1) (by omega) (wr.heap.size+1) s s0 s1 W1 (by omega) bS.cell) (Kp:=qZ2 (wr.heap.size+1)) (fun h k=>Eq.trans k h) (fun W l o o' hl h _ _=>World.putObj_heap_other (by omega)) (Below.refl _ _) (fun _=>rfl)
    (fun pre W=>((∃ v,Boxed W (w.heap.size+1+1+1) 34 v/\W.ownsRow (w.heap.size+1+1+1) 103 4 v (es++qG3 e f k pre).length (qA3 (es++qG3 e f k pre))/\True)/\(Boxed W wr.heap.size 3 (.int .i64 (k:Int))/\Boxed W (wr.heap.size+1) 257 (.int .u8 s)))/\(Below (w.heap.size+1+1+1) W1 W/\∀ D∈Ds,W.heap[D]? = some (.deferred (some []))))
    (fun _ _ _=>False)
    (OwnFrom.and (OwnFrom.and (Own.from (holdsRow_own (w.heap.size+1+1+1) (w.heap.size+1+1+1) 34 103 4 (fun pre:List Int=>(es++qG3 e f k pre).length) (fun pre=>qA3 (es++qG3 e f k pre)) (fun _ _=>True)) _) (OwnFrom.and (Own.from (boxed_own _ _ (fun _ => .int .i64 (k:Int))) _) (Own.from (boxed_own _ _ (fun _ => .int .u8 s)) _))) (OwnFrom.and (ownFrom_below (by omega) (by omega)) hOM))
    (fun _ _ _ _ _ hs _ _=>hs)
    ⟨⟨⟨v0,hv0,by simpa [qG3] using hr0,trivial⟩,bP,bS⟩,Below.refl _ _,fun D hD=>(hmk D hD).2⟩
    (fun y=>{ tmps:=#[.slice (some ⟨b,off,none⟩) n cap,.int .i64 e,.int .i64 f,.int .i64 s,undef,.pointer (some ⟨w.heap.size,0,none⟩),.pointer (some ⟨w.heap.size+1,0,none⟩),undef,.pointer (some ⟨w.heap.size+1+1,0,none⟩),.int .i64 0,.pointer (some ⟨w.heap.size+1+1+1,0,none⟩),.pointer (some ⟨wr.heap.size,0,none⟩),.int .i64 x,.int .i64 y,.slice (some ⟨b,off,none⟩) n cap,.int .i64 0,.int .i64 0,.bool false,undef,undef,.int .i64 e,.bool true,.bool false,.bool false,.int .i64 f,.bool true,.bool false,.bool false,.bool false,.int .i64 s,.int .i64 0,.bool false,.bool false,undef,.slice (some ⟨b,off,none⟩) n cap,.int .i64 (n:Int),.int .i64 (k:Int),.bool true,.int .i64 (k:Int),.pointer (some ⟨b,off+k,none⟩),.int .i64 x,.int .i64 x,.int .i64 f,.bool true,.bool false,.int .i64 s,.int .u8 s,.func (.func 209) #[] #[.pointer (some ⟨wr.heap.size+1,0,none⟩)],.int .i64 y,u49,u50,u51,u52,u53,u54,u55,u56,u57,undef,undef],defers:=[] }) ?assign ?body ?done ?stop
   case assign =>
    intro l y W K hK;gi_wp2
    exact hK
   case body =>
    rintro l pre y W ⟨⟨⟨v,hv,hrow,_⟩,hP,hS⟩,hB,hM⟩ hlt9;have hc:=hv.cell;have hcP:=hP.cell;have hcE:W.cell? ⟨w.heap.size,0,none⟩=some (.int .i64 e):=(hB.cell (p:=⟨w.heap.size,0,none⟩) (by simp;omega)).trans HB1.out.be.cell;have hcF:W.cell? ⟨w.heap.size+1,0,none⟩=some (.int .i64 f):=(hB.cell (p:=⟨w.heap.size+1,0,none⟩) (by simp)).trans HB1.out.bf.cell;have hl8:=qY7 s 8;have hle:=HLE2.out;have hlen:(es++qG3 e f k pre).length<=40:=by simp [qG3];omega
    have hnx:es++qG3 e f k (pre++[y])=(es++qG3 e f k pre)++[⟨e,(k:Int),y,f⟩]:=by simp [qG3]
    generalize es++qG3 e f k pre=fs at hrow hlen hnx;gi_wp2_with (gi_at_builtin;refine wpListIn_append_own _ rfl _ _ 34 rfl (w.heap.size+1+1+1) 103 i0 (.agg #[.int .i64 0,.int .i64 0,.int .i64 0,.int .i64 0]) 4 32 Tryz.under34 hi hz0 hz1 hz2 rfl (by decide) _ _ _ rfl (hrow.alloc _) ⟨W.heap.size,0,none⟩ 1 1 [.int .i64 e,.int .i64 (k:Int),.int .i64 y,.int .i64 f] rfl rfl (qBL _ _ rfl _ _ _ _ _) (by intro u hu;simp at hu;rcases hu with rfl | rfl | rfl | rfl <;> rfl) (by unfold maxLen;omega) (by omega) (by have:=hB.size;simp;omega) ?_;intro v' w1 hown' hgrow _;obtain ⟨g',cap',rfl⟩:=ownsRow_succ hown';obtain ⟨hv1,hv2,hr2,hk2,hb2⟩:=hv.appended (by decide) hrow (by have:=hB.size;omega) (Nat.le_refl _) hown' hgrow;have hc1:=hv1.cell;have hf1:=hv1.frozen;have hP1:=((hP.alloc _).kept hgrow (hP.not_row (by decide) hrow)).other (B':=w.heap.size+1+1+1) (by omega) (.slice (some ⟨g',0,none⟩) (fs.length+1) cap');have hS1:=((hS.alloc _).kept hgrow (hS.not_row (by decide) hrow)).other (B':=w.heap.size+1+1+1) (by omega) (.slice (some ⟨g',0,none⟩) (fs.length+1) cap'))
    exact ⟨hk2.from _,hS1.trans hS.symm,⟨⟨_,hv2,by rw [hnx];exact qU9 (x:=⟨e,(k:Int),y,f⟩) hr2,trivial⟩,hP1,hS1⟩,hB.trans hb2,fun D hD=>hk2.same D _ (hM D hD) rfl⟩
   case done =>
    rintro D ys W hD rfl ⟨⟨⟨v,hv,hrow,_⟩,_,_⟩,hB,hM⟩ hK
    have R:Hid (NI w W e f (qB4 zs e f s (k+1)) (D::Ds)):=by
     refine ⟨(hB.block _ (by omega)).trans HB1.out.be,(hB.block _ (by omega)).trans HB1.out.bf,(hB.block _ (by omega)).trans HB1.out.rs,⟨v,hv,by rw [HN2.out];exact hrow⟩,HB1.out.bl.trans (hB.mono (by omega)),List.nodup_cons.2 ⟨fun q=>by have:=(hmk D q).1;omega,HB1.out.mq.1⟩,fun E hE=>?_⟩;rcases List.mem_cons.1 hE with rfl | q
     ·exact ⟨by omega,hK⟩
     ·exact ⟨(HB1.out.mq.2 E q).1,hM E q⟩
    gi_wp2
    exact ⟨⟨k+1,D::Ds,_,_,_,_,_,_,_,_,_,_,_,_,_,_,_,_,_,_,_,_,_,_,_,_,by omega,rfl,R.out⟩,by simp [intOf];omega⟩
   case stop =>
    rintro D c pre W _ _ h _;exact h.elim
 ·have hkn:k=n:=by omega
  subst hkn;obtain ⟨v,hv,hrow⟩:=HNI.out.nb;obtain ⟨a',cap',rfl⟩:=qA7.slice (show qA7 wr (w.heap.size+1+1+1) v (qB4 zs e f s k) from hrow);have cN:=hv.cell;have r0:wr.cell? ⟨w.heap.size+1+1,0,none⟩=some (.int .i64 0):=by simp [World.cell?,HNI.out.rs]
  have r1:wr.cell? ⟨w.heap.size+1+1,1,none⟩=some (.slice none 0 0):=by simp [World.cell?,HNI.out.rs]
  have q0:wr.frozen? ⟨w.heap.size+1+1,0,none⟩=false:=by simp [World.frozen?,HNI.out.rs]
  have q1:wr.frozen? ⟨w.heap.size+1+1,1,none⟩=false:=by simp [World.frozen?,HNI.out.rs]
  have hmq:=HNI.out.mq;have hbl:=HNI.out.bl;gi_wp2
  refine QG8 (B:=w.heap.size+1+1+1) (S:=fun X=>X.cell? ⟨w.heap.size+1+1,0,none⟩=some (.int .i64 0)/\X.cell? ⟨w.heap.size+1+1,1,none⟩=some (.slice a' (qB4 zs e f s k).length cap')/\qA7 X (w.heap.size+1+1+1) (.slice a' (qB4 zs e f s k).length cap') (qB4 zs e f s k)/\Below w.heap.size w X) ?hS ?hR Ds _ ?hM ?h0
  case hS =>
   rintro X D ⟨c0,c1,ho,hb⟩ hD hX;have hne:w.heap.size+1+1≠D:=by omega
   exact ⟨(World.cell?_of_block (a:=⟨w.heap.size+1+1,0,none⟩) (World.putObj_heap_other hne)).trans c0,(World.cell?_of_block (a:=⟨w.heap.size+1+1,1,none⟩) (World.putObj_heap_other hne)).trans c1,ownsRow_putObj ho _ hX rfl,hb.trans (belowK_b (w:=w) (Nat.le_refl _) _ D _ _ (by omega) hX rfl rfl)⟩
  case hR =>
   rintro X ⟨c0,c1,ho,hb⟩;exact ⟨.agg #[.int .i64 0,.slice a' (qB4 zs e f s k).length cap'],by simp [results,Tryz.results172,go_sem,c0,c1],a',cap',rfl,qB0 ho (by omega),hb⟩
  case hM=>exact ⟨hmq.1,fun D hD=>⟨(hmq.2 D hD).1,by
   have h1:=(KeepsOthers.setCell wr ⟨w.heap.size+1+1,0,none⟩ (.int .i64 0)).same D _ (hmq.2 D hD).2 rfl;exact (KeepsOthers.setCell (wr.setCell ⟨w.heap.size+1+1,0,none⟩ (.int .i64 0)) ⟨w.heap.size+1+1,1,none⟩ _).same D _ h1 rfl⟩⟩
  case h0 =>
   refine ⟨?_,?_,?_,?_⟩
   ·rw [World.cell?_setCell_other _ _ _ _ (by simp)];exact World.cell?_setCell_same' _ _ _ (by rw [r0];rfl)
   ·exact World.cell?_setCell_same' _ _ _ (by rw [World.cell?_setCell_other _ _ _ _ (by simp),r1];rfl)
   ·exact ownsRow_setCell_below (ownsRow_setCell_below hrow (by simp) _) (by simp) _
   ·exact (hbl.setCell (p:=⟨w.heap.size+1+1,0,none⟩) (by simp;omega) _).setCell (p:=⟨w.heap.size+1+1,1,none⟩) (by simp;omega) _
theorem qAi (a:Option Addr) (n cap:Nat) (zs:List Int) (e f s:Int) (w:World) (h:qC9 w a n zs) (hc:qE5 zs e f s=0):qBR 172 a n cap e f s 0 (qB4 zs e f s n) w :=
 callsIn_wide.1 (qCU 3 (Nat.le_refl _) a n cap zs e f s w h hc)
theorem QX4 (a:Option Addr) (n cap:Nat) (zs:List Int) (e f s c:Int) (w:World) (h:qC9 w a n zs) (hc:qE5 zs e f s=c) (h0:c≠0):qBR 172 a n cap e f s c [] w:=by
 have HI1:Hid (qC9 (((w.alloc (.cells #[.int .i64 e] 2)).alloc (.cells #[.int .i64 f] 2)).alloc (.cells #[.int .i64 0,.slice none 0 0] 135)) a n zs):=h.below ((((Below.refl _ w).alloc (Nat.le_refl _) _).alloc (by simp) _).alloc (by simp;omega) _);have HB1:Hid (Below w.heap.size w (((w.alloc (.cells #[.int .i64 e] 2)).alloc (.cells #[.int .i64 f] 2)).alloc (.cells #[.int .i64 0,.slice none 0 0] 135))):=(((Below.refl _ w).alloc (Nat.le_refl _) _).alloc (by simp) _).alloc (by simp;omega) _;clear h;obtain ⟨d,hd⟩:∃ d,qG6 zs=d:=⟨_,rfl⟩;have HD:Hid (qG6 zs=d):=hd;unfold qBR;by_cases d0:d=0
 ·subst d0;obtain ⟨t1,h1⟩:∃ t,inR e 1 9=t:=⟨_,rfl⟩;obtain ⟨t2,h2⟩:∃ t,inR f 1 4=t:=⟨_,rfl⟩;obtain ⟨t3,h3⟩:∃ t,inR s 0 255=t:=⟨_,rfl⟩;have HV:Hid (c=if (t1&&(t2&&t3))=true then 0 else 3):=by show c=_;rw [<- hc,qE5,if_pos hd,h1,h2,h3]
  have H1:Hid (inR e 1 9=t1):=h1;have H2:Hid (inR f 1 4=t2):=h2;have H3:Hid (inR s 0 255=t3):=h3;have H0:Hid (c≠0):=h0;clear hc hd h1 h2 h3 h0;cases t1
  ·obtain rfl:c=3:=HV.out;go_enter Tryz.func172,Tryz.ntmps172;go_wp2_with (first | (go_at_call 183;refine (qG4 _ _ _ zs _ HI1.out).mono ?_;rintro e w' ⟨rfl,rfl⟩;rw [HD.out]) | (go_at_call 149;refine (qI0 _ _).mono ?_;rintro e w' ⟨rfl,rfl⟩;rw [H1.out]))
   refine bodyPost_ret (v:=.agg #[.int .i64 3,.slice none 0 0]) (by simp [results,Tryz.results172,go_sem]) rfl ⟨none,0,rfl,World.ownsRow_nil _ _ _ _,?_⟩;exact (((Below.refl _ w).alloc (Nat.le_refl _) _).alloc (by simp) _).alloc (by simp;omega) _
  cases t2
  ·obtain rfl:c=3:=HV.out;go_enter Tryz.func172,Tryz.ntmps172;go_wp2_with (first | (go_at_call 183;refine (qG4 _ _ _ zs _ HI1.out).mono ?_;rintro e w' ⟨rfl,rfl⟩;rw [HD.out]) | (go_at_call 149;refine (qI0 _ _).mono ?_;rintro e w' ⟨rfl,rfl⟩;rw [H1.out]) | (go_at_call 150;refine (QB6 _ _).mono ?_;rintro e w' ⟨rfl,rfl⟩;rw [H2.out]))
   refine bodyPost_ret (v:=.agg #[.int .i64 3,.slice none 0 0]) (by simp [results,Tryz.results172,go_sem]) rfl ⟨none,0,rfl,World.ownsRow_nil _ _ _ _,?_⟩;exact (((Below.refl _ w).alloc (Nat.le_refl _) _).alloc (by simp) _).alloc (by simp;omega) _
  cases t3
  ·obtain rfl:c=3:=HV.out;go_enter Tryz.func172,Tryz.ntmps172;go_wp2_with (first | (go_at_call 183;refine (qG4 _ _ _ zs _ HI1.out).mono ?_;rintro e w' ⟨rfl,rfl⟩;rw [HD.out]) | (go_at_call 149;refine (qI0 _ _).mono ?_;rintro e w' ⟨rfl,rfl⟩;rw [H1.out]) | (go_at_call 150;refine (QB6 _ _).mono ?_;rintro e w' ⟨rfl,rfl⟩;rw [H2.out]) | (go_at_call 151;refine (qJd _ _).mono ?_;rintro e w' ⟨rfl,rfl⟩;rw [H3.out,if_neg (by simp)]))
   refine bodyPost_ret (v:=.agg #[.int .i64 3,.slice none 0 0]) (by simp [results,Tryz.results172,go_sem]) rfl ⟨none,0,rfl,World.ownsRow_nil _ _ _ _,?_⟩;exact (((Below.refl _ w).alloc (Nat.le_refl _) _).alloc (by simp) _).alloc (by simp;omega) _
  ·exact absurd HV.out H0.out
 ·have HV:Hid (d=c):=by show d=c;rw [<- hc,qE5,if_neg (by rw [hd];exact d0),hd]
  obtain rfl:d=c:=HV.out;have db:(d != 0)=true:=by simp [d0]
  clear hc hd d0 h0;go_enter Tryz.func172,Tryz.ntmps172;go_wp2_with (first | (go_at_call 183;refine (qG4 _ _ _ zs _ HI1.out).mono ?_;rintro e w' ⟨rfl,rfl⟩;rw [HD.out]))
  refine bodyPost_ret (v:=.agg #[.int .i64 d,.slice none 0 0]) (by simp [results,Tryz.results172,go_sem]) rfl ⟨none,0,rfl,World.ownsRow_nil _ _ _ _,?_⟩;exact (((Below.refl _ w).alloc (Nat.le_refl _) _).alloc (by simp) _).alloc (by simp;omega) _
end

theorem QM3 {w:World} {b o n:Nat} {gs:List LkI} (h:qK8 w (some ⟨b,o,none⟩) n gs):∀ j u,(qA3 gs)[j]? = some u->w.cell? ((⟨b,o,none⟩:Addr).add j)=some u:=by
 intro j u hj
 have hjl:j < gs.length * 4:=by
  by_cases q:j < gs.length * 4
  ·exact q
  ·rw [List.getElem?_eq_none (by rw [qF4];omega)] at hj;cases hj
 have hk:j / 4 < gs.length:=by omega
 obtain ⟨b',o',e',hc⟩:=h.2 (by have:=h.1;omega);cases e';have hp:=hc (j / 4) _ (List.getElem?_eq_getElem hk);obtain ⟨f0,f1,f2,f3⟩:=QO9 gs (j / 4) _ (List.getElem?_eq_getElem hk);obtain ⟨p0,p1,p2,p3⟩:=hp;rw [Go.WideShapes.add_plain];have hr:j=j / 4 * 4\/j=j / 4 * 4+1\/j=j / 4 * 4+2\/j=j / 4 * 4+3:=by omega
 rcases hr with e | e | e | e
 ·rw [e] at hj ⊢;rw [f0] at hj;cases hj;exact p0
 ·rw [e] at hj ⊢;rw [show (j / 4 * 4+1)=j / 4 * 4+1 from rfl] at hj;rw [f1] at hj;cases hj;rw [<- Nat.add_assoc];exact p1
 ·rw [e] at hj ⊢;rw [f2] at hj;cases hj;rw [<- Nat.add_assoc];exact p2
 ·rw [e] at hj ⊢;rw [f3] at hj;cases hj;rw [<- Nat.add_assoc];exact p3
structure TT (w wr:World) (bo:Nat) (all:List LkI) (g cap:Nat):Prop where
 ow:qA7 wr w.heap.size (.slice (some ⟨g,0,none⟩) all.length cap) all
 x0:wr.cell? ⟨bo,0,none⟩=some (.int .i64 0)
 x1:wr.cell? ⟨bo,1,none⟩=some (.slice (some ⟨g,0,none⟩) all.length cap)
 f0:wr.frozen? ⟨bo,0,none⟩=false
 f1:wr.frozen? ⟨bo,1,none⟩=false
 ne:g≠bo
 bg:w.heap.size < bo
 gg:w.heap.size < g
 r0:wr.cell? ⟨w.heap.size,0,none⟩=some (.int .i64 0)
 r1:wr.cell? ⟨w.heap.size,1,none⟩=some (.slice none 0 0)
 e0:wr.frozen? ⟨w.heap.size,0,none⟩=false
 e1:wr.frozen? ⟨w.heap.size,1,none⟩=false
 bel:Below w.heap.size w wr
theorem TT.lt {w wr:World} {bo:Nat} {all:List LkI} {g cap:Nat} (h:TT w wr bo all g cap):bo < wr.heap.size:=zL wr ⟨bo,0,none⟩ h.x0
theorem TT.below {w wr wr':World} {bo:Nat} {all:List LkI} {g cap:Nat} (h:TT w wr bo all g cap) (hb:Below wr.heap.size wr wr'):TT w wr' bo all g cap:=by
 have hl:=h.lt;have hw:w.heap.size < wr.heap.size:=by have:=h.bg;omega
 exact ⟨h.ow.below hb,(hb.cell (p:=⟨bo,0,none⟩) hl).trans h.x0,(hb.cell (p:=⟨bo,1,none⟩) hl).trans h.x1,(hb.frozen (p:=⟨bo,0,none⟩) hl).trans h.f0,(hb.frozen (p:=⟨bo,1,none⟩) hl).trans h.f1,h.ne,h.bg,h.gg,(hb.cell (p:=⟨w.heap.size,0,none⟩) hw).trans h.r0,(hb.cell (p:=⟨w.heap.size,1,none⟩) hw).trans h.r1,(hb.frozen (p:=⟨w.heap.size,0,none⟩) hw).trans h.e0,(hb.frozen (p:=⟨w.heap.size,1,none⟩) hw).trans h.e1,h.bel.trans (hb.mono h.bel.size)⟩
theorem qQ5 {w w':World} {row:Option Nat} {b j:Nat} (hg:w.grownBy w' row) (hb:b < w.heap.size) (hne:some b≠row) (h:w.frozen? ⟨b,j,none⟩=false):w'.frozen? ⟨b,j,none⟩=false:=by
 unfold World.frozen? at h ⊢
 simp only at h ⊢
 rw [hg.block b hb hne];exact h
theorem qW8 (w:World) (q:Nat) (u v:Value):w.grownBy ((w.setCell ⟨q,0,none⟩ u).setCell ⟨q,1,none⟩ v) (some q):=by
 refine ⟨rfl,rfl,rfl,by simp,fun i hi hne=>?_⟩;have hq:i≠q:=fun e=>hne (by rw [e])
 rw [Below.heap_setCell _ _ _ _ hq,Below.heap_setCell _ _ _ _ hq]
theorem qHM (w:World) (q o:Nat) (v:Value):w.grownBy (w.setCell ⟨q,o,none⟩ v) (some q):=by
 refine ⟨rfl,rfl,rfl,by simp,fun i hi hne=>?_⟩;have hq:i≠q:=fun e=>hne (by rw [e])
 rw [Below.heap_setCell _ _ _ _ hq]
theorem TT.put {w wr:World} {bo:Nat} {all all':List LkI} {g cap g' cap':Nat} (h:TT w wr bo all g cap) (ho:qA7 wr w.heap.size (.slice (some ⟨g',0,none⟩) all'.length cap') all') (hne:g'≠bo) (hg:w.heap.size < g'):TT w (wr.setCell ⟨bo,1,none⟩ (.slice (some ⟨g',0,none⟩) all'.length cap')) bo all' g' cap':=by
 have hwb:w.heap.size≠bo:=by have:=h.bg;omega
 have k1:=qHM wr bo 1 (.slice (some ⟨g',0,none⟩) all'.length cap');refine ⟨World.ownsRow.kept (row:=some bo) ho k1 (.inr (by simp [Value.ownBlock];exact hne)),?_,?_,by simp [h.f0],by simp [h.f1],hne,h.bg,hg,?_,?_,by simp [h.e0],by simp [h.e1],h.bel.setCell (Nat.le_of_lt h.bg) _⟩
 ·rw [World.cell?_setCell_other _ _ _ _ (by simp)];exact h.x0
 ·exact World.cell?_setCell_same _ _ _ h.x1
 ·rw [World.cell?_setCell_other _ _ _ _ (by first | (simp;done) | (simp;omega))];exact h.r0
 ·rw [World.cell?_setCell_other _ _ _ _ (by first | (simp;done) | (simp;omega))];exact h.r1
def qH6 (fn:Nat) (args:Array Value) (c:Int) (L:List LkI) (w:World):Prop:=Calls Tryz.prog fn args w fun r w'=>∃ (a':Option Addr) (cap':Nat),r = .returned (.agg #[.int .i64 c,.slice a' L.length cap'])/\qA7 w' w.heap.size (.slice a' L.length cap') L/\Below w.heap.size w w'
theorem qIt (b0 o0 n cap:Nat) (b:Option Addr) (m cap2:Nat) (gs ys:List LkI) (w:World) (hn:n<=200) (hm:m<=100) (h:qK8 w (some ⟨b0,o0,none⟩) n gs) (hb0:b0 < w.heap.size) (hy:qK8 w b m ys) (hs:SL gs) (ho:∀ x∈gs,okL x=true) (hys:SL ys) (hyo:∀ x∈ys,okL x=true) :
  qH6 99 #[.slice (some ⟨b0,o0,none⟩) n cap,.slice b m cap2] (qI6 gs ys) (tkL gs ys) w:=by
 have HG:Hid (qK8 w (some ⟨b0,o0,none⟩) n gs):=h;have HY:Hid (qK8 w b m ys):=hy;have HYS:Hid (SL ys):=hys;have HYO:Hid (∀ x∈ys,okL x=true):=hyo;have HZ:Hid (gs.length=n):=h.1;have HM:Hid (ys.length=m):=hy.1;have HS0:Hid (TkS gs ys 0 gs):=TkS.zero ys hs ho;obtain ⟨i0,hi,hz0,hz1,hz2⟩:=info_parts Tryz.info103;have hm':(m:Int)<=100:=by omega
 obtain ⟨c,hc⟩:∃ c,qI6 gs ys=c:=⟨_,rfl⟩;obtain ⟨L,hL⟩:∃ L,tkL gs ys=L:=⟨_,rfl⟩;have HC:Hid (qI6 gs ys=c):=hc;have HL:Hid (tkL gs ys=L):=hL;rw [hc,hL];obtain ⟨W,hW⟩:∃ W,W=w.alloc (.cells #[.int .i64 0,.slice none 0 0] 135):=⟨_,rfl⟩;have HW:Hid (W=w.alloc (.cells #[.int .i64 0,.slice none 0 0] 135)):=hW;have hzW:W.heap.size=w.heap.size+1:=by rw [hW];simp
 have B0:Hid (Below w.heap.size w W):=by rw [hW];exact zN
 have D0:Hid (W.cell? ⟨w.heap.size,0,none⟩=some (.int .i64 0)/\W.cell? ⟨w.heap.size,1,none⟩=some (.slice none 0 0)/\W.frozen? ⟨w.heap.size,0,none⟩=false/\W.frozen? ⟨w.heap.size,1,none⟩=false):=by rw [hW];exact ⟨by go_cell,by go_cell,by simp [go_sem],by simp [go_sem]⟩
 have H5:Hid ((W.alloc (.cells #[] 103)).ownsRow (w.heap.size+1) 103 4 (.slice (some ⟨w.heap.size+1,0,none⟩) 0 0) 0 []):=by
  have h0:=World.ownsRow_lit (base:=w.heap.size+1) (e:=103) (size:=4) W #[] 0 (by omega) (Nat.zero_le _) rfl;rw [hzW] at h0;exact h0
 have G5:Hid (qK8 (W.alloc (.cells #[] 103)) (some ⟨b0,o0,none⟩) n gs):=(h.below B0.out).below (zN);clear h hy hs ho hys hyo hc hL hW;unfold qH6;go_enter Tryz.func99,Tryz.ntmps99;go_upto_region 1 with fail
 rw [<- HW.out]
 go_wp2_with (first
  | (at_builtin;refine wpList_append_own _ rfl _ _ 34 rfl (w.heap.size+1) 103 i0 (.agg #[.int .i64 0,.int .i64 0,.int .i64 0,.int .i64 0]) 4 32 Tryz.underlying34 hi hz0 hz1 hz2 rfl (by decide) (.slice (some ⟨w.heap.size+1,0,none⟩) 0 0) 0 [] rfl H5.out ⟨b0,o0,none⟩ n cap (qA3 gs) rfl (by rw [qF4,HZ.out]) (QM3 G5.out) (qO4 _) (by unfold maxLen;omega) (by omega) (by simp;omega) ?_)
  | fail)
 intro v6 w6 hown6 hgrow6 hnil6;obtain ⟨g6,cap6,hv6⟩:=qS9 hown6 (fun e=>by first | exact hnil6 e | (have:=hnil6.1 e;simp at this));have E6:v6 = .slice (some ⟨g6,0,none⟩) n cap6:=by first | exact hv6 | (rw [hv6];congr 1;omega)
 clear hv6;subst E6;have BW6:Below w.heap.size w w6:=(B0.out.alloc (by omega) _).grown hgrow6 (by simp;omega) (fun q e=>by simp [Value.ownBlock] at e;omega);have hg6:=hown6.lt g6 rfl;have hne6:some w.heap.size≠(Value.slice (some ⟨w.heap.size+1,0,none⟩) 0 0).ownBlock:=by simp [Value.ownBlock]
 have k0:(W.alloc (.cells #[] 103)).cell? ⟨w.heap.size,0,none⟩=some (.int .i64 0):=(World.cell?_alloc_lt _ _ ⟨w.heap.size,0,none⟩ (by simp only;omega)).trans D0.out.1;have k1:(W.alloc (.cells #[] 103)).cell? ⟨w.heap.size,1,none⟩=some (.slice none 0 0):=(World.cell?_alloc_lt _ _ ⟨w.heap.size,1,none⟩ (by simp only;omega)).trans D0.out.2.1;have k2:(W.alloc (.cells #[] 103)).frozen? ⟨w.heap.size,0,none⟩=false:=(World.frozen?_alloc_old _ _ ⟨w.heap.size,0,none⟩ (by simp only;omega)).trans D0.out.2.2.1;have k3:(W.alloc (.cells #[] 103)).frozen? ⟨w.heap.size,1,none⟩=false:=(World.frozen?_alloc_old _ _ ⟨w.heap.size,1,none⟩ (by simp only;omega)).trans D0.out.2.2.2;have A6:Below w6.heap.size w6 (w6.alloc (.cells #[.int .i64 0,.slice (some ⟨g6,0,none⟩) n cap6] 135)):=zN;have hlw:w.heap.size < w6.heap.size:=by have:=hg6.2;have:=hg6.1;omega
 have hla:w.heap.size < (W.alloc (.cells #[] 103)).heap.size:=by simp;omega
 have T6:Hid (TT w (w6.alloc (.cells #[.int .i64 0,.slice (some ⟨g6,0,none⟩) n cap6] 135)) w6.heap.size gs g6 cap6):=by
  have ho6:qA7 w6 w.heap.size (.slice (some ⟨g6,0,none⟩) n cap6) gs:=by
   refine qB0 (B:=w.heap.size+1) ?_ (by omega);show World.ownsRow _ _ 103 4 _ gs.length (qA3 gs)
   rw [HZ.out];have h7:=hown6;try simp only [Nat.zero_add,List.nil_append] at h7
   exact h7
  rw [<- HZ.out] at ho6 A6 ⊢
  exact ⟨ho6.below A6,by simp,by simp,by simp [go_sem],by simp [go_sem],by have:=hg6.2;omega,hlw,by have:=hg6.1;omega,(A6.cell (p:=⟨w.heap.size,0,none⟩) hlw).trans (hgrow6.cell k0 hne6),(A6.cell (p:=⟨w.heap.size,1,none⟩) hlw).trans (hgrow6.cell k1 hne6),(A6.frozen (p:=⟨w.heap.size,0,none⟩) hlw).trans (qQ5 hgrow6 hla hne6 k2),(A6.frozen (p:=⟨w.heap.size,1,none⟩) hlw).trans (qQ5 hgrow6 hla hne6 k3),BW6.trans (A6.mono BW6.size)⟩
 clear hown6 hgrow6 hnil6 k0 k1 k2 k3 A6 BW6 hne6 hla H5 G5 D0;go_wp2_with fail
 generalize w6.alloc (.cells #[.int .i64 0,.slice (some ⟨g6,0,none⟩) n cap6] 135)=w7 at T6 ⊢
 generalize hbo:w6.heap.size=bo at T6 ⊢
 clear hbo;go_loopw [6] (fun i wr=>∃ (k:Nat) (all:List LkI) (g cp:Nat),k<=m/\i = .int .i64 (k:Int)/\Hid (TkS gs ys k all/\TT w wr bo all g cp)) (fun i _=>m - (intOf i).toNat)
 case atStart=>exact ⟨0,gs,g6,cap6,Nat.zero_le _,rfl,HS0.out,T6.out⟩
 case round =>
  obtain ⟨k,all,g,cp,hk,rfl,HK⟩:=hrel;by_cases hlt:k < m
  ·have hlt':(k:Int) < (m:Int):=by omega
   obtain ⟨b1,o1,y,e1,hy,hr,hb1⟩:=HY.out.at hlt
   subst e1;obtain ⟨c0,c1,c2,c3⟩:=hr.below HK.out.2.bel hb1;have HYK:Hid (ys[k]? = some y):=hy;have A1:Below wr.heap.size wr (wr.alloc (.cells #[.int .i64 y.e,.int .i64 y.c,.int .i64 y.p,.int .i64 y.f] 103)):=zN;have T1:Hid (TT w (wr.alloc (.cells #[.int .i64 y.e,.int .i64 y.c,.int .i64 y.p,.int .i64 y.f] 103)) bo all g cp):=HK.out.2.below A1;have Y1:Hid (QE9 (wr.alloc (.cells #[.int .i64 y.e,.int .i64 y.c,.int .i64 y.p,.int .i64 y.f] 103)) wr.heap.size 0 y):=by simp [Hid,QE9]
   have hzb:wr.heap.size < (wr.alloc (.cells #[.int .i64 y.e,.int .i64 y.c,.int .i64 y.p,.int .i64 y.f] 103)).heap.size:=by simp
   clear hy hr A1;go_upto_region 6 with fail
   clear c0 c1 c2 c3;generalize wr.alloc (.cells #[.int .i64 y.e,.int .i64 y.c,.int .i64 y.p,.int .i64 y.f] 103)=w1 at T1 Y1 hzb ⊢
   obtain ⟨y0,y1,y2,y3⟩:=Y1.out;simp only [Nat.zero_add] at y0 y1 y2 y3;go_wp2_with fail
   refine (qJp _ n cap gs y.e y.c y.p _ (HG.out.below T1.out.bel) (by omega)).mono ?_;rintro e w2 ⟨rfl,hb2⟩;have T2:Hid (TT w w2 bo all g cp):=T1.out.below hb2;have Y2:Hid (QE9 w2 wr.heap.size 0 y):=Y1.out.below hb2 hzb;have hzb2:wr.heap.size < w2.heap.size:=by have:=hb2.size;omega
   clear hb2 T1 Y1 hzb y0 y1 y2 y3;obtain ⟨y0,y1,y2,y3⟩:=Y2.out;simp only [Nat.zero_add] at y0 y1 y2 y3;obtain ⟨F,hF⟩:∃ F,qE8 gs y.e y.c y.p=F:=⟨_,rfl⟩;have HF:Hid (qE8 gs y.e y.c y.p=F):=hF;rw [hF];clear hF;by_cases f0:F=0
   ·subst f0;have HN:Hid (TkS gs ys (k+1) (QA6 all y)):=HK.out.1.put HYS.out HYK.out (HYO.out y (List.mem_of_getElem? HYK.out)) HF.out;obtain ⟨x0,x1⟩:w2.cell? ⟨bo,0,none⟩=some (.int .i64 0)/\w2.cell? ⟨bo,1,none⟩=some (.slice (some ⟨g,0,none⟩) all.length cp):=⟨T2.out.x0,T2.out.x1⟩;have hlen:all.length<=300:=by have:=HK.out.1.len;have:=HZ.out;omega
    go_wp2_with fail
    refine (qGu w.heap.size g all.length cp all y _ rfl (by omega) T2.out.ow HK.out.1.sl T2.out.bel.size).mono ?_;rintro e w3 ⟨g',cp',rfl,ho3,hb3⟩;have T3:Hid (TT w w3 bo all g cp):=T2.out.below hb3;have hl3:all.length+1=(QA6 all y).length:=(QD0 all y).symm
    have HP:Hid (TT w (w3.setCell ⟨bo,1,none⟩ (.slice (some ⟨g',0,none⟩) (all.length+1) cp')) bo (QA6 all y) g' cp'):=by
     have hg':=(qY4 ho3 g' rfl).1;rw [hl3] at ho3 ⊢
     exact T3.out.put (qB0 ho3 T2.out.bel.size) (by have:=T2.out.lt;omega) (by have:=T2.out.lt;have:=T2.out.bg;omega)
    have q1:=T3.out.x1;have q2:=T3.out.f1;clear ho3 hb3 T2 T3 x0 x1 y0 y1 y2 y3 hl3;go_wp2_with fail
    exact ⟨⟨k+1,QA6 all y,g',cp',by omega,by go_num,HN.out,HP.out⟩,by simp [intOf];omega⟩
   ·have b0':(F != 0)=true:=by simpa using f0
    have b1':(F==0)=false:=by simpa using f0
    by_cases f1:F=y.f
    ·have b2':(F != y.f)=false:=by simp [f1]
     have HN:Hid (TkS gs ys (k+1) all):=HK.out.1.stay HYK.out (by rw [HF.out];exact f0) (by rw [HF.out];exact f1);clear f0 f1;go_wp2_with fail
     exact ⟨⟨k+1,all,g,cp,by omega,by go_num,HN.out,T2.out⟩,by simp [intOf];omega⟩
    ·have b2':(F != y.f)=true:=by simpa using f1
     have HN:Hid (c=6/\L=[]):=by
      have h1:qI8 gs ys (k+1)=none:=by
       rw [qI7 HK.out.1.tk HYK.out,qO0,if_neg (by rw [HF.out];exact f0),if_neg (by rw [HF.out];exact f1)]
      have:=QC5 h1 (by rw [HM.out];omega);rw [HC.out,HL.out] at this;exact this
     obtain ⟨r0,r1⟩:w2.cell? ⟨w.heap.size,0,none⟩=some (.int .i64 0)/\w2.cell? ⟨w.heap.size,1,none⟩=some (.slice none 0 0):=⟨T2.out.r0,T2.out.r1⟩;have e0:=T2.out.e0;have e1:=T2.out.e1;clear f0 f1;go_wp2_with fail
     obtain ⟨hc6,hL6⟩:=HN.out;rw [hc6,hL6];refine bodyPost_ret (v:=.agg #[.int .i64 6,.slice none 0 0]) (by simp [results,Tryz.results99,go_sem,r0,r1]) rfl ⟨none,0,rfl,World.ownsRow_nil _ _ _ _,?_⟩;exact (T2.out.bel.setCell (Nat.le_refl _) _).setCell (Nat.le_refl _) _
  ·have hkm:k=m:=by omega
   subst hkm;obtain ⟨x0,x1⟩:wr.cell? ⟨bo,0,none⟩=some (.int .i64 0)/\wr.cell? ⟨bo,1,none⟩=some (.slice (some ⟨g,0,none⟩) all.length cp):=⟨HK.out.2.x0,HK.out.2.x1⟩;obtain ⟨r0,r1⟩:wr.cell? ⟨w.heap.size,0,none⟩=some (.int .i64 0)/\wr.cell? ⟨w.heap.size,1,none⟩=some (.slice none 0 0):=⟨HK.out.2.r0,HK.out.2.r1⟩;have e0:=HK.out.2.e0;have e1:=HK.out.2.e1;have htk:qI8 gs ys ys.length=some all:=by rw [HM.out];exact HK.out.1.tk
   by_cases h200:200 < all.length
   ·have hl2:(200:Int) < (all.length:Int):=by omega
    have HN:Hid (c=2/\L=[]):=by
     have:=QV1 htk h200;rw [HC.out,HL.out] at this;exact this
    clear htk;go_wp2_with fail
    obtain ⟨hc6,hL6⟩:=HN.out;rw [hc6,hL6];refine bodyPost_ret (v:=.agg #[.int .i64 2,.slice none 0 0]) (by simp [results,Tryz.results99,go_sem,r0,r1]) rfl ⟨none,0,rfl,World.ownsRow_nil _ _ _ _,?_⟩;exact (HK.out.2.bel.setCell (Nat.le_refl _) _).setCell (Nat.le_refl _) _
   ·have hl2:(all.length:Int)<=200:=by omega
    have HN:Hid (c=0/\L=all):=by
     have:=QF1 htk h200;rw [HC.out,HL.out] at this;exact this
    clear htk;go_wp2_with fail
    obtain ⟨hc6,hL6⟩:=HN.out;rw [hc6,hL6];refine bodyPost_ret (v:=.agg #[.int .i64 0,.slice (some ⟨g,0,none⟩) all.length cp]) (by simp [results,Tryz.results99,go_sem,r0,r1]) rfl ⟨some ⟨g,0,none⟩,cp,rfl,?_,?_⟩
    ·have k1:=qW8 wr w.heap.size (.int .i64 0) (.slice (some ⟨g,0,none⟩) all.length cp);exact World.ownsRow.kept (row:=some w.heap.size) HK.out.2.ow k1 (.inr (by have:=HK.out.2.gg;simp [Value.ownBlock];omega))
    ·exact (HK.out.2.bel.setCell (Nat.le_refl _) _).setCell (Nat.le_refl _) _
def qE4 (gs:List LkI) (zs:List Int) (e f s:Int):Int:=if qJ0 gs=0 then (if qE5 zs e f s=0 then qI6 gs (qB4 zs e f s zs.length) else qE5 zs e f s) else qJ0 gs
def qL5 (gs:List LkI) (zs:List Int) (e f s:Int):List LkI:=if qJ0 gs=0/\qE5 zs e f s=0 then tkL gs (qB4 zs e f s zs.length) else []

theorem qEw (b:Option Addr) (m cap2:Nat) (ys:List LkI) (w:World) (hm:m<=100) (hy:qK8 w b m ys) (hys:SL ys) (hyo:∀ x∈ys,okL x=true) :
  qH6 99 #[.slice none 0 0,.slice b m cap2] (qI6 [] ys) (tkL [] ys) w:=by
 have h:qK8 w none 0 ([]:List LkI):=⟨rfl,fun h=>by omega⟩;have hs:SL ([]:List LkI):=List.Pairwise.nil;have ho:∀ x∈([]:List LkI),okL x=true:=by simp
 have HG:Hid (qK8 w none 0 ([]:List LkI)):=h;have HY:Hid (qK8 w b m ys):=hy;have HYS:Hid (SL ys):=hys;have HYO:Hid (∀ x∈ys,okL x=true):=hyo;have HZ:Hid (([]:List LkI).length=0):=h.1;have HM:Hid (ys.length=m):=hy.1;have HS0:Hid (TkS ([]:List LkI) ys 0 ([]:List LkI)):=TkS.zero ys hs ho;obtain ⟨i0,hi,hz0,hz1,hz2⟩:=info_parts Tryz.info103;have hm':(m:Int)<=100:=by omega
 obtain ⟨c,hc⟩:∃ c,qI6 ([]:List LkI) ys=c:=⟨_,rfl⟩;obtain ⟨L,hL⟩:∃ L,tkL ([]:List LkI) ys=L:=⟨_,rfl⟩;have HC:Hid (qI6 ([]:List LkI) ys=c):=hc;have HL:Hid (tkL ([]:List LkI) ys=L):=hL;rw [hc,hL];obtain ⟨W,hW⟩:∃ W,W=w.alloc (.cells #[.int .i64 0,.slice none 0 0] 135):=⟨_,rfl⟩;have HW:Hid (W=w.alloc (.cells #[.int .i64 0,.slice none 0 0] 135)):=hW;have hzW:W.heap.size=w.heap.size+1:=by rw [hW];simp
 have B0:Hid (Below w.heap.size w W):=by rw [hW];exact zN
 have D0:Hid (W.cell? ⟨w.heap.size,0,none⟩=some (.int .i64 0)/\W.cell? ⟨w.heap.size,1,none⟩=some (.slice none 0 0)/\W.frozen? ⟨w.heap.size,0,none⟩=false/\W.frozen? ⟨w.heap.size,1,none⟩=false):=by rw [hW];exact ⟨by go_cell,by go_cell,by simp [go_sem],by simp [go_sem]⟩
 have H5:Hid ((W.alloc (.cells #[] 103)).ownsRow (w.heap.size+1) 103 4 (.slice (some ⟨w.heap.size+1,0,none⟩) 0 0) 0 []):=by
  have h0:=World.ownsRow_lit (base:=w.heap.size+1) (e:=103) (size:=4) W #[] 0 (by omega) (Nat.zero_le _) rfl;rw [hzW] at h0;exact h0
 have G5:Hid (qK8 (W.alloc (.cells #[] 103)) none 0 ([]:List LkI)):=(h.below B0.out).below (zN);clear h hy hs ho hys hyo hc hL hW;unfold qH6;go_enter Tryz.func99,Tryz.ntmps99;go_upto_region 1 with fail
 rw [<- HW.out]
 go_wp2_with (first
  | (at_builtin;refine wpList_append_own_none rfl _ _ 34 rfl (w.heap.size+1) 103 i0 4 Tryz.underlying34 hi (.slice (some ⟨w.heap.size+1,0,none⟩) 0 0) 0 [] rfl H5.out rfl ?_)
  | fail)
 obtain ⟨w6,hw6⟩:∃ w6,w6=W.alloc (.cells #[] 103):=⟨_,rfl⟩;have hown6:=H5.out;have hgrow6:=qR1 (W.alloc (.cells #[] 103)) (Value.slice (some ⟨w.heap.size+1,0,none⟩) 0 0).ownBlock;rw [<- hw6] at hown6;have hgrow6':(W.alloc (.cells #[] 103)).grownBy w6 (Value.slice (some ⟨w.heap.size+1,0,none⟩) 0 0).ownBlock:=by rw [hw6];exact qR1 _ _
 clear hgrow6;have hgrow6:=hgrow6';clear hgrow6'
 have HS6:Hid (w6.heap.size=w.heap.size+1+1):=by
  show w6.heap.size=_
  rw [hw6];simp;omega
 rw [<- hw6];have BW6:Below w.heap.size w w6:=(B0.out.alloc (by omega) _).grown hgrow6 (by simp;omega) (fun q e=>by simp [Value.ownBlock] at e;omega);have hg6:=hown6.lt (w.heap.size+1) rfl;have hne6:some w.heap.size≠(Value.slice (some ⟨w.heap.size+1,0,none⟩) 0 0).ownBlock:=by simp [Value.ownBlock]
 have k0:(W.alloc (.cells #[] 103)).cell? ⟨w.heap.size,0,none⟩=some (.int .i64 0):=(World.cell?_alloc_lt _ _ ⟨w.heap.size,0,none⟩ (by simp only;omega)).trans D0.out.1;have k1:(W.alloc (.cells #[] 103)).cell? ⟨w.heap.size,1,none⟩=some (.slice none 0 0):=(World.cell?_alloc_lt _ _ ⟨w.heap.size,1,none⟩ (by simp only;omega)).trans D0.out.2.1;have k2:(W.alloc (.cells #[] 103)).frozen? ⟨w.heap.size,0,none⟩=false:=(World.frozen?_alloc_old _ _ ⟨w.heap.size,0,none⟩ (by simp only;omega)).trans D0.out.2.2.1;have k3:(W.alloc (.cells #[] 103)).frozen? ⟨w.heap.size,1,none⟩=false:=(World.frozen?_alloc_old _ _ ⟨w.heap.size,1,none⟩ (by simp only;omega)).trans D0.out.2.2.2;have A6:Below w6.heap.size w6 (w6.alloc (.cells #[.int .i64 0,.slice (some ⟨w.heap.size+1,0,none⟩) 0 0] 135)):=zN;have hlw:w.heap.size < w6.heap.size:=by have:=hg6.2;have:=hg6.1;omega
 have hla:w.heap.size < (W.alloc (.cells #[] 103)).heap.size:=by simp;omega
 have T6:Hid (TT w (w6.alloc (.cells #[.int .i64 0,.slice (some ⟨w.heap.size+1,0,none⟩) 0 0] 135)) w6.heap.size ([]:List LkI) (w.heap.size+1) 0):=by
  have ho6:qA7 w6 w.heap.size (.slice (some ⟨w.heap.size+1,0,none⟩) 0 0) ([]:List LkI):=qB0 (B:=w.heap.size+1) hown6 (by omega);exact ⟨ho6.below A6,by simp,by simp,by simp [go_sem],by simp [go_sem],by have:=hg6.2;omega,hlw,by have:=hg6.1;omega,(A6.cell (p:=⟨w.heap.size,0,none⟩) hlw).trans (hgrow6.cell k0 hne6),(A6.cell (p:=⟨w.heap.size,1,none⟩) hlw).trans (hgrow6.cell k1 hne6),(A6.frozen (p:=⟨w.heap.size,0,none⟩) hlw).trans (qQ5 hgrow6 hla hne6 k2),(A6.frozen (p:=⟨w.heap.size,1,none⟩) hlw).trans (qQ5 hgrow6 hla hne6 k3),BW6.trans (A6.mono BW6.size)⟩
 clear hown6 hgrow6 k0 k1 k2 k3 A6 BW6 hne6 hla H5 G5 D0;go_wp2_with fail
 generalize w6.alloc (.cells #[.int .i64 0,.slice (some ⟨w.heap.size+1,0,none⟩) 0 0] 135)=w7 at T6 ⊢
 rw [HS6.out] at T6;generalize hbo:w.heap.size+1+1=bo at T6 ⊢
 clear hbo hw6;go_loopw [6] (fun i wr=>∃ (k:Nat) (all:List LkI) (g cp:Nat),k<=m/\i = .int .i64 (k:Int)/\Hid (TkS ([]:List LkI) ys k all/\TT w wr bo all g cp)) (fun i _=>m - (intOf i).toNat)
 case atStart=>exact ⟨0,([]:List LkI),(w.heap.size+1),0,Nat.zero_le _,rfl,HS0.out,T6.out⟩
 case round =>
  obtain ⟨k,all,g,cp,hk,rfl,HK⟩:=hrel;by_cases hlt:k < m
  ·have hlt':(k:Int) < (m:Int):=by omega
   obtain ⟨b1,o1,y,e1,hy,hr,hb1⟩:=HY.out.at hlt
   subst e1;obtain ⟨c0,c1,c2,c3⟩:=hr.below HK.out.2.bel hb1;have HYK:Hid (ys[k]? = some y):=hy;have A1:Below wr.heap.size wr (wr.alloc (.cells #[.int .i64 y.e,.int .i64 y.c,.int .i64 y.p,.int .i64 y.f] 103)):=zN;have T1:Hid (TT w (wr.alloc (.cells #[.int .i64 y.e,.int .i64 y.c,.int .i64 y.p,.int .i64 y.f] 103)) bo all g cp):=HK.out.2.below A1;have Y1:Hid (QE9 (wr.alloc (.cells #[.int .i64 y.e,.int .i64 y.c,.int .i64 y.p,.int .i64 y.f] 103)) wr.heap.size 0 y):=by simp [Hid,QE9]
   have hzb:wr.heap.size < (wr.alloc (.cells #[.int .i64 y.e,.int .i64 y.c,.int .i64 y.p,.int .i64 y.f] 103)).heap.size:=by simp
   clear hy hr A1;go_upto_region 6 with fail
   clear c0 c1 c2 c3;generalize wr.alloc (.cells #[.int .i64 y.e,.int .i64 y.c,.int .i64 y.p,.int .i64 y.f] 103)=w1 at T1 Y1 hzb ⊢
   obtain ⟨y0,y1,y2,y3⟩:=Y1.out;simp only [Nat.zero_add] at y0 y1 y2 y3;go_wp2_with fail
   refine (qJp _ 0 0 ([]:List LkI) y.e y.c y.p _ (HG.out.below T1.out.bel) (by omega)).mono ?_;rintro e w2 ⟨rfl,hb2⟩;have T2:Hid (TT w w2 bo all g cp):=T1.out.below hb2;have Y2:Hid (QE9 w2 wr.heap.size 0 y):=Y1.out.below hb2 hzb;have hzb2:wr.heap.size < w2.heap.size:=by have:=hb2.size;omega
   clear hb2 T1 Y1 hzb y0 y1 y2 y3;obtain ⟨y0,y1,y2,y3⟩:=Y2.out;simp only [Nat.zero_add] at y0 y1 y2 y3;obtain ⟨F,hF⟩:∃ F,qE8 ([]:List LkI) y.e y.c y.p=F:=⟨_,rfl⟩;have HF:Hid (qE8 ([]:List LkI) y.e y.c y.p=F):=hF;rw [hF];clear hF;by_cases f0:F=0
   ·subst f0;have HN:Hid (TkS ([]:List LkI) ys (k+1) (QA6 all y)):=HK.out.1.put HYS.out HYK.out (HYO.out y (List.mem_of_getElem? HYK.out)) HF.out;obtain ⟨x0,x1⟩:w2.cell? ⟨bo,0,none⟩=some (.int .i64 0)/\w2.cell? ⟨bo,1,none⟩=some (.slice (some ⟨g,0,none⟩) all.length cp):=⟨T2.out.x0,T2.out.x1⟩;have hlen:all.length<=300:=by have:=HK.out.1.len;have:=HZ.out;omega
    go_wp2_with fail
    refine (qGu w.heap.size g all.length cp all y _ rfl (by omega) T2.out.ow HK.out.1.sl T2.out.bel.size).mono ?_;rintro e w3 ⟨g',cp',rfl,ho3,hb3⟩;have T3:Hid (TT w w3 bo all g cp):=T2.out.below hb3;have hl3:all.length+1=(QA6 all y).length:=(QD0 all y).symm
    have HP:Hid (TT w (w3.setCell ⟨bo,1,none⟩ (.slice (some ⟨g',0,none⟩) (all.length+1) cp')) bo (QA6 all y) g' cp'):=by
     have hg':=(qY4 ho3 g' rfl).1;rw [hl3] at ho3 ⊢
     exact T3.out.put (qB0 ho3 T2.out.bel.size) (by have:=T2.out.lt;omega) (by have:=T2.out.lt;have:=T2.out.bg;omega)
    have q1:=T3.out.x1;have q2:=T3.out.f1;clear ho3 hb3 T2 T3 x0 x1 y0 y1 y2 y3 hl3;go_wp2_with fail
    exact ⟨⟨k+1,QA6 all y,g',cp',by omega,by go_num,HN.out,HP.out⟩,by simp [intOf];omega⟩
   ·have b0':(F != 0)=true:=by simpa using f0
    have b1':(F==0)=false:=by simpa using f0
    by_cases f1:F=y.f
    ·have b2':(F != y.f)=false:=by simp [f1]
     have HN:Hid (TkS ([]:List LkI) ys (k+1) all):=HK.out.1.stay HYK.out (by rw [HF.out];exact f0) (by rw [HF.out];exact f1);clear f0 f1;go_wp2_with fail
     exact ⟨⟨k+1,all,g,cp,by omega,by go_num,HN.out,T2.out⟩,by simp [intOf];omega⟩
    ·have b2':(F != y.f)=true:=by simpa using f1
     have HN:Hid (c=6/\L=[]):=by
      have h1:qI8 ([]:List LkI) ys (k+1)=none:=by
       rw [qI7 HK.out.1.tk HYK.out,qO0,if_neg (by rw [HF.out];exact f0),if_neg (by rw [HF.out];exact f1)]
      have:=QC5 h1 (by rw [HM.out];omega);rw [HC.out,HL.out] at this;exact this
     obtain ⟨r0,r1⟩:w2.cell? ⟨w.heap.size,0,none⟩=some (.int .i64 0)/\w2.cell? ⟨w.heap.size,1,none⟩=some (.slice none 0 0):=⟨T2.out.r0,T2.out.r1⟩;have e0:=T2.out.e0;have e1:=T2.out.e1;clear f0 f1;go_wp2_with fail
     obtain ⟨hc6,hL6⟩:=HN.out;rw [hc6,hL6];refine bodyPost_ret (v:=.agg #[.int .i64 6,.slice none 0 0]) (by simp [results,Tryz.results99,go_sem,r0,r1]) rfl ⟨none,0,rfl,World.ownsRow_nil _ _ _ _,?_⟩;exact (T2.out.bel.setCell (Nat.le_refl _) _).setCell (Nat.le_refl _) _
  ·have hkm:k=m:=by omega
   subst hkm;obtain ⟨x0,x1⟩:wr.cell? ⟨bo,0,none⟩=some (.int .i64 0)/\wr.cell? ⟨bo,1,none⟩=some (.slice (some ⟨g,0,none⟩) all.length cp):=⟨HK.out.2.x0,HK.out.2.x1⟩;obtain ⟨r0,r1⟩:wr.cell? ⟨w.heap.size,0,none⟩=some (.int .i64 0)/\wr.cell? ⟨w.heap.size,1,none⟩=some (.slice none 0 0):=⟨HK.out.2.r0,HK.out.2.r1⟩;have e0:=HK.out.2.e0;have e1:=HK.out.2.e1;have htk:qI8 ([]:List LkI) ys ys.length=some all:=by rw [HM.out];exact HK.out.1.tk
   by_cases h200:200 < all.length
   ·have hl2:(200:Int) < (all.length:Int):=by omega
    have HN:Hid (c=2/\L=[]):=by
     have:=QV1 htk h200;rw [HC.out,HL.out] at this;exact this
    clear htk;go_wp2_with fail
    obtain ⟨hc6,hL6⟩:=HN.out;rw [hc6,hL6];refine bodyPost_ret (v:=.agg #[.int .i64 2,.slice none 0 0]) (by simp [results,Tryz.results99,go_sem,r0,r1]) rfl ⟨none,0,rfl,World.ownsRow_nil _ _ _ _,?_⟩;exact (HK.out.2.bel.setCell (Nat.le_refl _) _).setCell (Nat.le_refl _) _
   ·have hl2:(all.length:Int)<=200:=by omega
    have HN:Hid (c=0/\L=all):=by
     have:=QF1 htk h200;rw [HC.out,HL.out] at this;exact this
    clear htk;go_wp2_with fail
    obtain ⟨hc6,hL6⟩:=HN.out;rw [hc6,hL6];refine bodyPost_ret (v:=.agg #[.int .i64 0,.slice (some ⟨g,0,none⟩) all.length cp]) (by simp [results,Tryz.results99,go_sem,r0,r1]) rfl ⟨some ⟨g,0,none⟩,cp,rfl,?_,?_⟩
    ·have k1:=qW8 wr w.heap.size (.int .i64 0) (.slice (some ⟨g,0,none⟩) all.length cp);exact World.ownsRow.kept (row:=some w.heap.size) HK.out.2.ow k1 (.inr (by have:=HK.out.2.gg;simp [Value.ownBlock];omega))
    ·exact (HK.out.2.bel.setCell (Nat.le_refl _) _).setCell (Nat.le_refl _) _
