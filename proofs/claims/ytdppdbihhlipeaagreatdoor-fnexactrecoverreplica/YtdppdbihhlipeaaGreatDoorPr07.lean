/- Contracts. -/
import Derived.Test.YtdppdbihhlipeaaGreatDoorPr03
import Derived.Handy
namespace Go.Proofs.YtdppdbihhlipeaaGreatDoor
set_option maxRecDepth 100000
set_option maxHeartbeats 8000000
open Go.RowKit
set_option linter.unusedVariables false
set_option linter.unusedSimpArgs false

structure LkI where
 e:Int
 c:Int
 p:Int
 f:Int
deriving DecidableEq,Inhabited
def QE9 (w:World) (b o:Nat) (x:LkI):Prop:=w.cell? ⟨b,o,none⟩=some (.int .i64 x.e)/\w.cell? ⟨b,o+1,none⟩=some (.int .i64 x.c)/\w.cell? ⟨b,o+2,none⟩=some (.int .i64 x.p)/\w.cell? ⟨b,o+3,none⟩=some (.int .i64 x.f)
theorem QE9.below {w w':World} {B b o:Nat} {x:LkI} (h:QE9 w b o x) (hb:Below B w w') (hB:b < B):QE9 w' b o x :=
 ⟨(hb.cell (p:=⟨b,o,none⟩) hB).trans h.1,(hb.cell (p:=⟨b,o+1,none⟩) hB).trans h.2.1,(hb.cell (p:=⟨b,o+2,none⟩) hB).trans h.2.2.1,(hb.cell (p:=⟨b,o+3,none⟩) hB).trans h.2.2.2⟩
def qK8 (w:World) (a:Option Addr) (n:Nat) (gs:List LkI):Prop:=gs.length=n/\(0 < n->∃ b off,a=some ⟨b,off,none⟩/\∀ k x,gs[k]? = some x->QE9 w b (off+k * 4) x)
theorem qK8.below {w w':World} {a:Option Addr} {n:Nat} {gs:List LkI} (h:qK8 w a n gs) (hb:Below w.heap.size w w'):qK8 w' a n gs:=by
 refine ⟨h.1,fun hn=>?_⟩;obtain ⟨b,off,e,k⟩:=h.2 hn;exact ⟨b,off,e,fun j x hx=>(k j x hx).below hb (zL w ⟨b,off+j * 4,none⟩ (k j x hx).1)⟩
theorem qK8.at {w:World} {a:Option Addr} {n:Nat} {gs:List LkI} (h:qK8 w a n gs) {k:Nat} (hk:k < n):∃ b off x,a=some ⟨b,off,none⟩/\gs[k]? = some x/\QE9 w b (off+k * 4) x/\b < w.heap.size:=by
 obtain ⟨b,off,e,q⟩:=h.2 (by omega);have hx:=List.getElem?_eq_getElem (l:=gs) (i:=k) (by rw [h.1];exact hk);exact ⟨b,off,_,e,hx,q k _ hx,zL w ⟨b,off+k * 4,none⟩ (q k _ hx).1⟩
def qMz (w:World) (g:Nat) (gs:List LkI):Prop:=∀ k x,gs[k]? = some x->QE9 w g (k * 4) x
def qMO (w:World) (g n:Nat):Prop:=(∀ j,j < n * 4->∃ v,w.cell? ⟨g,j,none⟩=some v)/\∀ j,w.frozen? ⟨g,j,none⟩=false
theorem Tryz.info103:(Tryz.prog.info? 103).map (fun i=>(i.zero,i.size,i.bytes))=some (some (.agg #[.int .i64 0,.int .i64 0,.int .i64 0,.int .i64 0]),4,32):=by kernel_rfl
theorem Tryz.under34:Tryz.prog.underlying 34=some (.slice 103):=by kernel_rfl
theorem qCi (x:LkI) (w:World) :
  Calls Tryz.prog 69 #[.agg #[.int .i64 x.e,.int .i64 x.c,.int .i64 x.p,.int .i64 x.f],.agg #[.int .i64 x.e,.int .i64 x.c,.int .i64 x.p,.int .i64 x.f]] w fun e w'=>e = .returned (.bool true)/\Below w.heap.size w w':=by
 go_enter Tryz.func69,Tryz.ntmps69;go_wp2;go_ret;exact ⟨rfl,by go_grown⟩
theorem qAy (a b:Option Addr) (n c d:Nat) (zs:List LkI) (w:World) (hn:n<=1048576) (ha:qK8 w a n zs) (hb:qK8 w b n zs) :
  Calls Tryz.prog 37 #[.slice a n c,.slice b n d] w fun e w'=>e = .returned (.bool true)/\Below w.heap.size w w':=by
 have HA:Hid (qK8 w a n zs):=ha;have HB:Hid (qK8 w b n zs):=hb;clear ha hb;have hn':(n:Int)<=1048576:=by omega
 go_enter Tryz.func37,Tryz.ntmps37;go_wp2;go_loopw [5] (fun i wr=>∃ k:Nat,k<=n/\i = .int .i64 (k:Int)/\Below w.heap.size w wr) (fun i _=>n - (intOf i).toNat)
 case atStart=>exact ⟨0,Nat.zero_le _,rfl,Below.refl _ _⟩
 case round =>
  obtain ⟨k,hk,rfl,hnx⟩:=hrel;by_cases hlt:k < n
  ·obtain ⟨b1,o1,s,e1,hs,hr,hl1⟩:=HA.out.at hlt
   obtain ⟨b2,o2,s2,e2,hs2,hr2,hl2⟩:=HB.out.at hlt
   obtain rfl:s=s2:=Option.some.inj (hs.symm.trans hs2);subst e1 e2;clear hs hs2;obtain ⟨h0,h1,h2,h3⟩:=hr.below hnx hl1;obtain ⟨g0,g1,g2,g3⟩:=hr2.below hnx hl2;clear hr hr2;have hlt':(k:Int) < (n:Int):=by omega
   have hb1:b1 < wr.heap.size:=zL wr ⟨b1,o1+k * 4,none⟩ h0;have hb2:b2 < wr.heap.size:=zL wr ⟨b2,o2+k * 4,none⟩ g0;go_wp2
   go_region_held3 (fun w'=>(∀ b o,b < wr.heap.size->w'.cell? ⟨b,o,none⟩=wr.cell? ⟨b,o,none⟩)/\Below wr.heap.size wr w') (first | exact hS | exact qC1 _)
    (first | (go_at_call 69;refine (qCi s _).mono ?_;rintro e w' ⟨rfl,hb1⟩;have hS:=qA9 (by assumption) hb1))
   go_wp2;exact ⟨⟨k+1,by omega,by go_num,hnx.trans (hS.2.mono hnx.size)⟩,by simp [intOf];omega⟩
  ·have hkn:k=n:=by omega
   subst hkn;go_wp2;go_ret;exact ⟨rfl,hnx⟩

def ltL (x y:LkI):Bool:=decide (x.e < y.e\/(x.e=y.e/\(x.c < y.c\/(x.c=y.c/\x.p < y.p))))
def inR (v lo hi:Int):Bool:=decide (lo<=v)&&decide (v<=hi)
def okL (x:LkI):Bool:=inR x.e 1 9&&inR x.c 0 3&&inR x.p 1 8&&inR x.f 1 4
def qEd (gs:List LkI) (k:Nat) (x:LkI):Bool:=match k with
 | 0=>true
 | j+1=>match gs[j]? with | some y=>ltL y x | none=>true
def QQ9 (gs:List LkI) (k:Nat) (x:LkI):Int:=if okL x=false then 3 else if qEd gs k x=false then 1 else 0
def QJ0 (gs:List LkI):Nat->Int
 | 0=>0
 | k+1=>if QJ0 gs k≠0 then QJ0 gs k else match gs[k]? with
  | none=>0
  | some x=>QQ9 gs k x
def qJ0 (gs:List LkI):Int:=if 200 < gs.length then 2 else QJ0 gs gs.length
theorem QN4 (gs:List LkI) (k m:Nat) (c:Int) (hc:c≠0) (h:QJ0 gs k=c) (hm:k<=m):QJ0 gs m=c:=by
  induction m with
  | zero => obtain rfl:k=0:=by omega
            exact h
  | succ m ih =>
    by_cases e:k=m+1
    · subst e;exact h
    · have:=ih (by omega);simp only [QJ0,this];rw [if_pos hc]
theorem QN5 {gs:List LkI} {k:Nat} {x:LkI} (hk:gs[k]? = some x) (h0:QJ0 gs k=0):QJ0 gs (k+1)=QQ9 gs k x:=by
 simp [QJ0,h0,hk]
theorem QF8 {gs:List LkI} {k:Nat} {x:LkI}:QQ9 gs k x=0↔okL x=true/\qEd gs k x=true:=by
 unfold QQ9;cases okL x <;> cases qEd gs k x <;> simp
def SL (gs:List LkI):Prop:=gs.Pairwise (fun a b=>ltL a b=true)
theorem QD9 {a b c:LkI} (h1:ltL a b=true) (h2:ltL b c=true):ltL a c=true:=by
 simp only [ltL,decide_eq_true_eq] at *
 omega
theorem qGn {gs:List LkI}:∀ k,k<=gs.length->QJ0 gs k=0->SL (gs.take k)/\∀ x∈gs.take k,okL x=true
 | 0,_,_=>by simp [SL]
 | k+1,hk,h=>by
  have h0:QJ0 gs k=0:=by
   by_cases q:QJ0 gs k=0
   ·exact q
   ·exact absurd (QN4 gs k (k+1) _ q rfl (by omega)) (by rw [h];exact fun e=>q e.symm)
  have hx:gs[k]? = some gs[k]:=List.getElem?_eq_getElem (by omega);rw [QN5 hx h0] at h;obtain ⟨h1,h3⟩:=QF8.1 h;obtain ⟨i1,i2⟩:=qGn k (by omega) h0;rw [List.take_succ_eq_append_getElem (by omega)];refine ⟨List.pairwise_append.2 ⟨i1,by simp,fun a ha b hb=>?_⟩,fun x hx=>?_⟩
  ·simp at hb;rw [hb];obtain ⟨j,hj⟩:=List.mem_iff_getElem?.1 ha
   have hjk:j < k:=by
    by_cases q:j < k
    ·exact q
    ·rw [List.getElem?_eq_none (by simp;omega)] at hj;cases hj
   match k,hk,hx,h3,i1,ha,hj,hjk with
   | m+1,hk,hx,h3,i1,ha,hj,hjk =>
    have hy:gs[m]? = some gs[m]:=List.getElem?_eq_getElem (by omega);simp only [qEd,hy] at h3;by_cases e:j=m
    ·subst e;rw [List.getElem?_take,if_pos (by omega),hy] at hj;cases hj;exact h3
    ·have hm2:(gs.take (m+1))[m]? = some gs[m]:=by rw [List.getElem?_take,if_pos (by omega)];exact hy
     have:=List.pairwise_iff_getElem.1 i1 j m (by simp;omega) (by simp;omega) (by omega);rw [List.getElem?_eq_getElem (by simp;omega)] at hj hm2;rw [Option.some.inj hj,Option.some.inj hm2] at this;exact QD9 this h3
  ·rcases List.mem_append.1 hx with q | q
   ·exact i2 x q
   ·simp at q;rw [q];exact h1
theorem QF7 {gs:List LkI} (h:qJ0 gs=0):gs.length<=200/\SL gs/\∀ x∈gs,okL x=true:=by
 unfold qJ0 at h;split at h
 ·cases h
 ·have:=qGn gs.length (Nat.le_refl _) h;rw [List.take_length] at this;exact ⟨by omega,this⟩
def qE8 (gs:List LkI) (e c p:Int):Int:=match gs with
 | []=>0
 | x::xs=>if x.e=e/\x.c=c/\x.p=p then x.f else qE8 xs e c p
theorem qFJ {gs:List LkI} {k:Nat} {x:LkI} (h:gs[k]? = some x) (e c p:Int):qE8 (gs.drop k) e c p=if x.e=e/\x.c=c/\x.p=p then x.f else qE8 (gs.drop (k+1)) e c p:=by
 have hk:k < gs.length:=by
  by_cases q:k < gs.length
  ·exact q
  ·rw [List.getElem?_eq_none (by omega)] at h;cases h
 have e1:gs[k]=x:=by rw [List.getElem?_eq_getElem hk] at h;exact Option.some.inj h
 rw [List.drop_eq_getElem_cons hk,e1];rfl
theorem QT9 {gs:List LkI} {e c p:Int} (h:∀ x∈gs,¬ (x.e=e/\x.c=c/\x.p=p)):qE8 gs e c p=0:=by
 induction gs with
 | nil=>rfl
 | cons x xs ih =>
  unfold qE8;rw [if_neg (h x (by simp))];exact ih (fun y hy=>h y (by simp [hy]))
theorem qHS {gs:List LkI} (hs:SL gs) {x:LkI} (hx:x∈gs):qE8 gs x.e x.c x.p=x.f:=by
 induction gs with
 | nil=>cases hx
 | cons y ys ih =>
  have hp:=List.pairwise_cons.1 hs;unfold qE8;rcases List.mem_cons.1 hx with rfl | q
  ·simp
  ·have:=hp.1 x q;rw [if_neg (by simp only [ltL,decide_eq_true_eq] at this;omega)];exact ih hp.2 q
def qFQ (x y:Int):Int:=if x < y then -1 else if y < x then 1 else 0
def orJ (c d:Int):Int:=if c=0 then d else c
def cfL (x y:LkI):Int:=orJ (qFQ x.e y.e) (orJ (qFQ x.c y.c) (qFQ x.p y.p))
theorem qHe (x y:LkI):cfL x y < 0↔ltL x y=true:=by
 unfold cfL orJ ltL qFQ;simp only [decide_eq_true_eq];split <;> (repeat' split) <;> first | omega | (simp_all;try omega)
theorem qDv (x y:LkI):cfL x y=0↔(x.e=y.e/\x.c=y.c/\x.p=y.p):=by
 unfold cfL orJ qFQ;split <;> (repeat' split) <;> first | omega | (simp_all;try omega)
def QQ2 (gs:List LkI) (t:LkI) (i:Nat):Prop:=i<=gs.length/\(∀ k x,k < i->gs[k]? = some x->ltL x t=true)/\(∀ k x,i<=k->gs[k]? = some x->ltL x t=false)
theorem qEf {gs:List LkI} (hs:SL gs) {t:LkI} {i:Nat} (h:QQ2 gs t i):qE8 gs t.e t.c t.p=match gs[i]? with | some x=>if cfL x t=0 then x.f else 0 | none=>0:=by
 cases hi:gs[i]? with
 | none =>
  refine QT9 (fun x hx e=>?_);obtain ⟨k,hk⟩:=List.mem_iff_getElem?.1 hx
  have hkl:k < gs.length:=by
   by_cases q:k < gs.length
   ·exact q
   ·rw [List.getElem?_eq_none (by omega)] at hk;cases hk
  have hil:gs.length<=i:=List.getElem?_eq_none_iff.1 hi;have:=h.2.1 k x (by omega) hk;simp only [ltL,decide_eq_true_eq] at this;omega
 | some y =>
  show _=if cfL y t=0 then y.f else 0
  by_cases q:cfL y t=0
  ·rw [if_pos q];obtain ⟨e1,e2,e3⟩:=(qDv y t).1 q;rw [<- e1,<- e2,<- e3];exact qHS hs (List.mem_of_getElem? hi)
  ·rw [if_neg q];refine QT9 (fun x hx e=>?_);obtain ⟨k,hk⟩:=List.mem_iff_getElem?.1 hx;rcases Nat.lt_trichotomy k i with hki | hki | hki
   ·have:=h.2.1 k x hki hk;simp only [ltL,decide_eq_true_eq] at this;omega
   ·subst hki;rw [hi] at hk;cases hk;exact q ((qDv _ _).2 e)
   ·have hkl:k < gs.length:=by
     by_cases q:k < gs.length
     ·exact q
     ·rw [List.getElem?_eq_none (by omega)] at hk;cases hk
    have hil:i < gs.length:=by omega
    have h1:=List.pairwise_iff_getElem.1 hs i k hil hkl hki;rw [List.getElem?_eq_getElem hkl] at hk;rw [List.getElem?_eq_getElem hil] at hi;rw [Option.some.inj hk,Option.some.inj hi] at h1;have h2:=h.2.2 i y (Nat.le_refl _) (by rw [List.getElem?_eq_getElem hil,Option.some.inj hi]);simp only [ltL,decide_eq_true_eq,decide_eq_false_iff_not] at h1 h2;omega
