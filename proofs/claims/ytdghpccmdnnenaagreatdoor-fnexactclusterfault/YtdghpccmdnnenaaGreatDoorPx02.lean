/- Contracts. -/
import Derived.Test.YtdghpccmdnnenaaGreatDoorPx01
import Derived.Laws.BitsAllLaws
import Derived.WalkSmall
import Derived.RangeFuncNested
import Derived.RangeFuncBound
import Derived.RangeFuncCalls
import Derived.RangeFuncBox
import Derived.RangeFuncLeaves
import Derived.Shelf.Abstract
import Derived.OwnWalkIn
import Derived.TacticsInMore
import Derived.LoopNIn
import Derived.LoopIn
import Derived.Maps.AppendAt
import Derived.Stop.RegionWithIn
import Derived.Sort.BigQuietIn
import Derived.Deep.DeepCutAuto
import Derived.Deep.CutBlock
namespace Go.Proofs.YtdghpccmdnnenaaGreatDoor
set_option maxRecDepth 100000
set_option maxHeartbeats 8000000
open Go.RowKit Go.Proofs.Tryz
set_option linter.unusedVariables false
set_option linter.unusedSimpArgs false
def qL1(zs:List qA1):Nat->Int
 | 0=>0
 | k+1=>if qL1 zs k≠0 then qL1 zs k else match zs[k]? with
  | none=>0
  | some r=>if qA6 r≠0 then qA6 r else if r∈zs.take k then 6 else 0
def qC3(zs:List qA1):Int:=if 16<zs.length then 2 else qL1 zs zs.length
theorem qS0(zs:List qA1)(k m:Nat)(c:Int)(hc:c≠0)(h:qL1 zs k=c)(hm:k<=m):qL1 zs m=c:=by
  induction m with
  | zero => obtain rfl:k=0:=by omega
            exact h
  | succ m ih =>
    by_cases e:k=m+1
    . subst e;exact h
    . have:=ih (by omega);simp only[qL1,this];rw[gK hc]
theorem QG2(zs:List qA1)(k:Nat)(r:qA1)(hk:zs[k]?=some r)(h0:qL1 zs k=0)(hr:qA6 r≠0):qL1 zs (k+1)=qA6 r:=by
 simp[qL1,h0,hk,hr]
theorem QI7(zs:List qA1)(k:Nat)(r:qA1)(hk:zs[k]?=some r)(h0:qL1 zs k=0)(hr:qA6 r=0)(hm:r∈zs.take k):qL1 zs (k+1)=6:=by
 simp[qL1,h0,hk,hr,hm]
theorem QV7(zs:List qA1)(k:Nat)(r:qA1)(hk:zs[k]?=some r)(h0:qL1 zs k=0)(hr:qA6 r=0)(hm:¬ r∈zs.take k):qL1 zs (k+1)=0:=by
 simp[qL1,h0,hk,hr,hm]
theorem qP5(zs:List qA1)(k:Nat)(r:qA1):r∈zs.take k↔∃j,j<k/\zs[j]?=some r:=by
 rw[jW];constructor
 .rintro⟨j,hj⟩;rw[jJ]at hj;by_cases h:j<k
  .rw[gK h]at hj;exact⟨j,h,hj⟩
  .rw[gI h]at hj;cases hj
 .rintro⟨j,h,hj⟩;exact⟨j,by rw[jJ,gK h];exact hj⟩
def qL3(w:World)(g off:Nat)(zs:List qA1):Prop:=∀k r,zs[k]?=some r->qC2 w g (off+k*8) r
theorem qL3.below{w w':World}{g off:Nat}{zs:List qA1}(h:qL3 w g off zs)(hb:Below w.heap.size w w'):qL3 w' g off zs:=fun k r e=>(h k r e).below hb
def qB9(w:World)(a:Option Addr)(len:Nat)(zs:List qA1):Prop:=zs.length=len/\(0<len->∃b off,a=some ⟨b,off,none⟩/\qL3 w b off zs)
theorem qB9.below{w w':World}{a:Option Addr}{len:Nat}{zs:List qA1}(h:qB9 w a len zs)(hb:Below w.heap.size w w'):qB9 w' a len zs:=by
 refine⟨h.1,fun hl=>?_⟩;obtain⟨b,off,e,hr⟩:=h.2 hl;exact⟨b,off,e,hr.below hb⟩
theorem qB9.at{w:World}{a:Option Addr}{len:Nat}{zs:List qA1}(h:qB9 w a len zs){k:Nat}(hk:k<len):
  ∃b off r,a=some ⟨b,off,none⟩/\zs[k]?=some r/\qC2 w b (off+k*8) r:=by
 obtain⟨b,off,e,hr⟩:=h.2 (by omega);have hl:=h.1;exact⟨b,off,zs[k]'(by omega),e,gA (by omega),hr k _ (gA (by omega))⟩
theorem qB9.here{w:World}{b off len:Nat}{zs:List qA1}(h:qB9 w (some ⟨b,off,none⟩) len zs){k:Nat}(hk:k<len):∃r,zs[k]?=some r/\qC2 w b (off+k*8) r:=by
 obtain⟨b',off',r,e,h1,h2⟩:=h.at hk
 cases e;exact⟨r,h1,h2⟩
theorem qB9.cut{w:World}{a:Option Addr}{len:Nat}{zs:List qA1}(h:qB9 w a len zs){k:Nat}(hk:k<=len):qB9 w a k (zs.take k):=by
 refine⟨by have:=h.1;simp;omega,fun hp=>?_⟩;obtain⟨b,off,e,hr⟩:=h.2 (by omega);refine⟨b,off,e,fun j r ej=>hr j r ?_⟩;rw[jJ]at ej;split at ej
 .exact ej
 .cases ej
theorem qB9.of{w:World}{g len:Nat}{zs:List qA1}(hl:zs.length=len)(h:qL3 w g 0 zs):qB9 w (some ⟨g,0,none⟩) len zs :=
 ⟨hl,fun _=>⟨g,0,rfl,h⟩⟩
theorem qA8(W:World):(∀b o,b<W.heap.size->W.drew.cell? ⟨b,o,none⟩=W.cell? ⟨b,o,none⟩)/\Below W.heap.size W W.drew :=
 ⟨fun _ _ _=>rfl,⟨rfl,rfl,rfl,gB _,fun _ _=>rfl⟩⟩
theorem qA0{W w w':World}(h:(∀b o,b<W.heap.size->w.cell? ⟨b,o,none⟩=W.cell? ⟨b,o,none⟩)/\Below W.heap.size W w)(hb:Below w.heap.size w w'):(∀b o,b<W.heap.size->w'.cell? ⟨b,o,none⟩=W.cell? ⟨b,o,none⟩)/\Below W.heap.size W w':=by
 have hz:=h.2.size;exact⟨fun b o hl=>(hb.cell (p:=⟨b,o,none⟩) (by show b<w.heap.size;omega)).trans (h.1 b o hl),h.2.trans (hb.mono hz)⟩
def qLB(w:World)(a:Option Addr)(len:Nat)(zs:List qA1):Prop:=qB9 w a len zs/\len<=maxLen
def qI8(s p:Int):Bool:=s.toNat.testBit (p-1).toNat
def qB3(s:Int):Nat->List Int
 | 0=>[]
 | k+1=>if qI8 s ((k:Int)+1) then qB3 s k++[(k:Int)+1] else qB3 s k
theorem qJG:∀n:Fin 256,∀k:Fin 8,(bits .and .u8 ((n.val:Nat):Int) ((2 ^ k.val:Nat):Int)=bits .and .i64 ((n.val:Nat):Int) ((2 ^ k.val:Nat):Int))/\(bits .and .i64 ((n.val:Nat):Int) ((2 ^ k.val:Nat):Int) != 0)=n.val.testBit k.val:=by
 decide +kernel
theorem qQ4(s p:Int)(h0:0<=s)(h1:s<=255)(p0:1<=p)(p1:p<=8):
  (bits .and .i64 s ((2 ^ (p-1).toNat:Nat):Int) != 0)=qI8 s p:=by
 obtain⟨n,rfl⟩:=gP h0;have:=(qJG ⟨n,by omega⟩ ⟨(p-1).toNat,by omega⟩).2;simpa[qI8] using this
theorem qLj(s p:Int)(h0:0<=s)(h1:s<=255)(p0:1<=p)(p1:p<=8):
  (bits .and .u8 s ((2 ^ (p-1).toNat:Nat):Int) != 0)=qI8 s p:=by
 obtain⟨n,rfl⟩:=gP h0;have h:=qJG ⟨n,by omega⟩ ⟨(p-1).toNat,by omega⟩;have h2:=h.2;rw[<- h.1]at h2;simpa[qI8] using h2
theorem qIS(s p:Int)(h0:0<=s)(h1:s<=255)(p0:1<=p)(p1:p<=8)(w:World):
  CP 206 #[iv s,iv p] w fun e w'=>e=.returned (.bool (qI8 s p))/\w=w':=by
 have hp:p=1\/p=2\/p=3\/p=4\/p=5\/p=6\/p=7\/p=8:=by omega
 rcases hp with rfl|rfl|rfl|rfl|rfl|rfl|rfl|rfl
 .have e1:=qQ4 s 1 h0 h1 (by omega) (by omega);simp at e1;go_enter func206,ntmps206;go_wp2;go_ret;exact⟨rfl,rfl⟩
 .have e1:=qQ4 s 2 h0 h1 (by omega) (by omega);simp at e1;go_enter func206,ntmps206;go_wp2;go_ret;exact⟨rfl,rfl⟩
 .have e1:=qQ4 s 3 h0 h1 (by omega) (by omega);simp at e1;go_enter func206,ntmps206;go_wp2;go_ret;exact⟨rfl,rfl⟩
 .have e1:=qQ4 s 4 h0 h1 (by omega) (by omega);simp at e1;go_enter func206,ntmps206;go_wp2;go_ret;exact⟨rfl,rfl⟩
 .have e1:=qQ4 s 5 h0 h1 (by omega) (by omega);simp at e1;go_enter func206,ntmps206;go_wp2;go_ret;exact⟨rfl,rfl⟩
 .have e1:=qQ4 s 6 h0 h1 (by omega) (by omega);simp at e1;go_enter func206,ntmps206;go_wp2;go_ret;exact⟨rfl,rfl⟩
 .have e1:=qQ4 s 7 h0 h1 (by omega) (by omega);simp at e1;go_enter func206,ntmps206;go_wp2;go_ret;exact⟨rfl,rfl⟩
 .have e1:=qQ4 s 8 h0 h1 (by omega) (by omega);simp at e1;go_enter func206,ntmps206;go_wp2;go_ret;exact⟨rfl,rfl⟩
theorem Tryz.info2:(prog.info? 2).map (fun i=>(i.zero,i.size,i.bytes))=some (some (iv 0),1,8):=by kernel_rfl
theorem QA9(s:Int)(k:Nat):(qB3 s k).length<=k:=by
 induction k with
 | zero=>simp[qB3]
 | succ k ih =>
  simp only[qB3];split
  .simp;omega
  .omega
theorem qW3(s:Int)(k:Nat)(h:qI8 s ((k:Int)+1)=true):qB3 s (k+1)=qB3 s k++[(k:Int)+1]:=by simp[qB3,h]
theorem QQ2(s:Int)(k:Nat)(h:qI8 s ((k:Int)+1)=false):qB3 s (k+1)=qB3 s k:=by simp[qB3,h]
theorem qIF{B k:Nat}{s:Int}{w wr w1:World}{u v':Value}{o:Obj}(hB:B<=wr.heap.size)(hh:qI8 s ((k:Int)+1)=true)(hown:wr.ownsRow B 2 1 u (qB3 s k).length ((qB3 s k).map (Value.int .i64)))(hnx:Below B w wr)(hown':w1.ownsRow B 2 1 v' ((qB3 s k).length+1) ((qB3 s k).map (Value.int .i64)++[iv ((k:Int)+1)]))(hgrow:(wr.alloc o).grownBy w1 u.ownBlock):
  w1.ownsRow B 2 1 v' (qB3 s (k+1)).length ((qB3 s (k+1)).map (Value.int .i64))/\Below B w w1:=by
 refine⟨by rw[qW3 s k hh];simpa using hown',(hnx.alloc (by omega) o).grown hgrow (by simp;omega) (fun j hj=>by have:=(hown.lt j hj).1;omega)⟩
theorem qOQ{W w1:World}(hb:Below W.heap.size W w1):(∀b o,b<W.heap.size->w1.cell? ⟨b,o,none⟩=W.cell? ⟨b,o,none⟩)/\(∀b o,b<W.heap.size->w1.frozen? ⟨b,o,none⟩=W.frozen? ⟨b,o,none⟩) :=
 ⟨fun b o h=>hb.cell (p:=⟨b,o,none⟩) h,fun b o h=>hb.frozen (p:=⟨b,o,none⟩) h⟩
theorem qFp{w:World}{b:Nat}{t:TypeId}{v:Value}{n:Nat}{xs:List Value}(h:w.ownsRow b t 1 v n xs)(hv:v≠.slice none 0 0):∃g cap,v=.slice (some ⟨g,0,none⟩) n cap:=by
 rcases h.2 with⟨h',_⟩ | ⟨g,cap,cur,h',_⟩
 .exact absurd h' hv
 .exact⟨g,cap,h'⟩
theorem qAH(s:Int)(h0:0<=s)(h1:s<=255)(w:World):
  CP 172 #[iv s] w fun e w'=>∃g cap,e=.returned (.slice (some ⟨g,0,none⟩) (qB3 s 8).length cap) /\
   w'.ownsRow w.heap.size 2 1 (.slice (some ⟨g,0,none⟩) (qB3 s 8).length cap) (qB3 s 8).length ((qB3 s 8).map (Value.int .i64))/\Below w.heap.size w w':=by
 obtain⟨i0,hi,hz0,hz1,hz2⟩:=jT Tryz.info2;go_enter func172,ntmps172;go_wp2
 go_loopw [3,4] (fun v p wr=>∃k:Nat,k<=8/\p=iv ((k:Int)+1)/\wr.ownsRow w.heap.size 2 1 v (qB3 s k).length ((qB3 s k).map (Value.int .i64))/\Below w.heap.size w wr/\v≠.slice none 0 0)
  (fun _ p _=>9-(intOf p).toNat)
 case atStart=>exact⟨0,gH _,rfl,kH w #[] 0 (gB _) (gH _) rfl,zN,by simp⟩
 case round =>
  obtain⟨k,hk,rfl,hown,hnx,hnn⟩:=hrel;have hkl:=QA9 s k;by_cases hlt:k<8
  .have hlt':(k:Int)+1<=8:=by omega
   cases hh:qI8 s ((k:Int)+1) with
   | true =>
    have HH:=hJJ hh;clear hh
    go_wp2_with (first
     | (at_builtin;refine jG _ rfl _ _ 23 rfl w.heap.size 2 i0 (iv 0) 1 8 underlying23 hi hz0 hz1 hz2 rfl (by decide) _ _ _ rfl (hown.alloc _) ⟨wr.heap.size,0,none⟩ 1 1 [iv ((k:Int)+1)] rfl rfl ?c1 ?c2 ?c3 ?c4 ?c5 ?_)
     | (go_at_call 206;refine (qIS s _ h0 h1 (by omega) (by omega) _).mono ?_;rintro e w' ⟨rfl,rfl⟩;rw[HH.out]))
    case c1 =>
     intro j u hj;match j,hj with
     | 0,hj=>simp at hj;subst hj;simp[Addr.add]
    case c2=>intro u hu;simp at hu;subst hu;rfl
    case c3=>unfold maxLen;omega
    case c4=>omega
    case c5=>have:=hnx.size;simp;omega
    .intro v' w1 hown' hgrow hnil;have hnn':v'≠.slice none 0 0:=hnil;clear hnil;have R:=qIF (by have:=hnx.size;omega) HH.out hown hnx hown' hgrow;clear hown' hgrow hown;go_wp2;go_roundw
     case rel=>exact⟨k+1,by omega,by go_num,R.1,R.2,hnn'⟩
     case measure=>simp[intOf];omega
   | false =>
    have HH:=hJJ hh;clear hh;go_wp2_with (go_at_call 206;refine (qIS s _ h0 h1 (by omega) (by omega) _).mono ?_;rintro e w' ⟨rfl,rfl⟩;rw[HH.out])
    go_roundw
    case rel=>exact⟨k+1,by omega,by go_num,by rw[QQ2 s k HH.out];exact hown,hnx,hnn⟩
    case measure=>simp[intOf];omega
  .have hk8:k=8:=by omega
   subst hk8;obtain⟨g,cap,hv⟩:=qFp hown hnn;rw[hv]at hown ⊢
   clear hv hnn;go_wp2;go_ret;exact⟨g,cap,rfl,hown,hnx⟩
abbrev RoI:=Int × Int
def ltR(a b:RoI):Bool:=decide (a.1<b.1\/(a.1=b.1/\a.2<b.2))
theorem qO4(a:RoI):ltR a a=false:=by simp[ltR]
theorem QG6{a b c:RoI}(h:ltR a b=true)(k:ltR b c=true):ltR a c=true:=by
 simp[ltR]at *;omega
theorem qIB{a b:RoI}(h:ltR a b=false)(hne:a≠b):ltR b a=true:=by
 obtain⟨a1,a2⟩:=a;obtain⟨b1,b2⟩:=b;have hne':¬ (a1=b1/\a2=b2):=fun e=>hne (by rw[e.1,e.2])
 simp[ltR]at *;omega
def SS(zs:List RoI):Prop:=zs.Pairwise (fun a b=>ltR a b=true)
theorem qBA:∀(a b:List RoI),SS a->SS b->(∀x,x∈a↔x∈b)->a=b
 | [],[],_,_,_=>rfl
 | [],y::ys,_,_,h=>absurd ((h y).2 (by simp)) (by simp)
 | x::xs,[],_,_,h=>absurd ((h x).1 (by simp)) (by simp)
 | x::xs,y::ys,ha,hb,h=>by
  have ha':=jN.1 ha;have hb':=jN.1 hb
  have e:x=y:=by
   rcases gX.1 ((h x).1 (by simp))with e | e
   .exact e
   .rcases gX.1 ((h y).2 (by simp))with e2 | e2
    .exact e2.symm
    .have h1:=hb'.1 x e;have h2:=ha'.1 y e2;have:=QG6 h1 h2;rw[qO4]at this;cases this
  subst e;rw[qBA xs ys ha'.2 hb'.2 (fun z=>?_)];constructor
  .intro hz;rcases gX.1 ((h z).1 (by simp[hz]))with e | e
   .subst e;have:=ha'.1 z hz;rw[qO4]at this;cases this
   .exact e
  .intro hz;rcases gX.1 ((h z).2 (by simp[hz]))with e | e
   .subst e;have:=hb'.1 z hz;rw[qO4]at this;cases this
   .exact e
def qDo(r:qA1):List RoI:=if r.k=1 then [] else if r.k=4 then [(r.oo,r.on),(r.to,r.tn)] else [(r.oo,r.on)]
def qPP(r:qA1):List RoI:=(r.ho,r.hn)::qDo r
def qPO(zs:List qA1)(k:Nat):List RoI:=(zs.take k).flatMap qPP
def QF0:List RoI->List Value
 | []=>[]
 | p::ps => iv p.1 :: iv p.2::QF0 ps
theorem qBo:∀(a:List RoI) (k:Nat) (p:RoI),a[k]?=some p->(QF0 a)[k*2]?=some (iv p.1)
 | [],_,_,h=>by simp at h
 | q::qs,0,p,h=>by simp at h;subst h;rfl
 | q::qs,k+1,p,h=>by
  have:=qBo qs k p (by simpa using h);rw[show (k+1)*2=k*2+1+1 by omega];simpa[QF0] using this
theorem qBn:∀(a:List RoI) (k:Nat) (p:RoI),a[k]?=some p->(QF0 a)[k*2+1]?=some (iv p.2)
 | [],_,_,h=>by simp at h
 | q::qs,0,p,h=>by simp at h;subst h;rfl
 | q::qs,k+1,p,h=>by
  have:=qBn qs k p (by simpa using h);rw[show (k+1)*2+1=k*2+1+1+1 by omega];simpa[QF0] using this
def QI6(r s:qA1):Bool:=decide (r=s)
theorem qJp(a0 a1 a2 a3 a4 a5 a6 a7 b0 b1 b2 b3 b4 b5 b6 b7:Int):QI6 ⟨a0,a1,a2,a3,a4,a5,a6,a7⟩ ⟨b0,b1,b2,b3,b4,b5,b6,b7⟩=(a0==b0&&(a1==b1&&a2==b2)&&a3==b3&&(a4==b4&&a5==b5)&&(a6==b6&&a7==b7)):=by
 unfold QI6;rw[kX];simp only[jV,qA1.mk.injEq,jY,beq_iff_eq];constructor
 .rintro⟨h0,h1,h2,h3,h4,h5,h6,h7⟩;exact⟨⟨⟨⟨h0,h1,h2⟩,h3⟩,h4,h5⟩,h6,h7⟩
 .rintro⟨⟨⟨⟨h0,h1,h2⟩,h3⟩,h4,h5⟩,h6,h7⟩;exact⟨h0,h1,h2,h3,h4,h5,h6,h7⟩
theorem qEL(r s:qA1)(w:World):(binOp .eql 208 (.agg #[iv r.k,iv r.ho,iv r.hn,iv r.w,iv r.oo,iv r.on,iv r.to,iv r.tn]) (.agg #[iv s.k,iv s.ho,iv s.hn,iv s.w,iv s.oo,iv s.on,iv s.to,iv s.tn])).run prog w=.ok (.bool (QI6 r s)) w:=by
 obtain⟨a0,a1,a2,a3,a4,a5,a6,a7⟩:=r;obtain⟨b0,b1,b2,b3,b4,b5,b6,b7⟩:=s;simp only;rw[qJp];cases e0:(a0==b0)
 .simp[go_sem,e0]
 cases e1:(a1==b1)
 .simp[go_sem,e0,e1]
 cases e2:(a2==b2)
 .simp[go_sem,e0,e1,e2]
 cases e3:(a3==b3)
 .simp[go_sem,e0,e1,e2,e3]
 cases e4:(a4==b4)
 .simp[go_sem,e0,e1,e2,e3,e4]
 cases e5:(a5==b5)
 .simp[go_sem,e0,e1,e2,e3,e4,e5]
 cases e6:(a6==b6)
 .simp[go_sem,e0,e1,e2,e3,e4,e5,e6]
 cases e7:(a7==b7)
 .simp[go_sem,e0,e1,e2,e3,e4,e5,e6,e7]
 .simp[go_sem,e0,e1,e2,e3,e4,e5,e6,e7]
def qGd(p:Int):Int:=((2 ^ (p-1).toNat:Nat):Int)
theorem qIT(p:Int)(p0:1<=p)(p1:p<=8)(w:World):
  CP 174 #[iv p] w fun e w'=>e=.returned (iv (qGd p))/\w=w':=by
 have hp:p=1\/p=2\/p=3\/p=4\/p=5\/p=6\/p=7\/p=8:=by omega
 rcases hp with rfl|rfl|rfl|rfl|rfl|rfl|rfl|rfl
 all_goals
  go_enter func174,ntmps174;go_wp2;go_ret;exact⟨rfl,rfl⟩
theorem qAg(p:Int)(p0:1<=p)(p1:p<=8)(w:World):
  CP 270 #[iv p] w fun e w'=>e=.returned (.int .u8 (qGd p))/\w=w':=by
 have hp:p=1\/p=2\/p=3\/p=4\/p=5\/p=6\/p=7\/p=8:=by omega
 rcases hp with rfl|rfl|rfl|rfl|rfl|rfl|rfl|rfl
 all_goals
  go_enter func270,ntmps270;go_wp2;go_ret;exact⟨rfl,rfl⟩
section
open Go.RowKit Go.Shelf
attribute [local go_sem] Oper.semAt_some
set_option linter.unusedVariables false
theorem QN1(k:FuncId):Fence.wide.fn k=True:=eq_true trivial
attribute [local go_sem] QN1
attribute [local simp] QN1
theorem QW6(s:Int)(k m:Nat)(h:k<=m):qB3 s k <+: qB3 s m:=by
 induction m with
 | zero =>
  have e:k=0:=by omega
  subst e;exact List.prefix_refl _
 | succ m ih =>
  by_cases e:k=m+1
  .subst e;exact List.prefix_refl _
  .have:=ih (by omega);simp only[qB3];split
   .exact this.trans (List.prefix_append _ _)
   .exact this
theorem qIG(s:Int)(k m:Nat)(h:k<m)(hh:qI8 s ((k:Int)+1)=true):(qB3 s k).length<(qB3 s m).length:=by
 have h1:=(QW6 s (k+1) m (by omega)).length_le;rw[qW3 s k hh]at h1;simp at h1;omega
def QC1(b:Nat)(W W':World):Prop:=W'.heap[b]?=W.heap[b]?
theorem qDS(W:World)(m:Nat):W.grownBy (W.drewN m) none:=⟨rfl,rfl,rfl,gB _,fun _ _ _=>rfl⟩
theorem qGS(W:World):W.grownBy W.drew none:=⟨rfl,rfl,rfl,gB _,fun _ _ _=>rfl⟩
theorem qER(n:Nat)(hn:1<=n)(l Bn B:Nat)(s:Int)(s0:0<=s)(s1:s<=255)(J Jx:List Int->World->Prop)(hJ:AbidesFrom B J)(hY:∀pre x W,J pre W->pre.length<(qB3 s 8).length->1<=x->x<=8->YieldAt Fence.wide (n-1) prog l #[iv x] W fun e W' =>
   (e=.returned (.bool true)/\J (pre++[x]) W'/\QC1 Bn W W')\/(e=.returned (.bool false)/\Jx (pre++[x]) W'))(W:World)(hBn:W.cell? ⟨Bn,0,none⟩=some (.int .u8 s))(h0:J [] W):
  CallsIn Fence.wide n prog 285 #[.func (.yield l) #[] #[],.pointer (some ⟨Bn,0,none⟩)] W fun e W'=>(∃v,e=.returned v) /\
   ((∃ys,ys=qB3 s 8/\J ys W')\/(∃pre,pre <+: qB3 s 8/\Jx pre W')):=by
 refine callsIn_of_wp func285 rfl trivial ?_ rfl;simp only[ntmps285,kO,jX,List.length_nil,Nat.reduceAdd,Nat.reduceSub,Array.replicate_succ,Array.replicate_zero,List.push_toArray,List.append_toArray,kR,List.cons_append];gi_wp2
 gi_loopw [3] (fun p wr=>∃(k:Nat),k<=8/\p=iv ((k:Int)+1)/\wr.cell? ⟨Bn,0,none⟩=some (.int .u8 s)/\J (qB3 s k) wr)
  (fun p _=>9-(intOf p).toNat)
 case atStart=>exact⟨0,gH _,rfl,hBn,h0⟩
 case round =>
  obtain⟨k,hk,rfl,hc,hJs⟩:=hrel;by_cases hlt:k<8
  .have hlt':(k:Int)+1<=8:=by omega
   cases hh:qI8 s ((k:Int)+1) with
   | true =>
    have e2:(bits .and .u8 s (qGd ((k:Int)+1)) != 0)=true:=by rw[<- hh];exact qLj s _ s0 s1 (by omega) (by omega)
    have HH:=hJJ hh;clear hh;have hJd:=hJ _ wr wr.drew none hJs (qGS wr) (fun r e=>by cases e);have hcd:wr.drew.cell? ⟨Bn,0,none⟩=some (.int .u8 s):=hc;obtain⟨fn,tmps,assign,body,hy,hR⟩:=hY _ ((k:Int)+1) wr.drew hJd (qIG s k 8 hlt HH.out) (by omega) (by omega)
    have hR':=hR.mono (R':=fun e W'=>∃b:Bool,e=.returned (.bool b)/\Hid ((b=true/\J (qB3 s k++[(k:Int)+1]) W'/\QC1 Bn wr.drew W')\/(b=false/\Jx (qB3 s k++[(k:Int)+1]) W'))) (by
     rintro e W' (⟨rfl,h⟩ | ⟨rfl,h⟩)
     .exact⟨true,rfl,.inl ⟨rfl,h⟩⟩
     .exact⟨false,rfl,.inr ⟨rfl,h⟩⟩)
    clear hR hY hJ hJd hJs h0;gi_wp2
    gi_region_with (first | (gi_at_call 270;refine (callsIn_wide.2 (qAg ((k:Int)+1) (by omega) (by omega) _)).mono ?_;rintro e w' ⟨rfl,rfl⟩) | (refine hR'.mono ?_;rintro e W3 ⟨b,rfl,HD⟩))
    all_goals
     rcases HD.out with⟨rfl,hJ3,hk3⟩ | ⟨rfl,hJx3⟩
     .have hc3:W3.cell? ⟨Bn,0,none⟩=some (.int .u8 s):=(jO (a:=⟨Bn,0,none⟩) hk3).trans hcd;gi_wp2
      go_roundw
      case rel=>exact⟨k+1,by omega,by go_num,hc3,by rw[qW3 s k HH.out];exact hJ3⟩
      case measure=>simp[intOf];omega
     .gi_wp2
      refine gQ (results_none rfl _ _ _) rfl ?_;exact⟨⟨_,rfl⟩,.inr ⟨_,by have hp:=QW6 s (k+1) 8 (by omega);rw[qW3 s k HH.out]at hp;exact hp,hJx3⟩⟩
   | false =>
    have e2:(bits .and .u8 s (qGd ((k:Int)+1)) != 0)=false:=by rw[<- hh];exact qLj s _ s0 s1 (by omega) (by omega)
    have HH:=hJJ hh;clear hh;have HJ:Hid (∀m,J (qB3 s (k+1)) (wr.drewN m)):=by rw[QQ2 s k HH.out];exact fun m=>hJ _ wr (wr.drewN m) none hJs (qDS wr m) (fun r e=>by cases e)
    clear hY hJ hJs h0;gi_wp2
    gi_big_quiet_th ((gi_at_call 270;refine CallsIn.quiet_of_same ((callsIn_wide.2 (qAg ((k:Int)+1) (by omega) (by omega) _)).mono (fun _ _ h=>⟨h.1,h.2.symm⟩))))
    gi_wp2
    go_roundw
    case rel=>exact⟨k+1,by omega,by go_num,hc,HJ.out _⟩
    case measure=>simp[intOf];omega
  .have hk8:k=8:=by omega
   subst hk8;gi_wp2
   go_end0
   exact⟨⟨_,rfl⟩,.inl ⟨_,rfl,hJs⟩⟩
theorem qCl(n:Nat)(s:Int)(w:World):
  CallsIn Fence.wide n prog 269 #[.int .u8 s] w fun e w'=>e=.returned (.func (.func 285) #[] #[.pointer (some ⟨w.heap.size,0,none⟩)])/\w.alloc (.cells #[.int .u8 s] 310)=w':=by
 refine callsIn_of_wp func269 rfl trivial ?_ rfl;simp only[ntmps269,kO,jX,List.length_nil,Nat.reduceAdd,Nat.reduceSub,Array.replicate_succ,Array.replicate_zero,List.push_toArray,List.append_toArray,kR,List.cons_append];gi_wp2
 go_ret;exact⟨rfl,rfl⟩
theorem qFl(n:Nat)(hn:1<=n)(Bn:Nat)(s:Int)(s0:0<=s)(s1:s<=255)(w:World)(hBn:Bn<w.heap.size)(hc:w.cell? ⟨Bn,0,none⟩=some (.int .u8 s)):
  SeqStopsK Fence.wide n prog 285 #[.pointer (some ⟨Bn,0,none⟩)] (fun x:Int => #[Value.int .i64 x]) (QC1 Bn) (fun ys=>ys=qB3 s 8) (fun pre=>pre <+: qB3 s 8) (qB3 s 8).length w:=fun l J Jx W hW hJ _ hY h0 =>
 qER n hn l Bn W.heap.size s s0 s1 J Jx hJ (fun pre x W hj hl _ _=>hY pre x W hj hl) W ((hW.cell (p:=⟨Bn,0,none⟩) hBn).trans hc) h0
abbrev P8:={ x:Int // 1<=x/\x<=8 }
theorem QO4(n:Nat)(hn:1<=n)(Bn:Nat)(s:Int)(s0:0<=s)(s1:s<=255)(w:World)(hBn:Bn<w.heap.size)(hc:w.cell? ⟨Bn,0,none⟩=some (.int .u8 s)):
  SeqStopsK Fence.wide n prog 285 #[.pointer (some ⟨Bn,0,none⟩)] (fun x:P8 => #[Value.int .i64 x.1]) (QC1 Bn) (fun ys=>ys.map (·.1)=qB3 s 8) (fun pre=>pre.map (·.1) <+: qB3 s 8) (qB3 s 8).length w:=fun l J Jx W hW hJ _ hY h0=>by
 have hY':∀(pre:List Int) (x:Int) (W1:World),(∃p:List P8,p.map (·.1)=pre/\J p W1)->pre.length<(qB3 s 8).length->1<=x->x<=8->YieldAt Fence.wide (n-1) prog l #[iv x] W1 fun e W' =>
   (e=.returned (.bool true)/\(∃p:List P8,p.map (·.1)=pre++[x]/\J p W')/\QC1 Bn W1 W')\/(e=.returned (.bool false)/\(∃p:List P8,p.map (·.1)=pre++[x]/\Jx p W')):=by
  rintro pre x W1 ⟨p,rfl,hj⟩ hl x1 x8;obtain⟨fn,tmps,assign,body,hy,hR⟩:=hY p ⟨x,x1,x8⟩ W1 hj (by simpa using hl);refine⟨fn,tmps,assign,body,hy,hR.mono ?_⟩;rintro e W' (⟨he,h1,h2⟩ | ⟨he,h1⟩)
  .exact .inl ⟨he,⟨p++[⟨x,x1,x8⟩],by simp,h1⟩,h2⟩
  .exact .inr ⟨he,⟨p++[⟨x,x1,x8⟩],by simp,h1⟩⟩
 refine (qER n hn l Bn W.heap.size s s0 s1 (fun pre W1=>∃p:List P8,p.map (·.1)=pre/\J p W1) (fun pre W1=>∃p:List P8,p.map (·.1)=pre/\Jx p W1)
  (fun pre X Y row ⟨p,hp,hj⟩ hg hr=>⟨p,hp,hJ p X Y row hj hg hr⟩) hY' W ((hW.cell (p:=⟨Bn,0,none⟩) hBn).trans hc) ⟨[],rfl,h0⟩).mono ?_
 rintro e W' ⟨hv,⟨ys,rfl,p,hp,hj⟩ | ⟨pre,hpre,p,hp,hj⟩⟩
 .exact⟨hv,.inl ⟨p,hp,hj⟩⟩
 .exact⟨hv,.inr ⟨p,by show p.map (·.1) <+: qB3 s 8;rw[hp];exact hpre,hj⟩⟩
end
section
attribute [local go_sem ↓] qEL
theorem qHI(a:Option Addr)(n cap:Nat)(zs:List qA1)(r:qA1)(w:World)(hn:n<=1048576)(h:qB9 w a n zs):
  CP 257 #[.slice a n cap,.agg #[iv r.k,iv r.ho,iv r.hn,iv r.w,iv r.oo,iv r.on,iv r.to,iv r.tn]] w fun e w'=>(∃i:Int,e=.returned (iv i)/\((0<=i/\r∈zs)\/(i = -1/\¬ r∈zs)))/\Below w.heap.size w w':=by
 have H:=hJJ h;have hz:=hJJ h.1;clear h;have hn':(n:Int)<=1048576:=by omega
 have HB:Hid (qC2 (w.alloc (.cells #[iv r.k,iv r.ho,iv r.hn,iv r.w,iv r.oo,iv r.on,iv r.to,iv r.tn] 208)) w.heap.size 0 r):=qC2.new w r _;go_enter func257,ntmps257;go_wp2;go_loopw [8] (fun i wr=>∃k:Nat,k<=n/\i=iv (k:Int)/\¬ r∈zs.take k/\∃m,wr=(w.alloc (.cells #[iv r.k,iv r.ho,iv r.hn,iv r.w,iv r.oo,iv r.on,iv r.to,iv r.tn] 208)).drewN m) (fun i _=>n-(intOf i).toNat)
 case atStart=>exact⟨0,gH _,rfl,by simp,0,rfl⟩
 case round =>
  obtain⟨k,hk,rfl,hm,m,rfl⟩:=hrel;have HM:=hJJ hm;clear hm;by_cases hlt:k<n
  .obtain⟨b,off,s,rfl,hs,hr⟩:=H.out.at hlt
   have HS:=hJJ hs;clear hs;have hb:b<w.heap.size:=zL w ⟨b,off+k*8,none⟩ hr.1;obtain⟨h0,h1,h2,h3,h4,h5,h6,h7⟩:=hr;obtain⟨b0,b1,b2,b3,b4,b5,b6,b7⟩:=HB.out;simp only[gG]at b0 b1 b2 b3 b4 b5 b6 b7;have hlt':(k:Int)<(n:Int):=by omega
   cases hsame:QI6 r s
   .have HF:Hid (QI6 r s=false):=hsame
    have HN:Hid (¬ r∈zs.take (k+1)):=by
     show ¬ r∈zs.take (k+1)
     rw[qP5];rintro⟨j,hj,hjs⟩;by_cases e:j=k
     .subst e;rw[HS.out]at hjs;simp[QI6]at hsame;exact hsame (gJ hjs).symm
     .exact HM.out ((qP5 _ _ _).2 ⟨j,by omega,hjs⟩)
    clear hsame;have hsame:QI6 r s=false:=HF.out;go_wp2;go_quiet (fail)
    go_wp2;exact⟨⟨k+1,by omega,by go_num,HN.out,_,rfl⟩,by simp[intOf];omega⟩
   .have HI:Hid (r∈zs):=by
     show r∈zs
     simp[QI6]at hsame;subst hsame;exact gO HS.out
    go_wp2;go_quiet (fail)
    go_wp2;go_ret;exact⟨⟨_,rfl,Or.inl ⟨by omega,HI.out⟩⟩,by first | exact bdN (zN) _ | exact bdN (bdN (zN) _) _⟩
  .have hkn:k=n:=by omega
   subst hkn
   have HN:Hid (¬ r∈zs):=by
    have:=HM.out;rw[gV (by rw[hz.out];exact gB _)]at this;exact this
   go_wp2;go_ret;exact⟨⟨_,rfl,Or.inr ⟨rfl,HN.out⟩⟩,bdN (by go_grown) _⟩
theorem QJ7(a:Option Addr)(n cap:Nat)(zs:List qA1)(r:qA1)(w:World)(hn:n<=1048576)(h:qB9 w a n zs):
  CP 241 #[.slice a n cap,.agg #[iv r.k,iv r.ho,iv r.hn,iv r.w,iv r.oo,iv r.on,iv r.to,iv r.tn]] w fun e w'=>e=.returned (.bool (decide (r∈zs)))/\Below w.heap.size w w':=by
 have H:Hid (qB9 (w.alloc (.cells #[iv r.k,iv r.ho,iv r.hn,iv r.w,iv r.oo,iv r.on,iv r.to,iv r.tn] 208)) a n zs):=h.below (zN);clear h;have HB:Hid (qC2 (w.alloc (.cells #[iv r.k,iv r.ho,iv r.hn,iv r.w,iv r.oo,iv r.on,iv r.to,iv r.tn] 208)) w.heap.size 0 r):=qC2.new w r _;obtain⟨b0,b1,b2,b3,b4,b5,b6,b7⟩:=HB.out;simp only[gG]at b0 b1 b2 b3 b4 b5 b6 b7;go_enter func241,ntmps241;go_wp2_with fail
 refine (qHI a n cap zs r _ hn H.out).mono ?_;rintro e w1 ⟨⟨i,rfl,hi⟩,hb1⟩
 have HX:Hid (decide (0<=i)=decide (r∈zs)):=by
  show decide (0<=i)=decide (r∈zs)
  rcases hi with⟨h1,h2⟩ | ⟨rfl,h2⟩
  .simp[h1,h2]
  .simp[h2]
 clear hi b0 b1 b2 b3 b4 b5 b6 b7;go_wp2;go_ret;exact⟨by rw[HX.out];rfl,qD5 hb1⟩
end
theorem QG4(a b:Nat)(ha:a<256)(hb:b<256):bits .or .i64 (a:Int) (b:Int)=((a ||| b:Nat):Int):=by
 have hx:a ||| b<2 ^ 8:=Nat.or_lt_two_pow (by omega) (by omega);have ea:(BitVec.ofInt 64 (a:Int)).toNat=a:=by rw[kZ,BitVec.toNat_ofNat];exact Nat.mod_eq_of_lt (by omega)
 have eb:(BitVec.ofInt 64 (b:Int)).toNat=b:=by rw[kZ,BitVec.toNat_ofNat];exact Nat.mod_eq_of_lt (by omega)
 show IntKind.i64.wrap ((BitVec.ofInt 64 (a:Int) ||| BitVec.ofInt 64 (b:Int)).toNat:Int)=_
 rw[BitVec.toNat_or,ea,eb,kG];omega
theorem QS3(a b:Nat)(ha:a<256)(hb:b<256):bits .and .i64 (a:Int) (b:Int)=((a &&& b:Nat):Int):=by
 have hx:a &&& b<2 ^ 8:=Nat.and_lt_two_pow _ (by omega);have ea:(BitVec.ofInt 64 (a:Int)).toNat=a:=by rw[kZ,BitVec.toNat_ofNat];exact Nat.mod_eq_of_lt (by omega)
 have eb:(BitVec.ofInt 64 (b:Int)).toNat=b:=by rw[kZ,BitVec.toNat_ofNat];exact Nat.mod_eq_of_lt (by omega)
 show IntKind.i64.wrap ((BitVec.ofInt 64 (a:Int) &&& BitVec.ofInt 64 (b:Int)).toNat:Int)=_
 rw[BitVec.toNat_and,ea,eb,kG];omega
def qL0(s:Int):Prop:=0<=s/\s<=255
abbrev orI(a b:Int):Int:=bits .or .i64 a b
abbrev qLk(a b:Int):Int:=bits .and .i64 a b
theorem qBO{a b:Int}(ha:qL0 a)(hb:qL0 b):qL0 (orI a b):=by
 obtain⟨A,rfl⟩:=gP ha.1;obtain⟨B,rfl⟩:=gP hb.1;have h1:=ha.2;have h2:=hb.2;have hx:A ||| B<2 ^ 8:=Nat.or_lt_two_pow (by omega) (by omega);rw[orI,QG4 A B (by omega) (by omega)];exact⟨by omega,by omega⟩
theorem qNL{a b:Int}(ha:qL0 a)(hb:qL0 b):qL0 (qLk a b):=by
 obtain⟨A,rfl⟩:=gP ha.1;obtain⟨B,rfl⟩:=gP hb.1;have h1:=ha.2;have h2:=hb.2;have hx:A &&& B<2 ^ 8:=Nat.and_lt_two_pow _ (by omega);rw[qLk,QS3 A B (by omega) (by omega)];exact⟨by omega,by omega⟩
theorem QR0{a b:Int}(ha:qL0 a)(hb:qL0 b)(p:Int):qI8 (orI a b) p=(qI8 a p || qI8 b p):=by
 obtain⟨A,rfl⟩:=gP ha.1;obtain⟨B,rfl⟩:=gP hb.1;have h1:=ha.2;have h2:=hb.2;rw[orI,QG4 A B (by omega) (by omega)];simp[qI8]
theorem qKh{a b:Int}(ha:qL0 a)(hb:qL0 b)(p:Int):qI8 (qLk a b) p=(qI8 a p&&qI8 b p):=by
 obtain⟨A,rfl⟩:=gP ha.1;obtain⟨B,rfl⟩:=gP hb.1;have h1:=ha.2;have h2:=hb.2;rw[qLk,QS3 A B (by omega) (by omega)];simp[qI8]
theorem QH4(p:Int):qI8 0 p=false:=by simp[qI8]
theorem qHQ{a b:Int}(ha:qL0 a)(hb:qL0 b)(h:∀p,1<=p->p<=8->qI8 a p=qI8 b p):a=b:=by
 obtain⟨A,rfl⟩:=gP ha.1;obtain⟨B,rfl⟩:=gP hb.1;have h1:=ha.2;have h2:=hb.2
 have e:A=B:=by
  apply Nat.eq_of_testBit_eq;intro i;by_cases q:i<8
  .have:=h ((i:Int)+1) (by omega) (by omega);simpa[qI8] using this
  .have hi:256<=2 ^ i:=by
    have : 2 ^ 8<=2 ^ i:=Nat.pow_le_pow_right (by omega) (by omega);omega
   rw[Nat.testBit_lt_two_pow (by omega),Nat.testBit_lt_two_pow (by omega)]
 rw[e]
theorem qJz{a b:Int}(ha:qL0 a)(hb:qL0 b):a<=orI a b:=by
 obtain⟨A,rfl⟩:=gP ha.1;obtain⟨B,rfl⟩:=gP hb.1;have h1:=ha.2;have h2:=hb.2;rw[orI,QG4 A B (by omega) (by omega)];have : A<=A ||| B:=Nat.left_le_or;omega
theorem qNq{a b:Int}(ha:qL0 a)(hb:qL0 b)(h:1<=b):1<=orI a b:=by
 obtain⟨A,rfl⟩:=gP ha.1;obtain⟨B,rfl⟩:=gP hb.1;have h1:=ha.2;have h2:=hb.2;rw[orI,QG4 A B (by omega) (by omega)];have : B<=A ||| B:=Nat.right_le_or;omega
theorem qNJ{p:Int}(h0:1<=p)(h1:p<=8):qL0 (qGd p):=by
 have hi:2 ^ (p - 1).toNat<=2 ^ 7:=Nat.pow_le_pow_right (by omega) (by omega);unfold qGd qL0;generalize 2 ^ (p - 1).toNat=n at *
 omega
theorem qKg{p q:Int}(h0:1<=p)(k0:1<=q):qI8 (qGd p) q=decide (q=p):=by
 unfold qGd qI8;rw[kS,Nat.testBit_two_pow];by_cases e:q=p
 .subst e;simp
 .rw[jL e,jL];omega
abbrev GrI:=RoI × Int
def ofG:List GrI->RoI->Int
 | [],_=>0
 | x::xs,r=>if x.1=r then x.2 else ofG xs r
def QM2:List GrI->RoI->Int->List GrI
 | [],r,s=>[(r,s)]
 | x::xs,r,s=>if x.1=r then (r,orI x.2 s)::xs else if ltR r x.1=true then (r,s)::x::xs else x::QM2 xs r s
structure SG (gs:List GrI):Prop where
 up:gs.Pairwise (fun a b=>ltR a.1 b.1=true)
 ro:∀x∈gs,qD1 x.1.1 x.1.2=true
 st:∀x∈gs,1<=x.2/\x.2<=255
theorem qNj:SG []:=⟨List.Pairwise.nil,fun _ h=>by simp at h,fun _ h=>by simp at h⟩
theorem SG.tail{x:GrI}{xs:List GrI}(h:SG (x::xs)):SG xs:=⟨(jN.1 h.up).2,fun y hy=>h.ro y (by simp[hy]),fun y hy=>h.st y (by simp[hy])⟩
theorem QA7{gs:List GrI}(h:SG gs)(r:RoI):qL0 (ofG gs r):=by
 induction gs with
 | nil=>exact⟨by simp[ofG],by simp[ofG]⟩
 | cons x xs ih =>
  unfold ofG;split
  .have:=h.st x (by simp);exact⟨by omega,by omega⟩
  .exact ih h.tail
theorem qEY{gs:List GrI}{r:RoI}(h:∀x∈gs,x.1≠r):ofG gs r=0:=by
 induction gs with
 | nil=>rfl
 | cons x xs ih =>
  unfold ofG;rw[gI (h x (by simp))];exact ih (fun y hy=>h y (by simp[hy]))
theorem qCs{gs:List GrI}(h:SG gs){x:GrI}(hx:x∈gs):ofG gs x.1=x.2:=by
 induction gs with
 | nil=>cases hx
 | cons y ys ih =>
  unfold ofG;rcases gX.1 hx with rfl | hx'
  .simp
  .have:=(jN.1 h.up).1 x hx';rw[gI (fun e=>by rw[e,qO4]at this;cases this)];exact ih h.tail hx'
theorem qKC{gs:List GrI}{r:RoI}(h:ofG gs r≠0):(r,ofG gs r)∈gs:=by
 induction gs with
 | nil=>exact absurd rfl h
 | cons y ys ih =>
  unfold ofG at h ⊢
  split
  .rename_i e;rw[<- e];simp
  .rename_i e;rw[gI e]at h;exact List.mem_cons_of_mem _ (ih h)
theorem qNl{a b:List GrI}(ha:SG a)(hb:SG b)(h:∀r,ofG a r=ofG b r):a=b:=by
 have key:∀ {c:List GrI},SG c->∀r,r∈c.map Prod.fst↔ofG c r≠0:=by
  intro c hc r;constructor
  .intro hr;obtain⟨x,hx,rfl⟩:=kU.1 hr;rw[qCs hc hx];have:=hc.st x hx;omega
  .intro hr;exact kU.2 ⟨_,qKC hr,rfl⟩
 have e:a.map Prod.fst=b.map Prod.fst:=by
  refine qBA _ _ (List.pairwise_map.2 ha.up) (List.pairwise_map.2 hb.up) (fun r=>?_);rw[key ha r,key hb r,h r]
 have back:∀ {c:List GrI},SG c->c=(c.map Prod.fst).map (fun r=>(r,ofG c r)):=by
  intro c hc;rw[List.map_map];conv=>lhs;rw[<- List.map_id c]
  refine List.map_congr_left (fun x hx=>?_);simp[qCs hc hx]
 rw[back ha,back hb,e];exact List.map_congr_left (fun r _=>by rw[h r])
theorem qMx{gs:List GrI}{r:RoI}{s:Int}{q:RoI}(hq:ltR q r=true)(h:∀x∈gs,ltR q x.1=true):∀x∈QM2 gs r s,ltR q x.1=true:=by
 induction gs with
 | nil =>
  intro x hx;simp[QM2]at hx;rw[hx];exact hq
 | cons y ys ih =>
  intro x hx;unfold QM2 at hx;split at hx
  .rcases gX.1 hx with rfl | hx'
   .exact hq
   .exact h x (by simp[hx'])
  .split at hx
   .rcases gX.1 hx with rfl | hx'
    .exact hq
    .exact h x hx'
   .rcases gX.1 hx with rfl | hx'
    .exact h x (by simp)
    .exact ih (fun z hz=>h z (by simp[hz])) x hx'
theorem qNk{gs:List GrI}(h:SG gs){r:RoI}{s:Int}(hr:qD1 r.1 r.2=true)(hs:1<=s/\s<=255):SG (QM2 gs r s):=by
 induction gs with
 | nil=>exact⟨by simp[QM2],fun x hx=>by simp[QM2]at hx;rw[hx];exact hr,fun x hx=>by simp[QM2]at hx;rw[hx];exact hs⟩
 | cons y ys ih =>
  have hp:=jN.1 h.up;have hy:=h.st y (by simp);unfold QM2;split
  .rename_i e;refine⟨jN.2 ⟨fun x hx=>by rw[<- e];exact hp.1 x hx,hp.2⟩,fun x hx=>?_,fun x hx=>?_⟩
   .rcases gX.1 hx with rfl | hx'
    .exact hr
    .exact h.ro x (by simp[hx'])
   .rcases gX.1 hx with rfl | hx'
    .exact⟨qNq ⟨by omega,by omega⟩ ⟨by omega,by omega⟩ hs.1,(qBO (a:=y.2) (b:=s) ⟨by omega,by omega⟩ ⟨by omega,by omega⟩).2⟩
    .exact h.st x (by simp[hx'])
  .split
   .rename_i e q;refine⟨jN.2 ⟨fun x hx=>?_,h.up⟩,fun x hx=>?_,fun x hx=>?_⟩
    .rcases gX.1 hx with rfl | hx'
     .exact q
     .exact QG6 q (hp.1 x hx')
    .rcases gX.1 hx with rfl | hx'
     .exact hr
     .exact h.ro x hx'
    .rcases gX.1 hx with rfl | hx'
     .exact hs
     .exact h.st x hx'
   .rename_i e q;have i:=ih h.tail;have q2:ltR y.1 r=true:=qIB (by simpa using q) (fun e2=>e e2.symm);refine⟨jN.2 ⟨qMx q2 hp.1,i.up⟩,fun x hx=>?_,fun x hx=>?_⟩
    .rcases gX.1 hx with rfl | hx'
     .exact h.ro x (by simp)
     .exact i.ro x hx'
    .rcases gX.1 hx with rfl | hx'
     .exact h.st x (by simp)
     .exact i.st x hx'
theorem qGr{s:Int}(hs:qL0 s):orI 0 s=s:=by
 obtain⟨B,rfl⟩:=gP hs.1;have h2:=hs.2;have:=QG4 0 B (by omega) (by omega);simpa using this
theorem qMa{gs:List GrI}(h:SG gs){r:RoI}{s:Int}(hs:1<=s/\s<=255)(r':RoI):ofG (QM2 gs r s) r'=if r'=r then orI (ofG gs r) s else ofG gs r':=by
 induction gs with
 | nil =>
  simp only[QM2,ofG];by_cases e:r'=r
  .subst e;simp[qGr ⟨by omega,hs.2⟩]
  .rw[gI (fun e2=>e e2.symm),gI e]
 | cons y ys ih =>
  have hp:=jN.1 h.up;unfold QM2;by_cases e:y.1=r
  .rw[gK e];unfold ofG;by_cases e2:r'=r
   .subst e2;simp[e]
   .rw[gI (fun q=>e2 q.symm),gI e2,gI (fun q=>e2 (by rw[<- q,e]))]
  .rw[gI e];by_cases q:ltR r y.1=true
   .rw[gK q];by_cases e2:r'=r
    .subst e2
     have n:ofG (y::ys) r'=0:=by
      refine qEY (fun x hx e3=>?_)
      have : ltR r' x.1=true:=by
       rcases gX.1 hx with rfl | hx'
       .exact q
       .exact QG6 q (hp.1 x hx')
      rw[e3,qO4]at this;cases this
     rw[n,gK rfl,qGr ⟨by omega,hs.2⟩];simp[ofG]
    .rw[gI e2];show ofG ((r,s)::y::ys) r'=_
     rw[ofG,gI (fun q=>e2 q.symm)]
   .rw[gI q,ofG,ih h.tail];by_cases e2:r'=r
    .subst e2;simp[e,ofG]
    .simp[e2,ofG]
theorem QV2:∀(l:List Int) (a b:Int),l.Pairwise (· < ·)->(∀x∈l,a<=x/\x<b)->(l.length:Int)<=max 0 (b-a)
 | [],a,b,_,_=>by simp;omega
 | x::xs,a,b,h,k=>by
  have hp:=jN.1 h;have hx:=k x (by simp);have:=QV2 xs (x+1) b hp.2 (fun y hy=>⟨by have:=hp.1 y hy;omega,(k y (by simp[hy])).2⟩);simp only[jX];omega
theorem QU8{gs:List GrI}(h:SG gs):gs.length<=40:=by
 have hb:∀x∈gs,1<=x.1.1/\x.1.1<=8/\1<=x.1.2/\x.1.2<=5:=by
  intro x hx;have:=h.ro x hx;simp[qD1,qV2,qW1]at this;omega
 have:=QV2 (gs.map (fun x=>x.1.1*5+x.1.2)) 6 46 (List.pairwise_map.2 (h.up.imp_of_mem (fun {a b} ha hb' q=>?_))) (fun y hy=>?_)
 .simp at this;omega
 .have h1:=hb a ha;have h2:=hb b hb';simp[ltR]at q;omega
 .obtain⟨x,hx,rfl⟩:=kU.1 hy;have:=hb x hx;omega
def qU8(gs:List GrI):Int:=(gs.map Prod.snd).sum
theorem qLt{gs:List GrI}(h:SG gs){r:RoI}{s:Int}(hs:1<=s/\s<=255):qU8 gs<=qU8 (QM2 gs r s)/\(qU8 gs=qU8 (QM2 gs r s)->QM2 gs r s=gs):=by
 induction gs with
 | nil=>simp[qU8,QM2];omega
 | cons y ys ih =>
  have hy:=h.st y (by simp);have i:=ih h.tail;unfold QM2;by_cases e:y.1=r
  .rw[gK e];have:=qJz (a:=y.2) (b:=s) ⟨by omega,by omega⟩ ⟨by omega,by omega⟩;simp only[qU8,List.map_cons,List.sum_cons];refine⟨by omega,fun q=>?_⟩;have : orI y.2 s=y.2:=by omega
   rw[this,<- e]
  .rw[gI e];by_cases q:ltR r y.1=true
   .rw[gK q];simp only[qU8,List.map_cons,List.sum_cons];exact⟨by omega,fun q=>by omega⟩
   .rw[gI q];simp only[qU8,List.map_cons,List.sum_cons]at i ⊢
    refine⟨by omega,fun q=>?_⟩;rw[i.2 (by omega)]
theorem qNe{gs:List GrI}(h:∀x∈gs,1<=x.2/\x.2<=255):0<=qU8 gs/\qU8 gs<=255*gs.length:=by
 induction gs with
 | nil=>simp[qU8]
 | cons y ys ih =>
  have hy:=h y (by simp);have i:=ih (fun x hx=>h x (by simp[hx]));simp only[qU8,List.map_cons,List.sum_cons,jX]at i ⊢
  omega
theorem qLI{gs:List GrI}(h:SG gs):0<=qU8 gs/\qU8 gs<=10200:=by
 have:=qNe h.st;have:=QU8 h;omega
def qK3(r:RoI)(s:Int)(o:List GrI × Bool)(x:GrI):List GrI × Bool :=
 if x.1=r then (o.1++[(x.1,orI x.2 s)],true)
 else if o.2=false/\ltR r x.1=true then (o.1++[(r,s),x],true)
 else (o.1++[x],o.2)
def qR9(gs:List GrI)(r:RoI)(s:Int)(k:Nat):List GrI × Bool:=(gs.take k).foldl (qK3 r s) ([],false)
theorem QY2(gs:List GrI)(r:RoI)(s:Int):qR9 gs r s 0=([],false):=by simp[qR9]
theorem QY3{gs:List GrI}{k:Nat}{x:GrI}(h:gs[k]?=some x)(r:RoI)(s:Int):qR9 gs r s (k+1)=qK3 r s (qR9 gs r s k) x:=by
 have hk:k<gs.length:=by
  by_cases q:k<gs.length
  .exact q
  .rw[gE (by omega)]at h;cases h
 have e:gs[k]=x:=by rw[gA hk]at h;exact gJ h
 rw[qR9,jR hk,List.foldl_append,e];rfl
def QY4(r:RoI)(s:Int)(o:List GrI × Bool):List GrI:=if o.2=true then o.1 else o.1++[(r,s)]
theorem qAj(r:RoI)(s:Int):∀(gs o:List GrI),(∀x∈gs,x.1≠r)->gs.foldl (qK3 r s) (o,true)=(o++gs,true)
 | [],o,_=>by simp
 | x::xs,o,h=>by
  rw[List.foldl_cons];have : qK3 r s (o,true) x=(o++[x],true):=by simp[qK3,h x (by simp)]
  rw[this,qAj r s xs _ (fun y hy=>h y (by simp[hy]))];simp
theorem qFG(r:RoI)(s:Int):∀(gs o:List GrI),SG gs->QY4 r s (gs.foldl (qK3 r s) (o,false))=o++QM2 gs r s
 | [],o,_=>by simp[QY4,QM2]
 | x::xs,o,h=>by
  have hp:=jN.1 h.up;rw[List.foldl_cons];by_cases e:x.1=r
  .have : qK3 r s (o,false) x=(o++[(r,orI x.2 s)],true):=by simp[qK3,e]
   rw[this,qAj r s xs _ (fun y hy q=>by have:=hp.1 y hy;rw[q,e,qO4]at this;cases this)];simp[QY4,QM2,e]
  .by_cases q:ltR r x.1=true
   .have : qK3 r s (o,false) x=(o++[(r,s),x],true):=by simp[qK3,e,q]
    rw[this,qAj r s xs _ (fun y hy q2=>by have:=QG6 q (hp.1 y hy);rw[q2,qO4]at this;cases this)];simp[QY4,QM2,e,q]
   .have : qK3 r s (o,false) x=(o++[x],false):=by simp[qK3,e,q]
    rw[this,qFG r s xs _ h.tail];simp[QM2,e,q]
theorem qJJ{gs:List GrI}(h:SG gs)(r:RoI)(s:Int):QY4 r s (qR9 gs r s gs.length)=QM2 gs r s:=by
 rw[qR9,kQ,qFG r s gs [] h];simp
def qL5(f:RoI->Int)(n:Int)(ys:List Int)(k:Nat):Int:=(ys.take k).foldl (fun o y=>orI o (f (y,n))) 0
theorem qDA(f:RoI->Int)(n:Int)(ys:List Int):qL5 f n ys 0=0:=by simp[qL5]
theorem qDB{ys:List Int}{k:Nat}{y:Int}(h:ys[k]?=some y)(f:RoI->Int)(n:Int):qL5 f n ys (k+1)=orI (qL5 f n ys k) (f (y,n)):=by
 have hk:k<ys.length:=by
  by_cases q:k<ys.length
  .exact q
  .rw[gE (by omega)]at h;cases h
 have e:ys[k]=y:=by rw[gA hk]at h;exact gJ h
 rw[qL5,jR hk,List.foldl_append,e];rfl
theorem QG9{f:RoI->Int}(hf:∀r,qL0 (f r))(n:Int):∀(ys:List Int) (o:Int),qL0 o->qL0 (ys.foldl (fun o y=>orI o (f (y,n))) o)/\∀p,qI8 (ys.foldl (fun o y=>orI o (f (y,n))) o) p=(qI8 o p || ys.any (fun y=>qI8 (f (y,n)) p))
 | [],o,ho=>⟨ho,fun p=>by simp⟩
 | y::ys,o,ho=>by
  have:=QG9 hf n ys (orI o (f (y,n))) (qBO ho (hf _));refine⟨this.1,fun p=>?_⟩;rw[List.foldl_cons,this.2 p,QR0 ho (hf _),List.any_cons,Bool.or_assoc]
theorem qFx{f:RoI->Int}(hf:∀r,qL0 (f r))(n:Int)(ys:List Int)(k:Nat):qL0 (qL5 f n ys k):=(QG9 hf n (ys.take k) 0 ⟨by omega,by omega⟩).1
theorem qK6{s x:Int}:∀ {k:Nat},x∈qB3 s k↔1<=x/\x<=(k:Int)/\qI8 s x=true
 | 0=>by simp[qB3];omega
 | k+1=>by
  unfold qB3;split
  .rename_i h;rw[kL,List.mem_singleton,qK6 (k:=k)];constructor
   .rintro (q | rfl)
    .exact⟨q.1,by omega,q.2.2⟩
    .exact⟨by omega,by omega,h⟩
   .rintro⟨q1,q2,q3⟩;by_cases e:x=(k:Int)+1
    .exact .inr e
    .exact .inl ⟨q1,by omega,q3⟩
  .rename_i h;rw[qK6 (k:=k)];constructor
   .rintro⟨q1,q2,q3⟩;exact⟨q1,by omega,q3⟩
   .rintro⟨q1,q2,q3⟩;by_cases e:x=(k:Int)+1
    .subst e;exact absurd q3 h
    .exact⟨q1,by omega,q3⟩
theorem QW7(s:Int):∀k,(qB3 s k).length<=k
 | 0=>by simp[qB3]
 | k+1=>by
  have:=QW7 s k;unfold qB3;split
  .simp;omega
  .omega
def byF(f:RoI->Int)(r:qA1):Int :=
 if r.k=1 then qGd r.w
 else if r.k=2 then f (r.oo,r.on)
 else if r.k=4 then qLk (f (r.oo,r.on)) (f (r.to,r.tn))
 else qL5 f r.tn (qB3 (f (r.oo,r.on)) 8) (qB3 (f (r.oo,r.on)) 8).length
def qV6(m:RoI->Int->Prop)(r:qA1)(p:Int):Prop :=
 if r.k=1 then p=r.w
 else if r.k=2 then m (r.oo,r.on) p
 else if r.k=4 then m (r.oo,r.on) p/\m (r.to,r.tn) p
 else ∃q,1<=q/\q<=8/\m (r.oo,r.on) q/\m (q,r.tn) p
def okR(r:qA1):Prop:=qD1 r.ho r.hn=true/\(r.k=1->1<=r.w/\r.w<=8)
theorem QS1{f:RoI->Int}(hf:∀r,qL0 (f r)){r:qA1}(hr:okR r):qL0 (byF f r):=by
 unfold byF;split
 .rename_i e;exact qNJ (hr.2 e).1 (hr.2 e).2
 .split
  .exact hf _
  .split
   .exact qNL (hf _) (hf _)
   .exact qFx hf _ _ _
theorem qDm{f:RoI->Int}(hf:∀r,qL0 (f r)){r:qA1}(hr:okR r){p:Int}(hp:1<=p):qI8 (byF f r) p=true↔qV6 (fun r p=>qI8 (f r) p=true) r p:=by
 unfold byF qV6;split
 .rename_i e;rw[qKg (hr.2 e).1 hp];simp
 .split
  .exact Iff.rfl
  .split
   .rw[qKh (hf _) (hf _)];simp
   .rw[qL5,kQ,(QG9 hf r.tn _ 0 ⟨by omega,by omega⟩).2 p,QH4,Bool.false_or,List.any_eq_true];constructor
    .rintro⟨q,hq,h⟩;have:=qK6.1 hq;exact⟨q,this.1,this.2.1,this.2.2,h⟩
    .rintro⟨q,h1,h2,h3,h4⟩;exact⟨q,qK6.2 ⟨h1,h2,h3⟩,h4⟩
theorem QX5{m m':RoI->Int->Prop}(h:∀r p,1<=p->m r p->m' r p){r:qA1}{p:Int}(hp:1<=p)(g:qV6 m r p):qV6 m' r p:=by
 unfold qV6 at g ⊢
 split
 .rename_i e;rw[gK e]at g;exact g
 .rename_i e;rw[gI e]at g;split
  .rename_i e;rw[gK e]at g;exact h _ _ hp g
  .rename_i e;rw[gI e]at g;split
   .rename_i e;rw[gK e]at g;exact⟨h _ _ hp g.1,h _ _ hp g.2⟩
   .rename_i e;rw[gI e]at g;obtain⟨q,h1,h2,h3,h4⟩:=g;exact⟨q,h1,h2,h _ _ h1 h3,h _ _ hp h4⟩
def QS6(gs:List GrI)(r:RoI)(s:Int):List GrI:=if s=0 then gs else QM2 gs r s
theorem qNm{gs:List GrI}(h:SG gs){r:RoI}{s:Int}(hr:qD1 r.1 r.2=true)(hs:qL0 s):SG (QS6 gs r s):=by
 unfold QS6;split
 .exact h
 .have:=hs.1;exact qNk h hr ⟨by omega,hs.2⟩
theorem qMz{gs:List GrI}(h:SG gs){r:RoI}{s:Int}(hs:qL0 s)(r':RoI)(p:Int):qI8 (ofG (QS6 gs r s) r') p=true↔qI8 (ofG gs r') p=true\/(r=r'/\qI8 s p=true):=by
 unfold QS6;split
 .rename_i e;subst e;simp[QH4]
 .have:=hs.1;rw[qMa h ⟨by omega,hs.2⟩];split
  .rename_i e;subst e;rw[QR0 (QA7 h _) hs];simp
  .rename_i e;constructor
   .exact fun q => .inl q
   .rintro (q | q)
    .exact q
    .exact absurd q.1.symm e
theorem qLu{gs:List GrI}(h:SG gs){r:RoI}{s:Int}(hs:qL0 s):qU8 gs<=qU8 (QS6 gs r s)/\(qU8 gs=qU8 (QS6 gs r s)->QS6 gs r s=gs):=by
 unfold QS6;split
 .exact⟨by omega,fun _=>rfl⟩
 .have:=hs.1;exact qLt h ⟨by omega,hs.2⟩
def qO1(zs:List qA1)(gs:List GrI)(k:Nat):List GrI:=(zs.take k).foldl (fun o z=>QS6 o (z.ho,z.hn) (byF (ofG gs) z)) gs
def qO3(zs:List qA1)(gs:List GrI):List GrI:=qO1 zs gs zs.length
theorem QN5(zs:List qA1)(gs:List GrI):qO1 zs gs 0=gs:=by simp[qO1]
theorem qCc{zs:List qA1}{k:Nat}{z:qA1}(h:zs[k]?=some z)(gs:List GrI):qO1 zs gs (k+1)=QS6 (qO1 zs gs k) (z.ho,z.hn) (byF (ofG gs) z):=by
 have hk:k<zs.length:=by
  by_cases q:k<zs.length
  .exact q
  .rw[gE (by omega)]at h;cases h
 have e:zs[k]=z:=by rw[gA hk]at h;exact gJ h
 rw[qO1,jR hk,List.foldl_append,e];rfl
theorem QA3{gs:List GrI}(hg:SG gs):∀(zs:List qA1) (o:List GrI),(∀z∈zs,okR z)->SG o ->
  SG (zs.foldl (fun o z=>QS6 o (z.ho,z.hn) (byF (ofG gs) z)) o) /\
  (∀r p,qI8 (ofG (zs.foldl (fun o z=>QS6 o (z.ho,z.hn) (byF (ofG gs) z)) o) r) p=true↔qI8 (ofG o r) p=true\/∃z∈zs,(z.ho,z.hn)=r/\qI8 (byF (ofG gs) z) p=true) /\
  qU8 o<=qU8 (zs.foldl (fun o z=>QS6 o (z.ho,z.hn) (byF (ofG gs) z)) o) /\
  (qU8 o=qU8 (zs.foldl (fun o z=>QS6 o (z.ho,z.hn) (byF (ofG gs) z)) o)->zs.foldl (fun o z=>QS6 o (z.ho,z.hn) (byF (ofG gs) z)) o=o)
 | [],o,_,ho=>⟨ho,fun r p=>by simp,by simp,by simp⟩
 | z::zs,o,hz,ho=>by
  have hs:=QS1 (QA7 hg) (hz z (by simp));have h1:=qNm ho (r:=(z.ho,z.hn)) (hz z (by simp)).1 hs;have h2:=qLu ho (r:=(z.ho,z.hn)) hs;obtain⟨i1,i2,i3,i4⟩:=QA3 hg zs _ (fun y hy=>hz y (by simp[hy])) h1;rw[List.foldl_cons];refine⟨i1,fun r p=>?_,by omega,fun q=>?_⟩
  .rw[i2 r p,qMz ho hs];constructor
   .rintro ((q | q) | ⟨y,hy,q⟩)
    .exact .inl q
    .exact .inr ⟨z,by simp,q⟩
    .exact .inr ⟨y,by simp[hy],q⟩
   .rintro (q | ⟨y,hy,q⟩)
    .exact .inl (.inl q)
    .rcases gX.1 hy with rfl | hy'
     .exact .inl (.inr q)
     .exact .inr ⟨y,hy',q⟩
  .have q1:qU8 o=qU8 (QS6 o (z.ho,z.hn) (byF (ofG gs) z)):=by omega
   have e:=h2.2 q1;rw[i4 (by omega),e]
theorem qHN{zs:List qA1}{gs:List GrI}(hz:∀z∈zs,okR z)(hg:SG gs):SG (qO3 zs gs):=by
 unfold qO3 qO1;rw[kQ];exact (QA3 hg zs gs hz hg).1
theorem qHM{zs:List qA1}{gs:List GrI}(hz:∀z∈zs,okR z)(hg:SG gs)(k:Nat):SG (qO1 zs gs k) :=
 (QA3 hg (zs.take k) gs (fun z h=>hz z (List.mem_of_mem_take h)) hg).1
theorem qEw{zs:List qA1}{gs:List GrI}(hz:∀z∈zs,okR z)(hg:SG gs)(r:RoI)(p:Int):qI8 (ofG (qO3 zs gs) r) p=true↔qI8 (ofG gs r) p=true\/∃z∈zs,(z.ho,z.hn)=r/\qI8 (byF (ofG gs) z) p=true:=by
 unfold qO3 qO1;rw[kQ];exact (QA3 hg zs gs hz hg).2.1 r p
theorem qEE{zs:List qA1}{gs:List GrI}(hz:∀z∈zs,okR z)(hg:SG gs):qU8 gs<=qU8 (qO3 zs gs)/\(qU8 gs=qU8 (qO3 zs gs)->qO3 zs gs=gs):=by
 unfold qO3 qO1;rw[kQ];exact (QA3 hg zs gs hz hg).2.2
def itG(zs:List qA1):Nat->List GrI
 | 0=>[]
 | n+1=>qO3 zs (itG zs n)
theorem QK8{zs:List qA1}(hz:∀z∈zs,okR z):∀n,SG (itG zs n)
 | 0=>qNj
 | n+1=>qHN hz (QK8 hz n)
def InN(zs:List qA1)(n:Nat)(r:RoI)(p:Int):Prop:=qI8 (ofG (itG zs n) r) p=true
theorem qAK{zs:List qA1}(hz:∀z∈zs,okR z)(n:Nat)(r:RoI){p:Int}(hp:1<=p):InN zs (n+1) r p↔InN zs n r p\/∃z∈zs,(z.ho,z.hn)=r/\qV6 (InN zs n) z p:=by
 unfold InN;rw[itG,qEw hz (QK8 hz n)];refine or_congr_right (exists_congr (fun z=>and_congr_right (fun h=>and_congr_right (fun _=>?_))));exact qDm (QA7 (QK8 hz n)) (hz z h) hp
theorem QM3{zs:List qA1}(hz:∀z∈zs,okR z){n k:Nat}(h:n<=k){r:RoI}{p:Int}(hp:1<=p)(g:InN zs n r p):InN zs k r p:=by
 induction h with
 | refl=>exact g
 | step _ ih=>exact (qAK hz _ r hp).2 (.inl ih)
def Has(zs:List qA1)(r:RoI)(p:Int):Prop:=∃n,InN zs n r p
theorem qIb{zs:List qA1}(hz:∀z∈zs,okR z){m:RoI->Int->Prop}(h:∀z∈zs,∀p,1<=p->qV6 m z p->m (z.ho,z.hn) p){r:RoI}{p:Int}(hp:1<=p)(g:Has zs r p):m r p:=by
 obtain⟨n,g⟩:=g;induction n generalizing r p with
 | zero=>simp[InN,itG,ofG,QH4]at g
 | succ n ih =>
  rcases (qAK hz n r hp).1 g with q | ⟨z,h1,h2,h3⟩
  .exact ih hp q
  .rw[<- h2];exact h z h1 p hp (QX5 (fun r p hp q=>ih hp q) hp h3)
theorem qIf{zs:List qA1}(hz:∀z∈zs,okR z){z:qA1}(h:z∈zs){p:Int}(hp:1<=p)(g:qV6 (Has zs) z p):Has zs (z.ho,z.hn) p:=by
 have key:∃n,qV6 (InN zs n) z p:=by
  unfold qV6 at g ⊢
  by_cases e1:z.k=1
  .simp only[gK e1]at g ⊢;exact⟨0,g⟩
  .simp only[gI e1]at g ⊢
   by_cases e2:z.k=2
   .simp only[gK e2]at g ⊢;exact g
   .simp only[gI e2]at g ⊢
    by_cases e4:z.k=4
    .simp only[gK e4]at g ⊢
     obtain⟨⟨a,ha⟩,b,hb⟩:=g;exact⟨a+b,QM3 hz (by omega) hp ha,QM3 hz (by omega) hp hb⟩
    .simp only[gI e4]at g ⊢
     obtain⟨q,h1,h2,⟨a,ha⟩,b,hb⟩:=g;exact⟨a+b,q,h1,h2,QM3 hz (by omega) h1 ha,QM3 hz (by omega) hp hb⟩
 obtain⟨n,g⟩:=key;exact⟨n+1,(qAK hz n _ hp).2 (.inr ⟨z,h,rfl,g⟩)⟩
structure QM8 (zs:List qA1) (gs:List GrI):Prop where
 sg:SG gs
 al:∀r p,1<=p->p<=8->(qI8 (ofG gs r) p=true↔Has zs r p)
theorem QS4{zs:List qA1}{a b:List GrI}(ha:QM8 zs a)(hb:QM8 zs b):a=b:=by
 refine qNl ha.sg hb.sg (fun r=>qHQ (QA7 ha.sg r) (QA7 hb.sg r) (fun p h0 h1=>?_));rw[kX,ha.al r p h0 h1,hb.al r p h0 h1]
theorem qJH{zs:List qA1}(hz:∀z∈zs,okR z){gs:List GrI}(hg:SG gs)(hs:∀r p,1<=p->qI8 (ofG gs r) p=true->Has zs r p)(hc:∀z∈zs,∀p,1<=p->qI8 (byF (ofG gs) z) p=true->qI8 (ofG gs (z.ho,z.hn)) p=true):QM8 zs gs:=by
 refine⟨hg,fun r p h0 _=>⟨hs r p h0,fun g=>?_⟩⟩;refine qIb (m:=fun r p=>qI8 (ofG gs r) p=true) hz (fun z h p hp q=>?_) h0 g;exact hc z h p hp ((qDm (QA7 hg) (hz z h) hp).2 q)
theorem qJI{zs:List qA1}(hz:∀z∈zs,okR z){n:Nat}(h:qO3 zs (itG zs n)=itG zs n):QM8 zs (itG zs n):=by
 refine qJH hz (QK8 hz n) (fun r p _ q=>⟨n,q⟩) (fun z hzz p _ q=>?_);have:=(qEw hz (QK8 hz n) (z.ho,z.hn) p).2 (.inr ⟨z,hzz,rfl,q⟩);rw[h]at this;exact this
theorem qLb{zs:List qA1}(hz:∀z∈zs,okR z):∀(n:Nat),(∀k,k<n->qO3 zs (itG zs k)≠itG zs k)->(n:Int)<=qU8 (itG zs n)
 | 0,_=>by simp[itG,qU8]
 | n+1,h=>by
  have i:=qLb hz n (fun k hk=>h k (by omega));have s:=qEE hz (QK8 hz n);have : qU8 (itG zs n)≠qU8 (itG zs (n+1)):=fun e=>h n (by omega) (s.2 e)
  have:=s.1;simp only[itG]at *
  omega
theorem qPD{zs:List qA1}(hz:∀z∈zs,okR z){n:Nat}(h:∀k,k<n->qO3 zs (itG zs k)≠itG zs k):n<=10200:=by
 have:=qLb hz n h;have:=(qLI (QK8 hz n)).2;omega
theorem qMw{zs:List qA1}(hz:∀z∈zs,okR z):∃n,n<=10200/\qO3 zs (itG zs n)=itG zs n:=by
 refine Classical.byContradiction (fun hno=>?_);have:=qPD (zs:=zs) hz (n:=10201) (fun k hk e=>hno ⟨k,by omega,e⟩);omega
section
def qOW(w:World)(b o:Nat)(x:GrI):Prop:=w.cell? ⟨b,o,none⟩=some (iv x.1.1)/\w.cell? ⟨b,o+1,none⟩=some (iv x.1.2)/\w.cell? ⟨b,o+2,none⟩=some (iv x.2)
theorem qOW.below{w w':World}{B b o:Nat}{x:GrI}(h:qOW w b o x)(hb:Below B w w')(hB:b<B):qOW w' b o x :=
 ⟨(hb.cell (p:=⟨b,o,none⟩) hB).trans h.1,(hb.cell (p:=⟨b,o+1,none⟩) hB).trans h.2.1,(hb.cell (p:=⟨b,o+2,none⟩) hB).trans h.2.2⟩
def QF2(w:World)(a:Option Addr)(n:Nat)(gs:List GrI):Prop:=gs.length=n/\(0<n->∃b off,a=some ⟨b,off,none⟩/\∀k x,gs[k]?=some x->qOW w b (off+k*3) x)
theorem QF2.below{w w':World}{a:Option Addr}{n:Nat}{gs:List GrI}(h:QF2 w a n gs)(hb:Below w.heap.size w w'):QF2 w' a n gs:=by
 refine⟨h.1,fun hn=>?_⟩;obtain⟨b,off,e,k⟩:=h.2 hn;exact⟨b,off,e,fun j x hx=>(k j x hx).below hb (zL w ⟨b,off+j*3,none⟩ (k j x hx).1)⟩
theorem QF2.at{w:World}{a:Option Addr}{n:Nat}{gs:List GrI}(h:QF2 w a n gs){k:Nat}(hk:k<n):∃b off x,a=some ⟨b,off,none⟩/\gs[k]?=some x/\qOW w b (off+k*3) x/\b<w.heap.size:=by
 obtain⟨b,off,e,q⟩:=h.2 (by omega);have hx:=gA (l:=gs) (i:=k) (by rw[h.1];exact hk);exact⟨b,off,_,e,hx,q k _ hx,zL w ⟨b,off+k*3,none⟩ (q k _ hx).1⟩
theorem qEZ{gs:List GrI}{k:Nat}{x:GrI}(h:gs[k]?=some x)(r:RoI):ofG (gs.drop k) r=if x.1=r then x.2 else ofG (gs.drop (k+1)) r:=by
 have hk:k<gs.length:=by
  by_cases q:k<gs.length
  .exact q
  .rw[gE (by omega)]at h;cases h
 have e:gs[k]=x:=by rw[gA hk]at h;exact gJ h
 rw[List.drop_eq_getElem_cons hk,e];rfl
def qGq(p q:RoI):Bool:=p.1==q.1&&p.2==q.2
theorem qU6(p q:RoI):qGq p q=true↔p=q:=by
 obtain⟨a,b⟩:=p;obtain⟨c,d⟩:=q;simp[qGq]
theorem qEM(p q:RoI)(w:World):(binOp .eql 206 (.agg #[iv p.1,iv p.2]) (.agg #[iv q.1,iv q.2])).run prog w=.ok (.bool (qGq p q)) w:=by
 obtain⟨a0,a1⟩:=p;obtain⟨b0,b1⟩:=q;simp only[qGq];cases e0:(a0==b0)
 .simp[go_sem,e0]
 cases e1:(a1==b1)
 .simp[go_sem,e0,e1]
 .simp[go_sem,e0,e1]
attribute [local go_sem ↓] qEM
theorem QQ5(a:Option Addr)(n c:Nat)(gs:List GrI)(r:RoI)(w:World)(hg:QF2 w a n gs)(hn:n<=1048576):
  CP 173 #[.slice a n c,.agg #[iv r.1,iv r.2]] w fun e w'=>e=.returned (iv (ofG gs r))/\Below w.heap.size w w':=by
 have W0:Hid (QF2 (w.alloc (.cells #[iv r.1,iv r.2] 206)) a n gs):=hg.below (zN);have R0:Hid ((w.alloc (.cells #[iv r.1,iv r.2] 206)).cell? ⟨w.heap.size,0,none⟩=some (iv r.1)/\(w.alloc (.cells #[iv r.1,iv r.2] 206)).cell? ⟨w.heap.size,1,none⟩=some (iv r.2)):=⟨by simp,by simp⟩;clear hg;have hn':(n:Int)<=1048576:=by omega
 go_enter func173,ntmps173;go_wp2;go_loopw [5] (fun i wr=>∃k:Nat,k<=n/\i=iv (k:Int)/\ofG gs r=ofG (gs.drop k) r/\∃m,wr=(w.alloc (.cells #[iv r.1,iv r.2] 206)).drewN m) (fun i _=>n-(intOf i).toNat)
 case atStart=>exact⟨0,gH _,rfl,rfl,0,rfl⟩
 case round =>
  obtain⟨k,hk,rfl,hof,m,rfl⟩:=hrel;have HF:=hJJ hof;clear hof;by_cases hlt:k<n
  .obtain⟨b,off,x,e,hx,⟨c0,c1,c2⟩,hbl⟩:=W0.out.at hlt
   obtain⟨r0,r1⟩:=R0.out;subst e;have HX:=hJJ hx;clear hx;have hlt':(k:Int)<(n:Int):=by omega
   cases he:qGq x.1 r
   .have HE:Hid (ofG gs r=ofG (gs.drop (k+1)) r):=by
     show ofG gs r=_
     rw[HF.out,qEZ HX.out,gI (fun q=>by rw[(qU6 _ _).2 q]at he;cases he)]
    go_wp2;go_quiet (fail)
    go_wp2;exact⟨⟨k+1,by omega,by go_num,HE.out,_,rfl⟩,by simp[intOf];omega⟩
   .have HE:Hid (ofG gs r=x.2):=by
     show ofG gs r=_
     rw[HF.out,qEZ HX.out,gK ((qU6 _ _).1 he)]
    go_wp2;go_quiet (fail)
    go_wp2;go_ret;exact⟨by rw[HE.out];rfl,bdN (zN) _⟩
  .have hkn:k=n:=by omega
   subst hkn;go_wp2;go_ret;have : ofG gs r=0:=by rw[HF.out,List.drop_eq_nil_of_le (by rw[W0.out.1];exact gB _)];rfl
   exact⟨by rw[this];rfl,bdN (zN) _⟩
end
theorem qEV{r:qA1}(h:qA6 r=0):okR r/\1<=r.k/\r.k<=4:=by
 unfold qA6 at h;by_cases hk:1<=r.k/\r.k<=4
 .rw[gI (fun q=>q hk)]at h;cases hr:qD1 r.ho r.hn
  .simp[hr]at h
  .refine⟨⟨hr,fun e=>?_⟩,hk⟩;rw[gI (by rw[hr];simp)]at h;cases hb:QS2 r
   .simp[hb]at h
   .cases hh:QH5 r
    .simp[hb,hh]at h
    .unfold QH5 at hh;rw[gK e]at hh;simpa[qV2] using hh
 .rw[gK hk]at h;cases h
theorem QO5{zs:List qA1}:∀k,qL1 zs k=0->∀j z,j<k->zs[j]?=some z->qA6 z=0
 | 0,_,j,_,hj,_=>by omega
 | k+1,h,j,z,hj,hz=>by
  have h0:qL1 zs k=0:=by
   by_cases q:qL1 zs k=0
   .exact q
   .exact absurd (qS0 zs k (k+1) _ q rfl (by omega)) (by rw[h];exact fun e=>q e.symm)
  by_cases e:j=k
  .subst e;by_cases q:qA6 z=0
   .exact q
   .rw[QG2 zs j z hz h0 q]at h;exact h
  .exact QO5 k h0 j z (by omega) hz
theorem qHh{zs:List qA1}(h:qC3 zs=0):zs.length<=16/\∀z∈zs,okR z/\1<=z.k/\z.k<=4:=by
 unfold qC3 at h;split at h
 .cases h
 .refine⟨by omega,fun z hz=>?_⟩;obtain⟨j,hj⟩:=jW.1 hz
  have hl:j<zs.length:=by
   by_cases q:j<zs.length
   .exact q
   .rw[gE (by omega)]at hj;cases hj
  exact qEV (QO5 _ h j z hl hj)
theorem qOA(a:Option Addr)(n c:Nat)(gs:List GrI)(g off:Nat)(r:qA1)(w:World)(hg:QF2 w a n gs)(hn:n<=1048576)(hr:qC2 w g off r)(hs:∀q,qL0 (ofG gs q))(hk:okR r)(hk4:r.k=1):
  CP 229 #[.slice a n c,.pointer (some ⟨g,off,none⟩)] w fun e w'=>e=.returned (iv (byF (ofG gs) r))/\Below w.heap.size w w':=by
 have HG:=hJJ hg;have HX:=hJJ hr;have HS:=hJJ hs;have E:Hid (byF (ofG gs) r=qGd r.w):=by show byF (ofG gs) r=_;simp[byF,hk4]
 have hw:=hk.2 hk4;clear hk;clear hg hr hs;obtain⟨k,ho,hn0,wh,oo,on,t0,tn⟩:=r;have hb:Below w.heap.size w w:=gC _ _;obtain⟨h0,h1,h2,h3,h4,h5,h6,h7⟩:=HX.out.below hb;simp only at h0 h1 h2 h3 h4 h5 h6 h7 hk4 hw;subst hk4;go_enter func229,ntmps229;go_wp2_with (first | (go_at_call 173;refine (QQ5 _ _ _ gs (oo,on) _ (HG.out.below hb) hn).mono ?_;rintro e w1 ⟨rfl,hb1⟩;replace hb:=hb.trans (hb1.mono hb.size);clear h0 h1 h2 h3 h4 h5 h6 h7 hb1;obtain⟨h0,h1,h2,h3,h4,h5,h6,h7⟩:=HX.out.below hb;simp only at h0 h1 h2 h3 h4 h5 h6 h7) | (go_at_call 174;refine (qIT _ hw.1 hw.2 _).mono ?_;rintro e w2 ⟨rfl,rfl⟩))
 go_ret;exact⟨by rw[E.out];rfl,hb⟩
theorem qNz(a:Option Addr)(n c:Nat)(gs:List GrI)(g off:Nat)(r:qA1)(w:World)(hg:QF2 w a n gs)(hn:n<=1048576)(hr:qC2 w g off r)(hs:∀q,qL0 (ofG gs q))(hk:okR r)(hk4:r.k=2):
  CP 229 #[.slice a n c,.pointer (some ⟨g,off,none⟩)] w fun e w'=>e=.returned (iv (byF (ofG gs) r))/\Below w.heap.size w w':=by
 have HG:=hJJ hg;have HX:=hJJ hr;have HS:=hJJ hs;have E:Hid (byF (ofG gs) r=ofG gs (r.oo,r.on)):=by show byF (ofG gs) r=_;simp[byF,hk4]
 clear hk;clear hg hr hs;obtain⟨k,ho,hn0,wh,oo,on,t0,tn⟩:=r;have hb:Below w.heap.size w w:=gC _ _;obtain⟨h0,h1,h2,h3,h4,h5,h6,h7⟩:=HX.out.below hb;simp only at h0 h1 h2 h3 h4 h5 h6 h7 hk4;subst hk4;go_enter func229,ntmps229;go_wp2_with (first | (go_at_call 173;refine (QQ5 _ _ _ gs (oo,on) _ (HG.out.below hb) hn).mono ?_;rintro e w1 ⟨rfl,hb1⟩;replace hb:=hb.trans (hb1.mono hb.size);clear h0 h1 h2 h3 h4 h5 h6 h7 hb1;obtain⟨h0,h1,h2,h3,h4,h5,h6,h7⟩:=HX.out.below hb;simp only at h0 h1 h2 h3 h4 h5 h6 h7))
 go_ret;exact⟨by rw[E.out];rfl,hb⟩
theorem qNx(a:Option Addr)(n c:Nat)(gs:List GrI)(g off:Nat)(r:qA1)(w:World)(hg:QF2 w a n gs)(hn:n<=1048576)(hr:qC2 w g off r)(hs:∀q,qL0 (ofG gs q))(hk:okR r)(hk4:r.k=4):
  CP 229 #[.slice a n c,.pointer (some ⟨g,off,none⟩)] w fun e w'=>e=.returned (iv (byF (ofG gs) r))/\Below w.heap.size w w':=by
 have HG:=hJJ hg;have HX:=hJJ hr;have HS:=hJJ hs;have E:Hid (byF (ofG gs) r=qLk (ofG gs (r.oo,r.on)) (ofG gs (r.to,r.tn))):=by show byF (ofG gs) r=_;simp[byF,hk4]
 clear hk;clear hg hr hs;obtain⟨k,ho,hn0,wh,oo,on,t0,tn⟩:=r;have hb:Below w.heap.size w w:=gC _ _;obtain⟨h0,h1,h2,h3,h4,h5,h6,h7⟩:=HX.out.below hb;simp only at h0 h1 h2 h3 h4 h5 h6 h7 hk4;subst hk4;go_enter func229,ntmps229;go_upto_region 8 with (first | (go_at_call 173;refine (QQ5 _ _ _ gs (oo,on) _ (HG.out.below hb) hn).mono ?_;rintro e w1 ⟨rfl,hb1⟩;replace hb:=hb.trans (hb1.mono hb.size);clear h0 h1 h2 h3 h4 h5 h6 h7 hb1;obtain⟨h0,h1,h2,h3,h4,h5,h6,h7⟩:=HX.out.below hb;simp only at h0 h1 h2 h3 h4 h5 h6 h7))
 go_wp2_with (first | (go_at_call 173;refine (QQ5 _ _ _ gs (t0,tn) _ (HG.out.below hb) hn).mono ?_;rintro e w2 ⟨rfl,hb1⟩;replace hb:=hb.trans (hb1.mono hb.size);clear h0 h1 h2 h3 h4 h5 h6 h7 hb1))
 go_ret;exact⟨by rw[E.out];rfl,hb⟩
theorem qNy(a:Option Addr)(n c:Nat)(gs:List GrI)(g off:Nat)(r:qA1)(w:World)(hg:QF2 w a n gs)(hn:n<=1048576)(hr:qC2 w g off r)(hs:∀q,qL0 (ofG gs q))(hk:okR r)(hk4:r.k=3):
  CP 229 #[.slice a n c,.pointer (some ⟨g,off,none⟩)] w fun e w'=>e=.returned (iv (byF (ofG gs) r))/\Below w.heap.size w w':=by
 have HG:=hJJ hg;have HX:=hJJ hr;have HS:=hJJ hs;have E:Hid (byF (ofG gs) r=qL5 (ofG gs) r.tn (qB3 (ofG gs (r.oo,r.on)) 8) (qB3 (ofG gs (r.oo,r.on)) 8).length):=by show byF (ofG gs) r=_;simp[byF,hk4]
 clear hk;clear hg hr hs;obtain⟨k,ho,hn0,wh,oo,on,t0,tn⟩:=r;have hb:Below w.heap.size w w:=gC _ _;obtain⟨h0,h1,h2,h3,h4,h5,h6,h7⟩:=HX.out.below hb;simp only at h0 h1 h2 h3 h4 h5 h6 h7 hk4;subst hk4;go_enter func229,ntmps229;go_upto_region 10 with (first | (go_at_call 173;refine (QQ5 _ _ _ gs (oo,on) _ (HG.out.below hb) hn).mono ?_;rintro e w1 ⟨rfl,hb1⟩;replace hb:=hb.trans (hb1.mono hb.size);clear h0 h1 h2 h3 h4 h5 h6 h7 hb1;obtain⟨h0,h1,h2,h3,h4,h5,h6,h7⟩:=HX.out.below hb;simp only at h0 h1 h2 h3 h4 h5 h6 h7))
 have HLs:=HS.out (oo,on);obtain⟨ys,hys⟩:∃ys,ys=qB3 (ofG gs (oo,on)) 8:=⟨_,rfl⟩;have hl8:ys.length<=8:=by rw[hys];exact QW7 _ 8
 have hl8':(ys.length:Int)<=8:=by omega
 have E2:Hid (byF (ofG gs) ⟨3,ho,hn0,wh,oo,on,t0,tn⟩=qL5 (ofG gs) tn ys ys.length):=by rw[hys];exact E.out
 have HC:Hid (∀W:World,CP 172 #[iv (ofG gs (oo,on))] W fun e w'=>∃g cap,e=.returned (.slice (some ⟨g,0,none⟩) ys.length cap)/\w'.ownsRow W.heap.size 2 1 (.slice (some ⟨g,0,none⟩) ys.length cap) ys.length (ys.map (Value.int .i64))/\Below W.heap.size W w'):=fun W=>by rw[hys];exact qAH _ HLs.1 HLs.2 W
 clear E hys HLs;go_wp2_with (first | (go_at_call 172;refine (HC.out _).mono ?_;rintro e w2 ⟨gl,cl,rfl,hown,hb1⟩;replace hb:=hb.trans (hb1.mono hb.size);clear h0 h1 h2 h3 h4 h5 h6 h7 hb1))
 have HR:Hid (qC2 w2 g off ⟨3,ho,hn0,wh,oo,on,t0,tn⟩):=HX.out.below hb
 have HY:Hid (∀k y,ys[k]?=some y->w2.cell? ⟨gl,k,none⟩=some (iv y)):=fun k y hy=>by
  have hk:k<ys.length:=by
   by_cases q:k<ys.length
   .exact q
   .rw[gE (by omega)]at hy;cases hy
  rw[hown.cellAt k (by omega),jI,hy];rfl
 have hgl:gl<w2.heap.size:=by
  rcases hown.2 with⟨h',_⟩ | ⟨g',cap',cur,h',_,hg',_⟩
  .simp at h'
  .simp at h';rw[h'.1];exact (gN.1 hg').1
 clear hown;go_loopw [6,8] (fun o i wr=>∃k:Nat,k<=ys.length/\i=iv (k:Int)/\o=iv (qL5 (ofG gs) tn ys k)/\Below w2.heap.size w2 wr) (fun _ i _=>ys.length-(intOf i).toNat)
 case atStart=>exact⟨0,gH _,rfl,by rw[qDA],gC _ _⟩
 case round =>
  obtain⟨k,hk,rfl,rfl,hnx⟩:=hrel;by_cases hlt:k<ys.length
  .obtain⟨y,hy⟩:∃y,ys[k]?=some y:=⟨_,gA hlt⟩;have c0:=(hnx.cell (p:=⟨gl,k,none⟩) hgl).trans (HY.out k y hy);have HL:Hid (qL5 (ofG gs) tn ys (k+1)=orI (qL5 (ofG gs) tn ys k) (ofG gs (y,tn))):=qDB hy _ _;have hw:Below w.heap.size w wr:=hb.trans (hnx.mono hb.size);clear hy;obtain⟨h0,h1,h2,h3,h4,h5,h6,h7⟩:=HR.out.below hnx;simp only at h0 h1 h2 h3 h4 h5 h6 h7;have hlt':(k:Int)<(ys.length:Int):=by omega
   have HQ:Hid (∀W:World,((∀b o,b<wr.heap.size->W.cell? ⟨b,o,none⟩=wr.cell? ⟨b,o,none⟩)/\Below wr.heap.size wr W)->CP 173 #[.slice a n c,.agg #[iv y,iv tn]] W fun e w'=>e=.returned (iv (ofG gs (y,tn)))/\Below W.heap.size W w'):=fun W hW=>QQ5 _ _ _ gs (y,tn) _ (HG.out.below (hw.trans (hW.2.mono hw.size))) hn
   have hbg:g<wr.heap.size:=zL wr ⟨g,off,none⟩ h0;have hgl2:gl<wr.heap.size:=zL wr ⟨gl,k,none⟩ c0;go_wp2
   go_region_held3 (fun w'=>(∀b o,b<wr.heap.size->w'.cell? ⟨b,o,none⟩=wr.cell? ⟨b,o,none⟩)/\Below wr.heap.size wr w') (first | exact hS | exact qA8 _)
    (first | (go_at_call 173;refine (HQ.out _ (by assumption)).mono ?_;rintro e w' ⟨rfl,hb1⟩;have hS:=qA0 (by assumption) hb1))
   go_wp2;exact⟨⟨k+1,by omega,by go_num,by rw[HL.out],hnx.trans (hS.2.mono hnx.size)⟩,by simp[intOf];omega⟩
  .have hkn:k=ys.length:=by omega
   subst hkn;go_wp2;go_ret;exact⟨by rw[E2.out];rfl,hb.trans (hnx.mono hb.size)⟩
theorem qNw(a:Option Addr)(n c:Nat)(gs:List GrI)(g off:Nat)(r:qA1)(w:World)(hg:QF2 w a n gs)(hn:n<=1048576)(hr:qC2 w g off r)(hs:∀q,qL0 (ofG gs q))(hk:okR r)(hk4:1<=r.k/\r.k<=4):
  CP 229 #[.slice a n c,.pointer (some ⟨g,off,none⟩)] w fun e w'=>e=.returned (iv (byF (ofG gs) r))/\Below w.heap.size w w':=by
 have h4:r.k=1\/r.k=2\/r.k=3\/r.k=4:=by omega
 rcases h4 with e | e | e | e
 .exact qOA a n c gs g off r w hg hn hr hs hk e
 .exact qNz a n c gs g off r w hg hn hr hs hk e
 .exact qNy a n c gs g off r w hg hn hr hs hk e
 .exact qNx a n c gs g off r w hg hn hr hs hk e
