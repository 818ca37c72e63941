/- Contracts. -/
import Derived.Test.YtdghpccmdnnenaaGreatDoorPx14
import Derived.Laws.AppendOwn
import Derived.RangeFuncSeq
import Derived.RangeFuncGives
import Derived.Sort.MapsRangeIn
import Derived.Shelf.SlSortCmp.Whole1
import Derived.Shelf.SlSortCmp.NoneTotal
import Derived.Shelf.SlGeneric
import Derived.Ground.SlsfProg
import Derived.OpenShut
import Derived.ChangeSame
import Derived.Deep.Slices
namespace Go.Proofs.YtdghpccmdnnenaaGreatDoor
set_option maxRecDepth 100000
set_option maxHeartbeats 8000000
open Go.RowKit Go.Proofs.Tryz
set_option linter.unusedVariables false
set_option linter.unusedSimpArgs false
structure StI where
 k:Int
 e:Int
 f:Int
 s:Int
 n:Int
deriving DecidableEq,Inhabited
def qM9(w:World)(b o:Nat)(x:StI):Prop:=w.cell? ⟨b,o,none⟩=some (iv x.k)/\w.cell? ⟨b,o+1,none⟩=some (iv x.e)/\w.cell? ⟨b,o+2,none⟩=some (iv x.f)/\w.cell? ⟨b,o+3,none⟩=some (iv x.s)/\w.cell? ⟨b,o+4,none⟩=some (iv x.n)
theorem qM9.below{w w':World}{B b o:Nat}{x:StI}(h:qM9 w b o x)(hb:Below B w w')(hB:b<B):qM9 w' b o x :=
 ⟨(hb.cell (p:=⟨b,o,none⟩) hB).trans h.1,(hb.cell (p:=⟨b,o+1,none⟩) hB).trans h.2.1,(hb.cell (p:=⟨b,o+2,none⟩) hB).trans h.2.2.1,(hb.cell (p:=⟨b,o+3,none⟩) hB).trans h.2.2.2.1,(hb.cell (p:=⟨b,o+4,none⟩) hB).trans h.2.2.2.2⟩
def qL2(w:World)(a:Option Addr)(n:Nat)(gs:List StI):Prop:=gs.length=n/\(0<n->∃b off,a=some ⟨b,off,none⟩/\∀k x,gs[k]?=some x->qM9 w b (off+k*5) x)
theorem qL2.below{w w':World}{a:Option Addr}{n:Nat}{gs:List StI}(h:qL2 w a n gs)(hb:Below w.heap.size w w'):qL2 w' a n gs:=by
 refine⟨h.1,fun hn=>?_⟩;obtain⟨b,off,e,k⟩:=h.2 hn;exact⟨b,off,e,fun j x hx=>(k j x hx).below hb (zL w ⟨b,off+j*5,none⟩ (k j x hx).1)⟩
theorem qL2.at{w:World}{a:Option Addr}{n:Nat}{gs:List StI}(h:qL2 w a n gs){k:Nat}(hk:k<n):∃b off x,a=some ⟨b,off,none⟩/\gs[k]?=some x/\qM9 w b (off+k*5) x/\b<w.heap.size:=by
 obtain⟨b,off,e,q⟩:=h.2 (by omega);have hx:=gA (l:=gs) (i:=k) (by rw[h.1];exact hk);exact⟨b,off,_,e,hx,q k _ hx,zL w ⟨b,off+k*5,none⟩ (q k _ hx).1⟩
def QB6(w:World)(g:Nat)(gs:List StI):Prop:=∀k x,gs[k]?=some x->qM9 w g (k*5) x
theorem QB6.below{w w':World}{g:Nat}{gs:List StI}(h:QB6 w g gs)(hb:Below w.heap.size w w'):QB6 w' g gs:=fun k x e =>
 (h k x e).below hb (zL w ⟨g,k*5,none⟩ (h k x e).1)
theorem qL2.of{w:World}{g n:Nat}{gs:List StI}(hl:gs.length=n)(h:QB6 w g gs):qL2 w (some ⟨g,0,none⟩) n gs :=
 ⟨hl,fun _=>⟨g,0,rfl,fun k x e=>by rw[gG];exact h k x e⟩⟩
def qP7(w:World)(g n:Nat):Prop:=(∀j,j<n*5->∃v,w.cell? ⟨g,j,none⟩=some v)/\∀j,w.frozen? ⟨g,j,none⟩=false
abbrev qCK(w:World)(g o:Nat)(s:StI):World:=(((((w.setCell ⟨g,o,none⟩ (iv s.k)).setCell ⟨g,o+1,none⟩ (iv s.e)).setCell ⟨g,o+2,none⟩ (iv s.f)).setCell ⟨g,o+3,none⟩ (iv s.s)).setCell ⟨g,o+4,none⟩ (iv s.n))
theorem qO8(w:World)(g o:Nat)(s:StI)(a:Addr)(h:∀j,j<5->a≠⟨g,o+j,none⟩):(qCK w g o s).cell? a=w.cell? a:=by
 rw[gF (h:=Ne.symm (h 4 (by omega))),gF (h:=Ne.symm (h 3 (by omega))),gF (h:=Ne.symm (h 2 (by omega))),gF (h:=Ne.symm (h 1 (by omega))),gF (h:=Ne.symm (a:=a) (b:=⟨g,o,none⟩) (by simpa using h 0 (by omega)))]
theorem qKz(w:World)(g o:Nat)(s:StI)(h:∀j,j<5->∃v,w.cell? ⟨g,o+j,none⟩=some v):qM9 (qCK w g o s) g o s:=by
 obtain⟨v0,h0⟩:=h 0 (by omega);obtain⟨v1,h1⟩:=h 1 (by omega);obtain⟨v2,h2⟩:=h 2 (by omega);obtain⟨v3,h3⟩:=h 3 (by omega);obtain⟨v4,h4⟩:=h 4 (by omega);rw[jS]at h0;refine⟨?_,?_,?_,?_,?_⟩ <;> simp[go_sem,h0,h1,h2,h3,h4]
theorem qGf{w:World}{g n k:Nat}{zs:List StI}{s:StI}(hroom:qP7 w g n)(hd:QB6 w g (zs.take k))(hs:zs[k]?=some s)(hk:k<n):
  qP7 (qCK w g (k*5) s) g n/\QB6 (qCK w g (k*5) s) g (zs.take (k+1)):=by
 have hr:=qKz w g (k*5) s (fun j hj=>hroom.1 (k*5+j) (by omega));refine⟨⟨fun j hj=>?_,fun j=>?_⟩,fun i r e=>?_⟩
 .by_cases h:k*5<=j/\j<k*5+5
  .have hj':j=k*5\/j=k*5+1\/j=k*5+2\/j=k*5+3\/j=k*5+4:=by omega
   obtain⟨h0,h1,h2,h3,h4⟩:=hr;rcases hj' with rfl|rfl|rfl|rfl|rfl
   .exact⟨_,h0⟩
   .exact⟨_,h1⟩
   .exact⟨_,h2⟩
   .exact⟨_,h3⟩
   .exact⟨_,h4⟩
  .rw[qO8 w g (k*5) s ⟨g,j,none⟩ (fun i hi e=>by have e2:=jA Addr.off e;simp only at e2;omega)];exact hroom.1 j hj
 .simp only[jE];exact hroom.2 j
 .rw[jJ]at e;split at e
  .by_cases hik:i=k
   .subst hik;rw[hs]at e;cases e;exact hr
   .have hi:i<k:=by omega
    have h1:=hd i r (by rw[jJ,gK hi];exact e);obtain⟨h0,h1,h2,h3,h4⟩:=h1;refine⟨?_,?_,?_,?_,?_⟩
    .rw[qO8 w g (k*5) s ⟨g,i*5,none⟩ (fun j hj e=>by have e2:=jA Addr.off e;simp only at e2;omega)];exact h0
    .rw[qO8 w g (k*5) s ⟨g,i*5+1,none⟩ (fun j hj e=>by have e2:=jA Addr.off e;simp only at e2;omega)];exact h1
    .rw[qO8 w g (k*5) s ⟨g,i*5+2,none⟩ (fun j hj e=>by have e2:=jA Addr.off e;simp only at e2;omega)];exact h2
    .rw[qO8 w g (k*5) s ⟨g,i*5+3,none⟩ (fun j hj e=>by have e2:=jA Addr.off e;simp only at e2;omega)];exact h3
    .rw[qO8 w g (k*5) s ⟨g,i*5+4,none⟩ (fun j hj e=>by have e2:=jA Addr.off e;simp only at e2;omega)];exact h4
  .cases e
theorem qDu{w0 w:World}{B g o:Nat}(h:Below B w0 w)(hg:B<=g)(s:StI):Below B w0 (qCK w g o s) :=
 h.setCell hg _ |>.setCell hg _ |>.setCell hg _ |>.setCell hg _ |>.setCell hg _
theorem Tryz.info50:(prog.info? 50).map (fun i=>(i.zero,i.size,i.bytes))=some (some (.agg #[iv 0,iv 0,iv 0,iv 0,iv 0]),5,40):=by kernel_rfl
theorem QY6(x:StI)(w:World):CP 23 #[.agg #[iv x.k,iv x.e,iv x.f,iv x.s,iv x.n]] w fun e w'=>e=.returned (.agg #[iv x.k,iv x.e,iv x.f,iv x.s,iv x.n])/\Below w.heap.size w w':=by
 go_enter func23,ntmps23;go_wp2;go_returns
 exact⟨rfl,by go_grown⟩
theorem QI3(a:Option Addr)(n cap:Nat)(zs:List StI)(w:World)(hn:n<=1048576)(h:qL2 w a n zs):
  CP 139 #[.slice a n cap] w fun e w'=>e=.returned (.slice (some ⟨w.heap.size,0,none⟩) n n)/\QB6 w' w.heap.size zs/\w.heap.size<w'.heap.size/\Below w.heap.size w w'/\qP7 w' w.heap.size n:=by
 obtain⟨i0,hi,hz0,hz1,hz2⟩:=jT Tryz.info50;obtain⟨wm,hmk,hownm,hgrm⟩:=run_make_full (P:=prog) (w:=w) w.heap.size 38 50 i0 (.agg #[iv 0,iv 0,iv 0,iv 0,iv 0]) 5 underlying38 hi hz0 hz1 .i64 .i64 n (by rw[hz2];omega) (by unfold maxLen;omega) (gB _);have H:=hJJ h;have hz:=hJJ h.1;clear h
 have HM:Hid (qP7 wm w.heap.size n/\w.heap.size<wm.heap.size):=by
  refine⟨⟨fun j hj=>?_,fun j=>hownm.frozenAt j⟩,(hownm.lt _ rfl).2⟩;have hl:=hownm.1;exact⟨_,(hownm.cellAt j hj).trans (gA (by omega))⟩
 clear hownm;have HG:=hJJ hgrm;clear hgrm;have hn':(n:Int)<=1048576:=by omega
 go_enter func139,ntmps139;go_wp2
 go_loopw [4] (fun i wr=>∃k:Nat,k<=n/\i=iv (k:Int)/\qP7 wr w.heap.size n/\QB6 wr w.heap.size (zs.take k)/\w.heap.size<wr.heap.size/\Below w.heap.size w wr)
  (fun i _=>n-(intOf i).toNat)
 case atStart=>exact⟨0,gH _,rfl,HM.out.1,fun k r e=>by simp at e,HM.out.2,(gC _ _).grown HG.out (gB _) (fun k e=>by cases e)⟩
 case round =>
  obtain⟨k,hk,rfl,hroom,hdone,hlt0,hnx⟩:=hrel;by_cases hlt:k<n
  .obtain⟨b,off,s,rfl,hs,hr,hb⟩:=H.out.at hlt
   have HS:=hJJ hs;clear hs;obtain⟨h0,h1,h2,h3,h4⟩:=hr.below hnx hb;have HD:Hid (qP7 wr w.heap.size n/\QB6 wr w.heap.size (zs.take k)):=⟨hroom,hdone⟩;clear hroom hdone hr;have hlt':(k:Int)<(n:Int):=by omega
   go_wp2_with fail
   refine (QY6 s _).mono ?_;rintro e w1 ⟨rfl,hb1⟩;obtain⟨⟨hc,hf⟩,hd⟩:=HD.out;have hz1:=hb1.size
   have HD1:Hid (qP7 w1 w.heap.size n/\QB6 w1 w.heap.size (zs.take k)/\Below w.heap.size w w1) :=
    ⟨⟨fun j hj=>by obtain⟨v,e⟩:=hc j hj;exact⟨v,(hb1.cell (p:=⟨w.heap.size,j,none⟩) hlt0).trans e⟩,fun j=>(hb1.frozen (p:=⟨w.heap.size,j,none⟩) hlt0).trans (hf j)⟩,hd.below hb1,hnx.trans (hb1.mono hnx.size)⟩
   clear hc hf hd HD h0 h1 h2 h3 h4;obtain⟨v0,c0⟩:=HD1.out.1.1 (k*5) (by omega);obtain⟨v1,c1⟩:=HD1.out.1.1 (k*5+1) (by omega);obtain⟨v2,c2⟩:=HD1.out.1.1 (k*5+2) (by omega);obtain⟨v3,c3⟩:=HD1.out.1.1 (k*5+3) (by omega);obtain⟨v4,c4⟩:=HD1.out.1.1 (k*5+4) (by omega);have f0:=HD1.out.1.2 (k*5);have f1:=HD1.out.1.2 (k*5+1);have f2:=HD1.out.1.2 (k*5+2);have f3:=HD1.out.1.2 (k*5+3);have f4:=HD1.out.1.2 (k*5+4)
   have RM:Hid (qP7 (qCK w1 w.heap.size (k*5) s) w.heap.size n/\QB6 (qCK w1 w.heap.size (k*5) s) w.heap.size (zs.take (k+1))/\Below w.heap.size w (qCK w1 w.heap.size (k*5) s)):=by
    have h2:=qGf HD1.out.1 HD1.out.2.1 HS.out hlt;exact⟨h2.1,h2.2,qDu HD1.out.2.2 (gB _) s⟩
   go_wp2;exact⟨⟨k+1,by omega,by go_num,RM.out.1,RM.out.2.1,by simp only[jP];omega,RM.out.2.2⟩,by simp[intOf];omega⟩
  .have hkn:k=n:=by omega
   subst hkn;rw[gV (by rw[hz.out];exact gB _)]at hdone;go_wp2;go_ret;exact⟨rfl,hdone,hlt0,hnx,hroom⟩
theorem QL1(x:StI)(w:World):
  CP 105 #[.agg #[iv x.k,iv x.e,iv x.f,iv x.s,iv x.n],.agg #[iv x.k,iv x.e,iv x.f,iv x.s,iv x.n]] w fun e w'=>e=.returned (.bool true)/\Below w.heap.size w w':=by
 go_enter func105,ntmps105;go_wp2;go_ret;exact⟨rfl,by go_grown⟩
theorem QJ3(a b:Option Addr)(n c d:Nat)(zs:List StI)(w:World)(hn:n<=1048576)(ha:qL2 w a n zs)(hb:qL2 w b n zs):
  CP 55 #[.slice a n c,.slice b n d] w fun e w'=>e=.returned (.bool true)/\Below w.heap.size w w':=by
 have HA:=hJJ ha;have HB:=hJJ hb;clear ha hb;have hn':(n:Int)<=1048576:=by omega
 go_enter func55,ntmps55;go_wp2;go_loopw [5] (fun i wr=>∃k:Nat,k<=n/\i=iv (k:Int)/\Below w.heap.size w wr) (fun i _=>n-(intOf i).toNat)
 case atStart=>exact⟨0,gH _,rfl,gC _ _⟩
 case round =>
  obtain⟨k,hk,rfl,hnx⟩:=hrel;by_cases hlt:k<n
  .obtain⟨b1,o1,s,e1,hs,hr,hl1⟩:=HA.out.at hlt
   obtain⟨b2,o2,s2,e2,hs2,hr2,hl2⟩:=HB.out.at hlt
   obtain rfl:s=s2:=gJ (hs.symm.trans hs2);subst e1 e2;clear hs hs2;obtain⟨h0,h1,h2,h3,h4⟩:=hr.below hnx hl1;obtain⟨g0,g1,g2,g3,g4⟩:=hr2.below hnx hl2;clear hr hr2;have hlt':(k:Int)<(n:Int):=by omega
   have hb1:b1<wr.heap.size:=zL wr ⟨b1,o1+k*5,none⟩ h0;have hb2:b2<wr.heap.size:=zL wr ⟨b2,o2+k*5,none⟩ g0;go_wp2
   go_region_held3 (fun w'=>(∀b o,b<wr.heap.size->w'.cell? ⟨b,o,none⟩=wr.cell? ⟨b,o,none⟩)/\Below wr.heap.size wr w') (first | exact hS | exact qA8 _)
    (first | (go_at_call 105;refine (QL1 s _).mono ?_;rintro e w' ⟨rfl,hb1⟩;have hS:=qA0 (by assumption) hb1))
   go_wp2;exact⟨⟨k+1,by omega,by go_num,hnx.trans (hS.2.mono hnx.size)⟩,by simp[intOf];omega⟩
  .have hkn:k=n:=by omega
   subst hkn;go_wp2;go_ret;exact⟨rfl,hnx⟩
def swT(k:Int):ByteArray:=if k=1 then ⟨#[105,115,115,117,101]⟩ else if k=2 then ⟨#[114,101,118,111,107,101]⟩ else if k=3 then ⟨#[110,101,120,116]⟩ else if k=4 then ⟨#[116,97,107,101]⟩ else ⟨#[]⟩
def QH6(k:Int):Bool:=decide (k=1) || decide (k=2)
def qEU(x:StI):StI:=if QH6 x.k=true then ⟨x.k,x.e,x.f,x.s,0⟩ else ⟨x.k,x.e,0,0,x.n⟩
def qJ1(x y:StI):Bool:=decide (x=y)
def qHq(x:StI):Bool:=qJ1 x (qEU x)
def qGo(x:StI):Bool:=if inR x.e 1 9=false then false else if QH6 x.k=true then (if inR x.f 1 4=false then false else inR x.s 1 255) else inR x.n 0 7
def qB5(x:StI):Int:=if inR x.k 1 4=false then 1 else if qHq x=false then 1 else if qGo x=false then 3 else 0
theorem qBC(k:Int)(w:World):CP 112 #[iv k] w fun e w'=>e=.returned (.string (swT k))/\w=w':=by
 unfold swT;by_cases h1:k=1
 .subst h1;go_enter func112,ntmps112;go_wp2;go_ret;exact⟨rfl,rfl⟩
 by_cases h2:k=2
 .subst h2;go_enter func112,ntmps112;go_wp2;go_ret;exact⟨rfl,rfl⟩
 by_cases h3:k=3
 .subst h3;go_enter func112,ntmps112;go_wp2;go_ret;exact⟨rfl,rfl⟩
 by_cases h4:k=4
 .subst h4;go_enter func112,ntmps112;go_wp2;go_ret;exact⟨rfl,rfl⟩
 rw[gI h1,gI h2,gI h3,gI h4];go_enter func112,ntmps112;go_wp2;go_ret;exact⟨rfl,rfl⟩
theorem qJD{a b:ByteArray}(h:a≠b):(a.toList==b.toList)=false:=by
 rw[beq_eq_false_iff_ne];intro e;rw[ByteArray.toList_eq,ByteArray.toList_eq]at e;exact h (WideShapes.bytes_inj e)
theorem qOs{k:Int}(h:inR k 1 4=true):swT k≠⟨#[]⟩:=by
 rw[qD3]at h;have : k=1\/k=2\/k=3\/k=4:=by omega
 rcases this with rfl|rfl|rfl|rfl <;> (intro e;have:=jA (fun b:ByteArray=>b.data.size) e;simp[swT]at this)
theorem qNd{k:Int}(h:inR k 1 4=false):swT k=⟨#[]⟩:=by
 have h':¬ (1<=k/\k<=4):=fun q=>by rw[<- qD3,h]at q;cases q
 unfold swT;rw[gI (by omega),gI (by omega),gI (by omega),gI (by omega)]
theorem qV7(k:Int)(w:World):CP 162 #[iv k] w fun e w'=>e=.returned (.bool (QH6 k))/\w=w':=by
 unfold QH6;by_cases h1:k=1
 .subst h1;go_enter func162,ntmps162;go_wp2;go_ret;exact⟨rfl,rfl⟩
 by_cases h2:k=2
 .subst h2;go_enter func162,ntmps162;go_wp2;go_ret;exact⟨rfl,rfl⟩
 go_enter func162,ntmps162;go_wp2;go_ret;exact⟨by simp[h1,h2],rfl⟩
theorem qKa(v:Int)(w:World):CP 166 #[iv v] w fun e w'=>e=.returned (.bool (inR v 0 7))/\w=w':=by
 unfold inR;cases h0:decide (0<=v)
 .go_enter func166,ntmps166;go_wp2;go_ret;exact⟨by simp,rfl⟩
 .cases h1:decide (v<=7)
  all_goals
   go_enter func166,ntmps166;go_wp2;go_ret;exact⟨by simp,rfl⟩
def qU9(v:Int):Int:=if inR v 0 255=true then 0 else 3
theorem qDR(v:Int)(w:World):CP 165 #[iv v] w fun e w'=>e=.returned (iv (qU9 v))/\w=w':=by
 by_cases q0:0<=v
 .by_cases q1:v<256
  .have e0:qU9 v=0:=by unfold qU9;rw[gK ((qD3 _ _ _).2 ⟨by omega,by omega⟩)]
   rw[e0];clear e0;go_enter func165,ntmps165;go_wp2;go_ret;exact⟨rfl,rfl⟩
  .have e0:qU9 v=3:=by unfold qU9;rw[gI (fun h=>by rw[qD3]at h;omega)]
   rw[e0];clear e0;have q2:(256:Int)<=v:=by omega
   go_enter func165,ntmps165;go_wp2;go_ret;exact⟨rfl,rfl⟩
 .have e0:qU9 v=3:=by unfold qU9;rw[gI (fun h=>by rw[qD3]at h;omega)]
  rw[e0];clear e0;have q2:v<(0:Int):=by omega
  go_enter func165,ntmps165;go_wp2;go_ret;exact⟨rfl,rfl⟩
theorem qOw(x:StI)(w:World):CP 113 #[.agg #[iv x.k,iv x.e,iv x.f,iv x.s,iv x.n]] w fun e w'=>e=.returned (.agg #[iv (qEU x).k,iv (qEU x).e,iv (qEU x).f,iv (qEU x).s,iv (qEU x).n])/\Below w.heap.size w w':=by
 unfold qEU;cases hk:QH6 x.k
 all_goals
  go_enter func113,ntmps113;go_wp2_with (go_at_call 162;refine (qV7 _ _).mono ?_;rintro e w' ⟨rfl,rfl⟩;rw[hk])
  go_returns
  exact⟨rfl,by go_grown⟩
theorem qHR(a0 a1 a2 a3 a4 b0 b1 b2 b3 b4:Int):qJ1 ⟨a0,a1,a2,a3,a4⟩ ⟨b0,b1,b2,b3,b4⟩=(a0==b0&&a1==b1&&a2==b2&&a3==b3&&a4==b4):=by
 unfold qJ1;rw[kX];simp only[jV,StI.mk.injEq,jY,beq_iff_eq];constructor
 .rintro⟨h0,h1,h2,h3,h4⟩;exact⟨⟨⟨⟨h0,h1⟩,h2⟩,h3⟩,h4⟩
 .rintro⟨⟨⟨⟨h0,h1⟩,h2⟩,h3⟩,h4⟩;exact⟨h0,h1,h2,h3,h4⟩
theorem QU7(x y:StI)(w:World):(binOp .eql 50 (.agg #[iv x.k,iv x.e,iv x.f,iv x.s,iv x.n]) (.agg #[iv y.k,iv y.e,iv y.f,iv y.s,iv y.n])).run prog w=.ok (.bool (qJ1 x y)) w:=by
 obtain⟨a0,a1,a2,a3,a4⟩:=x;obtain⟨b0,b1,b2,b3,b4⟩:=y;simp only;rw[qHR];cases e0:(a0==b0)
 .simp[go_sem,e0]
 cases e1:(a1==b1)
 .simp[go_sem,e0,e1]
 cases e2:(a2==b2)
 .simp[go_sem,e0,e1,e2]
 cases e3:(a3==b3)
 .simp[go_sem,e0,e1,e2,e3]
 cases e4:(a4==b4)
 .simp[go_sem,e0,e1,e2,e3,e4]
 .simp[go_sem,e0,e1,e2,e3,e4]
def qR5(said:List StI)(k e:Int):Bool:=said.any (fun x=>decide (x.k=k)&&decide (x.e=e))
def qI6(said:List StI)(k e:Int):Option StI:=said.find? (fun x=>decide (x.k=k)&&decide (x.e=e))
def qV1(said:List StI)(e:Int):Bool:=qR5 said 3 e || qR5 said 4 e
def qT6(x:StI):StI:=⟨2,x.e,x.f,x.s,0⟩
def qC4(said:List StI)(x:StI):Bool:=said.any (fun y=>qJ1 y x)
theorem qBF{said:List StI}{x:StI}:qC4 said x=true↔x∈said:=by
 unfold qC4 qJ1;rw[List.any_eq_true];constructor
 .rintro⟨y,hy,h⟩;have : y=x:=kK h;subst this;exact hy
 .intro h;exact⟨x,h,jQ rfl⟩
theorem QE6{said:List StI}{j:Nat}{x:StI}(h:said[j]?=some x)(k e:Int):qI6 (said.drop j) k e=if x.k=k/\x.e=e then some x else qI6 (said.drop (j+1)) k e:=by
 have hl:j<said.length:=by
  by_cases q:j<said.length
  .exact q
  .rw[gE (by omega)]at h;cases h
 rw[gA hl]at h;rw[List.drop_eq_getElem_cons hl,gJ h];unfold qI6;rw[List.find?_cons];by_cases q:x.k=k/\x.e=e
 .rw[gK q];simp[q.1,q.2]
 .rw[gI q]
  have : (decide (x.k=k)&&decide (x.e=e))=false:=by
   rw[Bool.and_eq_false_iff];by_cases q1:x.k=k
   .exact .inr (jL (fun q2=>q ⟨q1,q2⟩))
   .exact .inl (jL q1)
  rw[this]
theorem qEl(said:List StI)(k e:Int):qR5 said k e=(qI6 said k e).isSome:=by
 unfold qR5 qI6;induction said with
 | nil=>rfl
 | cons x r ih =>
  rw[List.any_cons,List.find?_cons];cases (decide (x.k=k)&&decide (x.e=e))
  .simpa using ih
  .simp
theorem qFc{said:List StI}{j:Nat}{x:StI}(h:said[j]?=some x)(y:StI):qC4 (said.drop j) y=(qJ1 x y || qC4 (said.drop (j+1)) y):=by
 have hl:j<said.length:=by
  by_cases q:j<said.length
  .exact q
  .rw[gE (by omega)]at h;cases h
 rw[gA hl]at h;rw[List.drop_eq_getElem_cons hl,gJ h];unfold qC4;rw[List.any_cons]
theorem qM9.new(w:World)(x:StI)(t:TypeId):qM9 (w.alloc (.cells #[iv x.k,iv x.e,iv x.f,iv x.s,iv x.n] t)) w.heap.size 0 x:=by
 simp[qM9]
theorem qGQ(x:StI)(w:World):CP 114 #[.agg #[iv x.k,iv x.e,iv x.f,iv x.s,iv x.n]] w fun e w'=>e=.returned (.bool (qGo x))/\Below w.heap.size w w':=by
 obtain⟨xk,xe,xf,xs,xn⟩:=x;unfold qGo;simp only;cases he:inR xe 1 9
 .go_enter func114,ntmps114;go_wp2_with (go_at_call 163;refine (qI4 _ _).mono ?_;rintro e w' ⟨rfl,rfl⟩;rw[he])
  go_ret;exact⟨rfl,by go_grown⟩
 .cases hk:QH6 xk
  .cases hn:inR xn 0 7
   all_goals
    go_enter func114,ntmps114
    go_wp2_with (first
     | (go_at_call 163;refine (qI4 _ _).mono ?_;rintro e w' ⟨rfl,rfl⟩;rw[he])
     | (go_at_call 162;refine (qV7 _ _).mono ?_;rintro e w' ⟨rfl,rfl⟩;rw[hk])
     | (go_at_call 166;refine (qKa _ _).mono ?_;rintro e w' ⟨rfl,rfl⟩;rw[hn]))
    go_ret;exact⟨rfl,by go_grown⟩
  .cases hf:inR xf 1 4
   .go_enter func114,ntmps114
    go_wp2_with (first
     | (go_at_call 163;refine (qI4 _ _).mono ?_;rintro e w' ⟨rfl,rfl⟩;rw[he])
     | (go_at_call 162;refine (qV7 _ _).mono ?_;rintro e w' ⟨rfl,rfl⟩;rw[hk])
     | (go_at_call 164;refine (QE7 _ _).mono ?_;rintro e w' ⟨rfl,rfl⟩;rw[hf]))
    go_ret;exact⟨rfl,by go_grown⟩
   .by_cases hs:xs=0
    .subst hs;go_enter func114,ntmps114
     go_wp2_with (first
      | (go_at_call 163;refine (qI4 _ _).mono ?_;rintro e w' ⟨rfl,rfl⟩;rw[he])
      | (go_at_call 162;refine (qV7 _ _).mono ?_;rintro e w' ⟨rfl,rfl⟩;rw[hk])
      | (go_at_call 164;refine (QE7 _ _).mono ?_;rintro e w' ⟨rfl,rfl⟩;rw[hf]))
     go_ret;exact⟨rfl,by go_grown⟩
    .have hsb:(xs != 0)=true:=by simpa using hs
     obtain⟨c,hc⟩:∃c,qU9 xs=c:=⟨_,rfl⟩
     have HV:Hid (inR xs 1 255=(c==0)):=by
      show inR xs 1 255=(c==0)
      rw[<- hc];unfold qU9;rw[kX,qD3];by_cases q:inR xs 0 255=true
      .rw[gK q];rw[qD3]at q;simp;omega
      .rw[gI q];rw[qD3]at q;simp;omega
     have HC:=hJJ hc;clear hc hs;go_enter func114,ntmps114
     go_wp2_with (first
      | (go_at_call 163;refine (qI4 _ _).mono ?_;rintro e w' ⟨rfl,rfl⟩;rw[he])
      | (go_at_call 162;refine (qV7 _ _).mono ?_;rintro e w' ⟨rfl,rfl⟩;rw[hk])
      | (go_at_call 164;refine (QE7 _ _).mono ?_;rintro e w' ⟨rfl,rfl⟩;rw[hf])
      | (go_at_call 165;refine (qDR _ _).mono ?_;rintro e w' ⟨rfl,rfl⟩;rw[HC.out]))
     go_ret;exact⟨by rw[HV.out];rfl,by go_grown⟩
theorem qHG(x y:StI)(w:World):(binOp .neq 50 (.agg #[iv x.k,iv x.e,iv x.f,iv x.s,iv x.n]) (.agg #[iv y.k,iv y.e,iv y.f,iv y.s,iv y.n])).run prog w=.ok (.bool (!(qJ1 x y))) w:=by
 have h:=QU7 x y w;simp only[binOp,Sem.run_bind]at h ⊢
 revert h
 cases (Op.equal 50 (.agg #[iv x.k,iv x.e,iv x.f,iv x.s,iv x.n]) (.agg #[iv y.k,iv y.e,iv y.f,iv y.s,iv y.n])).run prog w <;> simp[Result.andThen]
theorem qB8(x:StI)(w:World):CP 65 #[.agg #[iv x.k,iv x.e,iv x.f,iv x.s,iv x.n]] w fun e w'=>e=.returned (iv (qB5 x))/\Below w.heap.size w w':=by
  obtain⟨W,hW⟩:∃W,W=w.alloc (.cells #[iv x.k,iv x.e,iv x.f,iv x.s,iv x.n] 50):=⟨_,rfl⟩;have B0:Below w.heap.size w W:=by rw[hW];exact zN
  have hz:w.heap.size<W.heap.size:=by rw[hW];simp
  have HX:Hid (qM9 W w.heap.size 0 x):=by rw[hW];exact qM9.new w x _
  have HWE:=hJJ hW;clear hW;cases hk:inR x.k 1 4
  . have HT:Hid (swT x.k=⟨#[]⟩):=qNd hk;have hC:Hid (qB5 x=1):=by show qB5 x=1;unfold qB5;rw[gK hk]
    rw[hC.out];clear hk;go_enter func65,ntmps65;go_wp2_with fail
    rw[<- HWE.out];obtain⟨x0,x1,x2,x3,x4⟩:=HX.out;simp only[gG]at x0 x1 x2 x3 x4;refine gL (S:=fun w'=>(∀b o,b<W.heap.size->w'.cell? ⟨b,o,none⟩=W.cell? ⟨b,o,none⟩)/\Below W.heap.size W w') (by kernel_rfl) (qA8 _) (fun hHeld=>?_);refine Zk.go [0,1] ?_
    iterate 2
      refine Zk.st (v:=?_) rfl ?_ ?_;rotate_left 1
      . intro w hSw;(try dsimp only at hSw);go_simp;try (with_reducible rfl)
      try simp only[Act.put,zA,zB,zC,zD,zE,zF]
    refine Zk.fin ?_;refine Zk.rd (i:=2) rfl (fun K hK=>?_);go_simp;refine (qBC _ _).mono ?_;rintro e w' ⟨rfl,rfl⟩;rw[HT.out];have hS:=hHeld;refine hK.out _ _ hS (fun hHeld=>?_);clear hK K;try simp only[Act.put,zA,zB,zC,zD,zE,zF]
    refine Zk.go [3,4,5,6,7,8,9] ?_
    iterate 2
      refine Zk.st (v:=?_) rfl ?_ ?_;rotate_left 1
      . intro w hSw;(try dsimp only at hSw);go_simp;try (with_reducible rfl)
      try simp only[Act.put,zA,zB,zC,zD,zE,zF]
    iterate 4 (refine Zk.un rfl ?_;try simp only[Act.put,zA,zB,zC,zD,zE,zF])
    refine Zk.st (v:=?_) rfl ?_ ?_;rotate_left 1
    . intro w hSw;(try dsimp only at hSw);go_simp;try (with_reducible rfl)
    try simp only[Act.put,zA,zB,zC,zD,zE,zF]
    refine Zk.fin ?_;refine gZ (by kernel_rfl) ?_ _;go_wp2;go_ret;exact⟨rfl,B0.trans (hHeld.2.mono B0.size)⟩
  . have hT0:=qJD (qOs hk);obtain⟨T,hT⟩:∃T,swT x.k=T:=⟨_,rfl⟩;have HT:=hJJ hT
    have hw:T.toList.isEmpty=false:=by
      rw[hT]at hT0;cases q:T.toList with
      | nil=>rw[q]at hT0;simp at hT0
      | cons a as'=>rfl
    obtain⟨y,hy⟩:∃y,qEU x=y:=⟨_,rfl⟩;have HO:=qOw x;rw[hy]at HO;have HOO:Hid (∀w:World,CP 113 #[.agg #[iv x.k,iv x.e,iv x.f,iv x.s,iv x.n]] w fun e w'=>e=.returned (.agg #[iv y.k,iv y.e,iv y.f,iv y.s,iv y.n])/\Below w.heap.size w w'):=HO;have HB:Hid (∀w:World,CP 114 #[.agg #[iv x.k,iv x.e,iv x.f,iv x.s,iv x.n]] w fun e w'=>e=.returned (.bool (qGo x))/\Below w.heap.size w w'):=qGQ x;have hE:∀w:World,_:=fun w=>qHG x y w
    have hob:qHq x=qJ1 x y:=by unfold qHq;rw[hy]
    obtain⟨t,ht⟩:∃t,qJ1 x y=t:=⟨_,rfl⟩;obtain⟨r,hr⟩:∃r,qGo x=r:=⟨_,rfl⟩;have HC:Hid (qB5 x=if t=false then 1 else if r=false then 3 else 0):=by show qB5 x=_;unfold qB5;rw[gI (by rw[hk];simp),hob,ht,hr]
    rw[ht]at hE;rw[hr]at HB;rw[HC.out];clear HO hob hk hT0 hT hy ht hr;go_enter func65,ntmps65;go_wp2_with fail
    rw[<- HWE.out];obtain⟨x0,x1,x2,x3,x4⟩:=HX.out;simp only[gG]at x0 x1 x2 x3 x4
    go_region_held3 (fun w'=>(∀b o,b<W.heap.size->w'.cell? ⟨b,o,none⟩=W.cell? ⟨b,o,none⟩)/\Below W.heap.size W w') (first | exact hS | exact qA8 _)
      (first | (go_at_call 112;refine (qBC _ _).mono ?_;rintro e w' ⟨rfl,rfl⟩;rw[HT.out])
             | (go_at_call 113;refine (HOO.out _).mono ?_;rintro e w' ⟨rfl,hb1⟩;have hS:=qA0 (by assumption) hb1))
    cases t
    . go_wp2;go_ret;exact⟨rfl,B0.trans (hS.2.mono B0.size)⟩
    . obtain⟨x0,x1,x2,x3,x4⟩:=HX.out.below hS.2 hz;simp only[gG]at x0 x1 x2 x3 x4;go_wp2_with fail
      refine (HB.out _).mono ?_;rintro e w2 ⟨rfl,hb2⟩;cases r
      all_goals
        go_wp2;go_ret;exact⟨rfl,(B0.trans (hS.2.mono B0.size)).trans (hb2.mono (by have:=hS.2.size;omega))⟩
theorem qFf(x:StI)(w:World):CP 287 #[.agg #[iv x.k,iv x.e,iv x.f,iv x.s,iv x.n]] w fun e w'=>e=.returned (.agg #[iv 2,iv x.e,iv x.f,iv x.s,iv 0])/\Below w.heap.size w w':=by
 go_enter func287,ntmps287;go_wp2;refine gQ (v:=.agg #[iv 2,iv x.e,iv x.f,iv x.s,iv 0]) (by simp[results,results287,go_sem]) rfl ⟨rfl,(zN).alloc (by simp) _⟩
theorem qEB{locks needs:List LkI}(hs:SL locks)(ho:∀x∈locks,okL x=true)(hn:SL needs)(hno:∀x∈needs,okL x=true):∀k,k<=needs.length->qJ4 locks needs k=none\/∃all,TkS locks needs k all
 | 0,_ => .inr ⟨locks,TkS.zero needs hs ho⟩
 | k+1,hk=>by
  rcases qEB hs ho hn hno k (by omega)with h | ⟨all,h⟩
  .exact .inl (qT9 h (by omega))
  .have hx:=gA (l:=needs) (i:=k) (by omega);have hok:=hno _ (gO hx);rcases QF8 locks all needs[k] with⟨h0,_⟩ | ⟨h0,h1,_⟩ | ⟨h0,h1,h2⟩
   .exact .inr ⟨_,h.put hn hx hok h0⟩
   .exact .inr ⟨_,h.stay hx h0 h1⟩
   .exact .inl (by rw[qJ3 h.tk hx];exact h2)
theorem QB2:∀ {gs:List LkI} {x:LkI},SL gs->x∈gs->qE6 gs x.e x.c x.p=x.f
 | y::r,x,hs,hx=>by
  have hs':=jN.1 hs;rw[qW9];by_cases q:y.e=x.e/\y.c=x.c/\y.p=x.p
  .rw[gK q];rcases gX.1 hx with rfl | h
   .rfl
   .have hlt:=hs'.1 x h;simp only[ltL,jV]at hlt;omega
  .rw[gI q];rcases gX.1 hx with rfl | h
   .exact absurd ⟨rfl,rfl,rfl⟩ q
   .exact QB2 hs'.2 h
theorem QP3:∀ {gs:List LkI} {x:LkI},qE6 gs x.e x.c x.p=x.f->x.f≠0->x∈gs
 | [],x,h,h0=>absurd h.symm h0
 | y::r,x,h,h0=>by
  rw[qW9]at h;by_cases q:y.e=x.e/\y.c=x.c/\y.p=x.p
  .rw[gK q]at h
   have : y=x:=by
    cases x;cases y;simp_all
   rw[this];exact List.mem_cons_self
  .rw[gI q]at h;exact List.mem_cons_of_mem _ (QP3 h h0)
theorem qEW{x:LkI}(h:okL x=true):x.f≠0:=by
 simp[okL,inR]at h;omega
theorem qEC{locks needs:List LkI}(hs:SL locks)(ho:∀x∈locks,okL x=true)(hn:SL needs)(hno:∀x∈needs,okL x=true):∀k,k<=needs.length->∀all,qJ4 locks needs k=some all->TkS locks needs k all/\∀j x,j<k->needs[j]?=some x->x∈all
 | 0,_,all,h=>by
  have : locks=all:=gJ h;subst this;exact⟨TkS.zero needs hs ho,fun j x hj _=>by omega⟩
 | k+1,hk,all,h=>by
  have hx:=gA (l:=needs) (i:=k) (by omega);have hok:=hno _ (gO hx);rcases qEB hs ho hn hno k (by omega)with q | ⟨all0,q⟩
  .rw[qT9 q (by omega)]at h;cases h
  .have ih:=(qEC hs ho hn hno k (by omega) all0 q.tk).2;rw[qJ3 q.tk hx]at h;rcases QF8 locks all0 needs[k] with⟨h0,h1⟩ | ⟨h0,h1,h2⟩ | ⟨h0,h1,h2⟩
   .rw[h1]at h;have e:QD6 all0 needs[k]=all:=gJ h;subst e;refine⟨q.put hn hx hok h0,fun j x hj hjx=>?_⟩;by_cases e:j=k
    .subst e;rw[hx]at hjx;cases hjx;exact QM0.2 (.inl rfl)
    .exact QM0.2 (.inr (ih j x (by omega) hjx))
   .rw[h2]at h;have e:all0=all:=gJ h;subst e;refine⟨q.stay hx h0 h1,fun j x hj hjx=>?_⟩;by_cases e:j=k
    .subst e;rw[hx]at hjx;cases hjx;exact q.old _ (QP3 h1 (qEW hok))
    .exact ih j x (by omega) hjx
   .rw[h2]at h;cases h
theorem qED{all needs:List LkI}(hs:SL all)(hno:∀x∈needs,okL x=true)(hm:∀x∈needs,x∈all):∀k,k<=needs.length->qJ4 all needs k=some all
 | 0,_=>rfl
 | k+1,hk=>by
  have hx:=gA (l:=needs) (i:=k) (by omega);have hmem:=gO hx;have hf:=QB2 hs (hm _ hmem);have h0:=qEW (hno _ hmem);rw[qJ3 (qED hs hno hm k (by omega)) hx,qO2,gI (by rw[hf];exact h0),gK hf]
theorem qFR{locks needs:List LkI}{j:Nat}{x:LkI}(hx:needs[j]?=some x)(h0:qE6 locks x.e x.c x.p≠0)(h1:qE6 locks x.e x.c x.p≠x.f):qI9 locks needs=6:=by
 have hj:j<needs.length:=by
  by_cases q:j<needs.length
  .exact q
  .rw[gE (by omega)]at hx;cases hx
 have hn:qJ4 locks needs (j+1)=none:=by
  cases h:qJ4 locks needs j with
  | none=>exact qT9 h (by omega)
  | some all=>rw[qJ3 h hx,qO2,gI h0,gI h1]
 exact (QF7 hn (by omega)).1
theorem qOz{gs:List LkI}(hl:gs.length<=200)(hs:SL gs)(ho:∀x∈gs,okL x=true):qJ6 gs=0:=by
 have key:∀k,k<=gs.length->QM1 gs k=0:=by
  intro k;induction k with
  | zero=>intro _;rfl
  | succ k ih =>
   intro hk;have hx:=gA (l:=gs) (i:=k) (by omega);rw[QQ0 hx (ih (by omega)),QJ1];refine⟨ho _ (gO hx),?_⟩;cases k with
   | zero=>rfl
   | succ j =>
    have hy:=gA (l:=gs) (i:=j) (by omega);rw[qES hy];exact jU.1 hs j (j+1) (by omega) (by omega) (by omega)
 unfold qJ6;rw[gI (by omega)];exact key _ (gB _)
theorem QX1{s p:Int}:∀ {k:Nat},1<=p->p<=(k:Int)->qI8 s p=true->p∈qB3 s k
 | 0,h1,h2,_=>by omega
 | k+1,h1,h2,h=>by
  by_cases e:p=(k:Int)+1
  .subst e;rw[qW3 s k h];simp
  .have ih:=QX1 (s:=s) (p:=p) (k:=k) h1 (by omega) h;unfold qB3;split
   .exact kL.2 (.inl ih)
   .exact ih
theorem QI9{zs:List Int}{e f s p z:Int}{k:Nat}(hz:zs[k]?=some z)(hf:qI8 z f=true)(h1:1<=p)(h2:p<=8)(hp:qI8 s p=true):∀n,k<n->(⟨e,(k:Int),p,f⟩:LkI)∈qB6 zs e f s n
 | 0,h=>by omega
 | n+1,h=>by
  unfold qB6;by_cases e':k=n
  .subst e';refine kL.2 (.inr ?_);unfold qS9;rw[hz,gK (by simpa using hf)];unfold qF8;exact kU.2 ⟨p,QX1 h1 (by simpa using h2) hp,rfl⟩
  .exact kL.2 (.inl (QI9 hz hf h1 h2 hp n (by omega)))
theorem qJi:∀n:Fin 256,n.val=0\/∃k:Fin 8,n.val.testBit k.val=true:=by decide +kernel
theorem qMG{s:Int}(h0:0<=s)(h1:s<=255)(hs:s≠0):∃p:Int,1<=p/\p<=8/\qI8 s p=true:=by
 obtain⟨n,rfl⟩:=gP h0;rcases qJi ⟨n,by omega⟩with h | ⟨k,h⟩
 .simp only at h;omega
 .refine⟨(k.val:Int)+1,by omega,by have:=k.isLt;omega,?_⟩;simpa[qI8] using h
theorem qDl{L:List LkI}{zs:List Int}{e f s:Int}(h:qE3 L zs e f s=0):
  qE5 zs e f s=0/\qJ6 (qL4 L zs e f s)=0/\(qL4 L zs e f s).length<=200/\(∀x∈qB6 zs e f s zs.length,qE6 (qL4 L zs e f s) e x.c x.p=f)/\(∀x∈L,qE6 (qL4 L zs e f s) x.e x.c x.p=x.f)/\L.length<=200
   /\ qE3 (qL4 L zs e f s) zs e f s=0/\qL4 (qL4 L zs e f s) zs e f s=qL4 L zs e f s/\(∀o,qLe zs f o=true->s≠0->qE3 (qL4 L zs e f s) zs e o s=6):=by
 have hk:qJ6 L=0:=by
  by_cases q:qJ6 L=0
  .exact q
  .unfold qE3 at h;rw[gI q]at h;exact absurd h q
 have hn:qE5 zs e f s=0:=by
  by_cases q:qE5 zs e f s=0
  .exact q
  .unfold qE3 at h;rw[gK hk,gI q]at h;exact absurd h q
 have ht:qI9 L (qB6 zs e f s zs.length)=0:=by unfold qE3 at h;rw[gK hk,gK hn]at h;exact h
 have hR:qL4 L zs e f s=tkL L (qB6 zs e f s zs.length):=by unfold qL4;rw[gK ⟨hk,hn⟩]
 obtain⟨l1,l2,l3⟩:=QJ0 hk;obtain⟨n1,n2⟩:=qAC hn;obtain⟨n0,ne,nf,ns⟩:=QP1 hn;cases ha:qJ4 L (qB6 zs e f s zs.length) (qB6 zs e f s zs.length).length with
 | none=>rw[(QF7 ha (gB _)).1]at ht;cases ht
 | some all =>
  have hm:¬ 200<all.length:=fun q=>by rw[(QY8 ha q).1]at ht;cases ht
  have hRa:qL4 L zs e f s=all:=by rw[hR];exact (QI4 ha hm).2
  obtain⟨T,hin⟩:=qEC l2 l3 n1 n2 _ (gB _) all ha
  have hmem:∀x∈qB6 zs e f s zs.length,x∈all:=fun x hx=>by
   obtain⟨j,hj,e'⟩:=List.getElem_of_mem hx;exact hin j x hj (by rw[gA hj,e'])
  have hlk:qJ6 all=0:=qOz (by omega) T.sl T.ok;have hag:=qED T.sl n2 hmem (qB6 zs e f s zs.length).length (gB _);rw[hRa];refine⟨hn,hlk,by omega,fun x hx=>?_,fun x hx=>QB2 T.sl (T.old x hx),l1,?_,?_,fun o hc hs0=>?_⟩
  .have q:=(QP2 zs e f s zs.length).2 x hx;have:=QB2 T.sl (hmem x hx);rw[q.1,q.2.2.2]at this;exact this
  .unfold qE3;rw[gK hlk,gK hn];exact (QI4 hag hm).1
  .unfold qL4;rw[gK ⟨hlk,hn⟩];exact (QI4 hag hm).2
  .simp only[qLe,qLf,qOO,jY,List.any_eq_true,beq_iff_eq,bne_iff_ne]at hc;obtain⟨_,_,ho,hne,z,hz,hzf,hzo⟩:=hc;obtain⟨k,hkl,hzk⟩:=List.getElem_of_mem hz;have hzk':zs[k]?=some z:=by rw[gA hkl,hzk]
   rw[qD3]at ns;obtain⟨p,p1,p2,hp⟩:=qMG ns.1 ns.2 hs0;have m1:=hmem _ (QI9 (e:=e) hzk' hzf p1 p2 hp zs.length hkl);have m2:=QI9 (e:=e) hzk' hzo p1 p2 hp zs.length hkl;have f1:qE6 all e (k:Int) p=f:=QB2 T.sl m1;obtain⟨j,hj,ej⟩:=List.getElem_of_mem m2;have hno:qE5 zs e o s=0:=qHu n0 ne ho (by rw[qD3];exact ns);unfold qE3;rw[gK hlk,gK hno];rw[qD3]at nf;exact qFR (j:=j) (x:=⟨e,(k:Int),p,o⟩) (by rw[gA hj,ej]) (by show qE6 all e (k:Int) p≠0;rw[f1];omega) (by show qE6 all e (k:Int) p≠o;rw[f1];exact hne)
structure qH3 where
 es:List Int
 al:Nat->Int->Int->Bool
 cl:Nat->List Int
def qEb(o:Option StI):Int:=match o with
 | some y=>y.n
 | none => -1
def qB7(E:qH3)(said:List StI)(e:Int):Int:=if e=E.es.headD 0 then 0 else qEb (qI6 said 4 (e-1))
def qC7(E:qH3)(said:List StI)(x:StI):Int:=if qR5 said x.k x.e=true then 6 else if (E.es.length:Int)<=x.n then 3 else if E.es[x.n.toNat]?.getD 0≠x.e+1 then 10 else 0
def qH5(E:qH3)(said:List StI)(locks:List LkI)(p:Nat)(x:StI):Int:=if (qV1 said x.e || qC4 said (qT6 x))=true then 9 else if E.al p x.f x.s=false then 8 else qE3 locks (E.cl p) x.e x.f x.s
def qF6(E:qH3)(said:List StI)(locks:List LkI)(x:StI):Int:=if qB7 E said x.e<0 then 4 else if 40<=said.length then 2 else if x.k=1 then qH5 E said locks (qB7 E said x.e).toNat x else if x.k=2 then 0 else qC7 E said x
def qF3(E:qH3)(said:List StI)(locks:List LkI)(x:StI):Int:=if qB5 x=0 then (if qC4 said x=true then 0 else qF6 E said locks x) else qB5 x
def qE4(E:qH3)(said:List StI)(locks:List LkI)(x:StI):List LkI:=if x.k=1 then qL4 locks (E.cl (qB7 E said x.e).toNat) x.e x.f x.s else locks
def QB3(said:List StI)(x:StI):List StI:=if qC4 said x=true then said else said++[x]
def qU7(E:qH3)(said:List StI)(locks:List LkI)(x:StI):List LkI:=if qC4 said x=true then locks else qE4 E said locks x
def qF5(E:qH3)(xs:List StI):Nat->Option (List LkI)
 | 0=>some []
 | k+1=>match qF5 E xs k with
  | none=>none
  | some ls=>match xs[k]? with
   | none=>some ls
   | some x=>if qC4 (xs.take k) x=true then none else if qF3 E (xs.take k) ls x=0 then some (qE4 E (xs.take k) ls x) else none
theorem QC3{E:qH3}{xs:List StI}{k m:Nat}(h:qF5 E xs k=none)(hm:k<=m):qF5 E xs m=none:=by
  induction m with
  | zero => obtain rfl:k=0:=by omega
            exact h
  | succ m ih =>
    by_cases e:k=m+1
    . subst e;exact h
    . simp[qF5,ih (by omega)]
theorem QO7{E:qH3}{xs:List StI}{k:Nat}{ls:List LkI}{x:StI}(h:qF5 E xs k=some ls)(hx:xs[k]?=some x):qF5 E xs (k+1)=if qC4 (xs.take k) x=true then none else if qF3 E (xs.take k) ls x=0 then some (qE4 E (xs.take k) ls x) else none:=by
 simp[qF5,h,hx]
structure RpS (E:qH3) (said:List StI) (ls:List LkI):Prop where
 lk:qJ6 ls=0
 st:∀x∈said,qB5 x=0
 nx:∀x∈said,x.k=4->0<=x.n/\x.n<(E.es.length:Int)
 len:said.length<=40
theorem RpS.nil(E:qH3):RpS E [] []:=⟨rfl,fun x h=>(List.not_mem_nil h).elim,fun x h=>(List.not_mem_nil h).elim,gH _⟩
theorem qMB{x:StI}(h:qB5 x=0):inR x.k 1 4=true/\qHq x=true/\qGo x=true:=by
 unfold qB5 at h;cases h1:inR x.k 1 4 with
 | false=>rw[h1]at h;simp at h
 | true =>
  cases h2:qHq x with
  | false=>rw[h1,h2]at h;simp at h
  | true =>
   cases h3:qGo x with
   | false=>rw[h1,h2,h3]at h;simp at h
   | true=>exact⟨rfl,rfl,rfl⟩
theorem qH1{x:StI}(h:qB5 x=0):(1<=x.k/\x.k<=4)/\(1<=x.e/\x.e<=9)/\(0<=x.n/\x.n<=7)/\(0<=x.f/\x.f<=4)/\(0<=x.s/\x.s<=255)/\(x.k<=2->1<=x.f/\1<=x.s/\x.n=0)/\(3<=x.k->x.f=0/\x.s=0):=by
 obtain⟨h1,h2,h3⟩:=qMB h;rw[qD3]at h1
 have h2':x=qEU x:=by
  have : qJ1 x (qEU x)=true:=h2;exact kK this
 unfold qGo at h3;cases q:inR x.e 1 9 with
 | false=>rw[q]at h3;simp at h3
 | true =>
  rw[q]at h3;rw[qD3]at q;unfold qEU at h2';cases f:QH6 x.k with
  | true =>
   rw[f]at h3 h2';simp only[Bool.true_eq_false, ↓reduceIte]at h3 h2';have hn:x.n=0:=by rw[h2']
   cases g:inR x.f 1 4 with
   | false=>rw[g]at h3;simp at h3
   | true =>
    rw[g]at h3;simp only[Bool.true_eq_false, ↓reduceIte]at h3;rw[qD3]at g h3;have hk:x.k=1\/x.k=2:=by simpa[QH6] using f
    omega
  | false =>
   rw[f]at h3 h2';simp only[Bool.true_eq_false,Bool.false_eq_true, ↓reduceIte]at h3 h2';rw[qD3]at h3;have hf:x.f=0:=by rw[h2']
   have hs:x.s=0:=by rw[h2']
   have hk:¬ (x.k=1\/x.k=2):=by
    intro q;have : QH6 x.k=true:=by simpa[QH6] using q
    rw[this]at f;cases f
   omega
theorem qLr{L:List LkI}{zs:List Int}{e f s:Int}(h:qE3 L zs e f s=0):qJ6 (qL4 L zs e f s)=0:=(qDl h).2.1
theorem QP0{E:qH3}{said:List StI}{ls:List LkI}{x:StI}(hc:qF6 E said ls x=0):¬ qB7 E said x.e<0/\¬ 40<=said.length/\(x.k=1->qH5 E said ls (qB7 E said x.e).toNat x=0)/\(x.k≠1->x.k≠2->qC7 E said x=0):=by
 unfold qF6 at hc;by_cases h1:qB7 E said x.e<0
 .rw[gK h1]at hc;omega
 .rw[gI h1]at hc;by_cases h2:40<=said.length
  .rw[gK h2]at hc;omega
  .rw[gI h2]at hc;refine⟨h1,h2,fun q=>?_,fun q q2=>?_⟩
   .rw[gK q]at hc;exact hc
   .rw[gI q,gI q2]at hc;exact hc
theorem qDJ{E:qH3}{said:List StI}{ls:List LkI}{p:Nat}{x:StI}(hc:qH5 E said ls p x=0):(qV1 said x.e || qC4 said (qT6 x))=false/\E.al p x.f x.s=true/\qE3 ls (E.cl p) x.e x.f x.s=0:=by
 unfold qH5 at hc;cases h1:(qV1 said x.e || qC4 said (qT6 x)) with
 | true=>rw[gK h1]at hc;omega
 | false =>
  rw[gI (by rw[h1];simp)]at hc;cases h2:E.al p x.f x.s with
  | false=>rw[gK h2]at hc;omega
  | true=>rw[gI (by rw[h2];simp)]at hc;exact⟨rfl,rfl,hc⟩
theorem qFt{E:qH3}{said:List StI}{x:StI}(hc:qC7 E said x=0):qR5 said x.k x.e=false/\x.n<(E.es.length:Int)/\E.es[x.n.toNat]?.getD 0=x.e+1:=by
 unfold qC7 at hc;cases h1:qR5 said x.k x.e with
 | true=>rw[gK h1]at hc;omega
 | false =>
  rw[gI (by rw[h1];simp)]at hc;by_cases h2:(E.es.length:Int)<=x.n
  .rw[gK h2]at hc;omega
  .rw[gI h2]at hc;by_cases h3:E.es[x.n.toNat]?.getD 0=x.e+1
   .exact⟨rfl,by omega,h3⟩
   .rw[gK h3]at hc;omega
theorem qNs{E:qH3}{said:List StI}{ls:List LkI}{x:StI}(h:RpS E said ls)(hc:qF6 E said ls x=0):qJ6 (qE4 E said ls x)=0:=by
 unfold qE4;by_cases q:x.k=1
 .rw[gK q];exact qLr (qDJ ((QP0 hc).2.2.1 q)).2.2
 .rw[gI q];exact h.lk
theorem RpS.next{E:qH3}{said:List StI}{ls:List LkI}{x:StI}(h:RpS E said ls)(hs:qB5 x=0)(hc:qF6 E said ls x=0):RpS E (said++[x]) (qE4 E said ls x):=by
 have hl:=(QP0 hc).2.1;refine⟨qNs h hc,fun y hy=>?_,fun y hy hk=>?_,by rw[jD];simp;omega⟩
 .rcases kL.1 hy with q | q
  .exact h.st y q
  .rw[List.mem_singleton]at q;rw[q];exact hs
 .rcases kL.1 hy with q | q
  .exact h.nx y q hk
  .rw[List.mem_singleton]at q;subst q;exact⟨(qH1 hs).2.2.1.1,(qFt ((QP0 hc).2.2.2 (by omega) (by omega))).2.1⟩
theorem qNG{E:qH3}{said:List StI}{ls:List LkI}{x:StI}(hn:qC4 said x=false)(hc:qF3 E said ls x=0):qB5 x=0/\qF6 E said ls x=0:=by
 unfold qF3 at hc;split at hc
 .rename_i q;rw[hn]at hc;simp only[Bool.false_eq_true, ↓reduceIte]at hc;exact⟨q,hc⟩
 .rename_i q;exact absurd hc q
theorem QO6{E:qH3}{xs:List StI}:∀k ls,k<=xs.length->qF5 E xs k=some ls->RpS E (xs.take k) ls
 | 0,ls,_,h=>by
  have : ([]:List LkI)=ls:=gJ h;subst this;simpa using RpS.nil E
 | k+1,ls,hk,h=>by
  cases hp:qF5 E xs k with
  | none=>rw[QC3 hp (by omega)]at h;cases h
  | some l0 =>
   have hx:=gA (l:=xs) (i:=k) (by omega);have ih:=QO6 k l0 (by omega) hp;rw[QO7 hp hx]at h;split at h
   .cases h
   .rename_i hn;split at h
    .rename_i hc;have e:qE4 E (xs.take k) l0 xs[k]=ls:=gJ h;subst e;have hn':qC4 (xs.take k) xs[k]=false:=by simpa using hn
     obtain⟨q1,q2⟩:=qNG hn' hc;rw[jR (by omega)];exact ih.next q1 q2
    .cases h
theorem qEk{E:qH3}{said:List StI}{ls:List LkI}(h:RpS E said ls)(hE:0<E.es.length)(e:Int):qB7 E said e = -1\/(0<=qB7 E said e/\qB7 E said e<(E.es.length:Int)):=by
 unfold qB7;split
 .exact .inr ⟨by omega,by omega⟩
 .cases hk:qI6 said 4 (e-1) with
  | none=>exact .inl rfl
  | some y =>
   have hm:=List.mem_of_find?_eq_some hk;have hp:=List.find?_some hk;simp only[jY,jV]at hp;exact .inr (h.nx y hm hp.1)
theorem QX2(v:Int)(w:World):CP 217 #[iv v] w fun e w'=>e=.returned (.bool (inR v 1 2))/\w=w':=by
 unfold inR;cases h0:decide (1<=v)
 .go_enter func217,ntmps217;go_wp2;go_ret;exact⟨by simp,rfl⟩
 .cases h1:decide (v<=2)
  all_goals
   go_enter func217,ntmps217;go_wp2;go_ret;exact⟨by simp,rfl⟩
theorem qIM(v:Int)(w:World):CP 177 #[iv v] w fun e w'=>e=.returned (.bool (inR v 1 2))/\w=w':=by
 go_enter func177,ntmps177;go_wp2_with (go_at_call 109;refine (qT5 _ _ _ _).mono ?_;rintro e w' ⟨rfl,rfl⟩)
 go_ret;exact⟨rfl,rfl⟩
def qP0(fn:Nat)(f c v:Int)(w:World):Prop:=Calls prog fn #[iv f] w fun e w'=>e=.returned (.agg #[iv c,iv v])/\Below w.heap.size w w'
def qQ6(f:Int):Int:=if inR f 1 2=true then 0 else 3
def qZ7(k f:Int):Int:=if inR f 1 2=true then k*f+1 else 0
theorem QK0(f:Int)(w:World):qP0 147 f (qQ6 f) (qZ7 2 f) w:=by
 unfold qP0 qQ6 qZ7;cases h:inR f 1 2
 .have H:Hid (inR f 1 2=false):=h;clear h;simp only[Bool.false_eq_true,if_false];go_enter func147,ntmps147;go_wp2_with (first | (go_at_call 217;refine (QX2 _ _).mono ?_;rintro e w' ⟨rfl,rfl⟩;rw[H.out]) | go_in)
  go_returns
  exact⟨rfl,by go_grown⟩
 .have H:Hid (inR f 1 2=true):=h;obtain⟨h1,h2⟩:=(qD3 f 1 2).1 h;clear h;simp only[if_true];go_enter func147,ntmps147;go_wp2_with (first | (go_at_call 217;refine (QX2 _ _).mono ?_;rintro e w' ⟨rfl,rfl⟩;rw[H.out]) | go_in)
  go_returns
  exact⟨rfl,by go_grown⟩
theorem qM0(f:Int)(w:World):qP0 142 f (qQ6 f) (qZ7 3 f) w:=by
 unfold qP0 qQ6 qZ7;cases h:inR f 1 2
 .have H:Hid (inR f 1 2=false):=h;clear h;simp only[Bool.false_eq_true,if_false];go_enter func142,ntmps142;go_wp2_with (first | (go_at_call 217;refine (QX2 _ _).mono ?_;rintro e w' ⟨rfl,rfl⟩;rw[H.out]) | go_in)
  go_returns
  exact⟨rfl,by go_grown⟩
 .have H:Hid (inR f 1 2=true):=h;obtain⟨h1,h2⟩:=(qD3 f 1 2).1 h;clear h;simp only[if_true];go_enter func142,ntmps142;go_wp2_with (first | (go_at_call 217;refine (QX2 _ _).mono ?_;rintro e w' ⟨rfl,rfl⟩;rw[H.out]) | go_in)
  go_returns
  exact⟨rfl,by go_grown⟩
theorem qME{x:StI}(hk:inR x.k 1 4=true)(h:x.k<3):qB5 x=if x.n=0 then (if inR x.e 1 9=false then 3 else if inR x.f 1 4=false then 3 else if inR x.s 1 255=false then 3 else 0) else 1:=by
 obtain⟨k,e,f,s,n⟩:=x;simp only at hk h ⊢
 have hf:QH6 k=true:=by rw[qD3]at hk;have : k=1\/k=2:=(by omega);rcases this with rfl|rfl <;> rfl
 have ho:qHq ⟨k,e,f,s,n⟩=decide (n=0):=by
  unfold qHq qEU;simp only[hf,if_true,qJ1];simp[eq_comm]
 unfold qB5 qGo;simp only[hk,ho,hf];by_cases h0:n=0
 .subst h0;cases inR e 1 9 <;> cases inR f 1 4 <;> cases inR s 1 255 <;> simp
 .simp[h0]
theorem qMC{x:StI}(hk:inR x.k 1 4=true)(h:3<=x.k):qB5 x=if x.f=0/\x.s=0 then (if inR x.e 1 9=false then 3 else if inR x.n 0 7=false then 3 else 0) else 1:=by
 obtain⟨k,e,f,s,n⟩:=x;simp only at hk h ⊢
 have hf:QH6 k=false:=by rw[qD3]at hk;have : k=3\/k=4:=(by omega);rcases this with rfl|rfl <;> rfl
 have ho:qHq ⟨k,e,f,s,n⟩=decide (f=0/\s=0):=by
  unfold qHq qEU;simp only[hf,qJ1];simp
 unfold qB5 qGo;simp only[hk,ho,hf];by_cases h0:f=0/\s=0
 .obtain⟨rfl,rfl⟩:=h0;cases inR e 1 9 <;> cases inR n 0 7 <;> simp
 .simp[h0]
theorem qPS:inR 0 0 7=true:=rfl
theorem qK1(b o:Nat)(x:StI)(w:World)(h:qM9 w b o x):CP 62 #[.pointer (some ⟨b,o,none⟩)] w fun e w'=>e=.returned (iv (qB5 x))/\w=w':=by
 obtain⟨x0,x1,x2,x3,x4⟩:=h;cases hk:inR x.k 1 4
 .have hC:qB5 x=1:=by unfold qB5;rw[gK hk]
  rw[hC];clear hC;go_enter func62,ntmps62;go_wp2_with (first | (go_at_call 109;refine (qT5 _ _ _ _).mono ?_;rintro e w' ⟨rfl,rfl⟩;rw[hk]))
  go_ret;exact⟨rfl,rfl⟩
 .by_cases h3:3<=x.k
  .rw[qMC hk h3];by_cases f0:x.f=0
   .by_cases s0:x.s=0
    .rw[gK ⟨f0,s0⟩];rw[f0]at x2;rw[s0]at x3;clear f0 s0;cases he:inR x.e 1 9
     .go_enter func62,ntmps62;go_wp2_with (first | (go_at_call 109;refine (qT5 _ _ _ _).mono ?_;rintro e w' ⟨rfl,rfl⟩;rw[hk]) | (go_at_call 110;refine (qU1 _ _).mono ?_;rintro e w' ⟨rfl,rfl⟩;rw[he]))
      go_ret;exact⟨rfl,rfl⟩
     .cases hn:inR x.n 0 7
      all_goals
       go_enter func62,ntmps62;go_wp2_with (first | (go_at_call 109;refine (qT5 _ _ _ _).mono ?_;rintro e w' ⟨rfl,rfl⟩;rw[hk]) | (go_at_call 110;refine (qU1 _ _).mono ?_;rintro e w' ⟨rfl,rfl⟩;rw[he]) | (go_at_call 109;refine (qT5 _ _ _ _).mono ?_;rintro e w' ⟨rfl,rfl⟩;rw[hn]))
       go_ret;exact⟨rfl,rfl⟩
    .rw[gI (fun q=>s0 q.2)];rw[f0]at x2;have sb:(x.s != 0)=true:=by simpa using s0
     clear f0 s0;go_enter func62,ntmps62;go_wp2_with (first | (go_at_call 109;refine (qT5 _ _ _ _).mono ?_;rintro e w' ⟨rfl,rfl⟩;rw[hk]))
     go_ret;exact⟨rfl,rfl⟩
   .rw[gI (fun q=>f0 q.1)];have fb:(x.f != 0)=true:=by simpa using f0
    clear f0;go_enter func62,ntmps62;go_wp2_with (first | (go_at_call 109;refine (qT5 _ _ _ _).mono ?_;rintro e w' ⟨rfl,rfl⟩;rw[hk]))
    go_ret;exact⟨rfl,rfl⟩
  .have h3':x.k<3:=by omega
   rw[qME hk h3'];clear h3;by_cases n0:x.n=0
   .rw[gK n0];rw[n0]at x4;clear n0;have hn:=qPS;cases he:inR x.e 1 9
    .go_enter func62,ntmps62;go_wp2_with (first | (go_at_call 109;refine (qT5 _ _ _ _).mono ?_;rintro e w' ⟨rfl,rfl⟩;rw[hk]) | (go_at_call 110;refine (qU1 _ _).mono ?_;rintro e w' ⟨rfl,rfl⟩;rw[he]))
     go_ret;exact⟨rfl,rfl⟩
    .cases hf:inR x.f 1 4
     .go_enter func62,ntmps62;go_wp2_with (first | (go_at_call 109;refine (qT5 _ _ _ _).mono ?_;rintro e w' ⟨rfl,rfl⟩;rw[hk]) | (go_at_call 110;refine (qU1 _ _).mono ?_;rintro e w' ⟨rfl,rfl⟩;rw[he]) | (go_at_call 111;refine (qHU _ _).mono ?_;rintro e w' ⟨rfl,rfl⟩;rw[hf]))
      go_ret;exact⟨rfl,rfl⟩
     .cases hs:inR x.s 1 255
      all_goals
       go_enter func62,ntmps62;go_wp2_with (first | (go_at_call 109;refine (qT5 _ _ _ _).mono ?_;rintro e w' ⟨rfl,rfl⟩;rw[hk]) | (go_at_call 110;refine (qU1 _ _).mono ?_;rintro e w' ⟨rfl,rfl⟩;rw[he]) | (go_at_call 111;refine (qHU _ _).mono ?_;rintro e w' ⟨rfl,rfl⟩;rw[hf]) | (go_at_call 109;refine (qT5 _ _ _ _).mono ?_;rintro e w' ⟨rfl,rfl⟩;rw[hs]) | (go_at_call 109;refine (qT5 _ _ _ _).mono ?_;rintro e w' ⟨rfl,rfl⟩;rw[hn]))
       go_ret;exact⟨rfl,rfl⟩
   .rw[gI n0];have nb:(x.n != 0)=true:=by simpa using n0
    clear n0;go_enter func62,ntmps62;go_wp2_with (first | (go_at_call 109;refine (qT5 _ _ _ _).mono ?_;rintro e w' ⟨rfl,rfl⟩;rw[hk]))
    go_ret;exact⟨rfl,rfl⟩
structure qLo (lo hi:Nat) (P:World->Prop) (W:World):Prop where
 out:P W
 le:hi<=W.heap.size
 kept:∀X X':World,P X->(∀b,lo<=b->b<hi->X'.heap[b]?=X.heap[b]?)->P X'
theorem qLo.below{lo hi:Nat}{P:World->Prop}{W W':World}(h:qLo lo hi P W)(hb:Below W.heap.size W W'):qLo lo hi P W' :=
 ⟨h.kept _ _ h.out (fun b _ h2=>hb.block b (gD h2 h.le)),jF h.le hb.size,h.kept⟩
theorem qN4{w:World}{base:Nat}{e:TypeId}{size:Nat}{v:Value}{n:Nat}{xs:List Value}(h:w.ownsRow base e size v n xs){a:Addr}(ha:a.block<base)(u:Value):(w.setCell a u).ownsRow base e size v n xs:=by
 refine⟨h.1,?_⟩;rcases h.2 with q | ⟨g,cap,cur,e1,hg,hb,rest⟩
 .exact .inl q
 .exact .inr ⟨g,cap,cur,e1,hg,(zS (by intro q;omega)).trans hb,rest⟩
def QD0(b:Nat)(vs:List Value)(X:World):Prop:=∀j v,vs[j]?=some v->X.cell? ⟨b,j,none⟩=some v
theorem QD0.hold{b:Nat}{vs:List Value}{W:World}(h:QD0 b vs W)(hb:b<W.heap.size):qLo b (b+1) (QD0 b vs) W :=
 ⟨h,hb,fun X X' hX hk j v e=>(jO (w:=X) (w':=X') (a:=⟨b,j,none⟩) (hk b (gB _) (by omega))).trans (hX j v e)⟩
theorem qG3(W:World)(cs:Array Value)(t:TypeId):qLo W.heap.size (W.heap.size+1) (QD0 W.heap.size cs.toList) (W.alloc (.cells cs t)):=by
 refine QD0.hold (fun j v e=>?_) (by simp);have h:(W.alloc (.cells cs t)).heap[W.heap.size]?=some (.cells cs t):=by show (W.heap.push _)[W.heap.size]?=_;simp
 unfold World.cell?;simp only;rw[h];simpa using e
def qJ2(b:Nat)(vs:List Value)(X:World):Prop:=QD0 b vs X/\(∀j,X.frozen? ⟨b,j,none⟩=false)
theorem qJ2.hold{b:Nat}{vs:List Value}{W:World}(h:qJ2 b vs W)(hb:b<W.heap.size):qLo b (b+1) (qJ2 b vs) W :=
 ⟨h,hb,fun X X' hX hk=>⟨(QD0.hold h.1 hb).kept X X' hX.1 hk,fun j=>(World.frozen?_of_block (w:=X) (w':=X') (a:=⟨b,j,none⟩) (hk b (gB _) (by omega))).trans (hX.2 j)⟩⟩
theorem qJ2.below{b:Nat}{vs:List Value}{W W':World}(h:qJ2 b vs W)(hb:b<W.heap.size)(hw:Below W.heap.size W W'):qJ2 b vs W':=((h.hold hb).below hw).out
theorem qI5(W:World)(cs:Array Value)(t:TypeId):qJ2 W.heap.size cs.toList (W.alloc (.cells cs t)) :=
 ⟨(qG3 W cs t).out,fun j=>by
  have h:(W.alloc (.cells cs t)).heap[W.heap.size]?=some (.cells cs t):=by show (W.heap.push _)[W.heap.size]?=_;simp
  unfold World.frozen?;simp only;rw[h];simp⟩
theorem qJ2.put{b:Nat}{vs:List Value}{X:World}(h:qJ2 b vs X)(j:Nat)(hj:j<vs.length)(v:Value):qJ2 b (vs.set j v) (X.setCell ⟨b,j,none⟩ v):=by
 refine⟨fun i u e=>?_,fun i=>by rw[jE];exact h.2 i⟩;by_cases q:i=j
 .subst q;rw[List.getElem?_set_self hj]at e;have hc:=h.1 i _ (gA hj);cases e;simp[go_sem,hc]
 .rw[List.getElem?_set_ne (Ne.symm q)]at e;rw[gF (h:=fun e=>q (by have:=jA Addr.off e;simp at this;omega))];exact h.1 i u e
theorem qJ2.other{b:Nat}{vs:List Value}{X:World}(h:qJ2 b vs X){p:Addr}(hp:p.block≠b)(v:Value):qJ2 b vs (X.setCell p v):=by
 refine⟨fun i u e=>?_,fun i=>by rw[jE];exact h.2 i⟩;rw[gF (h:=fun e=>hp (by rw[e]))];exact h.1 i u e
theorem qA4{X X':World}{B:Nat}{t:TypeId}{sz:Nat}{v:Value}{n:Nat}{xs:List Value}(h:X.ownsRow B t sz v n xs)(hk:∀g,v.ownBlock=some g->X'.heap[g]?=X.heap[g]?):X'.ownsRow B t sz v n xs:=by
 refine⟨h.1,?_⟩;rcases h.2 with q | ⟨g,cap,cur,e,hg,hb,rest⟩
 .exact .inl q
 .exact .inr ⟨g,cap,cur,e,hg,(hk g (by rw[e];rfl)).trans hb,rest⟩
theorem qHn{W:World}{B:Nat}{t:TypeId}{sz:Nat}{v:Value}{n:Nat}{xs:List Value}(h:W.ownsRow B t sz v n xs)(hi:Nat)(h1:∀g,v.ownBlock=some g->g<hi)(h2:hi<=W.heap.size):qLo B hi (fun X=>X.ownsRow B t sz v n xs) W :=
 ⟨h,h2,fun X X' hX hk=>qA4 hX (fun g e=>hk g (hX.lt g e).1 (h1 g e))⟩
theorem QV8{W:World}{B:Nat}{t:TypeId}{sz:Nat}{v:Value}{n:Nat}{xs:List Value}(h:W.ownsRow B t sz v n xs):qLo B W.heap.size (fun X=>X.ownsRow B t sz v n xs) W:=qHn h _ (fun g e=>(h.lt g e).2) (gB _)
section
abbrev Up(ys:List Int):Prop:=ys.Pairwise (fun a b=>a<b)
def qY1(ys:List Int):Bool:=decide (Up ys)
def QA6(f:Int)(ys:List Int):Bool:=ys.all (fun y=>inR y 1 (3*f+1))
theorem qBG{ys:List Int}{n:Nat}(hn:ys.length=n)(h:∀k a b,1<=k->k<n->ys[k-1]?=some a->ys[k]?=some b->a<b):Up ys:=by
 subst hn
 have step:∀d i (hi:i+d+1<ys.length) (hi0:i<ys.length),ys[i]<ys[i+d+1]:=by
  intro d;induction d with
  | zero=>intro i hi hi0;exact h (i+1) _ _ (by omega) hi (by rw[Nat.add_sub_cancel];exact gA hi0) (gA hi)
  | succ d ih =>
   intro i hi hi0;have h1:=ih i (by omega) hi0;have h2:ys[i+d+1]'(by omega)<ys[i+(d+1)+1]:=h (i+d+2) _ _ (by omega) (by omega) (by rw[show i+d+2-1=i+d+1 by omega];exact gA (by omega)) (gA (by omega));omega
 refine jU.2 (fun i j hi hj hij=>?_);obtain⟨d,rfl⟩:∃d,j=i+d+1:=⟨j-i-1,by omega⟩;exact step d i hj hi
theorem qEN{ys:List Int}{k:Nat}{a b:Int}(ha:ys[k-1]?=some a)(hb:ys[k]?=some b)(hk:1<=k)(h:¬ a<b):¬ Up ys:=by
 intro hu
 have hl:k<ys.length:=by
  by_cases q:k<ys.length
  .exact q
  .rw[gE (by omega)]at hb;cases hb
 have:=jU.1 hu (k-1) k (by omega) hl (by omega);rw[gA (by omega)]at ha;rw[gA hl]at hb;have e1:=gJ ha;have e2:=gJ hb;rw[e1,e2]at this;exact h this
def qFA(x y:Int):Int:=if x<y then -1 else if y<x then 1 else 0
theorem qGZ(x y:Int)(w:World):CP 221 #[iv x,iv y] w fun e w'=>e=.returned (iv (qFA x y))/\w=w':=by
 unfold qFA;by_cases h1:x<y
 .go_enter func221,ntmps221;go_wp2;go_ret;exact⟨by simp[h1],rfl⟩
 .by_cases h2:y<x
  .go_enter func221,ntmps221;go_wp2;go_ret;exact⟨by simp[h1,h2],rfl⟩
  .go_enter func221,ntmps221;go_wp2;go_ret;exact⟨by simp[h1,h2],rfl⟩
theorem qQ2(x y:Int)(w:World):CP 189 #[iv x,iv y] w fun e w'=>e=.returned (iv (qFA x y))/\w=w':=by
 go_enter func189,ntmps189;go_wp2_with (first | (go_at_call 221;refine (qGZ _ _ _).mono ?_;rintro e w' ⟨rfl,rfl⟩))
 go_ret;exact⟨rfl,rfl⟩
theorem qIm(c v:Int)(w:World):(Instr.field 48 (.agg #[iv c,iv v]) 0).run prog w=.ok (iv c) w:=by kernel_rfl
theorem qGU(c v:Int)(w:World):(Instr.field 48 (.agg #[iv c,iv v]) 1).run prog w=.ok (iv v) w:=by kernel_rfl
attribute [local go_sem] qIm qGU
theorem QH1(i c v:Int)(w:World):CP 143 #[iv i,.agg #[iv c,iv v]] w fun e w'=>e=.returned (.bool (decide (c=0)&&inR i 1 v))/\Below w.heap.size w w':=by
 have hB:Below w.heap.size w (w.alloc (.cells #[iv c,iv v] 48)):=zN;unfold inR;by_cases q0:c=0
 .have b0:(c==0)=true:=by simp[q0]
  by_cases q1:1<=i
  .by_cases q2:i<=v
   .have e:(decide (c=0)&&(decide (1<=i)&&decide (i<=v)))=true:=by simp[q0,q1,q2]
    rw[e];clear e q0;go_enter func143,ntmps143;go_wp2;go_ret;exact⟨rfl,hB⟩
   .have e:(decide (c=0)&&(decide (1<=i)&&decide (i<=v)))=false:=by simp[q0,q1,q2]
    rw[e];clear e q0;go_enter func143,ntmps143;go_wp2;go_ret;exact⟨rfl,hB⟩
  .have e:(decide (c=0)&&(decide (1<=i)&&decide (i<=v)))=false:=by simp[q1]
   rw[e];clear e q0;go_enter func143,ntmps143;go_wp2;go_ret;exact⟨rfl,hB⟩
 .have b0:(c==0)=false:=by simp[q0]
  have e:(decide (c=0)&&(decide (1<=i)&&decide (i<=v)))=false:=by simp[q0]
  rw[e];clear e q0;go_enter func143,ntmps143;go_wp2;go_ret;exact⟨rfl,hB⟩
abbrev KC(W W':World):Prop:=(∀b o,b<W.heap.size->W'.cell? ⟨b,o,none⟩=W.cell? ⟨b,o,none⟩)/\Below W.heap.size W W'
theorem qNo(a:Option Addr)(n cap:Nat)(ys:List Int)(w:World)(hn:n<=1048576)(h:qD0 w a n ys):
  CP 144 #[.slice a n cap] w fun e w'=>e=.returned (.bool (qY1 ys))/\Below w.heap.size w w':=by
 have H:=hJJ h;have HZ:=hJJ h.1;have hn':(n:Int)<=1048576:=by omega
 clear h;go_enter func144,ntmps144;go_wp2;go_loopw [3] (fun i wr=>∃m:Nat,1<=m/\(m<=n\/m=1)/\i=iv (m:Int)/\(∀j x y,1<=j->j<m->ys[j-1]?=some x->ys[j]?=some y->x<y)/\Below w.heap.size w wr) (fun i _=>n+1-(intOf i).toNat)
 case atStart=>exact⟨1,gB _,.inr rfl,rfl,fun j x y h1 h2=>by omega,gC _ _⟩
 case round =>
  obtain⟨m,hm1,hmn,rfl,hr,hnx⟩:=hrel;have HR:=hJJ hr;clear hr;by_cases hlt:m<n
  .obtain⟨k,hk⟩:∃k,k+1=m:=⟨m-1,by omega⟩;obtain⟨b,off,x,rfl,hx,hxa,hbl⟩:=H.out.at (show k<n by omega)
   obtain⟨b',off',y,e',hy,hya,_⟩:=H.out.at hlt
   cases e';have c0:=(hnx.cell (p:=⟨b,off+k,none⟩) hbl).trans hxa;have c1:=(hnx.cell (p:=⟨b,off+m,none⟩) hbl).trans hya;have hbw:b<wr.heap.size:=gD hbl hnx.size;have hlt':(m:Int)<(n:Int):=by omega
   have hm0:(0:Int)<=(m:Int):=by omega
   have hk0:(0:Int)<=(k:Int):=by omega
   have hkn:(k:Int)<(n:Int):=by omega
   have hwr:IntKind.i64.wrap ((m:Int)-1)=(k:Int):=by rw[kG];omega
   have HX:Hid (ys[m-1]?=some x/\ys[m]?=some y):=⟨by rw[show m-1=k by omega];exact hx,hy⟩;clear hx hy hxa hya hk hmn;by_cases hxy:x<y
   .have HC:Hid (qFA x y = -1):=by show qFA x y = -1;unfold qFA;rw[gK hxy]
    have HN:Hid (∀j x y,1<=j->j<m+1->ys[j-1]?=some x->ys[j]?=some y->x<y):=fun j x' y' h1 h2 e1 e2=>by
     by_cases q:j=m
     .subst q;rw[HX.out.1]at e1;rw[HX.out.2]at e2;cases e1;cases e2;exact hxy
     .exact HR.out j x' y' h1 (by omega) e1 e2
    clear hxy;go_wp2
    go_region_held3 (fun w'=>KC wr w') (first | exact hS | exact qA8 _ | assumption)
     (first | (go_at_call 189;refine (qQ2 x y _).mono ?_;rintro e w' ⟨rfl,rfl⟩;rw[HC.out]))
    go_wp2;exact⟨⟨m+1,by omega,.inl (by omega),by go_num,HN.out,hnx.drew⟩,by simp[intOf];omega⟩
   .have HC:Hid (∃d,qFA x y=d/\0<=d):=by
     refine⟨_,rfl,?_⟩;unfold qFA;rw[gI hxy];split <;> omega
    obtain⟨d,hd,hd0⟩:=HC.out;have HD:=hJJ hd
    have HF:Hid (qY1 ys=false):=by
     show qY1 ys=false
     unfold qY1;exact jL (qEN (k:=m) HX.out.1 HX.out.2 (by omega) hxy)
    clear hxy hd HC;go_wp2
    go_region_held3 (fun w'=>KC wr w') (first | exact hS | exact qA8 _ | assumption)
     (first | (go_at_call 189;refine (qQ2 x y _).mono ?_;rintro e w' ⟨rfl,rfl⟩;rw[HD.out]))
    go_wp2;go_ret;exact⟨by rw[HF.out];rfl,hnx.drew⟩
  .have hlt':¬ ((m:Int)<(n:Int)):=by omega
   have HF:Hid (qY1 ys=true):=by
    show qY1 ys=true
    unfold qY1;exact jQ (qBG HZ.out (fun j x y h1 h2 e1 e2=>HR.out j x y h1 (by omega) e1 e2))
   go_wp2;go_ret;exact⟨by rw[HF.out];rfl,hnx⟩
theorem qHw{us:List Int}{y:Int}{k:Nat}:y∈us.take k↔∃j,j<k/\us[j]?=some y:=by
 rw[List.mem_take_iff_getElem];constructor
 .rintro⟨j,hj,e⟩;exact⟨j,by omega,by rw[gA (by omega),e]⟩
 .rintro⟨j,hj,e⟩
  have hl:j<us.length:=by
   by_cases q:j<us.length
   .exact q
   .rw[gE (by omega)]at e;cases e
  rw[gA hl]at e;exact⟨j,by omega,gJ e⟩
theorem qEa{us:List Int}{y p:Int}{k:Nat}(h:¬ y∈us.take k)(hp:us[k]?=some p)(hne:¬ p=y):¬ y∈us.take (k+1):=by
 rw[qHw]at h ⊢
 rintro⟨j,hj,e⟩;by_cases q:j=k
 .subst q;rw[hp]at e;exact hne (gJ e)
 .exact h ⟨j,by omega,e⟩
theorem qIK(a:Option Addr)(n cap:Nat)(us:List Int)(y:Int)(w:World)(hn:n<=1048576)(h:qD0 w a n us):
  CP 132 #[.slice a n cap,iv y] w fun e w'=>e=.returned (.bool (decide (y∈us)))/\w=w':=by
 have H:=hJJ h;have HZ:=hJJ h.1;have hn':(n:Int)<=1048576:=by omega
 clear h;go_enter func132,ntmps132;go_wp2;go_loop [5] (fun i=>∃k:Nat,k<=n/\i=iv (k:Int)/\¬ y∈us.take k) (fun i=>n-(intOf i).toNat)
 case atStart=>exact⟨0,gH _,rfl,by simp⟩
 case round =>
  obtain⟨k,hk,rfl,hm⟩:=hrel;have HM:=hJJ hm;clear hm;by_cases hlt:k<n
  .obtain⟨b,off,p,rfl,hp,hpa,hbl⟩:=H.out.at hlt
   have hlt':(k:Int)<(n:Int):=by omega
   by_cases e:p=y
   .have eb:(p==y)=true:=by simp[e]
    have HI:Hid (decide (y∈us)=true):=by show _=_;simp;rw[<- e];exact gO hp
    clear hp e;go_wp2;go_ret;exact⟨by rw[HI.out];rfl,rfl⟩
   .have eb:(p==y)=false:=by simp[e]
    have HN:Hid (¬ y∈us.take (k+1)):=qEa HM.out hp e;clear hp e;go_wp2;exact⟨⟨k+1,by omega,by go_num,HN.out⟩,by simp[intOf];omega⟩
  .have hkn:k=n:=by omega
   subst hkn
   have HN:Hid (decide (y∈us)=false):=by
    have:=HM.out;rw[gV (by rw[HZ.out];exact gB _)]at this;show _=_
    simp[this]
   go_wp2;go_ret;exact⟨by rw[HN.out];rfl,rfl⟩
end
section
open Go.RowKit Go.Maps
theorem qLL:prog.underlying 301=some (.map 2 323):=by kernel_rfl
theorem QZ2:Keyed prog 2:=int_keyed underlying2
abbrev QX3(i:Int):Prop:=(Lit.int .i64 i).wf=true
theorem qNg{i:Int}(h:QX3 i):keyOf prog 2 (.int .i64 i)=some (.int .i64 i):=keyOf_int_mk underlying2 h
theorem qMy{i:Int}(h0 : -100<=i)(h1:i<=100):QX3 i:=by
 simp[QX3,Lit.wf,IntKind.min,IntKind.max,IntKind.signed,IntKind.bits];omega
noncomputable abbrev elS:Value->Option (DataW Unit × List MemPlace):=unitElem
def SM(w:World)(b N:Nat)(p:Int->Bool):Prop:=∃D n,n<=N/\w.ownsMap prog 2 elS b n D/\∀i,QX3 i->Maps.has D (.int .i64 i)=p i
theorem SM.lt{w:World}{b N:Nat}{p:Int->Bool}(h:SM w b N p):b<w.heap.size:=by
 obtain⟨D,n,_,ho,_⟩:=h;exact ho.lt
theorem qMJ{w w':World}{b N:Nat}{p:Int->Bool}(h:SM w b N p)(e:w'.heap[b]?=w.heap[b]?):SM w' b N p:=by
 obtain⟨D,n,h1,⟨es,clock,hb,F,hs,hD⟩,hv⟩:=h;exact⟨D,n,h1,⟨es,clock,e.trans hb,F,hs,hD⟩,hv⟩
theorem SM.below{w w':World}{b N k:Nat}{p:Int->Bool}(h:SM w b N p)(hk:b<k)(hb:Below k w w'):SM w' b N p:=qMJ h (hb.block b hk)
theorem qMI(w:World):SM (w.alloc (.map #[] 0)) w.heap.size 0 (fun _=>false) :=
 ⟨.map [],0,Nat.le_refl _,World.ownsMap_made w _ _ _,fun i _=>rfl⟩
def qNp(p:Int->Bool)(i:Int):Int->Bool:=fun j=>decide (j=i) || p j
def qPU(p:Int->Bool)(i:Int):Int->Bool:=fun j => !decide (j=i)&&p j
theorem qLa(i:Int):WideAt.IsKeyLit (.int .i64 i):=trivial
theorem qLU{i j:Int}(h:¬ j=i):(Lit.int .i64 j)≠(Lit.int .i64 i):=fun e=>h (by injection e)
theorem qNh{w:World}{b N:Nat}{p:Int->Bool}(h:SM w b N p)(hN:N<1000000){i:Int}(hi:QX3 i):
  ∃w',(Instr.mapUpdate 301 (.map (some b)) (.int .i64 i) (.agg #[])).run prog w=.ok () w'/\SM w' b (N+1) (qNp p i)/\w.grownBy w' (some b):=by
 obtain⟨D,n,h1,ho,hv⟩:=h;obtain⟨w',hr,ho',ht⟩:=ho.store QZ2 qLL (by unfold maxLen;omega) (qNg hi) (unitElem_mk (H:=Unit));refine⟨w',hr,⟨_,n+1,by omega,ho',fun j hj=>?_⟩,ht.grown⟩;by_cases e:j=i
 .subst e;rw[has_put_same ho.isMap (qLa _)];simp[qNp]
 .rw[has_put_other (qLU e),hv j hj];simp[qNp,e]
theorem qMH(b N:Nat)(p:Int->Bool)(i:Int)(w:World)(h:SM w b N p)(hN:N<1000000)(hi:QX3 i):
  CP 245 #[.map (some b),iv i] w fun e w'=>e=.returned (.tuple #[])/\SM w' b (N+1) (qNp p i)/\w.grownBy w' (some b):=by
 obtain⟨w',hr,hs,hg⟩:=qNh h hN hi;go_enter func245,ntmps245;go_wp2;go_end0
 exact⟨rfl,hs,hg⟩
end
section
open Go.RowKit Go.Shelf Go.Maps
theorem QL5(k:FuncId):Fence.wide.fn k=True:=eq_true trivial
attribute [local go_sem] Oper.semAt_some
attribute [local go_sem] QL5
attribute [local simp] QL5
set_option linter.unusedVariables false
set_option linter.unusedSimpArgs false
def QL4(p:Int->Bool)(ys:List Int):Prop:=ys.Nodup/\(∀i∈ys,QX3 i)/\∀i,QX3 i->(i∈ys↔p i=true)
structure qGm (D0:DataW Unit) (left:Lit->Bool) (ss:List Int):Prop where
 nd:ss.Nodup
 wf:∀r∈ss,QX3 r
 mem:∀r,QX3 r->(r∈ss↔Maps.has D0 (.int .i64 r)=true/\left (.int .i64 r)=false)
theorem qDj(D0:DataW Unit):qGm D0 (Maps.has D0) []:=by
 refine⟨List.nodup_nil,fun r h=>(by cases h),fun r _=>⟨fun h=>(by cases h),fun h=>?_⟩⟩;have h2:=h.2;rw[h.1]at h2;cases h2
theorem qGa{D0:DataW Unit}{left:Lit->Bool}{ss:List Int}(h:qGm D0 left ss){x:Int}(hx:QX3 x)(hl:left (.int .i64 x)=true)(hh:Maps.has D0 (.int .i64 x)=true):
  qGm D0 (fun z=>left z && !z.sameKey (.int .i64 x)) (ss++[x]):=by
 have hn:x ∉ ss:=fun q=>by
  have:=((h.mem x hx).1 q).2;rw[hl]at this;cases this
 refine⟨List.nodup_append.2 ⟨h.nd,by simp,fun a ha b hb e=>hn (by simp at hb;rw[<- hb,<- e];exact ha)⟩,fun r hr=>?_,fun r hr=>?_⟩
 .rcases List.mem_append.1 hr with q | q
  .exact h.wf r q
  .simp at q;rw[q];exact hx
 .rw[List.mem_append,List.mem_singleton];by_cases e:r=x
  .subst e;simp[hh,WideAt.sameKey_self (qLa r)]
  .have hs:(Lit.int .i64 r).sameKey (.int .i64 x)=false:=sameKey_ne (qLU e);rw[hs,h.mem r hr];simp[e]
theorem qIt{D0:DataW Unit}{left:Lit->Bool}{ss:List Int}{p:Int->Bool}(h:qGm D0 left ss)(hl:∀kl,left kl=false)(hv:∀i,QX3 i->Maps.has D0 (.int .i64 i)=p i):QL4 p ss:=by
 refine⟨h.nd,h.wf,fun r hr=>?_⟩;rw[h.mem r hr,hv r hr];simp[hl]
theorem qEn{v:Value}{kl:Lit}(h:keyOf prog 2 v=some kl):∃i,QX3 i/\v=.int .i64 i/\kl=.int .i64 i:=by
 simp only[keyOf,underlying2,mapKey]at h;cases v <;> simp at h
 obtain⟨⟨rfl,hw⟩,hh⟩:=h;exact⟨_,hw,rfl,hh.symm⟩
theorem qHJ(n:Nat)(hn:1<=n)(l Bm b nn:Nat)(D0:DataW Unit)(p:Int->Bool)(hvw:∀i,QX3 i->Maps.has D0 (.int .i64 i)=p i)(hnn:nn<=1000)(J Jx:List Int->World->Prop)(hY:∀pre x W,J pre W->pre.length<1001->YieldAt Fence.wide (n-1) prog l #[.int .i64 x] W fun e W' =>
   (e=.returned (.bool true)/\J (pre++[x]) W'/\KeepsWalks W W')\/(e=.returned (.bool false)/\Jx (pre++[x]) W'))(W:World)(hJ:AbidesFrom W.heap.size J)(hm:W.cell? ⟨Bm,0,none⟩=some (.map (some b)))(hown:W.ownsMap prog 2 elS b nn D0)(h0:J [] W):
  CallsIn Fence.wide n prog 282 #[.func (.yield l) #[] #[],.pointer (some ⟨Bm,0,none⟩)] W fun e W'=>(∃v,e=.returned v) /\
   ((∃ys,QL4 p ys/\J ys W')\/(∃pre,True/\Jx pre W')):=by
 have hsz:=Nat.le_trans hown.size_le hnn;refine callsIn_of_wp func282 rfl trivial ?_ rfl;simp only[ntmps282,List.size_toArray,List.length_cons,List.length_nil,Nat.reduceAdd,Nat.reduceSub,Array.replicate_succ,Array.replicate_zero,List.push_toArray,List.append_toArray,List.nil_append,List.cons_append]
 gi_wp2_with (first
  | (gi_at_range;refine wpListIn_range_own _ rfl _ 301 rfl 2 323 QZ2 qLL _ b nn _ rfl hown ?_;intro w0 hrg0 hg0 hs0)
  | gi_in)
 go_frame
 gi_loopw [3] (fun _ wr=>∃(left:Lit->Bool) (cnt:Nat) (ss:List Int),wr.ranges prog 2 elS b W.heap.size nn D0 left cnt/\ss.length+cnt<=Maps.size D0/\qGm D0 left ss/\J ss wr)
  (fun _ wr=>wr.rangeLeft b W.heap.size)
 case atStart =>
  exact⟨_,_,[],hrg0,by simp,qDj D0,hJ [] W w0 none h0 hg0 (fun r e=>by cases e)⟩
 case round =>
  obtain⟨left,cnt,ss,hrg,hcs,hC,hJs⟩:=hrel
  gi_wp2_with (first
   | (gi_at_next;refine wpListIn_next_ranges _ rfl _ rfl 2 QZ2 elS (fun i:Int => .int .i64 i) id (fun key kl hk=>by obtain⟨r,_,hr,_⟩:=qEn hk;exact⟨r,hr⟩) (fun v _ _=>⟨v,rfl⟩) b W.heap.size nn _ _ _ rfl hrg ?_ ?_)
   | gi_in)
  .intro hc0 hl0;gi_wp2
   go_end0
   exact⟨⟨_,rfl⟩,.inl ⟨ss,qIt hC hl0 hvw,hJs⟩⟩
  .intro o c kl yd yp w2 cnt2 hkey hlk hv hat hrg2 hlt hg2 hs2 hen;obtain⟨r,hr,ex,rfl⟩:=qEn hkey;obtain rfl:o=r:=by simpa using ex
   have hh:Maps.has D0 (.int .i64 o)=true:=has_true_of_atKey hat;have hlen:ss.length<1001:=by omega
   have hJ2:J ss w2:=hJ ss wr w2 (some W.heap.size) hJs hg2 (fun r e=>by cases e;exact⟨Nat.le_refl _,hrg.iter_walk⟩);obtain⟨fn,tmps,assign,body,hy,hR⟩:=hY ss o _ hJ2 hlen
   have hR':=hR.mono (R':=fun e W'=>∃b:Bool,e=.returned (.bool b)/\Hid ((b=true/\J (ss++[o]) W'/\KeepsWalks w2 W')\/(b=false/\Jx (ss++[o]) W'))) (by
    rintro e W' (⟨rfl,h⟩ | ⟨rfl,h⟩)
    .exact⟨true,rfl,.inl ⟨rfl,h⟩⟩
    .exact⟨false,rfl,.inr ⟨rfl,h⟩⟩)
   have HC:Hid (qGm D0 (fun z=>left z && !z.sameKey (.int .i64 o)) (ss++[o])):=qGa hC hr hlk hh;have HM:Hid (wr.rangeLeft b W.heap.size=cnt/\cnt2<cnt):=⟨hrg.left_eq,hlt⟩;have HR3:Hid (w2.ranges prog 2 elS b W.heap.size nn D0 (fun z=>left z && !z.sameKey (.int .i64 o)) cnt2):=hrg2;clear hR hY hJ hJ2 hJs h0 hC hrg hrg2 hs2 hat hlk hh hg2 hown hvw;gi_wp2
   refine hR'.mono ?_;rintro e W3 ⟨bb,rfl,HD⟩;rcases HD.out with⟨rfl,hJ4,hk4⟩ | ⟨rfl,hJx⟩
   .gi_wp2
    have hrg4:=World.ranges.of_walks HR3.out hk4;go_roundw
    case rel=>exact⟨_,cnt2,ss++[o],hrg4,by simp;omega,HC.out,hJ4⟩
    case measure=>rw[hrg4.left_eq,HM.out.1];exact HM.out.2
   .gi_wp2
    refine bodyPost_ret (results_none rfl _ _ _) rfl ?_;exact⟨⟨_,rfl⟩,.inr ⟨_,trivial,hJx⟩⟩
theorem qJj(n:Nat)(b:Nat)(w:World):
  CallsIn Fence.wide n prog 264 #[.map (some b)] w fun e w'=>e=.returned (.func (.func 282) #[] #[.pointer (some ⟨w.heap.size,0,none⟩)])/\w.alloc (.cells #[.map (some b)] 301)=w':=by
 refine callsIn_of_wp func264 rfl trivial ?_ rfl;simp only[ntmps264,kO,jX,List.length_nil,Nat.reduceAdd,Nat.reduceSub,Array.replicate_succ,Array.replicate_zero,List.push_toArray,List.append_toArray,kR,List.cons_append];gi_wp2
 go_ret;exact⟨rfl,rfl⟩
theorem qCd(n:Nat)(hn:1<=n)(Bm b N:Nat)(p:Int->Bool)(w:World)(hN:N<=1000)(hBm:Bm<w.heap.size)(hm:w.cell? ⟨Bm,0,none⟩=some (.map (some b)))(h:SM w b N p):
  SeqStopsK Fence.wide n prog 282 #[.pointer (some ⟨Bm,0,none⟩)] (fun x:Int => #[.int .i64 x]) KeepsWalks (QL4 p) (fun _=>True) 1001 w:=fun l J Jx W hW hJ _ hY h0=>by
 obtain⟨D,nn,hnn,ho,hv⟩:=h.below h.lt hW;exact qHJ n hn l Bm b nn D p hv (by omega) J Jx (fun pre x W hj hl=>hY pre x W hj hl) W hJ ((hW.cell (p:=⟨Bm,0,none⟩) hBm).trans hm) ho h0
end
section
open Go.Shelf
def Tryz.sortInt_ren:Go.Shelf.Ren:=⟨fun | 6=>281 | 15=>294 | 14=>293 | 28=>310 | 29=>311 | 20=>302 | 21=>303 | 22=>304 | 23=>305 | 24=>306 | 25=>307 | 26=>308 | 27=>309 | 46=>320 | 47=>321 | 48=>322 | 49=>323 | 50=>324 | 57=>329 | n=>n,fun | 22=>23 | 24=>2 | 25=>245 | 3=>3 | 39=>259 | 0=>0 | 53=>386 | 55=>304 | 4=>4 | 46=>380 | 45=>379 | 50=>369 | 5=>5 | 9=>9 | 66=>402 | 70=>406 | 76=>423 | 77=>424 | n=>n,fun | n=>n⟩
theorem Tryz.sortInt:Go.Proofs.SlLaysF.n6 prog Tryz.sortInt_ren:={
 mixed:=by kernel_rfl
 f6:=⟨f281.name,by decide,func281.trans (jA some (by kernel_rfl))⟩
 f14:=⟨f293.name,by decide,func293.trans (jA some (by kernel_rfl))⟩
 f15:=func294.trans (jA some (by kernel_rfl))
 f20:=⟨f302.name,by decide,func302.trans (jA some (by kernel_rfl))⟩
 f21:=⟨f303.name,by decide,func303.trans (jA some (by kernel_rfl))⟩
 f22:=⟨f304.name,by decide,func304.trans (jA some (by kernel_rfl))⟩
 f23:=⟨f305.name,by decide,func305.trans (jA some (by kernel_rfl))⟩
 f24:=⟨f306.name,by decide,func306.trans (jA some (by kernel_rfl))⟩
 f25:=⟨f307.name,by decide,func307.trans (jA some (by kernel_rfl))⟩
 f26:=⟨f308.name,by decide,func308.trans (jA some (by kernel_rfl))⟩
 f27:=⟨f309.name,by decide,func309.trans (jA some (by kernel_rfl))⟩
 f28:=func310.trans (jA some (by kernel_rfl))
 f29:=func311.trans (jA some (by kernel_rfl))
 f46:=⟨f320.name,by decide,func320.trans (jA some (by kernel_rfl))⟩
 f47:=func321.trans (jA some (by kernel_rfl))
 f48:=func322.trans (jA some (by kernel_rfl))
 f49:=⟨f323.name,by decide,func323.trans (jA some (by kernel_rfl))⟩
 f50:=⟨f324.name,by decide,func324.trans (jA some (by kernel_rfl))⟩
 f57:=⟨f329.name,by decide,func329.trans (jA some (by kernel_rfl))⟩
 t0:=underlying0
 a0:=isAgg0
 z0:=sizeOf0
 v0:=zeroValue0
 t3:=underlying3
 a3:=isAgg3
 z3:=sizeOf3
 v3:=zeroValue3
 t4:=underlying4
 a4:=isAgg4
 z4:=sizeOf4
 v4:=zeroValue4
 t5:=underlying5
 a5:=isAgg5
 z5:=sizeOf5
 v5:=zeroValue5
 t9:=underlying9
 a9:=isAgg9
 z9:=sizeOf9
 v9:=zeroValue9
 t22:=underlying23
 a22:=isAgg23
 z22:=sizeOf23
 v22:=zeroValue23
 a24:=isAgg2
 z24:=sizeOf2
 t25:=underlying245
 a25:=isAgg245
 z25:=sizeOf245
 v25:=zeroValue245
 t39:=underlying259
 a39:=isAgg259
 z39:=sizeOf259
 v39:=zeroValue259
 t45:=underlying379
 a45:=isAgg379
 z45:=sizeOf379
 v45:=zeroValue379
 t46:=underlying380
 a46:=isAgg380
 z46:=sizeOf380
 v46:=zeroValue380
 t50:=underlying369
 a50:=isAgg369
 z50:=sizeOf369
 v50:=zeroValue369
 t53:=underlying386
 a53:=isAgg386
 z53:=sizeOf386
 v53:=zeroValue386
 t55:=underlying304
 a55:=isAgg304
 z55:=sizeOf304
 v55:=zeroValue304
 t66:=underlying402
 a66:=isAgg402
 z66:=sizeOf402
 v66:=zeroValue402
 t70:=underlying406
 a70:=isAgg406
 z70:=sizeOf406
 v70:=zeroValue406
 t76:=underlying423
 a76:=isAgg423
 z76:=sizeOf423
 v76:=zeroValue423
 t77:=underlying424
 a77:=isAgg424
 z77:=sizeOf424
 v77:=zeroValue424 }
def Tryz.sortInt0_ren:Go.Shelf.Ren:=⟨fun | 6=>281 | 15=>294 | 14=>293 | 28=>310 | 29=>311 | 20=>302 | 21=>303 | 22=>304 | 23=>305 | 24=>306 | 25=>307 | 26=>308 | 27=>309 | 46=>320 | 47=>321 | 48=>322 | 49=>323 | 50=>324 | 57=>329 | n=>n,fun | 22=>23 | 24=>2 | 25=>245 | 3=>3 | 39=>259 | 0=>0 | 53=>386 | 55=>304 | 4=>4 | 46=>380 | 45=>379 | 50=>369 | 5=>5 | 9=>9 | 66=>402 | 70=>406 | 76=>423 | 77=>424 | n=>n,fun | n=>n⟩
theorem Tryz.sortInt0:Go.Proofs.SlLaysF0.n6 prog Tryz.sortInt0_ren:={
 mixed:=by kernel_rfl
 f6:=⟨f281.name,by decide,func281.trans (jA some (by kernel_rfl))⟩
 f14:=⟨f293.name,by decide,func293.trans (jA some (by kernel_rfl))⟩
 f15:=func294.trans (jA some (by kernel_rfl))
 f20:=⟨f302.name,by decide,func302.trans (jA some (by kernel_rfl))⟩
 f21:=⟨f303.name,by decide,func303.trans (jA some (by kernel_rfl))⟩
 f22:=⟨f304.name,by decide,func304.trans (jA some (by kernel_rfl))⟩
 f23:=⟨f305.name,by decide,func305.trans (jA some (by kernel_rfl))⟩
 f24:=⟨f306.name,by decide,func306.trans (jA some (by kernel_rfl))⟩
 f25:=⟨f307.name,by decide,func307.trans (jA some (by kernel_rfl))⟩
 f26:=⟨f308.name,by decide,func308.trans (jA some (by kernel_rfl))⟩
 f27:=⟨f309.name,by decide,func309.trans (jA some (by kernel_rfl))⟩
 f28:=func310.trans (jA some (by kernel_rfl))
 f29:=func311.trans (jA some (by kernel_rfl))
 f46:=⟨f320.name,by decide,func320.trans (jA some (by kernel_rfl))⟩
 f47:=func321.trans (jA some (by kernel_rfl))
 f48:=func322.trans (jA some (by kernel_rfl))
 f49:=⟨f323.name,by decide,func323.trans (jA some (by kernel_rfl))⟩
 f50:=⟨f324.name,by decide,func324.trans (jA some (by kernel_rfl))⟩
 f57:=⟨f329.name,by decide,func329.trans (jA some (by kernel_rfl))⟩
 t0:=underlying0
 a0:=isAgg0
 z0:=sizeOf0
 v0:=zeroValue0
 t3:=underlying3
 a3:=isAgg3
 z3:=sizeOf3
 v3:=zeroValue3
 t4:=underlying4
 a4:=isAgg4
 z4:=sizeOf4
 v4:=zeroValue4
 t5:=underlying5
 a5:=isAgg5
 z5:=sizeOf5
 v5:=zeroValue5
 t9:=underlying9
 a9:=isAgg9
 z9:=sizeOf9
 v9:=zeroValue9
 t22:=underlying23
 a22:=isAgg23
 z22:=sizeOf23
 v22:=zeroValue23
 t25:=underlying245
 a25:=isAgg245
 z25:=sizeOf245
 v25:=zeroValue245
 t39:=underlying259
 a39:=isAgg259
 z39:=sizeOf259
 v39:=zeroValue259
 t45:=underlying379
 a45:=isAgg379
 z45:=sizeOf379
 v45:=zeroValue379
 t46:=underlying380
 a46:=isAgg380
 z46:=sizeOf380
 v46:=zeroValue380
 t50:=underlying369
 a50:=isAgg369
 z50:=sizeOf369
 v50:=zeroValue369
 t53:=underlying386
 a53:=isAgg386
 z53:=sizeOf386
 v53:=zeroValue386
 t55:=underlying304
 a55:=isAgg304
 z55:=sizeOf304
 v55:=zeroValue304
 t66:=underlying402
 a66:=isAgg402
 z66:=sizeOf402
 v66:=zeroValue402
 t70:=underlying406
 a70:=isAgg406
 z70:=sizeOf406
 v70:=zeroValue406
 t76:=underlying423
 a76:=isAgg423
 z76:=sizeOf423
 v76:=zeroValue423
 t77:=underlying424
 a77:=isAgg424
 z77:=sizeOf424
 v77:=zeroValue424 }
end
section
open Go.RowKit Go.ChangeShapes Go.WideShapes
theorem Tryz.cells234:prog.cellsOf 234=2:=by kernel_rfl
theorem Tryz.cells2:prog.cellsOf 2=1:=by kernel_rfl
theorem qPC{α:Type}{l:List α}(h:l.length=2):∃a b,l=[a,b]:=by
 match l,h with
 | [a,b],_=>exact⟨a,b,rfl⟩
theorem qKJ{α:Type}{l:List α}(h:l.length=5):∃a b c d e,l=[a,b,c,d,e]:=by
 match l,h with
 | [a,b,c,d,e],_=>exact⟨a,b,c,d,e,rfl⟩
theorem qPA{α:Type}{l:List α}(h:l.length=8):∃a b c d e f g i,l=[a,b,c,d,e,f,g,i]:=by
 match l,h with
 | [a,b,c,d,e,f,g,i],_=>exact⟨a,b,c,d,e,f,g,i,rfl⟩
theorem QF9{H:Type}{enc:TypeId × Value->H}{w:World}{base:Nat}{spare:Nat->Bool}{held:Bool}{fuel:Nat}{cs:List Value}{x:DataW H × List MemPlace}(h:DataW.trod enc prog w base spare held fuel 234 cs=some x):
  ∃o n,cs=[iv o,iv n]:=by
 obtain⟨y0,y1,n,_,hl,h0,h1⟩:=trod_struct2 underlying234 h;rw[Tryz.cells234]at hl;obtain⟨c0,c1,rfl⟩:=qPC hl;simp[Tryz.cells2]at h0 h1;obtain⟨a,e0,_,_⟩:=jZ underlying2 h0;obtain⟨b,e1,_,_⟩:=jZ underlying2 h1;simp at e0 e1;exact⟨a,b,by rw[e0,e1]⟩
theorem Tryz.cells236:prog.cellsOf 236=8:=by kernel_rfl
theorem qHW{H:Type}{enc:TypeId × Value->H}{w:World}{base:Nat}{spare:Nat->Bool}{held:Bool}{fuel:Nat}{cs:List Value}{x:DataW H × List MemPlace}(h:DataW.trod enc prog w base spare held fuel 236 cs=some x):
  ∃r:qA1,cs=[iv r.k,iv r.ho,iv r.hn,iv r.w,iv r.oo,iv r.on,iv r.to,iv r.tn]:=by
 obtain⟨xs,n,_,_,hl,hlen,hf⟩:=DataW.trod_struct underlying236 h;rw[Tryz.cells236]at hl;obtain⟨c0,c1,c2,c3,c4,c5,c6,c7,rfl⟩:=qPA hl;obtain⟨y0,y1,y2,y3,y4,rfl⟩:=qKJ hlen;have g0:=hf 0 _ rfl;have g1:=hf 1 _ rfl;have g2:=hf 2 _ rfl;have g3:=hf 3 _ rfl;have g4:=hf 4 _ rfl;simp[Tryz.cells2,Tryz.cells234]at g0 g1 g2 g3 g4;obtain⟨k,e0,_,_⟩:=jZ underlying2 g0;obtain⟨wh,e3,_,_⟩:=jZ underlying2 g2;obtain⟨ho,hn,e1⟩:=QF9 g1;obtain⟨oo,on,e4⟩:=QF9 g3;obtain⟨tw,tn,e6⟩:=QF9 g4;simp at e0 e1 e3 e4 e6;obtain⟨rfl,rfl⟩:=e1;obtain⟨rfl,rfl⟩:=e4;obtain⟨rfl,rfl⟩:=e6;subst e0 e3;exact⟨⟨k,ho,hn,wh,oo,on,tw,tn⟩,rfl⟩
theorem qLg{w:World}{base:Nat}{a:Addr}{r:qA1}(h:w.cells? base a 8=some [iv r.k,iv r.ho,iv r.hn,iv r.w,iv r.oo,iv r.on,iv r.to,iv r.tn]):a.spot=none/\qC2 w a.block a.off r:=by
 have e:List.range 8=[0,1,2,3,4,5,6,7]:=rfl;unfold World.cells? at h;split at h
 .rw[e]at h;simp only[List.mapM_cons,List.mapM_nil,Option.bind_eq_bind,kV,Option.pure_def,Option.some.injEq,gW]at h;obtain⟨x0,h0,y0,⟨x1,h1,y1,⟨x2,h2,y2,⟨x3,h3,y3,⟨x4,h4,y4,⟨x5,h5,y5,⟨x6,h6,y6,⟨x7,h7,y7,rfl,e7⟩,e6⟩,e5⟩,e4⟩,e3⟩,e2⟩,e1⟩,e0,ee⟩:=h;subst e0;rw[<- e1]at ee;simp only[gW]at ee;obtain⟨rfl,ee⟩:=ee;rw[<- e2]at ee;simp only[gW]at ee;obtain⟨rfl,ee⟩:=ee;rw[<- e3]at ee;simp only[gW]at ee;obtain⟨rfl,ee⟩:=ee;rw[<- e4]at ee;simp only[gW]at ee;obtain⟨rfl,ee⟩:=ee;rw[<- e5]at ee;simp only[gW]at ee;obtain⟨rfl,ee⟩:=ee;rw[<- e6]at ee;simp only[gW]at ee;obtain⟨rfl,ee⟩:=ee;rw[<- e7]at ee;simp only[gW]at ee;obtain⟨rfl,_⟩:=ee;obtain⟨b,off,spot⟩:=a;have hspot:spot=none:=by simpa[Addr.add] using World.cell?_spot h0
  subst hspot;simp only[Addr.add]at h0 h1 h2 h3 h4 h5 h6 h7;exact⟨rfl,by simpa using h0,by simpa using h1,by simpa using h2,by simpa using h3,by simpa using h4,by simpa using h5,by simpa using h6,by simpa using h7⟩
 .cases h
instance:Inhabited qA1:=⟨⟨0,0,0,0,0,0,0,0⟩⟩
theorem qCi{H:Type}{enc:TypeId × Value->H}{w:World}{base:Nat}{spare:Nat->Bool}{held:Bool}{fuel:Nat}{a0:Option Addr}{len cap:Nat}{x:DataW H × List MemPlace}(h:DataW.trod enc prog w base spare held fuel 101 [.slice a0 len cap]=some x):
  ∃zs:List qA1,qLB w a0 len zs:=by
 rcases Go.Deep.open_slice underlying101 h with⟨hcs,_⟩ | ⟨a,l,c,m,n,D,Pl,hcs,hb,hl,hm,hmm,_,hel⟩
 .simp at hcs;obtain⟨rfl,rfl,rfl⟩:=hcs;exact⟨[],⟨rfl,fun h=>by omega⟩,gH _⟩
 .simp at hcs;obtain⟨rfl,rfl,rfl⟩:=hcs;have hle:len<=m:=by rw[hmm];split <;> omega
  rw[Tryz.cells236]at hel
  have hk:∀i,i<len->∃r:qA1,w.cells? base (a.add (i*8)) 8=some [iv r.k,iv r.ho,iv r.hn,iv r.w,iv r.oo,iv r.on,iv r.to,iv r.tn]:=fun i hi=>by
   obtain⟨cs',hc,ht⟩:=hel i (by omega);obtain⟨r,rfl⟩:=qHW ht;exact⟨r,hc⟩
  obtain⟨f,hf⟩:=Go.Deep.choose_lt hk;refine⟨(List.range len).map f,⟨by simp,fun hp=>?_⟩,jF hl hm⟩;obtain⟨hsp,_⟩:=qLg (hf 0 hp);obtain⟨b,off,spot⟩:=a;simp[Addr.add]at hsp;subst hsp;refine⟨b,off,rfl,fun k r e=>?_⟩
  have hkl:k<len:=by
   by_cases q:k<len
   .exact q
   .rw[gE (by simp;omega)]at e;cases e
  rw[jI,List.getElem?_range hkl]at e;simp at e;subst e;obtain⟨_,hr⟩:=qLg (hf k hkl);have : ((⟨b,off,none⟩:Addr).add (k*8))=⟨b,off+k*8,none⟩:=gR ..;rw[this]at hr;exact hr
end
section
open Go.RowKit Go.ChangeShapes Go.WideShapes
def qPF(w:World)(a:Option Addr)(len:Nat)(zs:List StI):Prop:=qL2 w a len zs/\len<=maxLen
theorem qCE:prog.cellsOf 2=1:=by kernel_rfl
theorem Tryz.cells46:prog.cellsOf 46=5:=by kernel_rfl
theorem qLV{α:Type}{l:List α}(h:l.length=5):∃c0 c1 c2 c3 c4,l=[c0,c1,c2,c3,c4]:=by
 match l,h with
 | [c0,c1,c2,c3,c4],_=>exact⟨c0,c1,c2,c3,c4,rfl⟩
theorem QD4{H:Type}{enc:TypeId × Value->H}{w:World}{base:Nat}{spare:Nat->Bool}{held:Bool}{fuel:Nat}{cs:List Value}{x:DataW H × List MemPlace}(h:DataW.trod enc prog w base spare held fuel 46 cs=some x):
  ∃r:StI,cs=[iv r.k,iv r.e,iv r.f,iv r.s,iv r.n]:=by
 obtain⟨xs,n,_,_,hl,hlen,hf⟩:=DataW.trod_struct underlying46 h;rw[Tryz.cells46]at hl;obtain⟨c0,c1,c2,c3,c4,rfl⟩:=qLV hl;obtain⟨y0,y1,y2,y3,y4,rfl⟩:=qLV hlen;have h0:=hf 0 _ rfl;have h1:=hf 1 _ rfl;have h2:=hf 2 _ rfl;have h3:=hf 3 _ rfl;have h4:=hf 4 _ rfl;simp[qCE]at h0 h1 h2 h3 h4;obtain⟨b0,e0,_,_⟩:=jZ underlying2 h0;obtain⟨b1,e1,_,_⟩:=jZ underlying2 h1;obtain⟨b2,e2,_,_⟩:=jZ underlying2 h2;obtain⟨b3,e3,_,_⟩:=jZ underlying2 h3;obtain⟨b4,e4,_,_⟩:=jZ underlying2 h4;simp at e0 e1 e2 e3 e4;subst e0 e1 e2 e3 e4;exact⟨⟨b0,b1,b2,b3,b4⟩,rfl⟩
theorem qIw{w:World}{base:Nat}{a:Addr}{r:StI}(h:w.cells? base a 5=some [iv r.k,iv r.e,iv r.f,iv r.s,iv r.n]):a.spot=none/\qM9 w a.block a.off r:=by
 have e:List.range 5=[0,1,2,3,4]:=rfl;unfold World.cells? at h;split at h
 .rw[e]at h;simp only[List.mapM_cons,List.mapM_nil,Option.bind_eq_bind,kV,Option.pure_def,Option.some.injEq,gW]at h;obtain⟨x0,h0,y0,⟨x1,h1,y1,⟨x2,h2,y2,⟨x3,h3,y3,⟨x4,h4,y4,rfl,e4⟩,e3⟩,e2⟩,e1⟩,e0,ee⟩:=h;subst e0;rw[<- e1]at ee;simp only[gW]at ee;obtain⟨rfl,ee⟩:=ee;rw[<- e2]at ee;simp only[gW]at ee;obtain⟨rfl,ee⟩:=ee;rw[<- e3]at ee;simp only[gW]at ee;obtain⟨rfl,ee⟩:=ee;rw[<- e4]at ee;simp only[gW]at ee;obtain⟨rfl,_⟩:=ee;obtain⟨b,off,spot⟩:=a;have hspot:spot=none:=by simpa[Addr.add] using World.cell?_spot h0
  subst hspot;simp only[Addr.add]at h0 h1 h2 h3 h4;exact⟨rfl,by simpa using h0,by simpa using h1,by simpa using h2,by simpa using h3,by simpa using h4⟩
 .cases h
theorem QK7{H:Type}{enc:TypeId × Value->H}{w:World}{base:Nat}{spare:Nat->Bool}{held:Bool}{fuel:Nat}{a0:Option Addr}{len cap:Nat}{x:DataW H × List MemPlace}(h:DataW.trod enc prog w base spare held fuel 106 [.slice a0 len cap]=some x):
  ∃zs:List StI,qPF w a0 len zs:=by
 rcases Go.Deep.open_slice underlying106 h with⟨hcs,_⟩ | ⟨a,l,c,m,n,D,Pl,hcs,hb,hl,hm,hmm,_,hel⟩
 .simp at hcs;obtain⟨rfl,rfl,rfl⟩:=hcs;exact⟨[],⟨rfl,fun h=>by omega⟩,gH _⟩
 .simp at hcs;obtain⟨rfl,rfl,rfl⟩:=hcs;have hle:len<=m:=by rw[hmm];split <;> omega
  rw[Tryz.cells46]at hel
  have hk:∀i,i<len->∃r:StI,w.cells? base (a.add (i*5)) 5=some [iv r.k,iv r.e,iv r.f,iv r.s,iv r.n]:=fun i hi=>by
   obtain⟨cs',hc,ht⟩:=hel i (by omega);obtain⟨r,rfl⟩:=QD4 ht;exact⟨r,hc⟩
  obtain⟨f,hf⟩:=Go.Deep.choose_lt hk;refine⟨(List.range len).map f,⟨by simp,fun hp=>?_⟩,jF hl hm⟩;obtain⟨hsp,_⟩:=qIw (hf 0 hp);obtain⟨b,off,spot⟩:=a;simp[Addr.add]at hsp;subst hsp;refine⟨b,off,rfl,fun k r e=>?_⟩
  have hkl:k<len:=by
   by_cases q:k<len
   .exact q
   .rw[gE (by simp;omega)]at e;cases e
  rw[jI,List.getElem?_range hkl]at e;simp at e;subst e;obtain⟨_,hr⟩:=qIw (hf k hkl);have : ((⟨b,off,none⟩:Addr).add (k*5))=⟨b,off+k*5,none⟩:=gR ..;rw[this]at hr;exact hr
end
