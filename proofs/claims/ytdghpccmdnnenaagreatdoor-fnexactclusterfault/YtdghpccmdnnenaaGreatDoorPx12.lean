/- Contracts. -/
import Derived.Test.YtdghpccmdnnenaaGreatDoorPx11
import Derived.Deep.WholeRow
namespace Go.Proofs.YtdghpccmdnnenaaGreatDoor
set_option maxRecDepth 100000
set_option maxHeartbeats 8000000
open Go.RowKit Go.Proofs.Tryz
set_option linter.unusedVariables false
set_option linter.unusedSimpArgs false
structure qC6 where
 k:Int
 ro:Int
 rn:Int
 l:Int
 r:Int
deriving DecidableEq,Inhabited
def qJ7(k:Nat)(p:qC6):Int :=
 if ¬ (1<=p.k/\p.k<=3) then 1
 else if p.k=1 then (if qD1 p.ro p.rn=false then 3 else if ¬ (p.l=0/\p.r=0) then 1 else 0)
 else if ¬ (p.ro=0/\p.rn=0) then 1 else if ¬ (0<=p.l/\p.l<k) then 3 else if ¬ (0<=p.r/\p.r<k) then 3 else 0
def QK9(zs:List qC6):Nat->Int
 | 0=>0
 | k+1=>if QK9 zs k≠0 then QK9 zs k else match zs[k]? with
  | none=>0
  | some x=>qJ7 k x
def qN3(zs:List qC6):Int:=if zs.length<1 then 2 else if 8<zs.length then 2 else QK9 zs zs.length
theorem QO2(zs:List qC6)(k m:Nat)(c:Int)(hc:c≠0)(h:QK9 zs k=c)(hm:k<=m):QK9 zs m=c:=by
  induction m with
  | zero => obtain rfl:k=0:=by omega
            exact h
  | succ m ih =>
    by_cases e:k=m+1
    . subst e;exact h
    . have:=ih (by omega);simp only[QK9,this];rw[gK hc]
theorem QO3{zs:List qC6}{k:Nat}{x:qC6}(hk:zs[k]?=some x)(h0:QK9 zs k=0):QK9 zs (k+1)=qJ7 k x:=by
 simp[QK9,h0,hk]
theorem qEQ{zs:List qC6}{m:Nat}(h:QK9 zs m=0):∀k,k<=m->QK9 zs k=0:=by
 intro k hk;by_cases q:QK9 zs k=0
 .exact q
 .have:=QO2 zs k m _ q rfl hk;rw[this]at h;exact absurd h q
theorem QV6{zs:List qC6}(h:qN3 zs=0):1<=zs.length/\zs.length<=8/\∀k x,zs[k]?=some x->qJ7 k x=0:=by
 unfold qN3 at h;split at h
 .cases h
 .split at h
  .cases h
  .refine⟨by omega,by omega,fun k x e=>?_⟩
   have hk:k<zs.length:=by
    by_cases q:k<zs.length
    .exact q
    .rw[gE (by omega)]at e;cases e
   have h0:=qEQ h k (by omega);have h1:=qEQ h (k+1) (by omega);rw[QO3 e h0]at h1;exact h1
def qX4(w:World)(g off:Nat)(x:qC6):Prop:=w.cell? ⟨g,off,none⟩=some (iv x.k)/\w.cell? ⟨g,off+1,none⟩=some (iv x.ro)/\w.cell? ⟨g,off+2,none⟩=some (iv x.rn)/\w.cell? ⟨g,off+3,none⟩=some (iv x.l)/\w.cell? ⟨g,off+4,none⟩=some (iv x.r)
theorem qX4.below{w w':World}{g off:Nat}{x:qC6}(h:qX4 w g off x)(hb:Below w.heap.size w w'):qX4 w' g off x:=by
 have key:∀(o:Nat) (v:Value),w.cell? ⟨g,o,none⟩=some v->w'.cell? ⟨g,o,none⟩=some v:=fun o v e=>(hb.cell (p:=⟨g,o,none⟩) (zL w ⟨g,o,none⟩ e)).trans e
 obtain⟨h0,h1,h2,h3,h4⟩:=h;exact⟨key _ _ h0,key _ _ h1,key _ _ h2,key _ _ h3,key _ _ h4⟩
theorem qX4.lt{w:World}{g off:Nat}{x:qC6}(h:qX4 w g off x):g<w.heap.size:=zL w ⟨g,off,none⟩ h.1
def qO9(w:World)(g off:Nat)(zs:List qC6):Prop:=∀k x,zs[k]?=some x->qX4 w g (off+k*5) x
theorem qO9.below{w w':World}{g off:Nat}{zs:List qC6}(h:qO9 w g off zs)(hb:Below w.heap.size w w'):qO9 w' g off zs:=fun k x e=>(h k x e).below hb
def qC1(w:World)(a:Option Addr)(len:Nat)(zs:List qC6):Prop:=zs.length=len/\(0<len->∃b off,a=some ⟨b,off,none⟩/\qO9 w b off zs)
theorem qC1.below{w w':World}{a:Option Addr}{len:Nat}{zs:List qC6}(h:qC1 w a len zs)(hb:Below w.heap.size w w'):qC1 w' a len zs:=by
 refine⟨h.1,fun hl=>?_⟩;obtain⟨b,off,e,hr⟩:=h.2 hl;exact⟨b,off,e,hr.below hb⟩
theorem qC1.at{w:World}{a:Option Addr}{len:Nat}{zs:List qC6}(h:qC1 w a len zs){k:Nat}(hk:k<len):
  ∃b off x,a=some ⟨b,off,none⟩/\zs[k]?=some x/\qX4 w b (off+k*5) x:=by
 obtain⟨b,off,e,hr⟩:=h.2 (by omega);have hl:=h.1;exact⟨b,off,zs[k]'(by omega),e,gA (by omega),hr k _ (gA (by omega))⟩
theorem qC1.of{w:World}{g len:Nat}{zs:List qC6}(hl:zs.length=len)(h:qO9 w g 0 zs):qC1 w (some ⟨g,0,none⟩) len zs :=
 ⟨hl,fun _=>⟨g,0,rfl,h⟩⟩
def qAl(w:World)(a:Option Addr)(len:Nat)(zs:List qC6):Prop:=qC1 w a len zs/\len<=maxLen
def QD2(w:World)(g n:Nat):Prop:=(∀j,j<n*5->∃v,w.cell? ⟨g,j,none⟩=some v)/\∀j,w.frozen? ⟨g,j,none⟩=false
theorem QD2.below{w w':World}{g n:Nat}(h:QD2 w g n)(hg:g<w.heap.size)(hb:Below w.heap.size w w'):QD2 w' g n :=
 ⟨fun j hj=>by obtain⟨v,e⟩:=h.1 j hj;exact⟨v,(hb.cell (p:=⟨g,j,none⟩) hg).trans e⟩,fun j=>(hb.frozen (p:=⟨g,j,none⟩) hg).trans (h.2 j)⟩
abbrev qJu(w:World)(g o:Nat)(s:qC6):World:=(((((w.setCell ⟨g,o,none⟩ (iv s.k)).setCell ⟨g,o+1,none⟩ (iv s.ro)).setCell ⟨g,o+2,none⟩ (iv s.rn)).setCell ⟨g,o+3,none⟩ (iv s.l)).setCell ⟨g,o+4,none⟩ (iv s.r))
theorem QV5(w:World)(g o:Nat)(s:qC6)(a:Addr)(h:∀j,j<5->a≠⟨g,o+j,none⟩):(qJu w g o s).cell? a=w.cell? a:=by
 rw[gF (h:=Ne.symm (h 4 (by omega))),gF (h:=Ne.symm (h 3 (by omega))),gF (h:=Ne.symm (h 2 (by omega))),gF (h:=Ne.symm (h 1 (by omega))),gF (h:=Ne.symm (a:=a) (b:=⟨g,o,none⟩) (by simpa using h 0 (by omega)))]
theorem qMX(w:World)(g o:Nat)(s:qC6)(h:∀j,j<5->∃v,w.cell? ⟨g,o+j,none⟩=some v):qX4 (qJu w g o s) g o s:=by
 obtain⟨v0,h0⟩:=h 0 (by omega);obtain⟨v1,h1⟩:=h 1 (by omega);obtain⟨v2,h2⟩:=h 2 (by omega);obtain⟨v3,h3⟩:=h 3 (by omega);obtain⟨v4,h4⟩:=h 4 (by omega);rw[jS]at h0;refine⟨?_,?_,?_,?_,?_⟩ <;> simp[go_sem,h0,h1,h2,h3,h4]
theorem qHg{w:World}{g n k:Nat}{zs:List qC6}{s:qC6}(hroom:QD2 w g n)(hd:qO9 w g 0 (zs.take k))(hs:zs[k]?=some s)(hk:k<n):
  QD2 (qJu w g (k*5) s) g n/\qO9 (qJu w g (k*5) s) g 0 (zs.take (k+1)):=by
 have hr:=qMX w g (k*5) s (fun j hj=>hroom.1 (k*5+j) (by omega));refine⟨⟨fun j hj=>?_,fun j=>?_⟩,fun i r e=>?_⟩
 .by_cases h:k*5<=j/\j<k*5+5
  .have hj':j=k*5\/j=k*5+1\/j=k*5+2\/j=k*5+3\/j=k*5+4:=by omega
   obtain⟨h0,h1,h2,h3,h4⟩:=hr;rcases hj' with rfl|rfl|rfl|rfl|rfl
   .exact⟨_,h0⟩
   .exact⟨_,h1⟩
   .exact⟨_,h2⟩
   .exact⟨_,h3⟩
   .exact⟨_,h4⟩
  .rw[QV5 w g (k*5) s ⟨g,j,none⟩ (fun i hi e=>by have e2:=jA Addr.off e;simp only at e2;omega)];exact hroom.1 j hj
 .simp only[jE];exact hroom.2 j
 .rw[jJ]at e;split at e
  .by_cases hik:i=k
   .subst hik;rw[hs]at e;cases e;rw[gG];exact hr
   .have hi:i<k:=by omega
    have h1:=hd i r (by rw[jJ,gK hi];exact e)
    have key:∀(o:Nat) (v:Value),o<k*5->w.cell? ⟨g,o,none⟩=some v->(qJu w g (k*5) s).cell? ⟨g,o,none⟩=some v:=fun o v ho hv=>by
     rw[QV5 w g (k*5) s ⟨g,o,none⟩ (fun j hj e=>by have e2:=jA Addr.off e;simp only at e2;omega)];exact hv
    obtain⟨h0,h1,h2,h3,h4⟩:=h1;exact⟨key _ _ (by omega) h0,key _ _ (by omega) h1,key _ _ (by omega) h2,key _ _ (by omega) h3,key _ _ (by omega) h4⟩
  .cases e
theorem qFk{w0 w:World}{B g o:Nat}(h:Below B w0 w)(hg:B<=g)(s:qC6):Below B w0 (qJu w g o s) :=
 h.setCell hg _ |>.setCell hg _ |>.setCell hg _ |>.setCell hg _ |>.setCell hg _
theorem qJW(x:qC6)(w:World):CP 239 #[.agg #[iv x.k,iv x.ro,iv x.rn,iv x.l,iv x.r]] w fun e w'=>e=.returned (.agg #[iv x.k,iv x.ro,iv x.rn,iv x.l,iv x.r])/\Below w.heap.size w w':=by
 go_enter func239,ntmps239;go_wp2;go_returns
 exact⟨rfl,by go_grown⟩
theorem Tryz.info219:(prog.info? 219).map (fun i=>(i.zero,i.size,i.bytes))=some (some (.agg #[iv 0,iv 0,iv 0,iv 0,iv 0]),5,40):=by kernel_rfl
theorem qAw(a:Option Addr)(n cap:Nat)(zs:List qC6)(w:World)(hn:n<=1048576)(h:qC1 w a n zs):
  CP 216 #[.slice a n cap] w fun e w'=>e=.returned (.slice (some ⟨w.heap.size,0,none⟩) n n)/\qO9 w' w.heap.size 0 zs/\w.heap.size<w'.heap.size/\Below w.heap.size w w'/\QD2 w' w.heap.size n:=by
 obtain⟨i0,hi,hz0,hz1,hz2⟩:=jT Tryz.info219;obtain⟨wm,hmk,hownm,hgrm⟩:=run_make_full (P:=prog) (w:=w) w.heap.size 158 219 i0 (.agg #[iv 0,iv 0,iv 0,iv 0,iv 0]) 5 underlying158 hi hz0 hz1 .i64 .i64 n (by rw[hz2];omega) (by unfold maxLen;omega) (gB _);have H:=hJJ h;have hz:=hJJ h.1;clear h
 have HM:Hid (QD2 wm w.heap.size n/\w.heap.size<wm.heap.size):=by
  refine⟨⟨fun j hj=>?_,fun j=>hownm.frozenAt j⟩,(hownm.lt _ rfl).2⟩;have hl:=hownm.1;exact⟨_,(hownm.cellAt j hj).trans (gA (by omega))⟩
 clear hownm;have HG:=hJJ hgrm;clear hgrm;have hn':(n:Int)<=1048576:=by omega
 go_enter func216,ntmps216;go_wp2
 go_loopw [4] (fun i wr=>∃k:Nat,k<=n/\i=iv (k:Int)/\QD2 wr w.heap.size n/\qO9 wr w.heap.size 0 (zs.take k)/\w.heap.size<wr.heap.size/\Below w.heap.size w wr)
  (fun i _=>n-(intOf i).toNat)
 case atStart=>exact⟨0,gH _,rfl,HM.out.1,fun k r e=>by simp at e,HM.out.2,(gC _ _).grown HG.out (gB _) (fun k e=>by cases e)⟩
 case round =>
  obtain⟨k,hk,rfl,hroom,hdone,hlt0,hnx⟩:=hrel;by_cases hlt:k<n
  .obtain⟨b,off,s,rfl,hs,hr⟩:=H.out.at hlt
   have HS:=hJJ hs;have hb:b<w.heap.size:=hr.lt;clear hs;obtain⟨h0,h1,h2,h3,h4⟩:=hr.below hnx;have HD:Hid (QD2 wr w.heap.size n/\qO9 wr w.heap.size 0 (zs.take k)):=⟨hroom,hdone⟩;clear hroom hdone hr;have hlt':(k:Int)<(n:Int):=by omega
   go_wp2_with fail
   refine (qJW s _).mono ?_;rintro e w1 ⟨rfl,hb1⟩;obtain⟨⟨hc,hf⟩,hd⟩:=HD.out;have hz1:=hb1.size
   have HD1:Hid (QD2 w1 w.heap.size n/\qO9 w1 w.heap.size 0 (zs.take k)/\Below w.heap.size w w1) :=
    ⟨⟨fun j hj=>by obtain⟨v,e⟩:=hc j hj;exact⟨v,(hb1.cell (p:=⟨w.heap.size,j,none⟩) hlt0).trans e⟩,fun j=>(hb1.frozen (p:=⟨w.heap.size,j,none⟩) hlt0).trans (hf j)⟩,hd.below hb1,hnx.trans (hb1.mono hnx.size)⟩
   clear hc hf hd HD h0 h1 h2 h3 h4;obtain⟨v0,c0⟩:=HD1.out.1.1 (k*5) (by omega);obtain⟨v1,c1⟩:=HD1.out.1.1 (k*5+1) (by omega);obtain⟨v2,c2⟩:=HD1.out.1.1 (k*5+2) (by omega);obtain⟨v3,c3⟩:=HD1.out.1.1 (k*5+3) (by omega);obtain⟨v4,c4⟩:=HD1.out.1.1 (k*5+4) (by omega);have f0:=HD1.out.1.2 (k*5);have f1:=HD1.out.1.2 (k*5+1);have f2:=HD1.out.1.2 (k*5+2);have f3:=HD1.out.1.2 (k*5+3);have f4:=HD1.out.1.2 (k*5+4)
   have RM:Hid (QD2 (qJu w1 w.heap.size (k*5) s) w.heap.size n/\qO9 (qJu w1 w.heap.size (k*5) s) w.heap.size 0 (zs.take (k+1))/\Below w.heap.size w (qJu w1 w.heap.size (k*5) s)):=by
    have h2:=qHg HD1.out.1 HD1.out.2.1 HS.out hlt;exact⟨h2.1,h2.2,qFk HD1.out.2.2 (gB _) s⟩
   go_wp2;exact⟨⟨k+1,by omega,by go_num,RM.out.1,RM.out.2.1,by simp only[jP];omega,RM.out.2.2⟩,by simp[intOf];omega⟩
  .have hkn:k=n:=by omega
   subst hkn;rw[gV (by rw[hz.out];exact gB _)]at hdone;go_wp2;go_ret;exact⟨rfl,hdone,hlt0,hnx,hroom⟩
theorem qDd(x:qC6)(w:World):
  CP 247 #[.agg #[iv x.k,iv x.ro,iv x.rn,iv x.l,iv x.r],.agg #[iv x.k,iv x.ro,iv x.rn,iv x.l,iv x.r]] w fun e w'=>e=.returned (.bool true)/\Below w.heap.size w w':=by
 go_enter func247,ntmps247;go_wp2;go_ret;exact⟨rfl,by go_grown⟩
theorem qBr(a b:Option Addr)(n c d:Nat)(zs:List qC6)(w:World)(hn:n<=1048576)(ha:qC1 w a n zs)(hb:qC1 w b n zs):
  CP 226 #[.slice a n c,.slice b n d] w fun e w'=>e=.returned (.bool true)/\Below w.heap.size w w':=by
 have HA:=hJJ ha;have HB:=hJJ hb;clear ha hb;have hn':(n:Int)<=1048576:=by omega
 go_enter func226,ntmps226;go_wp2;go_loopw [5] (fun i wr=>∃k:Nat,k<=n/\i=iv (k:Int)/\Below w.heap.size w wr) (fun i _=>n-(intOf i).toNat)
 case atStart=>exact⟨0,gH _,rfl,gC _ _⟩
 case round =>
  obtain⟨k,hk,rfl,hnx⟩:=hrel;by_cases hlt:k<n
  .obtain⟨b1,o1,s,e1,hs,hr⟩:=HA.out.at hlt
   obtain⟨b2,o2,s2,e2,hs2,hr2⟩:=HB.out.at hlt
   obtain rfl:s=s2:=gJ (hs.symm.trans hs2);subst e1 e2;clear hs hs2;obtain⟨h0,h1,h2,h3,h4⟩:=hr.below hnx;obtain⟨g0,g1,g2,g3,g4⟩:=hr2.below hnx;clear hr hr2;have hlt':(k:Int)<(n:Int):=by omega
   have hb1:b1<wr.heap.size:=zL wr ⟨b1,o1+k*5,none⟩ h0;have hb2:b2<wr.heap.size:=zL wr ⟨b2,o2+k*5,none⟩ g0;go_wp2
   go_region_held3 (fun w'=>(∀b o,b<wr.heap.size->w'.cell? ⟨b,o,none⟩=wr.cell? ⟨b,o,none⟩)/\Below wr.heap.size wr w') (first | exact hS | exact qA8 _)
    (first | (go_at_call 247;refine (qDd s _).mono ?_;rintro e w' ⟨rfl,hb1⟩;have hS:=qA0 (by assumption) hb1))
   go_wp2;exact⟨⟨k+1,by omega,by go_num,hnx.trans (hS.2.mono hnx.size)⟩,by simp[intOf];omega⟩
  .have hkn:k=n:=by omega
   subst hkn;go_wp2;go_ret;exact⟨rfl,hnx⟩
structure qG7 where
 a:Option Addr
 n:Nat
 cap:Nat
 ps:List qC6
deriving Inhabited
def QK5(w:World)(g off:Nat)(x:qG7):Prop:=w.cell? ⟨g,off,none⟩=some (.slice x.a x.n x.cap)/\qC1 w x.a x.n x.ps
theorem QK5.below{w w':World}{g off:Nat}{x:qG7}(h:QK5 w g off x)(hb:Below w.heap.size w w'):QK5 w' g off x :=
 ⟨(hb.cell (p:=⟨g,off,none⟩) (zL w ⟨g,off,none⟩ h.1)).trans h.1,h.2.below hb⟩
theorem QK5.lt{w:World}{g off:Nat}{x:qG7}(h:QK5 w g off x):g<w.heap.size:=zL w ⟨g,off,none⟩ h.1
def qT4(w:World)(g off:Nat)(fs:List qG7):Prop:=∀(k:Nat) (x:qG7),fs[k]?=some x->QK5 w g (off+k) x
theorem qT4.below{w w':World}{g off:Nat}{fs:List qG7}(h:qT4 w g off fs)(hb:Below w.heap.size w w'):qT4 w' g off fs:=fun k x e=>(h k x e).below hb
def qF7(w:World)(a:Option Addr)(n:Nat)(fs:List qG7):Prop:=fs.length=n/\(0<n->∃b off,a=some ⟨b,off,none⟩/\qT4 w b off fs)
theorem qF7.below{w w':World}{a:Option Addr}{n:Nat}{fs:List qG7}(h:qF7 w a n fs)(hb:Below w.heap.size w w'):qF7 w' a n fs:=by
 refine⟨h.1,fun hl=>?_⟩;obtain⟨b,off,e,hr⟩:=h.2 hl;exact⟨b,off,e,hr.below hb⟩
theorem qF7.at{w:World}{a:Option Addr}{n:Nat}{fs:List qG7}(h:qF7 w a n fs){k:Nat}(hk:k<n):
  ∃b off x,a=some ⟨b,off,none⟩/\fs[k]?=some x/\QK5 w b (off+k) x:=by
 obtain⟨b,off,e,hr⟩:=h.2 (by omega);have hl:=h.1;exact⟨b,off,fs[k]'(by omega),e,gA (by omega),hr k _ (gA (by omega))⟩
theorem qF7.of{w:World}{g n:Nat}{fs:List qG7}(hl:fs.length=n)(h:qT4 w g 0 fs):qF7 w (some ⟨g,0,none⟩) n fs :=
 ⟨hl,fun _=>⟨g,0,rfl,h⟩⟩
def qA3(fs:List qG7):List (List qC6):=fs.map qG7.ps
def qM3(m:Nat)(fs:List qG7):Prop:=∀(k:Nat) (x:qG7),fs[k]?=some x->x.n<=m
def qP1(w:World)(L:Nat)(x:qG7):Prop:=x.cap=x.n/\∃g,x.a=some ⟨g,0,none⟩/\L<=g/\g<w.heap.size/\QD2 w g x.n
theorem qP1.below{w w':World}{L:Nat}{x:qG7}(h:qP1 w L x)(hb:Below w.heap.size w w'):qP1 w' L x:=by
 obtain⟨h0,g,h1,h2,h3,h4⟩:=h;exact⟨h0,g,h1,h2,by have:=hb.size;omega,h4.below h3 hb⟩
def qK8(w:World)(L:Nat)(fs:List qG7):Prop:=∀(k:Nat) (x:qG7),fs[k]?=some x->qP1 w L x
theorem qK8.below{w w':World}{L:Nat}{fs:List qG7}(h:qK8 w L fs)(hb:Below w.heap.size w w'):qK8 w' L fs:=fun k x e=>(h k x e).below hb
theorem Tryz.info160:(prog.info? 160).map (fun i=>(i.zero,i.size,i.bytes))=some (some (.agg #[.slice none 0 0]),1,24):=by kernel_rfl
theorem qC1.set{w:World}{a:Option Addr}{n g o:Nat}{v:Value}{zs:List qC6}(h:qC1 w a n zs)(hne:∀b off,a=some ⟨b,off,none⟩->b≠g):qC1 (w.setCell ⟨g,o,none⟩ v) a n zs:=by
 refine⟨h.1,fun hp=>?_⟩;obtain⟨b,off,e,hr⟩:=h.2 hp;refine⟨b,off,e,fun k x hx=>?_⟩
 have key:∀(q:Nat) (u:Value),w.cell? ⟨b,q,none⟩=some u->(w.setCell ⟨g,o,none⟩ v).cell? ⟨b,q,none⟩=some u:=fun q u hu=>by
  rw[gF (h:=fun e2=>hne b off e (by have:=jA Addr.block e2;simp at this;omega))];exact hu
 obtain⟨h0,h1,h2,h3,h4⟩:=hr k x hx;exact⟨key _ _ h0,key _ _ h1,key _ _ h2,key _ _ h3,key _ _ h4⟩
theorem QD2.setAny{w:World}{g n:Nat}(h:QD2 w g n)(b o:Nat)(v:Value):QD2 (w.setCell ⟨b,o,none⟩ v) g n:=by
 refine⟨fun j hj=>?_,fun j=>by simp only[jE];exact h.2 j⟩;obtain⟨u,e⟩:=h.1 j hj;by_cases q:(⟨b,o,none⟩:Addr)=⟨g,j,none⟩
 .cases q;exact⟨v,by simp[go_sem,e]⟩
 .exact⟨u,by rw[gF (h:=q)];exact e⟩
theorem qJZ(x:qG7)(w:World)(hn:x.n<=1048576)(h:qC1 w x.a x.n x.ps):
  CP 184 #[.agg #[.slice x.a x.n x.cap]] w fun e w'=>∃y:qG7,e=.returned (.agg #[.slice y.a y.n y.cap])/\y.ps=x.ps/\y.n=x.n/\qC1 w' y.a y.n y.ps/\qP1 w' w.heap.size y/\Below w.heap.size w w':=by
 have HP:=hJJ h;clear h;obtain⟨W,hW⟩:∃W,W=((w.alloc (.cells #[.slice x.a x.n x.cap] 226)).alloc (.cells #[.slice none 0 0] 160)).alloc (.cells #[.slice none 0 0] 160):=⟨_,rfl⟩;have hs:W.heap.size=w.heap.size+3:=by rw[hW];simp
 have B0:Below w.heap.size w W:=by rw[hW];exact ((zN).alloc (by simp) _).alloc (by simp;omega) _
 have c1:W.cell? ⟨w.heap.size+1,0,none⟩=some (.slice none 0 0):=by rw[hW];go_cell
 have c2:W.cell? ⟨w.heap.size+2,0,none⟩=some (.slice none 0 0):=by rw[hW];go_cell
 have f1:W.frozen? ⟨w.heap.size+1,0,none⟩=false:=by rw[hW];simp[go_sem]
 have f2:W.frozen? ⟨w.heap.size+2,0,none⟩=false:=by rw[hW];simp[go_sem]
 go_enter func184,ntmps184;go_wp2_with fail
 rw[<- hW];clear hW;refine (qAw x.a x.n x.cap x.ps W hn (HP.out.below B0)).mono ?_;rintro e w1 ⟨rfl,hat,hlt,hb,hroom⟩;have HQ:Hid (qO9 w1 W.heap.size 0 x.ps/\QD2 w1 W.heap.size x.n/\Below w.heap.size w w1):=⟨hat,hroom,B0.trans (hb.mono (by omega))⟩;have d1:w1.cell? ⟨w.heap.size+1,0,none⟩=some (.slice none 0 0):=(hb.cell (p:=⟨w.heap.size+1,0,none⟩) (by show w.heap.size+1<W.heap.size;omega)).trans c1;have d2:w1.cell? ⟨w.heap.size+2,0,none⟩=some (.slice none 0 0):=(hb.cell (p:=⟨w.heap.size+2,0,none⟩) (by show w.heap.size+2<W.heap.size;omega)).trans c2;have g1:w1.frozen? ⟨w.heap.size+1,0,none⟩=false:=(hb.frozen (p:=⟨w.heap.size+1,0,none⟩) (by show w.heap.size+1<W.heap.size;omega)).trans f1;have g2:w1.frozen? ⟨w.heap.size+2,0,none⟩=false:=(hb.frozen (p:=⟨w.heap.size+2,0,none⟩) (by show w.heap.size+2<W.heap.size;omega)).trans f2;have hw:w.heap.size+2<w1.heap.size:=by omega
 have HS:=hJJ hs;clear hat hroom hb c1 c2 f1 f2 B0 hs;go_wp2;refine gQ (v:=.agg #[.slice (some ⟨W.heap.size,0,none⟩) x.n x.n]) (by simp[results,results184,go_sem,d1,d2,hw]) rfl ⟨⟨some ⟨W.heap.size,0,none⟩,x.n,x.n,x.ps⟩,rfl,rfl,rfl,?_,⟨rfl,_,rfl,by have:=HS.out;omega,by simp only[jP];exact hlt,(HQ.out.2.1.setAny _ _ _).setAny _ _ _⟩,?_⟩
 .exact ((qC1.of HP.out.1 HQ.out.1).set (fun b off e=>by cases e;have:=HS.out;omega)).set (fun b off e=>by cases e;have:=HS.out;omega)
 .exact (HQ.out.2.2.setCell (by simp;omega) _).setCell (by simp) _
theorem qIh{w:World}{B k n:Nat}{ys:List qG7}{y:qG7}(hroom:qI1 w B n)(hk:k<n)(hl:ys.length=k)(hat:qT4 w B 0 ys)(hnew:qK8 w (B+1) ys)(hp:qC1 w y.a y.n y.ps)(hy:qP1 w (B+1) y):
  qI1 (w.setCell ⟨B,k,none⟩ (.slice y.a y.n y.cap)) B n/\qT4 (w.setCell ⟨B,k,none⟩ (.slice y.a y.n y.cap)) B 0 (ys++[y])/\qK8 (w.setCell ⟨B,k,none⟩ (.slice y.a y.n y.cap)) (B+1) (ys++[y]):=by
 have hne:∀z:qG7,qP1 w (B+1) z->∀b off,z.a=some ⟨b,off,none⟩->b≠B:=fun z hz b off e=>by
  obtain⟨_,g,e',hg,_⟩:=hz;rw[e]at e';cases e';omega
 have hns:∀z:qG7,qP1 w (B+1) z->qP1 (w.setCell ⟨B,k,none⟩ (.slice y.a y.n y.cap)) (B+1) z:=fun z hz=>by
  obtain⟨h0,g,e',hg,hlt,hr⟩:=hz;exact⟨h0,g,e',hg,by simp only[jP];exact hlt,hr.setAny _ _ _⟩
 obtain⟨u,hu⟩:=hroom.1 k hk;refine⟨hroom.set _ _,fun j x e=>?_,fun j x e=>?_⟩
 .by_cases hj:j<k
  .rw[kY (by omega)]at e;obtain⟨h1,h2⟩:=hat j x e;refine⟨?_,h2.set (hne x (hnew j x e))⟩;rw[gF (h:=fun q=>by have:=jA Addr.off q;simp at this;omega)];exact h1
  .have hjk:j=k:=by
    by_cases q:j<(ys++[y]).length
    .simp at q;omega
    .rw[gE (by omega)]at e;cases e
   subst hjk;rw[<- hl,kN (gB _),Nat.sub_self]at e;simp at e;subst e;refine⟨?_,hp.set (hne y hy)⟩;rw[gG];simp[go_sem,hu]
 .rcases kL.1 (gO e)with h | h
  .obtain⟨i,hi⟩:=jW.1 h;exact hns x (hnew i x hi)
  .rw[List.mem_singleton.1 h];exact hns y hy
structure qEA (w0 w:World) (n:Nat) (fs ys:List qG7):Prop where
 ln:ys.length=n
 ps:qA3 ys=qA3 fs
 at':qT4 w w0.heap.size 0 ys
 nw:qK8 w (w0.heap.size+1) ys
 rm:qI1 w w0.heap.size n
 lt:w0.heap.size<w.heap.size
 bl:Below w0.heap.size w0 w
theorem qHA(a:Option Addr)(n cap:Nat)(fs:List qG7)(w:World)(hn:n<=1048576)(hle:qM3 1048576 fs)(h:qF7 w a n fs):
  CP 138 #[.slice a n cap] w fun e w'=>e=.returned (.slice (some ⟨w.heap.size,0,none⟩) n n)/\∃ys,qEA w w' n fs ys:=by
 obtain⟨i0,hi,hz0,hz1,hz2⟩:=jT Tryz.info160;obtain⟨wm,hmk,hownm,hgrm⟩:=run_make_full (P:=prog) (w:=w) w.heap.size 90 160 i0 (.agg #[.slice none 0 0]) 1 underlying90 hi hz0 hz1 .i64 .i64 n (by rw[hz2];omega) (by unfold maxLen;omega) (gB _);have H:=hJJ h;have HLE:=hJJ hle;have hz:=hJJ h.1;clear h hle
 have HM:Hid (qI1 wm w.heap.size n/\w.heap.size<wm.heap.size):=by
  refine⟨⟨fun j hj=>?_,fun j=>hownm.frozenAt j⟩,(hownm.lt _ rfl).2⟩;have hl:=hownm.1;exact⟨_,(hownm.cellAt j (by omega)).trans (gA (by omega))⟩
 clear hownm;have HG:=hJJ hgrm;clear hgrm;have hn':(n:Int)<=1048576:=by omega
 go_enter func138,ntmps138;go_wp2
 go_loopw [4] (fun i wr=>∃(k:Nat) (ys:List qG7),k<=n/\i=iv (k:Int)/\ys.length=k/\qA3 ys=qA3 (fs.take k)/\qI1 wr w.heap.size n/\qT4 wr w.heap.size 0 ys/\qK8 wr (w.heap.size+1) ys/\w.heap.size<wr.heap.size/\Below w.heap.size w wr)
  (fun i _=>n-(intOf i).toNat)
 case atStart=>exact⟨0,[],gH _,rfl,rfl,rfl,HM.out.1,fun k r e=>by simp at e,fun k r e=>by simp at e,HM.out.2,(gC _ _).grown HG.out (gB _) (fun k e=>by cases e)⟩
 case round =>
  obtain⟨k,ys,hk,rfl,hyl,hyp,hroom,hat,hnew,hlt0,hnx⟩:=hrel;have HY:Hid (ys.length=k/\qA3 ys=qA3 (fs.take k)):=⟨hyl,hyp⟩;clear hyl hyp;by_cases hlt:k<n
  .obtain⟨b,off,x,rfl,hs,hr⟩:=H.out.at hlt
   have HS:=hJJ hs;have hb:b<w.heap.size:=hr.lt;have hx:x.n<=1048576:=HLE.out k x hs;clear hs;have hr2:=hr.below hnx;have h0:=hr2.1;have HX:=hJJ hr2.2;have HD:Hid (qI1 wr w.heap.size n/\qT4 wr w.heap.size 0 ys/\qK8 wr (w.heap.size+1) ys/\Below w.heap.size w wr):=⟨hroom,hat,hnew,hnx⟩;clear hroom hat hnew hr hr2 hnx;have hlt':(k:Int)<(n:Int):=by omega
   go_wp2_with fail
   refine (qJZ x _ hx HX.out).mono ?_;rintro e w1 ⟨y,rfl,hyps,hyn,hyP,hyN,hb1⟩;have hz1:=hb1.size;have HB:=hJJ hb1
   have hyN':qP1 w1 (w.heap.size+1) y:=by
    obtain⟨q0,g,q1,q2,q3⟩:=hyN;exact⟨q0,g,q1,by omega,q3⟩
   obtain⟨P1,P2,P3⟩:=qIh (HD.out.1.below hlt0 hb1) hlt HY.out.1 (HD.out.2.1.below hb1) (HD.out.2.2.1.below hb1) hyP hyN';have RM:Hid (qI1 (w1.setCell ⟨w.heap.size,k,none⟩ (.slice y.a y.n y.cap)) w.heap.size n/\qT4 (w1.setCell ⟨w.heap.size,k,none⟩ (.slice y.a y.n y.cap)) w.heap.size 0 (ys++[y])/\qK8 (w1.setCell ⟨w.heap.size,k,none⟩ (.slice y.a y.n y.cap)) (w.heap.size+1) (ys++[y])/\Below w.heap.size w (w1.setCell ⟨w.heap.size,k,none⟩ (.slice y.a y.n y.cap))):=⟨P1,P2,P3,(HD.out.2.2.2.trans (hb1.mono HD.out.2.2.2.size)).setCell (gB _) _⟩
   have HP:Hid (qA3 (ys++[y])=qA3 (fs.take (k+1))):=by
    show qA3 (ys++[y])=qA3 (fs.take (k+1))
    have h1:=HY.out.2;unfold qA3 at h1 ⊢
    rw[List.map_append,h1,List.take_add_one,HS.out];simp[hyps]
   obtain⟨u,hu⟩:=(HD.out.1.below hlt0 hb1).1 k hlt;have hf:=(HD.out.1.below hlt0 hb1).2 k;clear P1 P2 P3 hyps hyn hyP hyN hyN' hb1 h0;go_wp2;exact⟨⟨k+1,ys++[y],by omega,by go_num,by simp[HY.out.1],HP.out,RM.out.1,RM.out.2.1,RM.out.2.2.1,by simp only[jP];omega,RM.out.2.2.2⟩,by simp[intOf];omega⟩
  .have hkn:k=n:=by omega
   subst hkn
   have HQ:Hid (qEA w wr k fs ys):=by
    refine⟨HY.out.1,?_,hat,hnew,hroom,hlt0,hnx⟩;have:=HY.out.2;rw[gV (by rw[hz.out];exact gB _)]at this;exact this
   go_wp2;go_ret;exact⟨rfl,ys,HQ.out⟩
theorem qDf(x y:qG7)(w:World)(hn:x.n<=1048576)(hp:y.ps=x.ps)(ha:qC1 w x.a x.n x.ps)(hb:qC1 w y.a y.n y.ps):
  CP 197 #[.agg #[.slice x.a x.n x.cap],.agg #[.slice y.a y.n y.cap]] w fun e w'=>e=.returned (.bool true)/\Below w.heap.size w w':=by
 have hyn:y.n=x.n:=by have h1:=ha.1;have h2:=hb.1;rw[hp]at h2;omega
 rw[hyn]at hb;rw[hp]at hb;rw[hyn];clear hyn hp;have HA:=hJJ ha;have HB:=hJJ hb;clear ha hb;obtain⟨W,hW⟩:∃W,W=(w.alloc (.cells #[.slice x.a x.n x.cap] 160)).alloc (.cells #[.slice y.a x.n y.cap] 160):=⟨_,rfl⟩;have B0:Below w.heap.size w W:=by rw[hW];exact (zN).alloc (by simp) _
 go_enter func197,ntmps197;go_wp2_with fail
 rw[<- hW];clear hW;refine (qBr x.a y.a x.n x.cap y.cap x.ps W hn (HA.out.below B0) (HB.out.below B0)).mono ?_;rintro e w1 ⟨rfl,hb1⟩;have hbb:Below w.heap.size w w1:=B0.trans (hb1.mono B0.size);clear B0 hb1;go_wp2;go_ret;exact⟨rfl,hbb⟩
theorem qJv{fs ys:List qG7}(hp:qA3 ys=qA3 fs){k:Nat}{x y:qG7}(hx:fs[k]?=some x)(hy:ys[k]?=some y):y.ps=x.ps:=by
 have h1:(qA3 ys)[k]?=some y.ps:=by unfold qA3;rw[jI,hy];rfl
 have h2:(qA3 fs)[k]?=some x.ps:=by unfold qA3;rw[jI,hx];rfl
 rw[hp,h2]at h1;exact (gJ h1).symm
theorem qBt(a b:Option Addr)(n c d:Nat)(fs ys:List qG7)(w:World)(hn:n<=1048576)(hle:qM3 1048576 fs)(hp:qA3 ys=qA3 fs)(ha:qF7 w a n fs)(hb:qF7 w b n ys):
  CP 153 #[.slice a n c,.slice b n d] w fun e w'=>e=.returned (.bool true)/\Below w.heap.size w w':=by
 have HA:=hJJ ha;have HB:=hJJ hb;have HLE:=hJJ hle;have HP:=hJJ hp;clear ha hb hle hp;have hn':(n:Int)<=1048576:=by omega
 go_enter func153,ntmps153;go_wp2;go_loopw [5] (fun i wr=>∃k:Nat,k<=n/\i=iv (k:Int)/\Below w.heap.size w wr) (fun i _=>n-(intOf i).toNat)
 case atStart=>exact⟨0,gH _,rfl,gC _ _⟩
 case round =>
  obtain⟨k,hk,rfl,hnx⟩:=hrel;by_cases hlt:k<n
  .obtain⟨b1,o1,x,e1,hs,hr⟩:=HA.out.at hlt
   obtain⟨b2,o2,y,e2,hs2,hr2⟩:=HB.out.at hlt
   have hxn:=HLE.out k x hs;have hxy:=qJv HP.out hs hs2;subst e1 e2;clear hs hs2;have h0:=(hr.below hnx).1;have g0:=(hr2.below hnx).1;have HX:Hid (qC1 wr x.a x.n x.ps/\qC1 wr y.a y.n y.ps/\y.ps=x.ps):=⟨(hr.below hnx).2,(hr2.below hnx).2,hxy⟩;clear hr hr2 hxy;have hlt':(k:Int)<(n:Int):=by omega
   have hb1:b1<wr.heap.size:=zL wr ⟨b1,o1+k,none⟩ h0;have hb2:b2<wr.heap.size:=zL wr ⟨b2,o2+k,none⟩ g0;have HC:Hid (∀w':World,((∀b o,b<wr.heap.size->w'.cell? ⟨b,o,none⟩=wr.cell? ⟨b,o,none⟩)/\Below wr.heap.size wr w')->CP 197 #[.agg #[.slice x.a x.n x.cap],.agg #[.slice y.a y.n y.cap]] w' fun e w''=>e=.returned (.bool true)/\Below w'.heap.size w' w''):=fun w' q=>qDf x y w' hxn HX.out.2.2 (HX.out.1.below q.2) (HX.out.2.1.below q.2)
   go_wp2
   go_region_held3 (fun w'=>(∀b o,b<wr.heap.size->w'.cell? ⟨b,o,none⟩=wr.cell? ⟨b,o,none⟩)/\Below wr.heap.size wr w') (first | exact hS | exact qA8 _)
    (first | (go_at_call 197;refine (HC.out _ (by assumption)).mono ?_;rintro e w' ⟨rfl,hb1⟩;have hS:=qA0 (by assumption) hb1))
   go_wp2;exact⟨⟨k+1,by omega,by go_num,hnx.trans (hS.2.mono hnx.size)⟩,by simp[intOf];omega⟩
  .have hkn:k=n:=by omega
   subst hkn;go_wp2;go_ret;exact⟨rfl,hnx⟩
structure qA5 where
 e:Int
 f:Int
 ra:Option Addr
 rn:Nat
 rc:Nat
 zs:List qA1
 fa:Option Addr
 fn:Nat
 fc:Nat
 fs:List qG7
 ca:Option Addr
 cn:Nat
 cc:Nat
 cs:List Int
deriving Inhabited
structure qF4 (w:World) (c:qA5):Prop where
 rules:qB9 w c.ra c.rn c.zs
 forms:qF7 w c.fa c.fn c.fs
 classes:qD0 w c.ca c.cn c.cs
theorem qF4.below{w w':World}{c:qA5}(h:qF4 w c)(hb:Below w.heap.size w w'):qF4 w' c:=⟨h.rules.below hb,h.forms.below hb,h.classes.below hb⟩
structure qE2 (m:Nat) (c:qA5):Prop where
 rules:c.rn<=m
 forms:c.fn<=m
 parts:qM3 m c.fs
 classes:c.cn<=m
structure qH0 (c d:qA5):Prop where
 e:d.e=c.e
 f:d.f=c.f
 rn:d.rn=c.rn
 zs:d.zs=c.zs
 fn:d.fn=c.fn
 ps:qA3 d.fs=qA3 c.fs
 cn:d.cn=c.cn
 cs:d.cs=c.cs
theorem qK8.le{w:World}{L m n:Nat}{a:Option Addr}{ys fs:List qG7}(hy:qF7 w a n ys)(hf:∀(k:Nat) (x:qG7),fs[k]?=some x->x.ps.length=x.n)(hp:qA3 ys=qA3 fs)(h:qM3 m fs):qM3 m ys:=by
 intro k y e
 have hk:k<n:=by
  by_cases q:k<n
  .exact q
  .rw[gE (by rw[hy.1];omega)]at e;cases e
 obtain⟨b,off,y',_,e',hat⟩:=hy.at hk
 rw[e]at e';cases e';have h1:(qA3 ys)[k]?=some y.ps:=by unfold qA3;rw[jI,e];rfl
 rw[hp]at h1;unfold qA3 at h1;rw[jI]at h1;cases q:fs[k]? with
 | none=>rw[q]at h1;cases h1
 | some x =>
  rw[q]at h1;simp at h1;have h2:=h k x q;have h3:=hf k x q;have h4:=hat.2.1;rw[<- h1]at h4;omega
theorem qJb(x:qG7)(l:Int)(w:World)(hx:x.n<=maxLen)(h0:0<=l)(h1:l<=1048576):
  CP 176 #[.agg #[.slice x.a x.n x.cap],iv l] w fun e w'=>(∃r:Int,e=.returned (iv r)/\r<=l/\(0<=r->(x.n:Int)<=l))/\Below w.heap.size w w':=by
 unfold maxLen at hx;have hx':(x.n:Int)<=9223372036854775807:=by omega
 by_cases hlt:(x.n:Int)<=l
 .go_enter func176,ntmps176;go_wp2;go_ret;exact⟨⟨_,rfl,by omega,fun _=>hlt⟩,by go_grown⟩
 .have hlt':l<(x.n:Int):=by omega
  go_enter func176,ntmps176;go_wp2;go_ret;exact⟨⟨_,rfl,by omega,fun q=>by omega⟩,by go_grown⟩
theorem qHC(a:Option Addr)(n cap:Nat)(fs:List qG7)(l:Int)(w:World)(hn:n<=maxLen)(hle:qM3 maxLen fs)(h0:0<=l)(h1:l<=1048576)(h:qF7 w a n fs):
  CP 127 #[.slice a n cap,iv l] w fun e w'=>(∃r:Int,e=.returned (iv r)/\r<=l/\(0<=r->(n:Int)<=l/\qM3 l.toNat fs))/\Below w.heap.size w w':=by
 have H:=hJJ h;have HZ:=hJJ h.1;have HLE:=hJJ hle;have hn':(n:Int)<=9223372036854775807:=by unfold maxLen at hn;omega
 clear h hle hn;by_cases hlt:(n:Int)<=l
 .go_enter func127,ntmps127;go_wp2
  go_loopw [1,5] (fun q i wr=>∃(k:Nat) (r:Int),k<=n/\i=iv (k:Int)/\q=iv r/\0<=r/\r<=l/\(∀j x,j<k->fs[j]?=some x->x.n<=l.toNat)/\Below w.heap.size w wr)
   (fun _ i _=>n-(intOf i).toNat)
  case atStart=>exact⟨0,_,gH _,rfl,rfl,by omega,by omega,fun j x hj=>by omega,gC _ _⟩
  case round =>
   obtain⟨k,r,hk,rfl,rfl,hr0,hr1,hok,hnx⟩:=hrel;have HOK:=hJJ hok;clear hok;by_cases hkn:k<n
   .obtain⟨b,off,x,rfl,hs,hr⟩:=H.out.at hkn
    have HS:=hJJ hs;have hx:x.n<=maxLen:=HLE.out k x hs;have hb:b<w.heap.size:=hr.lt;have hc:=(hr.below hnx).1;clear hs hr;have hkn':(k:Int)<(n:Int):=by omega
    go_wp2_with fail
    refine (qJb x r _ hx hr0 (by omega)).mono ?_;rintro e w1 ⟨⟨r',rfl,hr'1,hr'2⟩,hb1⟩;have hb01:Below w.heap.size w w1:=hnx.trans (hb1.mono hnx.size);by_cases hneg:r'<0
    .clear hc;go_wp2;go_ret;exact⟨⟨_,rfl,by omega,fun q=>by omega⟩,hb01⟩
    .have HN:Hid (∀j y,j<k+1->fs[j]?=some y->y.n<=l.toNat):=fun j y hj hy=>by
      by_cases e:j=k
      .subst e;rw[HS.out]at hy;cases hy;have:=hr'2 (by omega);omega
      .exact HOK.out j y (by omega) hy
     have hge:0<=r':=by omega
     clear hc hr'2;go_wp2;exact⟨⟨k+1,r',by omega,by go_num,rfl,hge,by omega,HN.out,hb01⟩,by simp[intOf];omega⟩
   .have hkn':k=n:=by omega
    subst hkn'
    have HQ:Hid (qM3 l.toNat fs):=fun j x hj=>by
     have : j<k:=by
      by_cases q:j<k
      .exact q
      .rw[gE (by rw[HZ.out];omega)]at hj;cases hj
     exact HOK.out j x this hj
    go_wp2;go_ret;exact⟨⟨r,rfl,hr1,fun _=>⟨hlt,HQ.out⟩⟩,hnx⟩
 .have hlt':l<(n:Int):=by omega
  go_enter func127,ntmps127;go_wp2;go_ret;exact⟨⟨_,rfl,by omega,fun q=>by omega⟩,by go_grown⟩
theorem qFU(c:qA5)(l:Int)(w:World)(hle:qE2 maxLen c)(h0:0<=l)(h1:l<=1048576)(h:qF4 w c):
  CP 77 #[.agg #[iv c.e,iv c.f,.slice c.ra c.rn c.rc,.slice c.fa c.fn c.fc,.slice c.ca c.cn c.cc],iv l] w fun e w'=>(∃r:Int,e=.returned (iv r)/\r<=l/\(0<=r->qE2 l.toNat c))/\Below w.heap.size w w':=by
 have hr1:=hle.rules;have hc1:=hle.classes;unfold maxLen at hr1 hc1;have hr':(c.rn:Int)<=9223372036854775807:=by omega
 have hc':(c.cn:Int)<=9223372036854775807:=by omega
 have HLE:=hJJ hle;have H:=hJJ h;clear h hle hr1 hc1;obtain⟨W,hW⟩:∃W,W=w.alloc (.cells #[iv c.e,iv c.f,.slice c.ra c.rn c.rc,.slice c.fa c.fn c.fc,.slice c.ca c.cn c.cc] 104):=⟨_,rfl⟩;have hs:W.heap.size=w.heap.size+1:=by rw[hW];simp
 have B0:Below w.heap.size w W:=by rw[hW];exact zN
 have c4:W.cell? ⟨w.heap.size,4,none⟩=some (.slice c.ca c.cn c.cc):=by rw[hW];simp
 by_cases q1:(c.rn:Int)<=l
 .go_enter func77,ntmps77;go_wp2_with (first | (go_at_call 126;go_in) | fail)
  rw[<- hW];clear hW;refine (qHC c.fa c.fn c.fc c.fs _ W HLE.out.forms HLE.out.parts (by omega) (by omega) (H.out.forms.below B0)).mono ?_;rintro e w1 ⟨⟨r,rfl,hr1,hr2⟩,hb1⟩;have HR:=hJJ hr2;have hb:Below w.heap.size w w1:=B0.trans (hb1.mono (by omega));have d4:=(hb1.cell (p:=⟨w.heap.size,4,none⟩) (by show w.heap.size<W.heap.size;omega)).trans c4;have hw:w.heap.size<w1.heap.size:=by have:=hb1.size;omega
  clear hr2 hb1 c4 B0 hs;by_cases q2:r<0
  .go_wp2;go_ret;exact⟨⟨_,rfl,by omega,fun q=>by omega⟩,hb⟩
  .have q2':0<=r:=by omega
   by_cases q3:(c.cn:Int)<=r
   .go_wp2;go_ret;refine⟨⟨_,rfl,by omega,fun _=>?_⟩,hb⟩;obtain⟨h3,h4⟩:=HR.out q2';exact⟨by omega,by omega,fun k x e=>by have:=h4 k x e;omega,by omega⟩
   .have q3':r<(c.cn:Int):=by omega
    go_wp2;go_ret;exact⟨⟨_,rfl,by omega,fun q=>by omega⟩,hb⟩
 .have q1':l<(c.rn:Int):=by omega
  go_enter func77,ntmps77;go_wp2;go_ret;exact⟨⟨_,rfl,by omega,fun q=>by omega⟩,by go_grown⟩
def qR0(w:World)(g:Nat)(c:qA5):Prop:=w.cell? ⟨g,0,none⟩=some (iv c.e)/\w.cell? ⟨g,1,none⟩=some (iv c.f)/\w.cell? ⟨g,2,none⟩=some (.slice c.ra c.rn c.rc)/\w.cell? ⟨g,3,none⟩=some (.slice c.fa c.fn c.fc)/\w.cell? ⟨g,4,none⟩=some (.slice c.ca c.cn c.cc)
theorem qR0.lt{w:World}{g:Nat}{c:qA5}(h:qR0 w g c):g<w.heap.size:=zL w ⟨g,0,none⟩ h.1
theorem qR0.below{w w':World}{g:Nat}{c:qA5}(h:qR0 w g c)(hb:Below w.heap.size w w'):qR0 w' g c:=by
 have key:∀(o:Nat) (v:Value),w.cell? ⟨g,o,none⟩=some v->w'.cell? ⟨g,o,none⟩=some v:=fun o v e=>(hb.cell (p:=⟨g,o,none⟩) h.lt).trans e
 exact⟨key _ _ h.1,key _ _ h.2.1,key _ _ h.2.2.1,key _ _ h.2.2.2.1,key _ _ h.2.2.2.2⟩
theorem qR0.new(w:World)(c:qA5)(t:TypeId):qR0 (w.alloc (.cells #[iv c.e,iv c.f,.slice c.ra c.rn c.rc,.slice c.fa c.fn c.fc,.slice c.ca c.cn c.cc] t)) w.heap.size c:=⟨by simp,by simp,by simp,by simp,by simp⟩
structure qM5 (w:World) (L:Nat) (d:qA5):Prop where
 rules:d.rc=d.rn/\∃g,d.ra=some ⟨g,0,none⟩/\L<=g/\g<w.heap.size/\qN9 w g d.rn
 forms:d.fc=d.fn/\∃g,d.fa=some ⟨g,0,none⟩/\L<=g/\g<w.heap.size/\qI1 w g d.fn
 parts:qK8 w L d.fs
 classes:d.cc=d.cn/\∃g,d.ca=some ⟨g,0,none⟩/\L<=g/\g<w.heap.size/\qI1 w g d.cn
structure QI1 (w:World) (g:Nat) (v0 v1 v2 v3 v4:Value):Prop where
 c0:w.cell? ⟨g,0,none⟩=some v0
 c1:w.cell? ⟨g,1,none⟩=some v1
 c2:w.cell? ⟨g,2,none⟩=some v2
 c3:w.cell? ⟨g,3,none⟩=some v3
 c4:w.cell? ⟨g,4,none⟩=some v4
 fz:∀j,w.frozen? ⟨g,j,none⟩=false
theorem QI1.lt{w:World}{g:Nat}{v0 v1 v2 v3 v4:Value}(h:QI1 w g v0 v1 v2 v3 v4):g<w.heap.size:=zL w ⟨g,0,none⟩ h.c0
theorem QI1.below{w w':World}{g:Nat}{v0 v1 v2 v3 v4:Value}(h:QI1 w g v0 v1 v2 v3 v4)(hb:Below w.heap.size w w'):QI1 w' g v0 v1 v2 v3 v4:=by
 have key:∀(o:Nat) (v:Value),w.cell? ⟨g,o,none⟩=some v->w'.cell? ⟨g,o,none⟩=some v:=fun o v e=>(hb.cell (p:=⟨g,o,none⟩) h.lt).trans e
 exact⟨key _ _ h.c0,key _ _ h.c1,key _ _ h.c2,key _ _ h.c3,key _ _ h.c4,fun j=>(hb.frozen (p:=⟨g,j,none⟩) h.lt).trans (h.fz j)⟩
theorem QI1.other{w:World}{g b o:Nat}{v v0 v1 v2 v3 v4:Value}(h:QI1 w g v0 v1 v2 v3 v4)(hne:b≠g):QI1 (w.setCell ⟨b,o,none⟩ v) g v0 v1 v2 v3 v4:=by
 have key:∀(q:Nat) (u:Value),w.cell? ⟨g,q,none⟩=some u->(w.setCell ⟨b,o,none⟩ v).cell? ⟨g,q,none⟩=some u:=fun q u e=>by
  rw[gF (h:=fun e2=>hne (by have:=jA Addr.block e2;simpa using this))];exact e
 exact⟨key _ _ h.c0,key _ _ h.c1,key _ _ h.c2,key _ _ h.c3,key _ _ h.c4,fun j=>by simp only[jE];exact h.fz j⟩
theorem QI1.new(w:World)(v0 v1 v2 v3 v4:Value)(t:TypeId):QI1 (w.alloc (.cells #[v0,v1,v2,v3,v4] t)) w.heap.size v0 v1 v2 v3 v4:=⟨by simp,by simp,by simp,by simp,by simp,fun j=>by simp[go_sem]⟩
theorem QI1.set0{w:World}{g:Nat}{v v0 v1 v2 v3 v4:Value}(h:QI1 w g v0 v1 v2 v3 v4):QI1 (w.setCell ⟨g,0,none⟩ v) g v v1 v2 v3 v4:=⟨by simp[go_sem,h.c0],by simp[go_sem,h.c1],by simp[go_sem,h.c2],by simp[go_sem,h.c3],by simp[go_sem,h.c4],fun j=>by simp only[jE];exact h.fz j⟩
theorem QI1.set1{w:World}{g:Nat}{v v0 v1 v2 v3 v4:Value}(h:QI1 w g v0 v1 v2 v3 v4):QI1 (w.setCell ⟨g,1,none⟩ v) g v0 v v2 v3 v4:=⟨by simp[go_sem,h.c0],by simp[go_sem,h.c1],by simp[go_sem,h.c2],by simp[go_sem,h.c3],by simp[go_sem,h.c4],fun j=>by simp only[jE];exact h.fz j⟩
theorem QI1.set2{w:World}{g:Nat}{v v0 v1 v2 v3 v4:Value}(h:QI1 w g v0 v1 v2 v3 v4):QI1 (w.setCell ⟨g,2,none⟩ v) g v0 v1 v v3 v4:=⟨by simp[go_sem,h.c0],by simp[go_sem,h.c1],by simp[go_sem,h.c2],by simp[go_sem,h.c3],by simp[go_sem,h.c4],fun j=>by simp only[jE];exact h.fz j⟩
theorem QI1.set3{w:World}{g:Nat}{v v0 v1 v2 v3 v4:Value}(h:QI1 w g v0 v1 v2 v3 v4):QI1 (w.setCell ⟨g,3,none⟩ v) g v0 v1 v2 v v4:=⟨by simp[go_sem,h.c0],by simp[go_sem,h.c1],by simp[go_sem,h.c2],by simp[go_sem,h.c3],by simp[go_sem,h.c4],fun j=>by simp only[jE];exact h.fz j⟩
theorem QI1.set4{w:World}{g:Nat}{v v0 v1 v2 v3 v4:Value}(h:QI1 w g v0 v1 v2 v3 v4):QI1 (w.setCell ⟨g,4,none⟩ v) g v0 v1 v2 v3 v:=⟨by simp[go_sem,h.c0],by simp[go_sem,h.c1],by simp[go_sem,h.c2],by simp[go_sem,h.c3],by simp[go_sem,h.c4],fun j=>by simp only[jE];exact h.fz j⟩
structure CfW (w:World) (c:qA5) (v0 v1 v2 v3 v4:Value) (V:World):Prop where
 bl:Below w.heap.size w V
 ar:qR0 V w.heap.size c
 re:QI1 V (w.heap.size+1) (.int .i64 0) (.int .i64 0) (.slice none 0 0) (.slice none 0 0) (.slice none 0 0)
 ou:QI1 V (w.heap.size+2) v0 v1 v2 v3 v4
theorem CfW.below{w:World}{c:qA5}{v0 v1 v2 v3 v4:Value}{V V':World}(h:CfW w c v0 v1 v2 v3 v4 V)(hb:Below V.heap.size V V'):CfW w c v0 v1 v2 v3 v4 V' :=
 ⟨h.bl.trans (hb.mono h.bl.size),h.ar.below hb,h.re.below hb,h.ou.below hb⟩
theorem qR0.other{w:World}{g b o:Nat}{v:Value}{c:qA5}(h:qR0 w g c)(hne:b≠g):qR0 (w.setCell ⟨b,o,none⟩ v) g c:=by
 have key:∀(q:Nat) (u:Value),w.cell? ⟨g,q,none⟩=some u->(w.setCell ⟨b,o,none⟩ v).cell? ⟨g,q,none⟩=some u:=fun q u e=>by
  rw[gF (h:=fun e2=>hne (by have:=jA Addr.block e2;simpa using this))];exact e
 exact⟨key _ _ h.1,key _ _ h.2.1,key _ _ h.2.2.1,key _ _ h.2.2.2.1,key _ _ h.2.2.2.2⟩
theorem CfW.set2{w:World}{c:qA5}{v v0 v1 v2 v3 v4:Value}{V:World}(h:CfW w c v0 v1 v2 v3 v4 V):CfW w c v0 v1 v v3 v4 (V.setCell ⟨w.heap.size+2,2,none⟩ v):=⟨h.bl.setCell (by simp) _,h.ar.other (by omega),h.re.other (by omega),h.ou.set2⟩
theorem CfW.set3{w:World}{c:qA5}{v v0 v1 v2 v3 v4:Value}{V:World}(h:CfW w c v0 v1 v2 v3 v4 V):CfW w c v0 v1 v2 v v4 (V.setCell ⟨w.heap.size+2,3,none⟩ v):=⟨h.bl.setCell (by simp) _,h.ar.other (by omega),h.re.other (by omega),h.ou.set3⟩
theorem CfW.set4{w:World}{c:qA5}{v v0 v1 v2 v3 v4:Value}{V:World}(h:CfW w c v0 v1 v2 v3 v4 V):CfW w c v0 v1 v2 v3 v (V.setCell ⟨w.heap.size+2,4,none⟩ v):=⟨h.bl.setCell (by simp) _,h.ar.other (by omega),h.re.other (by omega),h.ou.set4⟩
theorem qB9.set{w:World}{a:Option Addr}{n g o:Nat}{v:Value}{zs:List qA1}(h:qB9 w a n zs)(hne:∀b off,a=some ⟨b,off,none⟩->b≠g):qB9 (w.setCell ⟨g,o,none⟩ v) a n zs:=by
 refine⟨h.1,fun hp=>?_⟩;obtain⟨b,off,e,hr⟩:=h.2 hp;refine⟨b,off,e,fun k x hx=>?_⟩
 have key:∀(q:Nat) (u:Value),w.cell? ⟨b,q,none⟩=some u->(w.setCell ⟨g,o,none⟩ v).cell? ⟨b,q,none⟩=some u:=fun q u hu=>by
  rw[gF (h:=fun e2=>hne b off e (by have:=jA Addr.block e2;simp at this;omega))];exact hu
 obtain⟨h0,h1,h2,h3,h4,h5,h6,h7⟩:=hr k x hx;exact⟨key _ _ h0,key _ _ h1,key _ _ h2,key _ _ h3,key _ _ h4,key _ _ h5,key _ _ h6,key _ _ h7⟩
theorem qD0.set{w:World}{a:Option Addr}{n g o:Nat}{v:Value}{zs:List Int}(h:qD0 w a n zs)(hne:∀b off,a=some ⟨b,off,none⟩->b≠g):qD0 (w.setCell ⟨g,o,none⟩ v) a n zs:=by
 refine⟨h.1,fun hp=>?_⟩;obtain⟨b,off,e,hr⟩:=h.2 hp;refine⟨b,off,e,fun k x hx=>?_⟩;rw[gF (h:=fun e2=>hne b off e (by have:=jA Addr.block e2;simp at this;omega))];exact hr k x hx
theorem qF7.set{w:World}{a:Option Addr}{n g o:Nat}{v:Value}{fs:List qG7}(h:qF7 w a n fs)(hne:∀b off,a=some ⟨b,off,none⟩->b≠g)(hnp:∀(k:Nat) (x:qG7),fs[k]?=some x->∀b off,x.a=some ⟨b,off,none⟩->b≠g):qF7 (w.setCell ⟨g,o,none⟩ v) a n fs:=by
 refine⟨h.1,fun hp=>?_⟩;obtain⟨b,off,e,hr⟩:=h.2 hp;refine⟨b,off,e,fun k x hx=>⟨?_,(hr k x hx).2.set (hnp k x hx)⟩⟩;rw[gF (h:=fun e2=>hne b off e (by have:=jA Addr.block e2;simp at this;omega))];exact (hr k x hx).1
theorem qI1.setAny{w:World}{g n:Nat}(h:qI1 w g n)(b o:Nat)(v:Value):qI1 (w.setCell ⟨b,o,none⟩ v) g n:=by
 refine⟨fun j hj=>?_,fun j=>by simp only[jE];exact h.2 j⟩;obtain⟨u,e⟩:=h.1 j hj;by_cases q:(⟨b,o,none⟩:Addr)=⟨g,j,none⟩
 .cases q;exact⟨v,by simp[go_sem,e]⟩
 .exact⟨u,by rw[gF (h:=q)];exact e⟩
theorem qN9.setAny{w:World}{g n:Nat}(h:qN9 w g n)(b o:Nat)(v:Value):qN9 (w.setCell ⟨b,o,none⟩ v) g n:=by
 refine⟨fun j hj=>?_,fun j=>by simp only[jE];exact h.2 j⟩;obtain⟨u,e⟩:=h.1 j hj;by_cases q:(⟨b,o,none⟩:Addr)=⟨g,j,none⟩
 .cases q;exact⟨v,by simp[go_sem,e]⟩
 .exact⟨u,by rw[gF (h:=q)];exact e⟩
theorem QE4{w w':World}{g n:Nat}(h:qN9 w g n)(hg:g<w.heap.size)(hb:Below w.heap.size w w'):qN9 w' g n :=
 ⟨fun j hj=>by obtain⟨v,e⟩:=h.1 j hj;exact⟨v,(hb.cell (p:=⟨g,j,none⟩) hg).trans e⟩,fun j=>(hb.frozen (p:=⟨g,j,none⟩) hg).trans (h.2 j)⟩
theorem qP1.setAny{w:World}{L:Nat}{x:qG7}(h:qP1 w L x)(b o:Nat)(v:Value):qP1 (w.setCell ⟨b,o,none⟩ v) L x:=by
 obtain⟨h0,g,h1,h2,h3,h4⟩:=h;exact⟨h0,g,h1,h2,by simp only[jP];exact h3,h4.setAny _ _ _⟩
theorem qM5.setAny{w:World}{L:Nat}{d:qA5}(h:qM5 w L d)(b o:Nat)(v:Value):qM5 (w.setCell ⟨b,o,none⟩ v) L d:=by
 obtain⟨⟨r0,rg,r1,r2,r3,r4⟩,⟨f0,fg,f1,f2,f3,f4⟩,hp,⟨k0,kg,k1,k2,k3,k4⟩⟩:=h;exact⟨⟨r0,rg,r1,r2,by simp only[jP];exact r3,r4.setAny _ _ _⟩,⟨f0,fg,f1,f2,by simp only[jP];exact f3,f4.setAny _ _ _⟩,fun k x e=>(hp k x e).setAny _ _ _,⟨k0,kg,k1,k2,by simp only[jP];exact k3,k4.setAny _ _ _⟩⟩
theorem qF4.set{w:World}{L g o:Nat}{v:Value}{d:qA5}(h:qF4 w d)(hn:qM5 w L d)(hg:g<L):qF4 (w.setCell ⟨g,o,none⟩ v) d:=by
 obtain⟨⟨r0,rg,r1,r2,r3,r4⟩,⟨f0,fg,f1,f2,f3,f4⟩,hp,⟨k0,kg,k1,k2,k3,k4⟩⟩:=hn;refine⟨h.rules.set (fun b off e=>by rw[r1]at e;cases e;omega),h.forms.set (fun b off e=>by rw[f1]at e;cases e;omega) (fun k x hx b off e=>?_),h.classes.set (fun b off e=>by rw[k1]at e;cases e;omega)⟩;obtain⟨_,q,q1,q2,_⟩:=hp k x hx;rw[q1]at e;cases e;omega
theorem qM5.low{w:World}{L M:Nat}{d:qA5}(h:qM5 w L d)(hM:M<=L):qM5 w M d:=by
 obtain⟨⟨r0,rg,r1,r2,r3,r4⟩,⟨f0,fg,f1,f2,f3,f4⟩,hp,⟨k0,kg,k1,k2,k3,k4⟩⟩:=h;refine⟨⟨r0,rg,r1,by omega,r3,r4⟩,⟨f0,fg,f1,by omega,f3,f4⟩,fun k x e=>?_,⟨k0,kg,k1,by omega,k3,k4⟩⟩;obtain⟨q0,g,q1,q2,q3⟩:=hp k x e;exact⟨q0,g,q1,by omega,q3⟩
theorem qM5.below{w w':World}{L:Nat}{d:qA5}(h:qM5 w L d)(hb:Below w.heap.size w w'):qM5 w' L d:=by
 have hz:=hb.size;obtain⟨⟨r0,rg,r1,r2,r3,r4⟩,⟨f0,fg,f1,f2,f3,f4⟩,hp,⟨k0,kg,k1,k2,k3,k4⟩⟩:=h;exact⟨⟨r0,rg,r1,r2,by omega,QE4 r4 r3 hb⟩,⟨f0,fg,f1,f2,by omega,f4.below f3 hb⟩,fun k x e=>(hp k x e).below hb,⟨k0,kg,k1,k2,by omega,k4.below k3 hb⟩⟩
structure CfN (w:World) (L:Nat) (d:qA5):Prop where
 rd:qF4 w d
 nw:qM5 w L d
theorem CfN.set{w:World}{L g o:Nat}{v:Value}{d:qA5}(h:CfN w L d)(hg:g<L):CfN (w.setCell ⟨g,o,none⟩ v) L d:=⟨h.rd.set h.nw hg,h.nw.setAny _ _ _⟩
theorem qFQ(c:qA5)(w:World)(hle:qE2 1048576 c)(h:qF4 w c):
  Calls prog 84 #[.agg #[.int .i64 c.e,.int .i64 c.f,.slice c.ra c.rn c.rc,.slice c.fa c.fn c.fc,.slice c.ca c.cn c.cc]] w fun e w'=>∃d:qA5,e=.returned (.agg #[.int .i64 d.e,.int .i64 d.f,.slice d.ra d.rn d.rc,.slice d.fa d.fn d.fc,.slice d.ca d.cn d.cc])/\qH0 c d/\qF4 w' d/\qM5 w' w.heap.size d/\Below w.heap.size w w':=by
 have HLE:Hid (qE2 1048576 c):=hle;have H:Hid (qF4 w c):=h;clear h hle;obtain⟨V,hV⟩:∃V,V=((w.alloc (.cells #[.int .i64 c.e,.int .i64 c.f,.slice c.ra c.rn c.rc,.slice c.fa c.fn c.fc,.slice c.ca c.cn c.cc] 104)).alloc (.cells #[.int .i64 0,.int .i64 0,.slice none 0 0,.slice none 0 0,.slice none 0 0] 92)).alloc (.cells #[.int .i64 c.e,.int .i64 c.f,.slice none 0 0,.slice none 0 0,.slice none 0 0] 92):=⟨_,rfl⟩
 have X0:Hid (CfW w c (.int .i64 c.e) (.int .i64 c.f) (.slice none 0 0) (.slice none 0 0) (.slice none 0 0) V/\w.heap.size+2<V.heap.size):=by
  rw[hV];have b1:Below w.heap.size w (w.alloc (.cells #[.int .i64 c.e,.int .i64 c.f,.slice c.ra c.rn c.rc,.slice c.fa c.fn c.fc,.slice c.ca c.cn c.cc] 104)):=zN;have b2:=(Below.refl (w.alloc (.cells #[.int .i64 c.e,.int .i64 c.f,.slice c.ra c.rn c.rc,.slice c.fa c.fn c.fc,.slice c.ca c.cn c.cc] 104)).heap.size (w.alloc (.cells #[.int .i64 c.e,.int .i64 c.f,.slice c.ra c.rn c.rc,.slice c.fa c.fn c.fc,.slice c.ca c.cn c.cc] 104))).alloc (Nat.le_refl _) (.cells #[.int .i64 0,.int .i64 0,.slice none 0 0,.slice none 0 0,.slice none 0 0] 92);have k1:=(qR0.new w c 104).below b2;have x1:=QI1.new (w.alloc (.cells #[.int .i64 c.e,.int .i64 c.f,.slice c.ra c.rn c.rc,.slice c.fa c.fn c.fc,.slice c.ca c.cn c.cc] 104)) (.int .i64 0) (.int .i64 0) (.slice none 0 0) (.slice none 0 0) (.slice none 0 0) 92;have x2:=QI1.new ((w.alloc (.cells #[.int .i64 c.e,.int .i64 c.f,.slice c.ra c.rn c.rc,.slice c.fa c.fn c.fc,.slice c.ca c.cn c.cc] 104)).alloc (.cells #[.int .i64 0,.int .i64 0,.slice none 0 0,.slice none 0 0,.slice none 0 0] 92)) (.int .i64 c.e) (.int .i64 c.f) (.slice none 0 0) (.slice none 0 0) (.slice none 0 0) 92;have b3:=(Below.refl ((w.alloc (.cells #[.int .i64 c.e,.int .i64 c.f,.slice c.ra c.rn c.rc,.slice c.fa c.fn c.fc,.slice c.ca c.cn c.cc] 104)).alloc (.cells #[.int .i64 0,.int .i64 0,.slice none 0 0,.slice none 0 0,.slice none 0 0] 92)).heap.size ((w.alloc (.cells #[.int .i64 c.e,.int .i64 c.f,.slice c.ra c.rn c.rc,.slice c.fa c.fn c.fc,.slice c.ca c.cn c.cc] 104)).alloc (.cells #[.int .i64 0,.int .i64 0,.slice none 0 0,.slice none 0 0,.slice none 0 0] 92))).alloc (Nat.le_refl _) (.cells #[.int .i64 c.e,.int .i64 c.f,.slice none 0 0,.slice none 0 0,.slice none 0 0] 92);have k2:=k1.below b3;have y1:=x1.below b3;have hz1:(w.alloc (.cells #[.int .i64 c.e,.int .i64 c.f,.slice c.ra c.rn c.rc,.slice c.fa c.fn c.fc,.slice c.ca c.cn c.cc] 104)).heap.size=w.heap.size+1:=by simp
  have hz2:((w.alloc (.cells #[.int .i64 c.e,.int .i64 c.f,.slice c.ra c.rn c.rc,.slice c.fa c.fn c.fc,.slice c.ca c.cn c.cc] 104)).alloc (.cells #[.int .i64 0,.int .i64 0,.slice none 0 0,.slice none 0 0,.slice none 0 0] 92)).heap.size=w.heap.size+2:=by simp
  rw[hz1]at y1;rw[hz2]at x2;exact⟨⟨(b1.alloc (by simp) _).alloc (by simp;omega) _,k2,y1,x2⟩,by simp⟩
 go_enter func84,ntmps84;go_wp2_with fail
 rw[<- hV];clear hV;refine (qAu c.ra c.rn c.rc c.zs V HLE.out.rules (H.out.rules.below X0.out.1.bl)).mono ?_;rintro e w1 ⟨rfl,hat1,hlt1,hb1,hroom1⟩;have x1:=X0.out.1.below hb1;have hz1:=hb1.size;have A1:Hid (qB9 w1 (some ⟨V.heap.size,0,none⟩) c.rn c.zs/\qN9 w1 V.heap.size c.rn):=⟨qB9.of H.out.rules.1 hat1,hroom1⟩;obtain⟨k0,k1,k2,k3,k4⟩:=x1.ar;obtain⟨o0,o1,o2,o3,o4,of⟩:=x1.ou;have X1:Hid (CfW w c (.int .i64 c.e) (.int .i64 c.f) (.slice (some ⟨V.heap.size,0,none⟩) c.rn c.rn) (.slice none 0 0) (.slice none 0 0) (w1.setCell ⟨w.heap.size+2,2,none⟩ (.slice (some ⟨V.heap.size,0,none⟩) c.rn c.rn))):=x1.set2;have hw1:w.heap.size+2<w1.heap.size:=by have:=X0.out.2;omega
 have hwV:Hid (w.heap.size+2<V.heap.size):=X0.out.2;clear hat1 hroom1 hb1 x1 X0;go_wp2_with fail
 obtain⟨V1,hV1⟩:∃V1,V1=w1.setCell ⟨w.heap.size+2,2,none⟩ (.slice (some ⟨V.heap.size,0,none⟩) c.rn c.rn):=⟨_,rfl⟩
 have A1':Hid (qB9 V1 (some ⟨V.heap.size,0,none⟩) c.rn c.zs/\qN9 V1 V.heap.size c.rn/\V.heap.size<V1.heap.size):=by
  rw[hV1];exact⟨A1.out.1.set (fun b off e=>by cases e;have:=hwV.out;omega),A1.out.2.setAny _ _ _,by simp only[World.size_setCell];exact hlt1⟩
 have HS1:Hid (V1.heap.size=w1.heap.size):=by rw[hV1];exact World.size_setCell ..
 rw[<- hV1]at X1 ⊢
 clear hV1 A1 k0 k1 k2 k3 k4 o0 o1 o2 o3 o4 of;refine (qHA c.fa c.fn c.fc c.fs V1 HLE.out.forms HLE.out.parts (H.out.forms.below X1.out.bl)).mono ?_;rintro e w2 ⟨rfl,ys,hF⟩;have hb2:=hF.bl;have x2:=X1.out.below hb2;have hz2:=hb2.size;have A2:Hid (qB9 w2 (some ⟨V.heap.size,0,none⟩) c.rn c.zs/\qN9 w2 V.heap.size c.rn/\qEA V1 w2 c.fn c.fs ys):=⟨A1'.out.1.below hb2,QE4 A1'.out.2.1 A1'.out.2.2 hb2,hF⟩;obtain⟨k0,k1,k2,k3,k4⟩:=x2.ar;obtain⟨o0,o1,o2,o3,o4,of⟩:=x2.ou;have X2:Hid (CfW w c (.int .i64 c.e) (.int .i64 c.f) (.slice (some ⟨V.heap.size,0,none⟩) c.rn c.rn) (.slice (some ⟨V1.heap.size,0,none⟩) c.fn c.fn) (.slice none 0 0) (w2.setCell ⟨w.heap.size+2,3,none⟩ (.slice (some ⟨V1.heap.size,0,none⟩) c.fn c.fn))):=x2.set3;have hw2:w.heap.size+2<w2.heap.size:=by have:=HS1.out;omega
 clear hF hb2 x2 X1;go_wp2_with fail
 obtain⟨V2,hV2⟩:∃V2,V2=w2.setCell ⟨w.heap.size+2,3,none⟩ (.slice (some ⟨V1.heap.size,0,none⟩) c.fn c.fn):=⟨_,rfl⟩
 have A2':Hid (qB9 V2 (some ⟨V.heap.size,0,none⟩) c.rn c.zs/\qN9 V2 V.heap.size c.rn/\qF7 V2 (some ⟨V1.heap.size,0,none⟩) c.fn ys/\qK8 V2 (V1.heap.size+1) ys/\qI1 V2 V1.heap.size c.fn/\qA3 ys=qA3 c.fs/\V1.heap.size<V2.heap.size):=by
  rw[hV2];obtain⟨q1,q2,q3⟩:=A2.out;have hv:=hwV.out;have hs1:=HS1.out;refine⟨q1.set (fun b off e=>by cases e;omega),q2.setAny _ _ _,(qF7.of q3.ln q3.at').set (fun b off e=>by cases e;omega) (fun k x hx b off e=>?_),fun k x hx=>(q3.nw k x hx).setAny _ _ _,q3.rm.setAny _ _ _,q3.ps,by simp only[World.size_setCell];exact q3.lt⟩;obtain⟨_,q,e1,e2,_⟩:=q3.nw k x hx;rw[e1]at e;cases e;omega
 have HS2:Hid (V2.heap.size=w2.heap.size):=by rw[hV2];exact World.size_setCell ..
 rw[<- hV2]at X2 ⊢
 clear hV2 A2 A1' k0 k1 k2 k3 k4 o0 o1 o2 o3 o4 of;refine (QN2 c.ca c.cn c.cc c.cs V2 HLE.out.classes (H.out.classes.below X2.out.bl)).mono ?_;rintro e w3 ⟨rfl,hat3,hlt3,hb3,hroom3⟩;have x3:=X2.out.below hb3;have hz3:=hb3.size;obtain⟨d,hd⟩:∃d:qA5,d=⟨c.e,c.f,some ⟨V.heap.size,0,none⟩,c.rn,c.rn,c.zs,some ⟨V1.heap.size,0,none⟩,c.fn,c.fn,ys,some ⟨V2.heap.size,0,none⟩,c.cn,c.cn,c.cs⟩:=⟨_,rfl⟩
 have HD:Hid (qF4 w3 d/\qM5 w3 (w.heap.size+3) d/\qH0 c d):=by
  obtain⟨q1,q2,q3,q4,q5,q6,q7⟩:=A2'.out;have hv:=hwV.out;have hs1:=HS1.out;have hs2:=HS2.out;rw[hd]
  exact⟨⟨q1.below hb3,q3.below hb3,qD0.of H.out.classes.1 hat3⟩,⟨⟨rfl,_,rfl,by omega,by omega,QE4 q2 (by omega) hb3⟩,⟨rfl,_,rfl,by omega,by omega,q5.below q7 hb3⟩,fun k x e=>by
   obtain⟨r0,g,r1,r2,r3⟩:=(q4 k x e).below hb3;exact⟨r0,g,r1,by omega,r3⟩,⟨rfl,_,rfl,by omega,hlt3,hroom3⟩⟩,⟨rfl,rfl,rfl,rfl,rfl,q6,rfl,rfl⟩⟩
 obtain⟨k0,k1,k2,k3,k4⟩:=x3.ar;obtain⟨o0,o1,o2,o3,o4,of⟩:=x3.ou;obtain⟨r0,r1,r2,r3,r4,rf⟩:=x3.re;have hw3:w.heap.size+2<w3.heap.size:=by have:=HS1.out;have:=HS2.out;omega
 have HB:Hid (Below w.heap.size w w3):=x3.bl;have HDE:Hid (d=⟨c.e,c.f,some ⟨V.heap.size,0,none⟩,c.rn,c.rn,c.zs,some ⟨V1.heap.size,0,none⟩,c.fn,c.fn,ys,some ⟨V2.heap.size,0,none⟩,c.cn,c.cn,c.cs⟩):=hd;clear hd hat3 hroom3 hb3 x3 X2 A2';go_wp2;refine bodyPost_ret (v:=.agg #[.int .i64 d.e,.int .i64 d.f,.slice d.ra d.rn d.rc,.slice d.fa d.fn d.fc,.slice d.ca d.cn d.cc]) (by rw[HDE.out];simp[results,results84,go_sem,o0,o1,o2,o3,o4,r0,r1,r2,r3,r4,hw3]) rfl ⟨d,rfl,HD.out.2.2,?_,?_,?_⟩
 .refine (?_:CfN _ (w.heap.size+3) d).rd;repeat (refine CfN.set ?_ (by omega))
  exact⟨HD.out.1,HD.out.2.1⟩
 .refine ((?_:CfN _ (w.heap.size+3) d).nw).low (by omega);repeat (refine CfN.set ?_ (by omega))
  exact⟨HD.out.1,HD.out.2.1⟩
 .repeat (refine Below.setCell ?_ (by simp;try omega) _)
  exact HB.out
theorem qAW(c d:qA5)(w:World)(hle:qE2 1048576 c)(hsm:qH0 c d)(h:qF4 w c)(h':qF4 w d):
  CP 98 #[.agg #[iv c.e,iv c.f,.slice c.ra c.rn c.rc,.slice c.fa c.fn c.fc,.slice c.ca c.cn c.cc],.agg #[iv d.e,iv d.f,.slice d.ra d.rn d.rc,.slice d.fa d.fn d.fc,.slice d.ca d.cn d.cc]] w fun e w'=>e=.returned (.bool true)/\Below w.heap.size w w':=by
 obtain⟨d0,d1,da,dn,dc,dz,ea,en,ec,ds,ga,gn,gc,gs⟩:=d;obtain⟨e1,e2,e3,e4,e5,e6,e7,e8⟩:=hsm;simp only at e1 e2 e3 e4 e5 e6 e7 e8;subst e1 e2 e3 e4 e5 e7 e8;have HP:=hJJ e6;have HLE:=hJJ hle;have H:=hJJ h;have H':Hid (qB9 w da c.rn c.zs/\qF7 w ea c.fn ds/\qD0 w ga c.cn c.cs):=⟨h'.rules,h'.forms,h'.classes⟩;clear h h' hle e6;obtain⟨W,hW⟩:∃W,W=(w.alloc (.cells #[iv c.e,iv c.f,.slice c.ra c.rn c.rc,.slice c.fa c.fn c.fc,.slice c.ca c.cn c.cc] 92)).alloc (.cells #[iv c.e,iv c.f,.slice da c.rn dc,.slice ea c.fn ec,.slice ga c.cn gc] 92):=⟨_,rfl⟩;have hs:W.heap.size=w.heap.size+2:=by rw[hW];simp
 have B0:Below w.heap.size w W:=by rw[hW];exact (zN).alloc (by simp) _
 have a3:W.cell? ⟨w.heap.size,3,none⟩=some (.slice c.fa c.fn c.fc):=by rw[hW];go_cell
 have a4:W.cell? ⟨w.heap.size,4,none⟩=some (.slice c.ca c.cn c.cc):=by rw[hW];go_cell
 have b3:W.cell? ⟨w.heap.size+1,3,none⟩=some (.slice ea c.fn ec):=by rw[hW];go_cell
 have b4:W.cell? ⟨w.heap.size+1,4,none⟩=some (.slice ga c.cn gc):=by rw[hW];go_cell
 go_enter func98,ntmps98;go_wp2_with fail
 rw[<- hW];clear hW;refine (qBq c.ra da c.rn c.rc dc c.zs W HLE.out.rules (H.out.rules.below B0) (H'.out.1.below B0)).mono ?_;rintro e w1 ⟨rfl,hb1⟩;have hz1:=hb1.size;obtain⟨hc,hf⟩:=qOQ hb1;have p3:=(hc w.heap.size 3 (by omega)).trans a3;have p4:=(hc w.heap.size 4 (by omega)).trans a4;have r3:=(hc (w.heap.size+1) 3 (by omega)).trans b3;have r4:=(hc (w.heap.size+1) 4 (by omega)).trans b4;have B1:Hid (Below w.heap.size w w1):=B0.trans (hb1.mono (by omega));have hw1:w.heap.size+1<w1.heap.size:=by omega
 clear hc hf hb1 a3 a4 b3 b4 B0 hs;go_wp2_with fail
 refine (qBt c.fa ea c.fn c.fc ec c.fs ds w1 HLE.out.forms HLE.out.parts HP.out (H.out.forms.below B1.out) (H'.out.2.1.below B1.out)).mono ?_;rintro e w2 ⟨rfl,hb2⟩;have hz2:=hb2.size;obtain⟨hc,hf⟩:=qOQ hb2;have q4:=(hc w.heap.size 4 (by omega)).trans p4;have s4:=(hc (w.heap.size+1) 4 (by omega)).trans r4;have B2:Hid (Below w.heap.size w w2):=B1.out.trans (hb2.mono (by omega));have hw2:w.heap.size+1<w2.heap.size:=by omega
 clear hc hf hb2 p3 p4 r3 r4;go_wp2_with fail
 refine (QK1 c.ca ga c.cn c.cc gc c.cs w2 HLE.out.classes (H.out.classes.below B2.out) (H'.out.2.2.below B2.out)).mono ?_;rintro e w3 ⟨rfl,hb3⟩;have B3:Below w.heap.size w w3:=B2.out.trans (hb3.mono B2.out.size);clear hb3 q4 s4;go_wp2;go_ret;exact⟨rfl,B3⟩
theorem qH0.le{w w':World}{c d:qA5}{m:Nat}(h:qH0 c d)(hc:qF4 w c)(hd:qF4 w' d)(hle:qE2 m c):qE2 m d:=by
 refine⟨by rw[h.rn];exact hle.rules,by rw[h.fn];exact hle.forms,qK8.le (L:=0) hd.forms (fun k x e=>?_) h.ps hle.parts,by rw[h.cn];exact hle.classes⟩
 have hk:k<c.fn:=by
  by_cases q:k<c.fn
  .exact q
  .rw[gE (by rw[hc.forms.1];omega)]at e;cases e
 obtain⟨b,off,y,_,e',hat⟩:=hc.forms.at hk
 rw[e]at e';cases e';exact hat.2.1
theorem qH0.trans{c d f:qA5}(h:qH0 c d)(g:qH0 c f):qH0 d f :=
 ⟨g.e.trans h.e.symm,g.f.trans h.f.symm,g.rn.trans h.rn.symm,g.zs.trans h.zs.symm,g.fn.trans h.fn.symm,g.ps.trans h.ps.symm,g.cn.trans h.cn.symm,g.cs.trans h.cs.symm⟩
theorem qM5.cap{w:World}{L:Nat}{d:qA5}(h:qM5 w L d):d.rn<=d.rc:=by rw[h.rules.1];exact gB _
section
attribute [local go_sem ↓] qEM
theorem qLO(p q:RoI)(w:World):(binOp .neq 206 (.agg #[iv p.1,iv p.2]) (.agg #[iv q.1,iv q.2])).run prog w=.ok (.bool (!qGq p q)) w:=by
 obtain⟨a0,a1⟩:=p;obtain⟨b0,b1⟩:=q;simp only[qGq];cases e0:(a0==b0)
 .simp[go_sem,e0]
 cases e1:(a1==b1)
 .simp[go_sem,e0,e1]
 .simp[go_sem,e0,e1]
theorem qN6(v lo hi:Int)(w:World):CP 109 #[iv v,iv lo,iv hi] w fun e w'=>e=.returned (.bool (decide (lo<=v)&&decide (v<=hi)))/\w=w':=by
 cases h0:decide (lo<=v)
 .go_enter func109,ntmps109;go_wp2;go_ret;exact⟨by simp,rfl⟩
 .cases h1:decide (v<=hi)
  all_goals
   go_enter func109,ntmps109;go_wp2;go_ret;exact⟨by simp,rfl⟩
theorem qBX(v:Int)(k:Nat)(hk:k<=1000)(w:World):CP 275 #[iv v,iv (k:Int)] w fun e w'=>e=.returned (.bool (decide (0<=v)&&decide (v<(k:Int))))/\w=w':=by
 have hk':(k:Int)<=1000:=by omega
 cases h0:decide (0<=v)
 .go_enter func275,ntmps275;go_wp2;go_ret;exact⟨by simp,rfl⟩
 .cases h1:decide (v<(k:Int))
  all_goals
   go_enter func275,ntmps275;go_wp2;go_ret;exact⟨by simp,rfl⟩
theorem qCp(x:qC6)(k:Nat)(w:World)(hk:k<=1000)(e1:x.k=1):
  CP 258 #[.agg #[iv x.k,iv x.ro,iv x.rn,iv x.l,iv x.r],iv (k:Int)] w fun e w'=>e=.returned (iv (qJ7 k x))/\Below w.heap.size w w':=by
 have hk':(k:Int)<=1000:=by omega
 have b1:(x.k==1)=true:=by simp[e1]
 obtain⟨t,ht⟩:∃t,qD1 x.ro x.rn=t:=⟨_,rfl⟩;cases t
 .have hp:qJ7 k x=3:=by simp[qJ7,e1,ht]
  have hc:qE9 x.ro x.rn=3:=by simp[qE9,ht]
  rw[hp];clear e1 ht hp;go_enter func258,ntmps258;go_wp2_with (first | (go_at_call 254;refine (qC5 _ _ _).mono ?_;rintro e w1 ⟨rfl,hb1⟩;rw[hc]) | fail)
  go_ret;exact⟨rfl,qD5 hb1⟩
 .have hc:qE9 x.ro x.rn=0:=by simp[qE9,ht]
  obtain⟨u,hu⟩:∃u,(x.l != 0)=u:=⟨_,rfl⟩;obtain⟨v,hv⟩:∃v,(x.r != 0)=v:=⟨_,rfl⟩
  have hp:qJ7 k x=if (u || v)=true then 1 else 0:=by
   rw[<- hu,<- hv];simp only[qJ7,e1,ht];by_cases q1:x.l=0 <;> by_cases q2:x.r=0 <;> simp[q1,q2]
  rw[hp];clear e1 ht hp;cases u <;> cases v
  all_goals
   go_enter func258,ntmps258;go_wp2_with (first | (go_at_call 254;refine (qC5 _ _ _).mono ?_;rintro e w1 ⟨rfl,hb1⟩;rw[hc];have q3:w1.cell? ⟨w.heap.size,3,none⟩=some (iv x.l):=(hb1.cell (p:=⟨w.heap.size,3,none⟩) (by simp)).trans (by simp);have q4:w1.cell? ⟨w.heap.size,4,none⟩=some (iv x.r):=(hb1.cell (p:=⟨w.heap.size,4,none⟩) (by simp)).trans (by simp)) | fail)
   go_ret;exact⟨rfl,qD5 hb1⟩
theorem qAB(x:qC6)(k:Nat)(w:World)(e1:¬ (1<=x.k/\x.k<=3)):
  CP 258 #[.agg #[iv x.k,iv x.ro,iv x.rn,iv x.l,iv x.r],iv (k:Int)] w fun e w'=>e=.returned (iv (qJ7 k x))/\Below w.heap.size w w':=by
 have b1:(x.k==1)=false:=by simp;omega
 have b2:(x.k==2)=false:=by simp;omega
 have b3:(x.k==3)=false:=by simp;omega
 have hp:qJ7 k x=1:=by simp only[qJ7,gK e1]
 rw[hp];clear e1 hp;go_enter func258,ntmps258;go_wp2_with fail
 go_ret;exact⟨rfl,by go_grown⟩
theorem qCo(x:qC6)(k:Nat)(w:World)(hk:k<=1000)(e1:x.k=2\/x.k=3):
  CP 258 #[.agg #[iv x.k,iv x.ro,iv x.rn,iv x.l,iv x.r],iv (k:Int)] w fun e w'=>e=.returned (iv (qJ7 k x))/\Below w.heap.size w w':=by
 have hk':(k:Int)<=1000:=by omega
 have b1:(x.k==1)=false:=by simp;omega
 obtain⟨u,hu⟩:∃u,(decide (0<=x.l)&&decide (x.l<(k:Int)))=u:=⟨_,rfl⟩;obtain⟨v,hv⟩:∃v,(decide (0<=x.r)&&decide (x.r<(k:Int)))=v:=⟨_,rfl⟩;obtain⟨t,ht⟩:∃t,qGq (x.ro,x.rn) (0,0)=t:=⟨_,rfl⟩
 have hp:qJ7 k x=if t=false then 1 else if u=false then 3 else if v=false then 3 else 0:=by
  have ek:¬ x.k=1:=by omega
  unfold qJ7;rw[gI (by omega),gI ek];have h1:t=true↔(x.ro=0/\x.rn=0):=by rw[<- ht,qU6];simp
  have h2:u=true↔(0<=x.l/\x.l<(k:Int)):=by rw[<- hu];simp
  have h3:v=true↔(0<=x.r/\x.r<(k:Int)):=by rw[<- hv];simp
  simp only[<- h1,<- h2,<- h3];cases t <;> cases u <;> cases v <;> simp
 rw[hp];have hn:∀w,(binOp .neq 206 (.agg #[iv x.ro,iv x.rn]) (.agg #[iv 0,iv 0])).run prog w=.ok (.bool (!t)) w:=fun w=>by rw[<- ht];exact qLO (x.ro,x.rn) (0,0) w
 have HU:=hJJ hu;have HV:=hJJ hv;clear hp ht hu hv;rcases e1 with e1 | e1
 .have b2:(x.k==2)=true:=by simp;omega
  clear e1;cases t
  .go_enter func258,ntmps258;go_wp2_with fail
   go_ret;exact⟨rfl,by go_grown⟩
  .cases u <;> cases v
   all_goals
    go_enter func258,ntmps258;go_wp2_with (first | (go_at_call 275;refine (qBX _ _ hk _).mono ?_;rintro e w1 ⟨rfl,rfl⟩;first | rw[HU.out] | rw[HV.out]) | fail)
    go_ret;exact⟨rfl,by go_grown⟩
 .have b2:(x.k==2)=false:=by simp;omega
  have b3:(x.k==3)=true:=by simp;omega
  clear e1;cases t
  .go_enter func258,ntmps258;go_wp2_with fail
   go_ret;exact⟨rfl,by go_grown⟩
  .cases u <;> cases v
   all_goals
    go_enter func258,ntmps258;go_wp2_with (first | (go_at_call 275;refine (qBX _ _ hk _).mono ?_;rintro e w1 ⟨rfl,rfl⟩;first | rw[HU.out] | rw[HV.out]) | fail)
    go_ret;exact⟨rfl,by go_grown⟩
theorem qCn(x:qC6)(k:Nat)(w:World)(hk:k<=1000):
  CP 258 #[.agg #[iv x.k,iv x.ro,iv x.rn,iv x.l,iv x.r],iv (k:Int)] w fun e w'=>e=.returned (iv (qJ7 k x))/\Below w.heap.size w w':=by
 by_cases h:1<=x.k/\x.k<=3
 .by_cases h1:x.k=1
  .exact qCp x k w hk h1
  .exact qCo x k w hk (by omega)
 .exact qAB x k w h
theorem qAM(a:Option Addr)(n cap:Nat)(zs:List qC6)(c:Int)(w:World)(h1:1<=n)(h8:n<=8)(h:qC1 w a n zs)(hc:QK9 zs n=c):
  CP 242 #[.slice a n cap] w fun e w'=>e=.returned (iv c)/\Below w.heap.size w w':=by
 have H:=hJJ h;have HC:=hJJ hc;clear h hc;have hn1:¬ ((n:Int)<1):=by omega
 have hn8:¬ ((8:Int)<(n:Int)):=by omega
 have hn':(n:Int)<=8:=by omega
 go_enter func242,ntmps242;go_wp2;go_loopw [16] (fun i wr=>∃k:Nat,k<=n/\i=iv (k:Int)/\QK9 zs k=0/\Below w.heap.size w wr) (fun i _=>n-(intOf i).toNat)
 case atStart=>exact⟨0,gH _,rfl,rfl,gC _ _⟩
 case round =>
  obtain⟨k,hk,rfl,hp,hnx⟩:=hrel;have HP:=hJJ hp;clear hp;by_cases hlt:k<n
  .obtain⟨b,off,x,rfl,hs,hx⟩:=H.out.at hlt
   have HN:Hid (QK9 zs (k+1)=qJ7 k x):=QO3 hs HP.out;clear hs;obtain⟨g0,g1,g2,g3,g4⟩:=hx.below hnx;clear hx;have hlt':(k:Int)<(n:Int):=by omega
   go_wp2_with fail
   refine (qCn x k _ (by omega)).mono ?_;rintro e w1 ⟨rfl,hb1⟩;have hnx1:Below w.heap.size w w1:=hnx.trans ((qD5 hb1).mono hnx.size);clear hb1 g0 g1 g2 g3 g4;by_cases hz:qJ7 k x=0
   .have HE:Hid (QK9 zs (k+1)=0):=HN.out.trans hz;rw[hz];clear hz;go_wp2;exact⟨⟨k+1,by omega,by go_num,HE.out,hnx1⟩,by simp[intOf];omega⟩
   .have E:Hid (c=qJ7 k x):=HC.out.symm.trans (QO2 zs (k+1) n _ hz HN.out (by omega));have hzb:(qJ7 k x != 0)=true:=by simpa using hz
    clear hz;go_wp2;go_ret;exact⟨by rw[E.out];rfl,hnx1⟩
  .have hkn:k=n:=by omega
   subst hkn;go_wp2;go_ret;exact⟨by rw[<- HC.out,HP.out];rfl,hnx⟩
theorem qZ2(a:Option Addr)(n cap:Nat)(zs:List qC6)(w:World)(hm:n<=maxLen)(h:qC1 w a n zs):
  CP 242 #[.slice a n cap] w fun e w'=>e=.returned (iv (qN3 zs))/\Below w.heap.size w w':=by
 have hl:=h.1;unfold maxLen at hm;have hm':(n:Int)<=9223372036854775807:=by omega
 unfold qN3;rw[hl];by_cases h1:n<1
 .have h1':(n:Int)<1:=by omega
  rw[gK h1];clear h hl h1;go_enter func242,ntmps242;go_wp2;go_ret;exact⟨rfl,gC _ _⟩
 .rw[gI h1];by_cases h8:8<n
  .have h1':¬ ((n:Int)<1):=by omega
   have h8':(8:Int)<(n:Int):=by omega
   rw[gK h8];clear h hl h1 h8;go_enter func242,ntmps242;go_wp2;go_ret;exact⟨rfl,gC _ _⟩
  .rw[gI h8];exact qAM a n cap zs _ w (by omega) (by omega) h rfl
end
theorem qDF(a:Option Addr)(n cap:Nat)(zs:List qC6)(c:Int)(w:World)(h1:1<=n)(h8:n<=8)(h:qC1 w a n zs)(hc:QK9 zs n=c):
  CP 179 #[.slice a n cap] w fun e w'=>e=.returned (iv c)/\Below w.heap.size w w':=by
 have H:=hJJ h;have HC:=hJJ hc;clear h hc;have hn1:¬ ((n:Int)<1):=by omega
 have hn8:¬ ((8:Int)<(n:Int)):=by omega
 have hn':(n:Int)<=8:=by omega
 go_enter func179,ntmps179;go_wp2;go_loopw [3] (fun i wr=>∃k:Nat,k<=n/\i=iv (k:Int)/\QK9 zs k=0/\Below w.heap.size w wr) (fun i _=>n-(intOf i).toNat)
 case atStart=>exact⟨0,gH _,rfl,rfl,gC _ _⟩
 case round =>
  obtain⟨k,hk,rfl,hp,hnx⟩:=hrel;have HP:=hJJ hp;clear hp;by_cases hlt:k<n
  .obtain⟨b,off,x,rfl,hs,hx⟩:=H.out.at hlt
   have HN:Hid (QK9 zs (k+1)=qJ7 k x):=QO3 hs HP.out;have HST:Hid (∀d:Int,qJ7 k x=d->d≠0->c=d):=fun d e q=>HC.out.symm.trans (QO2 zs (k+1) n d q (HN.out.trans e) (by omega))
   clear hs;obtain⟨g0,g1,g2,g3,g4⟩:=hx.below hnx;clear hx;have hlt':(k:Int)<(n:Int):=by omega
   have hk8:(k:Int)<=8:=by omega
   have A5:Below w.heap.size w (wr.alloc (.cells #[iv x.k,iv x.ro,iv x.rn,iv x.l,iv x.r] 219)):=hnx.alloc hnx.size _;obtain⟨t0,ht0⟩:∃t0,(decide (1<=x.k)&&decide (x.k<=3))=t0:=⟨_,rfl⟩;have HK:=hJJ ht0;cases t0
   .have E:Hid (c=1):=HST.out 1 (by unfold qJ7;rw[gK (by simp at ht0;omega)]) (by decide);clear ht0;go_wp2_with (first | (go_at_call 109;refine (qN6 _ _ _ _).mono ?_;rintro e w1 ⟨rfl,rfl⟩;rw[HK.out]) | fail)
    go_ret;exact⟨by rw[E.out];rfl,A5⟩
   .simp at ht0;by_cases ek:x.k=1
    .have b1:(x.k==1)=true:=by simp[ek]
     obtain⟨t,ht⟩:∃t,qD1 x.ro x.rn=t:=⟨_,rfl⟩;have HT:=hJJ ht;cases t
     .have E:Hid (c=3):=HST.out 3 (by simp[qJ7,ek,ht]) (by decide);clear ht0 ek ht;go_wp2_with (first | (go_at_call 109;refine (qN6 _ _ _ _).mono ?_;rintro e w1 ⟨rfl,rfl⟩;rw[HK.out]) | (go_at_call 210;refine (qR4 _ _ _).mono ?_;rintro e w2 ⟨rfl,hb2⟩;rw[HT.out]) | fail)
      go_ret;exact⟨by rw[E.out];rfl,hnx.trans ((qD5 hb2).mono hnx.size)⟩
     .obtain⟨u,hu⟩:∃u,(x.l != 0)=u:=⟨_,rfl⟩;obtain⟨v,hv⟩:∃v,(x.r != 0)=v:=⟨_,rfl⟩
      have hp:qJ7 k x=if (u || v)=true then 1 else 0:=by
       rw[<- hu,<- hv];simp only[qJ7,ek,ht];by_cases q1:x.l=0 <;> by_cases q2:x.r=0 <;> simp[q1,q2]
      have HPP:=hJJ hp;clear ht0 ek ht hp;cases u <;> cases v
      .have HE:Hid (QK9 zs (k+1)=0):=HN.out.trans HPP.out;go_wp2_with (first | (go_at_call 109;refine (qN6 _ _ _ _).mono ?_;rintro e w1 ⟨rfl,rfl⟩;rw[HK.out]) | (go_at_call 210;refine (qR4 _ _ _).mono ?_;rintro e w2 ⟨rfl,hb2⟩;rw[HT.out];have q3:w2.cell? ⟨wr.heap.size,3,none⟩=some (iv x.l):=(hb2.cell (p:=⟨wr.heap.size,3,none⟩) (by simp)).trans (by simp);have q4:w2.cell? ⟨wr.heap.size,4,none⟩=some (iv x.r):=(hb2.cell (p:=⟨wr.heap.size,4,none⟩) (by simp)).trans (by simp)) | fail)
       exact⟨⟨k+1,by omega,by go_num,HE.out,hnx.trans ((qD5 hb2).mono hnx.size)⟩,by simp[intOf];omega⟩
      all_goals
       have E:Hid (c=1):=HST.out 1 HPP.out (by decide);go_wp2_with (first | (go_at_call 109;refine (qN6 _ _ _ _).mono ?_;rintro e w1 ⟨rfl,rfl⟩;rw[HK.out]) | (go_at_call 210;refine (qR4 _ _ _).mono ?_;rintro e w2 ⟨rfl,hb2⟩;rw[HT.out];have q3:w2.cell? ⟨wr.heap.size,3,none⟩=some (iv x.l):=(hb2.cell (p:=⟨wr.heap.size,3,none⟩) (by simp)).trans (by simp);have q4:w2.cell? ⟨wr.heap.size,4,none⟩=some (iv x.r):=(hb2.cell (p:=⟨wr.heap.size,4,none⟩) (by simp)).trans (by simp)) | fail)
       go_ret;exact⟨by rw[E.out];rfl,hnx.trans ((qD5 hb2).mono hnx.size)⟩
    .have b1:(x.k==1)=false:=by simp[ek]
     obtain⟨u,hu⟩:∃u,(decide (0<=x.l)&&decide (x.l<=(k:Int)-1))=u:=⟨_,rfl⟩;obtain⟨v,hv⟩:∃v,(decide (0<=x.r)&&decide (x.r<=(k:Int)-1))=v:=⟨_,rfl⟩;obtain⟨t,ht⟩:∃t,qGq (x.ro,x.rn) (0,0)=t:=⟨_,rfl⟩
     have hp:qJ7 k x=if t=false then 1 else if u=false then 3 else if v=false then 3 else 0:=by
      unfold qJ7;rw[gI (by omega),gI ek];have h1:t=true↔(x.ro=0/\x.rn=0):=by rw[<- ht,qU6];simp
      have h2:u=true↔(0<=x.l/\x.l<(k:Int)):=by rw[<- hu];simp;omega
      have h3:v=true↔(0<=x.r/\x.r<(k:Int)):=by rw[<- hv];simp;omega
      simp only[<- h1,<- h2,<- h3];cases t <;> cases u <;> cases v <;> simp
     have hn:∀w,(binOp .neq 206 (.agg #[iv x.ro,iv x.rn]) (.agg #[iv 0,iv 0])).run prog w=.ok (.bool (!t)) w:=fun w=>by rw[<- ht];exact qLO (x.ro,x.rn) (0,0) w
     have HPP:=hJJ hp;have HU:=hJJ hu;have HV:=hJJ hv;have A7:Below w.heap.size w ((wr.alloc (.cells #[iv x.k,iv x.ro,iv x.rn,iv x.l,iv x.r] 219)).alloc (.cells #[iv 0,iv 0] 206)):=A5.alloc A5.size _;clear ht0 ek ht hu hv hp;cases t
     .have E:Hid (c=1):=HST.out 1 HPP.out (by decide);go_wp2_with (first | (go_at_call 109;refine (qN6 _ _ _ _).mono ?_;rintro e w1 ⟨rfl,rfl⟩;rw[HK.out]) | fail)
      go_ret;exact⟨by rw[E.out];rfl,A7⟩
     .cases u
      .have E:Hid (c=3):=HST.out 3 HPP.out (by decide);go_wp2_with (first | (go_at_call 109;refine (qN6 _ _ _ _).mono ?_;rintro e w1 ⟨rfl,rfl⟩;first | rw[HK.out] | rw[HU.out] | rw[HV.out]) | fail)
       go_ret;exact⟨by rw[E.out];rfl,A7⟩
      .cases v
       .have E:Hid (c=3):=HST.out 3 HPP.out (by decide);go_wp2_with (first | (go_at_call 109;refine (qN6 _ _ _ _).mono ?_;rintro e w1 ⟨rfl,rfl⟩;first | rw[HK.out] | rw[HU.out] | rw[HV.out]) | fail)
        go_ret;exact⟨by rw[E.out];rfl,A7⟩
       .have HE:Hid (QK9 zs (k+1)=0):=HN.out.trans HPP.out;go_wp2_with (first | (go_at_call 109;refine (qN6 _ _ _ _).mono ?_;rintro e w1 ⟨rfl,rfl⟩;first | rw[HK.out] | rw[HU.out] | rw[HV.out]) | fail)
        exact⟨⟨k+1,by omega,by go_num,HE.out,A7⟩,by simp[intOf];omega⟩
  .have hkn:k=n:=by omega
   subst hkn;go_wp2;go_ret;exact⟨by rw[<- HC.out,HP.out];rfl,hnx⟩
theorem qIQ(a:Option Addr)(n cap:Nat)(zs:List qC6)(w:World)(hm:n<=maxLen)(h:qC1 w a n zs):
  CP 179 #[.slice a n cap] w fun e w'=>e=.returned (iv (qN3 zs))/\Below w.heap.size w w':=by
 have hl:=h.1;unfold maxLen at hm;have hm':(n:Int)<=9223372036854775807:=by omega
 unfold qN3;rw[hl];by_cases h1:n<1
 .have h1':(n:Int)<1:=by omega
  rw[gK h1];clear h hl h1;go_enter func179,ntmps179;go_wp2;go_ret;exact⟨rfl,gC _ _⟩
 .rw[gI h1];by_cases h8:8<n
  .have h1':¬ ((n:Int)<1):=by omega
   have h8':(8:Int)<(n:Int):=by omega
   rw[gK h8];clear h hl h1 h8;go_enter func179,ntmps179;go_wp2;go_ret;exact⟨rfl,gC _ _⟩
  .rw[gI h8];exact qDF a n cap zs _ w (by omega) (by omega) h rfl
abbrev TS:=Nat->Bool
def noT:TS:=fun _=>false
def QL7(T:TS)(x:Nat):TS:=fun y=>if y=x then true else T y
def qHr(s:Int):TS:=fun x=>(List.range 8).any fun p=>(x==2 ^ p)&&qI8 s ((p:Int)+1)
def qFs(ap:Bool)(a b:Nat):Bool := !(ap&&(a &&& b != 0))
def QU2(ap:Bool)(L R:TS):TS:=fun x=>(List.range 256).any fun a=>L a&&(List.range 256).any fun b=>R b&&qFs ap a b&&(a ||| b==x)
theorem qJE{ap:Bool}{L R:TS}{x:Nat}:QU2 ap L R x=true↔∃a b,a<256/\b<256/\L a=true/\R b=true/\qFs ap a b=true/\a ||| b=x:=by
 unfold QU2;rw[List.any_eq_true];constructor
 .rintro⟨a,ha,h⟩;rw[jY,List.any_eq_true]at h;obtain⟨hL,b,hb,h⟩:=h;rw[jY,jY]at h;exact⟨a,b,List.mem_range.1 ha,List.mem_range.1 hb,hL,h.1.1,h.1.2,by simpa using h.2⟩
 .rintro⟨a,b,ha,hb,hL,hR,ho,rfl⟩;refine⟨a,List.mem_range.2 ha,?_⟩;rw[jY,List.any_eq_true];exact⟨hL,b,List.mem_range.2 hb,by simp[hR,ho]⟩
def qAq(ap:Bool)(L R:TS)(i j:Nat)(T:TS):Prop:=∀x,x<256->(T x=true↔∃a b,(a<i\/a=i/\b<j)/\a<256/\b<256/\L a=true/\R b=true/\qFs ap a b=true/\a ||| b=x)
theorem QY0(ap:Bool)(L R:TS):qAq ap L R 0 0 noT:=by
 intro x hx;constructor
 .intro h;cases h
 .rintro⟨a,b,h,_⟩;omega
theorem qCH{ap:Bool}{L R:TS}{i j:Nat}{T:TS}(h:qAq ap L R i j T)(hl:L i=false):qAq ap L R (i+1) 0 T:=by
 intro x hx;rw[h x hx];constructor
 .rintro⟨a,b,h0,h1⟩;exact⟨a,b,by omega,h1⟩
 .rintro⟨a,b,h0,h1,h2,h3,h4⟩;have : a≠i:=fun e=>by rw[e,hl]at h3;cases h3
  exact⟨a,b,by omega,h1,h2,h3,h4⟩
theorem qCI{ap:Bool}{L R:TS}{i:Nat}{T:TS}(h:qAq ap L R i 256 T):qAq ap L R (i+1) 0 T:=by
 intro x hx;rw[h x hx];constructor
 .rintro⟨a,b,h0,h1⟩;exact⟨a,b,by omega,h1⟩
 .rintro⟨a,b,h0,h1,h2,h3⟩;exact⟨a,b,by omega,h1,h2,h3⟩
theorem qDn{ap:Bool}{L R:TS}{i j:Nat}{T:TS}(h:qAq ap L R i j T)(hn:(R j&&qFs ap i j)=false):qAq ap L R i (j+1) T:=by
 intro x hx;rw[h x hx];constructor
 .rintro⟨a,b,h0,h1⟩;exact⟨a,b,by omega,h1⟩
 .rintro⟨a,b,h0,h1,h2,h3,h4,h5,h6⟩
  have : ¬ (a=i/\b=j):=by
   rintro⟨rfl,rfl⟩;rw[h4,h5]at hn;cases hn
  exact⟨a,b,by omega,h1,h2,h3,h4,h5,h6⟩
theorem qAc{ap:Bool}{L R:TS}{i j:Nat}{T:TS}(h:qAq ap L R i j T)(hi:i<256)(hj:j<256)(hL:L i=true)(hn:(R j&&qFs ap i j)=true):qAq ap L R i (j+1) (QL7 T (i ||| j)):=by
 rw[jY]at hn;intro x hx;unfold QL7;by_cases e:x=i ||| j
 .rw[gK e];exact⟨fun _=>⟨i,j,by omega,hi,hj,hL,hn.1,hn.2,e.symm⟩,fun _=>rfl⟩
 .rw[gI e,h x hx];constructor
  .rintro⟨a,b,h0,h1⟩;exact⟨a,b,by omega,h1⟩
  .rintro⟨a,b,h0,h1,h2,h3,h4,h5,h6⟩
   have : ¬ (a=i/\b=j):=by
    rintro⟨rfl,rfl⟩;exact e h6.symm
   exact⟨a,b,by omega,h1,h2,h3,h4,h5,h6⟩
theorem qFE{ap:Bool}{L R:TS}{j:Nat}{T:TS}(h:qAq ap L R 256 j T):∀x,x<256->T x=QU2 ap L R x:=by
 intro x hx;rw[kX,h x hx,qJE];constructor
 .rintro⟨a,b,h0,h1⟩;exact⟨a,b,h1⟩
 .rintro⟨a,b,h1,h2,h3⟩;exact⟨a,b,.inl h1,h1,h2,h3⟩
def qG9(T:TS):Array Value:=((List.range 256).map fun i=>Value.bool (T i)).toArray
theorem qI7(T:TS):(qG9 T).size=256:=by simp[qG9]
theorem QB5(T:TS){i:Nat}(h:i<256):(qG9 T)[i]?=some (.bool (T i)):=by simp[qG9,h]
theorem qKv{T U:TS}(h:∀x,x<256->T x=U x):qG9 T=qG9 U:=by
 unfold qG9;congr 1;apply List.map_congr_left;intro x hx;rw[h x (List.mem_range.1 hx)]
theorem qAh(T:TS){i:Nat}(h:i<256):(qG9 T).setIfInBounds i (.bool true)=qG9 (QL7 T i):=by
 apply Array.ext_getElem?;intro j;rw[Array.getElem?_setIfInBounds];by_cases hj:j<256
 .by_cases e:i=j
  .subst e;rw[gK rfl,gK (by rw[qI7];exact h),QB5 _ h];simp[QL7]
  .rw[gI e,QB5 _ hj,QB5 _ hj];simp[QL7,show ¬ j=i from fun q=>e q.symm]
 .rw[gI (by omega),Array.getElem?_eq_none (by rw[qI7];omega),Array.getElem?_eq_none (by rw[qI7];omega)]
theorem QY1(T:TS):(qG9 T).all (·.oneCell')=true:=by
 rw[Array.all_eq_true'];intro v hv;simp[qG9]at hv;obtain⟨i,_,rfl⟩:=hv;rfl
def qQ0(f:RoI->Int)(ts:List TS)(p:qC6):TS:=if p.k=1 then qHr (f (p.ro,p.rn)) else QU2 (decide (p.k=3)) (ts[p.l.toNat]?.getD noT) (ts[p.r.toNat]?.getD noT)
def qC0(f:RoI->Int)(zs:List qC6):Nat->List TS
 | 0=>[]
 | k+1=>match zs[k]? with
  | none=>qC0 f zs k
  | some p=>qC0 f zs k++[qQ0 f (qC0 f zs k) p]
theorem qT8{zs:List qC6}{k:Nat}{p:qC6}(h:zs[k]?=some p)(f:RoI->Int):qC0 f zs (k+1)=qC0 f zs k++[qQ0 f (qC0 f zs k) p]:=by
 simp[qC0,h]
theorem qS5(f:RoI->Int)(zs:List qC6):∀k,k<=zs.length->(qC0 f zs k).length=k
 | 0,_=>rfl
 | k+1,h=>by
  rw[qT8 (gA (show k<zs.length by omega))];simp[qS5 f zs k (by omega)]
/-- What the last part tells. -/
def qS6(f:RoI->Int)(zs:List qC6):TS:=(qC0 f zs zs.length)[zs.length-1]?.getD noT
theorem QF6:prog.underlying 287=some (.array 256 4):=by kernel_rfl
theorem qGy:(prog.info? 287).map (fun i=>(i.zero,i.size))=some (some (.agg (qG9 noT)),256):=by kernel_rfl
theorem qCU(w:World):(zeroValue 287).run prog w=.ok (.agg (qG9 noT)) w:=(zero_of_info qGy).1 w
theorem QE1:(prog.info? 287).map (·.size)=some 256:=(zero_of_info qGy).2
theorem QH7(w:World)(o:Obj){b:Nat}(i:Nat)(hb:b<w.heap.size):(w.alloc o).cell? ⟨b,i,none⟩=w.cell? ⟨b,i,none⟩:=((gC _ _).alloc (gB _) o).cell (p:=⟨b,i,none⟩) hb
theorem qFC(w:World)(c:Array Value)(t:TypeId)(i:Nat):(w.alloc (.cells c t)).cell? ⟨w.heap.size,i,none⟩=c[i]? := cell_of_row _ _ i c t (0,0) (heap_alloc_last w _)
theorem qKf(w:World)(o:Obj){b:Nat}(hb:b<w.heap.size):(w.alloc o).heap[b]?=w.heap[b]? := ((gC _ _).alloc (gB _) o).block b hb
theorem QE8{w:World}{g:Nat}{c c':Array Value}{t:TypeId}{fr:Nat × Nat}(h:w.heap[g]?=some (.cells c t fr)):(w.setRow g c').heap[g]?=some (.cells c' t fr):=by
 simp only[World.setRow];rw[Array.getElem?_modify,gK rfl,h];rfl
theorem QD8{w:World}{g i:Nat}{c':Array Value}(h:i≠g):(w.setRow g c').heap[i]?=w.heap[i]? := by
 simp only[World.setRow];rw[Array.getElem?_modify,gI (fun e=>h e.symm)]
theorem qCe(w:World)(g:Nat)(c':Array Value):(w.setRow g c').heap.size=w.heap.size:=by simp[World.setRow]
theorem below_setRow{B:Nat}{w0 w:World}{g:Nat}(h:Below B w0 w)(hg:B<=g)(c:Array Value):Below B w0 (w.setRow g c) :=
 ⟨h.os,h.tape,h.output,by rw[qCe];exact h.size,fun i hi=>by rw[QD8 (by omega)];exact h.block i hi⟩
theorem qMA(w:World)(g:Nat)(old T:TS)(hg:w.heap[g]?=some (.cells (qG9 old) 287 (0,0))):
  (Instr.storeAt 287 (.pointer (some ⟨g,0,none⟩)) (.agg (qG9 T))).run prog w=.ok () (w.setRow g (qG9 T)):=by
 simp only[Instr.storeAt,Instr.sureAddr,Sem.run_bind,Sem.run_pure,Result.andThen];exact run_storeVar_row _ _ _ _ _ _ hg (by rw[qI7];exact QE1) (by rw[qI7,qI7]) (QY1 T)
theorem QD3(w:World)(g:Nat)(old T:TS)(hg:w.heap[g]?=some (.cells (qG9 old) 287 (0,0))):
  (storeCells ⟨g,0,none⟩ (qG9 T).toList).run prog w=.ok () (w.setRow g (qG9 T)):=by
 have:=run_storeCells_from (P:=prog) g 287 (qG9 T).toList 0 (qG9 old) w hg (by rw[gG,qI7,Array.length_toList,qI7]) (fun v hv=>(Array.all_eq_true_iff_forall_mem.1 (QY1 T)) v (by simpa using hv));simpa using this
theorem qY5(w:World)(g:Nat)(T:TS)(hg:w.heap[g]?=some (.cells (qG9 T) 287 (0,0))):
  (loadVar 287 ⟨g,0,none⟩).run prog w=.ok (.agg (qG9 T)) w :=
 run_loadVar_row _ _ _ _ _ _ _ hg QF6 rfl (by rw[qI7];exact QE1)
theorem QW5(w:World)(g:Nat)(T:TS)(hg:w.heap[g]?=some (.cells (qG9 T) 287 (0,0))):
  (Instr.loadAt 287 (.pointer (some ⟨g,0,none⟩))).run prog w=.ok (.agg (qG9 T)) w:=by
 simp only[Instr.loadAt,Instr.sureAddr,Sem.run_bind,Sem.run_pure,Result.andThen];exact qY5 w g T hg
theorem qFO(L R:TS)(ap:Bool)(w:World):
  Calls prog 250 #[.agg (qG9 L),.agg (qG9 R),.bool ap] w fun e w'=>e=.returned (.agg (qG9 (QU2 ap L R)))/\Below w.heap.size w w':=by
 have hz:=qCU;obtain⟨W,hW⟩:∃W,W=((w.alloc (.cells (qG9 L) 287)).alloc (.cells (qG9 R) 287)).alloc (.cells (qG9 noT) 287):=⟨_,rfl⟩;have hs0:w.heap.size+1+1+1=W.heap.size:=by rw[hW];simp
 have HSz:Hid (w.heap.size+1+1+1=W.heap.size):=hs0;clear hs0;have B0:Below w.heap.size w W:=by rw[hW];exact ((zN).alloc (by simp) _).alloc (by simp;omega) _
 have HL:Hid (∀(o:Obj) (i:Nat),i<256->(W.alloc o).cell? ⟨w.heap.size,i,none⟩=some (.bool (L i))):=fun o i hi=>by
  rw[hW,QH7 _ _ _ (by simp;omega),QH7 _ _ _ (by simp;omega),QH7 _ _ _ (by simp),qFC,QB5 _ hi]
 have HR:Hid (∀(o:Obj) (i:Nat),i<256->(W.alloc o).cell? ⟨w.heap.size+1,i,none⟩=some (.bool (R i))):=fun o i hi=>by
  rw[hW,QH7 _ _ _ (by simp),QH7 _ _ _ (by simp)];have:=qFC (w.alloc (.cells (qG9 L) 287)) (qG9 R) 287 i;rw[World.size_alloc]at this;rw[this,QB5 _ hi]
 have HRes:Hid (∀o:Obj,(W.alloc o).heap[w.heap.size+1+1]?=some (.cells (qG9 noT) 287 (0,0))):=fun o=>by
  rw[hW,qKf _ _ (by simp)];have:=heap_alloc_last ((w.alloc (.cells (qG9 L) 287)).alloc (.cells (qG9 R) 287)) (.cells (qG9 noT) 287);rw[World.size_alloc,World.size_alloc]at this;exact this
 go_enter func250,ntmps250;go_wp2_with fail
 rw[<- hW];clear hW hz;have hs:=HSz.out;simp only[hs];go_loopw [10] (fun i wr=>∃(k:Nat) (T:TS),k<=256/\i=.int .i64 (k:Int)/\wr=W.alloc (.cells (qG9 T) 287)/\Hid (qAq ap L R k 0 T)) (fun i _=>256-(intOf i).toNat)
 case atStart=>exact⟨0,noT,by omega,rfl,rfl,QY0 ap L R⟩
 case round =>
  obtain⟨k,T,hk,rfl,rfl,HB⟩:=hrel;by_cases hlt:k<256
  .have hlt':(k:Int)<256:=by omega
   have cL:=HL.out (.cells (qG9 T) 287) k hlt;obtain⟨l,hl⟩:∃l,L k=l:=⟨_,rfl⟩;have HLk:Hid (L k=l):=hl;rw[hl]at cL;clear hl;cases l
   .go_wp2_with fail
    exact⟨⟨k+1,T,by omega,by go_num,rfl,qCH HB.out HLk.out⟩,by simp[intOf];omega⟩
   .go_wp2_with fail
    go_loopw [17] (fun j wr=>∃(m:Nat) (U:TS),m<=256/\j=.int .i64 (m:Int)/\wr=W.alloc (.cells (qG9 U) 287)/\Hid (qAq ap L R k m U)) (fun j _=>256-(intOf j).toNat)
    case atStart=>exact⟨0,T,by omega,rfl,rfl,HB⟩
    case round =>
     obtain⟨m,U,hm,rfl,rfl,HC⟩:=hrel;by_cases hmt:m<256
     .have hmt':(m:Int)<256:=by omega
      have cR:=HR.out (.cells (qG9 U) 287) m hmt;obtain⟨r,hr⟩:∃r,R m=r:=⟨_,rfl⟩;have HRm:Hid (R m=r):=hr;rw[hr]at cR;have hand:bits .and .i64 (k:Int) (m:Int)=((k &&& m:Nat):Int):=QS3 k m hlt hmt;have hor:bits .or .i64 (k:Int) (m:Int)=((k ||| m:Nat):Int):=QG4 k m hlt hmt;have hx:k ||| m<256:=Nat.or_lt_two_pow (n:=8) hlt hmt;obtain⟨q,hq⟩:∃q,((k &&& m) != 0)=q:=⟨_,rfl⟩;have hq':((((k &&& m:Nat):Int)) != 0)=q:=by rw[<- hq];rw[Bool.eq_iff_iff];simp
      have hok:qFs ap k m = !(ap&&q):=by unfold qFs;rw[hq]
      have hn0:(R m&&qFs ap k m)=(r && !(ap&&q)):=by rw[hr,hok]
      have HN:Hid ((R m&&qFs ap k m)=(r && !(ap&&q))):=hn0;clear hn0;have HX:Hid (k ||| m=k ||| m):=rfl;obtain⟨x,hxx⟩:∃x,x=k ||| m:=⟨_,rfl⟩;have HXX:Hid (x=k ||| m):=hxx;rw[<- hxx]at hor hx;have hx':(x:Int)<256:=by omega
      have cx:(qG9 U)[x]?=some (.bool (U x)):=QB5 U hx;generalize hy:((k &&& m:Nat):Int)=y at hand hq';clear hy hr hq hok hxx HX;cases r
      .go_wp2_with fail
       exact⟨⟨m+1,U,by omega,by go_num,rfl,qDn HC.out HN.out⟩,by simp[intOf];omega⟩
      .cases ap
       .go_wp2_with fail
        refine⟨⟨m+1,QL7 U x,by omega,by go_num,?_,?_⟩,by simp[intOf];omega⟩
        .rw[qAh U hx]
        .have:=qAc HC.out hlt hmt HLk.out HN.out;rw[<- HXX.out]at this;exact this
       .cases q
        .go_wp2_with fail
         refine⟨⟨m+1,QL7 U x,by omega,by go_num,?_,?_⟩,by simp[intOf];omega⟩
         .rw[qAh U hx]
         .have:=qAc HC.out hlt hmt HLk.out HN.out;rw[<- HXX.out]at this;exact this
        .go_wp2_with fail
         exact⟨⟨m+1,U,by omega,by go_num,rfl,qDn HC.out HN.out⟩,by simp[intOf];omega⟩
     .have hme:m=256:=by omega
      subst hme;go_wp2_with fail
      exact⟨⟨k+1,U,by omega,by go_num,rfl,qCI HC.out⟩,by simp[intOf];omega⟩
  .have hke:k=256:=by omega
   subst hke;have HE:Hid (qG9 T=qG9 (QU2 ap L R)):=qKv (qFE HB.out);have hld:=QW5 (W.alloc (.cells (qG9 T) 287)) W.heap.size T (heap_alloc_last _ _);have hst:=QD3 (W.alloc (.cells (qG9 T) 287)) (w.heap.size+1+1) noT T (HRes.out _);go_wp2_with fail
   unfold Oper.wp;simp[execOp,Act.eval,hld,Result.andThen];rw[Oper.upon_value];have hl2:=qY5 ((W.alloc (.cells (qG9 T) 287)).setRow (w.heap.size+1+1) (qG9 T)) (w.heap.size+1+1) T (QE8 (HRes.out _));go_wp2;refine bodyPost_ret (v:=.agg (qG9 T)) ?_ rfl ⟨by rw[HE.out],?_⟩
   .simp[results,results250,asAddr,Result.andThen,hl2]
   .exact below_setRow (B0.alloc B0.size _) (by omega) _
section
open Go.RowKit Go.Shelf Go.Maps
attribute [local go_sem] Oper.semAt_some
attribute [local go_sem] QN1
set_option linter.unusedVariables false
set_option linter.unusedSimpArgs false
def qBP(pre:List P8):TS:=(pre.map (·.1)).foldl (fun T p=>QL7 T (2 ^ (p-1).toNat)) noT
theorem qHs(pre:List P8)(x:P8):qBP (pre++[x])=QL7 (qBP pre) (2 ^ (x.1-1).toNat):=by
 simp[qBP,List.foldl_append]
theorem qEP(ps:List Int):∀(T:TS) (x:Nat),ps.foldl (fun T p=>QL7 T (2 ^ (p-1).toNat)) T x=true↔T x=true\/∃p∈ps,x=2 ^ (p-1).toNat:=by
 induction ps with
 | nil=>intro T x;simp
 | cons q qs ih =>
  intro T x;rw[List.foldl_cons,ih];unfold QL7;by_cases e:x=2 ^ (q-1).toNat
  .rw[gK e];exact⟨fun _ => .inr ⟨q,by simp,e⟩,fun _ => .inl rfl⟩
  .rw[gI e];constructor
   .rintro (h | ⟨p,hp,e'⟩)
    .exact .inl h
    .exact .inr ⟨p,by simp[hp],e'⟩
   .rintro (h | ⟨p,hp,e'⟩)
    .exact .inl h
    .rcases gX.1 hp with rfl | hp
     .exact absurd e' e
     .exact .inr ⟨p,hp,e'⟩
theorem qKA{s:Int}{ys:List P8}(h:ys.map (·.1)=qB3 s 8):qBP ys=qHr s:=by
 funext x
 rw[kX];unfold qBP qHr;rw[h,qEP,List.any_eq_true];constructor
 .rintro (q | ⟨p,hp,e⟩)
  .cases q
  .obtain⟨h0,h1,h2⟩:=qK6.1 hp;refine⟨(p-1).toNat,List.mem_range.2 (by omega),?_⟩;rw[jY];refine⟨by simp[e],?_⟩;rw[show (((p-1).toNat:Nat):Int)+1=p by omega];exact h2
 .rintro⟨p,hp,e⟩;rw[jY]at e;have hp:=List.mem_range.1 hp;exact .inr ⟨(p:Int)+1,qK6.2 ⟨by omega,by omega,e.2⟩,by simpa using e.1⟩
def QS9(W:World)(B:Nat)(T:TS):Prop:=W.heap[B]?=some (.cells (qG9 T) 287 (0,0))
theorem QS9.lt{W:World}{B:Nat}{T:TS}(h:QS9 W B T):B<W.heap.size:=(gN.1 h).1
theorem QS9.kept{W W':World}{row:Option Nat}{B:Nat}{T:TS}(h:QS9 W B T)(hg:W.grownBy W' row)(hne:some B≠row):QS9 W' B T:=(hg.block B h.lt hne).trans h
theorem QS9.cell{W:World}{B:Nat}{T:TS}(h:QS9 W B T){i:Nat}(hi:i<256):W.cell? ⟨B,i,none⟩=some (.bool (T i)):=by
 rw[cell_of_row _ _ i _ _ _ h];exact QB5 T hi
theorem QS9.frozen{W:World}{B:Nat}{T:TS}(h:QS9 W B T)(i:Nat):W.frozen? ⟨B,i,none⟩=false:=by simp[World.frozen?,show W.heap[B]?=_ from h]
theorem QS9.below{W W':World}{B:Nat}{T:TS}(h:QS9 W B T)(hb:Below W.heap.size W W'):QS9 W' B T:=(hb.block B h.lt).trans h
theorem QS9.put{W:World}{B:Nat}{T:TS}(h:QS9 W B T){i:Nat}(hi:i<256):QS9 (W.setCell ⟨B,i,none⟩ (.bool true)) B (QL7 T i):=by
 obtain⟨hlt,hk⟩:=gN.1 h;show (W.heap.modify B _)[B]?=_
 rw[Array.getElem?_eq_getElem (by rw[Array.size_modify];exact hlt),Array.getElem_modify_self,hk,<- qAh T hi];rfl
theorem qJr{β:Type}(B:Nat)(f:β->TS):Own (fun s W=>QS9 W B (f s)):=fun s X Y row hs hg hrow =>
 hs.kept hg (fun e'=>by obtain⟨o,ho,hc⟩:=hrow B e'.symm;rw[show X.heap[B]?=_ from hs]at ho;cases ho;cases hc)
theorem qHK(n:Nat)(hn:3<=n)(s:Int)(w:World)(hs:qL0 s):
  CallsIn Fence.wide n prog 249 #[.int .u8 s] w fun e W'=>e=.returned (.agg (qG9 (qHr s)))/\Below w.heap.size w W':=by
 have h1:1<=n:=by omega
 have s0:=hs.1;have s1:=hs.2;have hz:=qCU;refine callsIn_of_wp_marks func249 rfl trivial ?_ rfl;simp only[ntmps249,kO,jX,List.length_nil,Nat.reduceAdd,Nat.reduceSub,Array.replicate_succ,Array.replicate_zero,List.push_toArray,List.append_toArray,kR,List.cons_append];gi_wp2_with (gi_at_call 269;refine (qCl _ _ _).mono ?_;rintro e w' ⟨rfl,rfl⟩)
 clear hz;have bR:QS9 (w.alloc (.cells (qG9 noT) 287)) w.heap.size noT:=heap_alloc_last _ _
 have bT:QS9 ((w.alloc (.cells (qG9 noT) 287)).alloc (.cells (qG9 noT) 287)) (w.heap.size+1) noT:=by
  have:=heap_alloc_last (w.alloc (.cells (qG9 noT) 287)) (.cells (qG9 noT) 287);rw[jC]at this;exact this
 have bS:=Boxed.new ((w.alloc (.cells (qG9 noT) 287)).alloc (.cells (qG9 noT) 287)) 310 (.int .u8 s);rw[jC,jC]at bS;have bR':QS9 (((w.alloc (.cells (qG9 noT) 287)).alloc (.cells (qG9 noT) 287)).alloc (.cells #[.int .u8 s] 310)) w.heap.size noT:=(bR.below (zN)).below (zN);have bT':QS9 (((w.alloc (.cells (qG9 noT) 287)).alloc (.cells (qG9 noT) 287)).alloc (.cells #[.int .u8 s] 310)) (w.heap.size+1) noT:=bT.below (zN);obtain⟨W0,hW0⟩:∃W0,((w.alloc (.cells (qG9 noT) 287)).alloc (.cells (qG9 noT) 287)).alloc (.cells #[.int .u8 s] 310)=W0:=⟨_,rfl⟩;have hsz:W0.heap.size=w.heap.size+3:=by rw[<- hW0];simp
 have hB0:Below w.heap.size w W0:=by rw[<- hW0];exact (((gC _ w).alloc (gB _) _).alloc (by simp) _).alloc (by simp;omega) _
 rw[hW0]at bS bR' bT' ⊢
 have HB0:=hJJ hB0;clear bR bT hW0 hB0
 refine wpIn_rangeFunc_ownG rfl h1 (gf:=285) (lb:=#[.pointer (some ⟨w.heap.size+1+1,0,none⟩)]) rfl trivial (enters_of func285 (by kernel_rfl) rfl)
  (QO4 (n-1) (by omega) (w.heap.size+1+1) s s0 s1 W0 (by omega) bS.cell) (Kp:=QC1 (w.heap.size+1+1)) (fun h k=>Eq.trans k h) (fun W l o o' hl h _ _=>World.putObj_heap_other (by omega)) (gC _ _) (fun _=>rfl)
  (fun pre W=>(QS9 W (w.heap.size+1) (qBP pre)/\Boxed W (w.heap.size+1+1) 310 (.int .u8 s))/\Below (w.heap.size+1) W0 W)
  (fun _ _ _=>False)
  (OwnFrom.and (OwnFrom.and (Own.from (qJr _ (fun pre=>qBP pre)) _) (Own.from (boxed_own _ _ (fun _ => .int .u8 s)) _)) (ownFrom_below (by omega) (by omega)))
  (fun _ _ _ _ _ hs _ _=>hs)
  ⟨⟨bT',bS⟩,gC _ _⟩
  (fun x=>{ tmps:=#[.int .u8 s,undef,.pointer (some ⟨w.heap.size,0,none⟩),.pointer (some ⟨w.heap.size+1,0,none⟩),iv x.1,.int .u8 s,.func (.func 285) #[] #[.pointer (some ⟨w.heap.size+1+1,0,none⟩)],iv x.1,undef,undef,undef,undef],defers:=[] }) ?assign ?body ?done ?stop
 case assign =>
  intro l x W K hK;gi_wp2
  exact hK
 case body =>
  rintro l pre x W ⟨⟨hA,hS⟩,hB⟩ hlt';have hp:=x.2;have hbi:(2:Nat) ^ (x.1-1).toNat<256:=Nat.pow_lt_pow_right (by omega) (show (x.1-1).toNat<8 by omega);obtain⟨q,hq⟩:∃q,q=2 ^ (x.1-1).toNat:=⟨_,rfl⟩;have HQ:=hJJ hq;have hbq:qGd x.1=(q:Int):=by rw[hq];rfl
  rw[<- hq]at hbi;clear hq;have cA:W.cell? ⟨w.heap.size+1,q,none⟩=some (.bool (qBP pre q)):=hA.cell hbi;have fA:W.frozen? ⟨w.heap.size+1,q,none⟩=false:=hA.frozen q;have hq':(q:Int)<256:=by omega
  have hd:1<=n-1-1:=by omega
  gi_wp2_with (first | (gi_at_call 270;refine (CallsIn.inRound l (callsIn_wide.2 (qAg x.1 hp.1 hp.2 _))).mono ?_;rintro e wb ⟨rfl,rfl⟩;rw[hbq]) | fail)
  refine⟨(KeepsOthers.setCell W ⟨w.heap.size+1,q,none⟩ _).from _,?_,⟨?_,?_⟩,?_⟩
  .exact zS (by simp)
  .rw[qHs,<- HQ.out];exact hA.put hbi
  .exact (zS (by simp)).trans hS
  .exact hB.setCell (p:=⟨w.heap.size+1,q,none⟩) (gB _) _
 case done =>
  rintro D ys W hD hys ⟨⟨hA,_⟩,hB⟩ hK;have hld:=QW5 W (w.heap.size+1) (qBP ys) hA;have hRs:QS9 W w.heap.size noT:=(hB.block w.heap.size (by omega)).trans bR';have hst:=QD3 W w.heap.size noT (qBP ys) hRs;have hl2:=qY5 (W.setRow w.heap.size (qG9 (qBP ys))) w.heap.size (qBP ys) (QE8 hRs);gi_wp2
  unfold Oper.wpIn;simp[Oper.semAt,execOp,Act.eval,hld,Result.andThen];refine⟨fun f hf=>(by cases hf),?_⟩;rw[Oper.uponIn_value];have hKs:(W.setRow w.heap.size (qG9 (qBP ys))).heap[D]?=some (.deferred (some [])):=(QD8 (by omega)).trans hK;gi_wp2
  refine⟨by simp,.inl ⟨_,_,rfl,run_takeDeferred hKs,?_⟩⟩;refine⟨.agg (qG9 (qBP ys)),?res,?val,?below⟩
  case res =>
   have hl3:=qY5 ((W.setRow w.heap.size (qG9 (qBP ys))).putObj D (Obj.deferred none)) w.heap.size (qBP ys) ((World.putObj_heap_other (by omega)).trans (QE8 hRs));simp[results,results249,asAddr,Result.andThen,hl3]
  case val=>rw[qKA hys]
  case below =>
   have h1:Below w.heap.size w (W.setRow w.heap.size (qG9 (qBP ys))):=below_setRow (HB0.out.trans (hB.mono (by omega))) (gB _) _;exact h1.grown (grownBy_putObj' _ D _) h1.size (fun k e=>by cases e;omega)
 case stop =>
  rintro D c pre W _ _ h _;exact h.elim
theorem qHL(s:Int)(w:World)(hs:qL0 s):
  CP 249 #[.int .u8 s] w fun e W'=>e=.returned (.agg (qG9 (qHr s)))/\Below w.heap.size w W' :=
 callsIn_wide.1 (qHK 3 (gB _) s w hs)
end
