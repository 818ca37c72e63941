/- Contracts. -/
import Derived.Test.YtdghpccmdnnenaaGreatDoorPx03
import Derived.Test.YtdghpccmdnnenaaGreatDoorPx10
import Derived.Scope
import Derived.ScopeJumps
import Derived.WalkMore
import Derived.Lib.BitFns
namespace Go.Proofs.YtdghpccmdnnenaaGreatDoor
set_option maxRecDepth 100000
set_option maxHeartbeats 8000000
open Go.RowKit Go.Proofs.Tryz
set_option linter.unusedVariables false
set_option linter.unusedSimpArgs false
def qGh(w:World)(a:Option Addr)(len:Nat)(zs:List Int):Prop :=
 len<=zs.length/\∀k,k<len->∃b off,a=some ⟨b,off,none⟩/\w.cell? ⟨b,off+k,none⟩=some (iv (zs[k]?.getD 0))
theorem qHX{n:Nat}{ys:List Value}{zs:List Int}(hz:n<=zs.length)(hl:ys.length=n)(h:∀j,j<n->ys[j]?=some (iv (zs[j]?.getD 0))):ys=(zs.take n).map (Value.int .i64):=by
 apply List.ext_getElem?;intro i;by_cases hi:i<n
 .rw[h i hi];simp[hi,gA (show i<zs.length by omega)]
 .rw[gE (by omega),gE (by simp;omega)]
theorem qOr(a0:Option Addr)(len cap:Nat)(zs:List Int)(w:World)(hl:len<=1048576)(hr:qGh w a0 len zs):
  CP 42 #[.slice a0 len cap] w fun e w'=>e=.returned (.slice (some ⟨w.heap.size,0,none⟩) len len) /\
   w'.ownsRow w.heap.size 2 1 (.slice (some ⟨w.heap.size,0,none⟩) len len) len ((zs.take len).map (Value.int .i64))/\Below w.heap.size w w':=by
 obtain⟨i0,hi,hz0,hz1,hz2⟩:=jT Tryz.info2;obtain⟨wm,hmk,hownm,hgrm⟩:=run_make_full (P:=prog) (w:=w) w.heap.size 23 2 i0 (iv 0) 1 underlying23 hi hz0 hz1 .i64 .i64 len (by rw[hz2];omega) (by unfold maxLen;omega) (gB _);obtain⟨hzl,hcs⟩:=hr;have HC:=hJJ hcs;clear hcs;have HM:=hJJ hownm;clear hownm;have HG:=hJJ hgrm;clear hgrm;have hl':(len:Int)<=1048576:=by omega
 go_enter func42,ntmps42;go_wp2
 go_loopw [4] (fun i wr=>∃(k:Nat) (ys:List Value),k<=len/\i=iv (k:Int)/\wr.ownsRow w.heap.size 2 1 (.slice (some ⟨w.heap.size,0,none⟩) len len) len ys/\(∀j,j<k->ys[j]?=some (iv (zs[j]?.getD 0)))/\Below w.heap.size w wr)
  (fun i _=>len-(intOf i).toNat)
 case atStart=>exact⟨0,_,gH _,rfl,HM.out,fun j hj=>by omega,(gC _ _).grown HG.out (gB _) (fun k e=>by cases e)⟩
 case round =>
  obtain⟨k,ys,hk,rfl,hown,hys,hnx⟩:=hrel;by_cases hlt:k<len
  .obtain⟨b,off,ha,hc⟩:=HC.out k hlt;subst ha;obtain⟨y,hy⟩:∃y,y=zs[k]?.getD 0:=⟨_,rfl⟩;rw[<- hy]at hc;have hb:b<w.heap.size:=zL w ⟨b,off+k,none⟩ hc;have hcr:wr.cell? ⟨b,off+k,none⟩=some (iv y):=(hnx.cell (p:=⟨b,off+k,none⟩) hb).trans hc;have hlen:ys.length=len:=by simpa using hown.1
   obtain⟨v0,hco⟩:∃v0,wr.cell? ⟨w.heap.size,k,none⟩=some v0:=⟨_,(hown.cellAt k (by omega)).trans (gA (show k<ys.length by omega))⟩;have hfo:=hown.frozenAt k;have hst:=hown.stored k (iv y)
   have R:Hid ((wr.setCell ⟨w.heap.size,k,none⟩ (iv y)).ownsRow w.heap.size 2 1 (.slice (some ⟨w.heap.size,0,none⟩) len len) len (ys.set k (iv y))/\(∀j,j<k+1->(ys.set k (iv y))[j]?=some (iv (zs[j]?.getD 0)))/\Below w.heap.size w (wr.setCell ⟨w.heap.size,k,none⟩ (iv y))):=by
    refine⟨hst.1,fun j hj=>?_,hnx.setCell (gB _) _⟩;by_cases e:j=k
    .subst e;rw[List.getElem?_set_self (by omega),hy]
    .rw[List.getElem?_set_ne (by omega)];exact hys j (by omega)
   clear hst hown hys hy hc hlen;have hlt':(k:Int)<(len:Int):=by omega
   go_wp2;go_roundw
   case rel=>exact⟨k+1,_,by omega,by go_num,R.out.1,R.out.2.1,R.out.2.2⟩
   case measure=>simp[intOf];omega
  .have hkn:k=len:=by omega
   subst hkn;have E:=qHX hzl (by simpa using hown.1) hys;rw[E]at hown;go_wp2;go_ret;exact⟨rfl,hown,hnx⟩
theorem qKj(a b:Option Addr)(n c d:Nat)(zs:List Int)(w:World)(hn:n<=1048576)(ha:∀k,k<n->∃g off,a=some ⟨g,off,none⟩/\w.cell? ⟨g,off+k,none⟩=some (iv (zs[k]?.getD 0)))(hb:∀k,k<n->∃g off,b=some ⟨g,off,none⟩/\w.cell? ⟨g,off+k,none⟩=some (iv (zs[k]?.getD 0))):
  CP 50 #[.slice a n c,.slice b n d] w fun e w'=>e=.returned (.bool true)/\Below w.heap.size w w':=by
 have HA:=hJJ ha;have HB:=hJJ hb;clear ha hb;have hn':(n:Int)<=1048576:=by omega
 go_enter func50,ntmps50;go_wp2;go_loopw [5] (fun i wr=>∃(k:Nat),k<=n/\i=iv (k:Int)/\∃m,wr=w.drewN m) (fun i _=>n-(intOf i).toNat)
 case atStart=>exact⟨0,gH _,rfl,0,rfl⟩
 case round =>
  obtain⟨k,hk,rfl,m,rfl⟩:=hrel;by_cases hlt:k<n
  .obtain⟨g,off,e1,hca⟩:=HA.out k hlt;obtain⟨g2,off2,e2,hcb⟩:=HB.out k hlt;subst e1 e2;obtain⟨y,hy⟩:∃y,y=zs[k]?.getD 0:=⟨_,rfl⟩;rw[<- hy]at hca hcb;clear hy;have hlt':(k:Int)<(n:Int):=by omega
   go_wp2;go_quiet (fail)
   go_wp2;exact⟨⟨k+1,by omega,by go_num,_,rfl⟩,by simp[intOf];omega⟩
  .have hkn:k=n:=by omega
   subst hkn;go_wp2;go_ret;exact⟨rfl,below_drewN (gC _ _) _⟩
theorem qCq{w:World}{base g len cap:Nat}{zs:List Int}(h:w.ownsRow base 2 1 (.slice (some ⟨g,0,none⟩) len cap) len ((zs.take len).map (Value.int .i64)))(hz:len<=zs.length):
  ∀k,k<len->w.cell? ⟨g,k,none⟩=some (iv (zs[k]?.getD 0)):=by
 intro k hk;rw[h.cellAt k (by omega)];simp[hk,gA (show k<zs.length by omega)]
theorem qJw{w:World}{base g len cap:Nat}{xs:List Value}(h:w.ownsRow base 2 1 (.slice (some ⟨g,0,none⟩) len cap) len xs):g<w.heap.size:=(h.lt g rfl).2
def qD0(w:World)(a:Option Addr)(n:Nat)(zs:List Int):Prop:=zs.length=n/\(0<n->∃b off,a=some ⟨b,off,none⟩/\∀k x,zs[k]?=some x->w.cell? ⟨b,off+k,none⟩=some (iv x))
theorem qD0.below{w w':World}{a:Option Addr}{n:Nat}{zs:List Int}(h:qD0 w a n zs)(hb:Below w.heap.size w w'):qD0 w' a n zs:=by
 refine⟨h.1,fun hn=>?_⟩;obtain⟨b,off,e,k⟩:=h.2 hn;exact⟨b,off,e,fun j x hx=>(hb.cell (p:=⟨b,off+j,none⟩) (zL w ⟨b,off+j,none⟩ (k j x hx))).trans (k j x hx)⟩
theorem qD0.at{w:World}{a:Option Addr}{n:Nat}{zs:List Int}(h:qD0 w a n zs){k:Nat}(hk:k<n):∃b off x,a=some ⟨b,off,none⟩/\zs[k]?=some x/\w.cell? ⟨b,off+k,none⟩=some (iv x)/\b<w.heap.size:=by
 obtain⟨b,off,e,q⟩:=h.2 (by omega);have hx:=gA (l:=zs) (i:=k) (by rw[h.1];exact hk);exact⟨b,off,_,e,hx,q k _ hx,zL w ⟨b,off+k,none⟩ (q k _ hx)⟩
theorem qD0.row{w:World}{a:Option Addr}{n:Nat}{zs:List Int}(h:qD0 w a n zs):qGh w a n zs:=by
 refine⟨by rw[h.1];exact gB _,fun k hk=>?_⟩;obtain⟨b,off,x,e,hx,hc,_⟩:=h.at hk
 exact⟨b,off,e,by rw[hx];exact hc⟩
def qQ9(w:World)(g:Nat)(zs:List Int):Prop:=∀k x,zs[k]?=some x->w.cell? ⟨g,k,none⟩=some (iv x)
theorem qQ9.below{w w':World}{g:Nat}{zs:List Int}(h:qQ9 w g zs)(hb:Below w.heap.size w w'):qQ9 w' g zs:=fun k x e =>
 (hb.cell (p:=⟨g,k,none⟩) (zL w ⟨g,k,none⟩ (h k x e))).trans (h k x e)
theorem qD0.of{w:World}{g n:Nat}{zs:List Int}(hl:zs.length=n)(h:qQ9 w g zs):qD0 w (some ⟨g,0,none⟩) n zs :=
 ⟨hl,fun _=>⟨g,0,rfl,fun k x e=>by rw[gG];exact h k x e⟩⟩
def qI1(w:World)(g n:Nat):Prop:=(∀j,j<n->∃v,w.cell? ⟨g,j,none⟩=some v)/\∀j,w.frozen? ⟨g,j,none⟩=false
theorem qI1.below{w w':World}{g n:Nat}(h:qI1 w g n)(hg:g<w.heap.size)(hb:Below w.heap.size w w'):qI1 w' g n :=
 ⟨fun j hj=>by obtain⟨v,e⟩:=h.1 j hj;exact⟨v,(hb.cell (p:=⟨g,j,none⟩) hg).trans e⟩,fun j=>(hb.frozen (p:=⟨g,j,none⟩) hg).trans (h.2 j)⟩
theorem qI1.set{w:World}{g n:Nat}(h:qI1 w g n)(o:Nat)(v:Value):qI1 (w.setCell ⟨g,o,none⟩ v) g n:=by
 refine⟨fun j hj=>?_,fun j=>by simp only[jE];exact h.2 j⟩;obtain⟨u,e⟩:=h.1 j hj;by_cases q:j=o
 .subst q;exact⟨v,by simp[go_sem,e]⟩
 .exact⟨u,by rw[gF (h:=fun e=>q (by have:=jA Addr.off e;simp at this;omega))];exact e⟩
theorem qGM{w w':World}{a:Option Addr}{n L:Nat}{zs:List Int}{row:Option Nat}(h:qD0 w a n zs)(hg:w.grownBy w' row)(hL:∀b off,a=some ⟨b,off,none⟩->n=0\/b<L)(hne:∀q,row=some q->L<=q):qD0 w' a n zs:=by
 refine⟨h.1,fun hp=>?_⟩;obtain⟨b,off,e,hr⟩:=h.2 hp
 have hb:b<L:=by
  rcases hL b off e with h0 | h0
  .omega
  .exact h0
 exact⟨b,off,e,fun k r hk=>hg.cell (hr k r hk) (fun q=>by have:=hne b q.symm;omega)⟩
theorem qOB{w:World}{a:Option Addr}{n:Nat}{zs:List Int}(h:qD0 w a n zs):∀b off,a=some ⟨b,off,none⟩->n=0\/b<w.heap.size:=by
 intro b off e;by_cases h0:n=0
 .exact .inl h0
 .obtain⟨b',off',r,e',_,_,hb⟩:=h.at (show 0<n by omega)
  rw[e]at e';cases e';exact .inr hb
theorem QN2(a:Option Addr)(n cap:Nat)(zs:List Int)(w:World)(hn:n<=1048576)(h:qD0 w a n zs):
  CP 42 #[.slice a n cap] w fun e w'=>e=.returned (.slice (some ⟨w.heap.size,0,none⟩) n n)/\qQ9 w' w.heap.size zs/\w.heap.size<w'.heap.size/\Below w.heap.size w w'/\qI1 w' w.heap.size n:=by
 refine (qOr a n cap zs w hn h.row).mono ?_;rintro e w' ⟨rfl,hown,hb⟩;have hz:zs.length=n:=h.1;have hl:=hown.1;refine⟨rfl,fun k x hx=>?_,qJw hown,hb,fun j hj=>⟨_,(hown.cellAt j (by omega)).trans (gA (by omega))⟩,fun j=>hown.frozenAt j⟩
 have hk:k<n:=by
  by_cases q:k<n
  .exact q
  .rw[gE (by omega)]at hx;cases hx
 have:=qCq hown (by omega) k hk;rw[hx]at this;exact this
theorem qJY(a:Option Addr)(n cap:Nat)(zs:List Int)(w:World)(hn:n<=1048576)(h:qD0 w a n zs):
  CP 42 #[.slice a n cap] w fun e w'=>e=.returned (.slice (some ⟨w.heap.size,0,none⟩) n n)/\qQ9 w' w.heap.size zs/\w.heap.size<w'.heap.size/\Below w.heap.size w w' :=
 (QN2 a n cap zs w hn h).mono fun e w' hh=>⟨hh.1,hh.2.1,hh.2.2.1,hh.2.2.2.1⟩
theorem QK1(a b:Option Addr)(n c d:Nat)(zs:List Int)(w:World)(hn:n<=1048576)(ha:qD0 w a n zs)(hb:qD0 w b n zs):
  CP 50 #[.slice a n c,.slice b n d] w fun e w'=>e=.returned (.bool true)/\Below w.heap.size w w' :=
 qKj a b n c d zs w hn ha.row.2 hb.row.2
structure LkI where
 e:Int
 c:Int
 p:Int
 f:Int
deriving DecidableEq,Inhabited
def QF3(w:World)(b o:Nat)(x:LkI):Prop:=w.cell? ⟨b,o,none⟩=some (iv x.e)/\w.cell? ⟨b,o+1,none⟩=some (iv x.c)/\w.cell? ⟨b,o+2,none⟩=some (iv x.p)/\w.cell? ⟨b,o+3,none⟩=some (iv x.f)
theorem QF3.below{w w':World}{B b o:Nat}{x:LkI}(h:QF3 w b o x)(hb:Below B w w')(hB:b<B):QF3 w' b o x :=
 ⟨(hb.cell (p:=⟨b,o,none⟩) hB).trans h.1,(hb.cell (p:=⟨b,o+1,none⟩) hB).trans h.2.1,(hb.cell (p:=⟨b,o+2,none⟩) hB).trans h.2.2.1,(hb.cell (p:=⟨b,o+3,none⟩) hB).trans h.2.2.2⟩
def qJ9(w:World)(a:Option Addr)(n:Nat)(gs:List LkI):Prop:=gs.length=n/\(0<n->∃b off,a=some ⟨b,off,none⟩/\∀k x,gs[k]?=some x->QF3 w b (off+k*4) x)
theorem qJ9.below{w w':World}{a:Option Addr}{n:Nat}{gs:List LkI}(h:qJ9 w a n gs)(hb:Below w.heap.size w w'):qJ9 w' a n gs:=by
 refine⟨h.1,fun hn=>?_⟩;obtain⟨b,off,e,k⟩:=h.2 hn;exact⟨b,off,e,fun j x hx=>(k j x hx).below hb (zL w ⟨b,off+j*4,none⟩ (k j x hx).1)⟩
theorem qJ9.at{w:World}{a:Option Addr}{n:Nat}{gs:List LkI}(h:qJ9 w a n gs){k:Nat}(hk:k<n):∃b off x,a=some ⟨b,off,none⟩/\gs[k]?=some x/\QF3 w b (off+k*4) x/\b<w.heap.size:=by
 obtain⟨b,off,e,q⟩:=h.2 (by omega);have hx:=gA (l:=gs) (i:=k) (by rw[h.1];exact hk);exact⟨b,off,_,e,hx,q k _ hx,zL w ⟨b,off+k*4,none⟩ (q k _ hx).1⟩
def QC0(w:World)(g:Nat)(gs:List LkI):Prop:=∀k x,gs[k]?=some x->QF3 w g (k*4) x
theorem QC0.below{w w':World}{g:Nat}{gs:List LkI}(h:QC0 w g gs)(hb:Below w.heap.size w w'):QC0 w' g gs:=fun k x e =>
 (h k x e).below hb (zL w ⟨g,k*4,none⟩ (h k x e).1)
theorem qJ9.of{w:World}{g n:Nat}{gs:List LkI}(hl:gs.length=n)(h:QC0 w g gs):qJ9 w (some ⟨g,0,none⟩) n gs :=
 ⟨hl,fun _=>⟨g,0,rfl,fun k x e=>by rw[gG];exact h k x e⟩⟩
def qP8(w:World)(g n:Nat):Prop:=(∀j,j<n*4->∃v,w.cell? ⟨g,j,none⟩=some v)/\∀j,w.frozen? ⟨g,j,none⟩=false
abbrev qCM(w:World)(g o:Nat)(s:LkI):World:=((((w.setCell ⟨g,o,none⟩ (iv s.e)).setCell ⟨g,o+1,none⟩ (iv s.c)).setCell ⟨g,o+2,none⟩ (iv s.p)).setCell ⟨g,o+3,none⟩ (iv s.f))
theorem qT2(w:World)(g o:Nat)(s:LkI)(a:Addr)(h:∀j,j<4->a≠⟨g,o+j,none⟩):(qCM w g o s).cell? a=w.cell? a:=by
 rw[gF (h:=Ne.symm (h 3 (by omega))),gF (h:=Ne.symm (h 2 (by omega))),gF (h:=Ne.symm (h 1 (by omega))),gF (h:=Ne.symm (a:=a) (b:=⟨g,o,none⟩) (by simpa using h 0 (by omega)))]
theorem qLD(w:World)(g o:Nat)(s:LkI)(h:∀j,j<4->∃v,w.cell? ⟨g,o+j,none⟩=some v):QF3 (qCM w g o s) g o s:=by
 obtain⟨v0,h0⟩:=h 0 (by omega);obtain⟨v1,h1⟩:=h 1 (by omega);obtain⟨v2,h2⟩:=h 2 (by omega);obtain⟨v3,h3⟩:=h 3 (by omega);rw[jS]at h0;refine⟨?_,?_,?_,?_⟩ <;> simp[go_sem,h0,h1,h2,h3]
theorem qGk{w:World}{g n k:Nat}{zs:List LkI}{s:LkI}(hroom:qP8 w g n)(hd:QC0 w g (zs.take k))(hs:zs[k]?=some s)(hk:k<n):
  qP8 (qCM w g (k*4) s) g n/\QC0 (qCM w g (k*4) s) g (zs.take (k+1)):=by
 have hr:=qLD w g (k*4) s (fun j hj=>hroom.1 (k*4+j) (by omega));refine⟨⟨fun j hj=>?_,fun j=>?_⟩,fun i r e=>?_⟩
 .by_cases h:k*4<=j/\j<k*4+4
  .have hj':j=k*4\/j=k*4+1\/j=k*4+2\/j=k*4+3:=by omega
   obtain⟨h0,h1,h2,h3⟩:=hr;rcases hj' with rfl|rfl|rfl|rfl
   .exact⟨_,h0⟩
   .exact⟨_,h1⟩
   .exact⟨_,h2⟩
   .exact⟨_,h3⟩
  .rw[qT2 w g (k*4) s ⟨g,j,none⟩ (fun i hi e=>by have e2:=jA Addr.off e;simp only at e2;omega)];exact hroom.1 j hj
 .simp only[jE];exact hroom.2 j
 .rw[jJ]at e;split at e
  .by_cases hik:i=k
   .subst hik;rw[hs]at e;cases e;exact hr
   .have hi:i<k:=by omega
    have h1:=hd i r (by rw[jJ,gK hi];exact e);obtain⟨h0,h1,h2,h3⟩:=h1;refine⟨?_,?_,?_,?_⟩
    .rw[qT2 w g (k*4) s ⟨g,i*4,none⟩ (fun j hj e=>by have e2:=jA Addr.off e;simp only at e2;omega)];exact h0
    .rw[qT2 w g (k*4) s ⟨g,i*4+1,none⟩ (fun j hj e=>by have e2:=jA Addr.off e;simp only at e2;omega)];exact h1
    .rw[qT2 w g (k*4) s ⟨g,i*4+2,none⟩ (fun j hj e=>by have e2:=jA Addr.off e;simp only at e2;omega)];exact h2
    .rw[qT2 w g (k*4) s ⟨g,i*4+3,none⟩ (fun j hj e=>by have e2:=jA Addr.off e;simp only at e2;omega)];exact h3
  .cases e
theorem qDw{w0 w:World}{B g o:Nat}(h:Below B w0 w)(hg:B<=g)(s:LkI):Below B w0 (qCM w g o s) :=
 h.setCell hg _ |>.setCell hg _ |>.setCell hg _ |>.setCell hg _
theorem Tryz.info171:(prog.info? 171).map (fun i=>(i.zero,i.size,i.bytes))=some (some (.agg #[iv 0,iv 0,iv 0,iv 0]),4,32):=by kernel_rfl
theorem Tryz.under113:prog.underlying 113=some (.slice 171):=by kernel_rfl
theorem qJX(x:LkI)(w:World):CP 185 #[.agg #[iv x.e,iv x.c,iv x.p,iv x.f]] w fun e w'=>e=.returned (.agg #[iv x.e,iv x.c,iv x.p,iv x.f])/\Below w.heap.size w w':=by
 go_enter func185,ntmps185;go_wp2;go_returns
 exact⟨rfl,by go_grown⟩
theorem qAx(a:Option Addr)(n cap:Nat)(zs:List LkI)(w:World)(hn:n<=1048576)(h:qJ9 w a n zs):
  CP 140 #[.slice a n cap] w fun e w'=>e=.returned (.slice (some ⟨w.heap.size,0,none⟩) n n)/\QC0 w' w.heap.size zs/\w.heap.size<w'.heap.size/\Below w.heap.size w w'/\qP8 w' w.heap.size n:=by
 obtain⟨i0,hi,hz0,hz1,hz2⟩:=jT Tryz.info171;obtain⟨wm,hmk,hownm,hgrm⟩:=run_make_full (P:=prog) (w:=w) w.heap.size 113 171 i0 (.agg #[iv 0,iv 0,iv 0,iv 0]) 4 underlying113 hi hz0 hz1 .i64 .i64 n (by rw[hz2];omega) (by unfold maxLen;omega) (gB _);have H:=hJJ h;have hz:=hJJ h.1;clear h
 have HM:Hid (qP8 wm w.heap.size n/\w.heap.size<wm.heap.size):=by
  refine⟨⟨fun j hj=>?_,fun j=>hownm.frozenAt j⟩,(hownm.lt _ rfl).2⟩;have hl:=hownm.1;exact⟨_,(hownm.cellAt j hj).trans (gA (by omega))⟩
 clear hownm;have HG:=hJJ hgrm;clear hgrm;have hn':(n:Int)<=1048576:=by omega
 go_enter func140,ntmps140;go_wp2
 go_loopw [4] (fun i wr=>∃k:Nat,k<=n/\i=iv (k:Int)/\qP8 wr w.heap.size n/\QC0 wr w.heap.size (zs.take k)/\w.heap.size<wr.heap.size/\Below w.heap.size w wr)
  (fun i _=>n-(intOf i).toNat)
 case atStart=>exact⟨0,gH _,rfl,HM.out.1,fun k r e=>by simp at e,HM.out.2,(gC _ _).grown HG.out (gB _) (fun k e=>by cases e)⟩
 case round =>
  obtain⟨k,hk,rfl,hroom,hdone,hlt0,hnx⟩:=hrel;by_cases hlt:k<n
  .obtain⟨b,off,s,rfl,hs,hr,hb⟩:=H.out.at hlt
   have HS:=hJJ hs;clear hs;obtain⟨h0,h1,h2,h3⟩:=hr.below hnx hb;have HD:Hid (qP8 wr w.heap.size n/\QC0 wr w.heap.size (zs.take k)):=⟨hroom,hdone⟩;clear hroom hdone hr;have hlt':(k:Int)<(n:Int):=by omega
   go_wp2_with fail
   refine (qJX s _).mono ?_;rintro e w1 ⟨rfl,hb1⟩;obtain⟨⟨hc,hf⟩,hd⟩:=HD.out;have hz1:=hb1.size
   have HD1:Hid (qP8 w1 w.heap.size n/\QC0 w1 w.heap.size (zs.take k)/\Below w.heap.size w w1) :=
    ⟨⟨fun j hj=>by obtain⟨v,e⟩:=hc j hj;exact⟨v,(hb1.cell (p:=⟨w.heap.size,j,none⟩) hlt0).trans e⟩,fun j=>(hb1.frozen (p:=⟨w.heap.size,j,none⟩) hlt0).trans (hf j)⟩,hd.below hb1,hnx.trans (hb1.mono hnx.size)⟩
   clear hc hf hd HD h0 h1 h2 h3;obtain⟨v0,c0⟩:=HD1.out.1.1 (k*4) (by omega);obtain⟨v1,c1⟩:=HD1.out.1.1 (k*4+1) (by omega);obtain⟨v2,c2⟩:=HD1.out.1.1 (k*4+2) (by omega);obtain⟨v3,c3⟩:=HD1.out.1.1 (k*4+3) (by omega);have f0:=HD1.out.1.2 (k*4);have f1:=HD1.out.1.2 (k*4+1);have f2:=HD1.out.1.2 (k*4+2);have f3:=HD1.out.1.2 (k*4+3)
   have RM:Hid (qP8 (qCM w1 w.heap.size (k*4) s) w.heap.size n/\QC0 (qCM w1 w.heap.size (k*4) s) w.heap.size (zs.take (k+1))/\Below w.heap.size w (qCM w1 w.heap.size (k*4) s)):=by
    have h2:=qGk HD1.out.1 HD1.out.2.1 HS.out hlt;exact⟨h2.1,h2.2,qDw HD1.out.2.2 (gB _) s⟩
   go_wp2;exact⟨⟨k+1,by omega,by go_num,RM.out.1,RM.out.2.1,by simp only[jP];omega,RM.out.2.2⟩,by simp[intOf];omega⟩
  .have hkn:k=n:=by omega
   subst hkn;rw[gV (by rw[hz.out];exact gB _)]at hdone;go_wp2;go_ret;exact⟨rfl,hdone,hlt0,hnx,hroom⟩
theorem qDe(x:LkI)(w:World):
  CP 198 #[.agg #[iv x.e,iv x.c,iv x.p,iv x.f],.agg #[iv x.e,iv x.c,iv x.p,iv x.f]] w fun e w'=>e=.returned (.bool true)/\Below w.heap.size w w':=by
 go_enter func198,ntmps198;go_wp2;go_ret;exact⟨rfl,by go_grown⟩
theorem qBs(a b:Option Addr)(n c d:Nat)(zs:List LkI)(w:World)(hn:n<=1048576)(ha:qJ9 w a n zs)(hb:qJ9 w b n zs):
  CP 154 #[.slice a n c,.slice b n d] w fun e w'=>e=.returned (.bool true)/\Below w.heap.size w w':=by
 have HA:=hJJ ha;have HB:=hJJ hb;clear ha hb;have hn':(n:Int)<=1048576:=by omega
 go_enter func154,ntmps154;go_wp2;go_loopw [5] (fun i wr=>∃k:Nat,k<=n/\i=iv (k:Int)/\Below w.heap.size w wr) (fun i _=>n-(intOf i).toNat)
 case atStart=>exact⟨0,gH _,rfl,gC _ _⟩
 case round =>
  obtain⟨k,hk,rfl,hnx⟩:=hrel;by_cases hlt:k<n
  .obtain⟨b1,o1,s,e1,hs,hr,hl1⟩:=HA.out.at hlt
   obtain⟨b2,o2,s2,e2,hs2,hr2,hl2⟩:=HB.out.at hlt
   obtain rfl:s=s2:=gJ (hs.symm.trans hs2);subst e1 e2;clear hs hs2;obtain⟨h0,h1,h2,h3⟩:=hr.below hnx hl1;obtain⟨g0,g1,g2,g3⟩:=hr2.below hnx hl2;clear hr hr2;have hlt':(k:Int)<(n:Int):=by omega
   have hb1:b1<wr.heap.size:=zL wr ⟨b1,o1+k*4,none⟩ h0;have hb2:b2<wr.heap.size:=zL wr ⟨b2,o2+k*4,none⟩ g0;go_wp2
   go_region_held3 (fun w'=>(∀b o,b<wr.heap.size->w'.cell? ⟨b,o,none⟩=wr.cell? ⟨b,o,none⟩)/\Below wr.heap.size wr w') (first | exact hS | exact qA8 _)
    (first | (go_at_call 198;refine (qDe s _).mono ?_;rintro e w' ⟨rfl,hb1⟩;have hS:=qA0 (by assumption) hb1))
   go_wp2;exact⟨⟨k+1,by omega,by go_num,hnx.trans (hS.2.mono hnx.size)⟩,by simp[intOf];omega⟩
  .have hkn:k=n:=by omega
   subst hkn;go_wp2;go_ret;exact⟨rfl,hnx⟩
def ltL(x y:LkI):Bool:=decide (x.e<y.e\/(x.e=y.e/\(x.c<y.c\/(x.c=y.c/\x.p<y.p))))
def inR(v lo hi:Int):Bool:=decide (lo<=v)&&decide (v<=hi)
def okL(x:LkI):Bool:=inR x.e 1 9&&inR x.c 0 3&&inR x.p 1 8&&inR x.f 1 4
def qFm(gs:List LkI)(k:Nat)(x:LkI):Bool:=match k with
 | 0=>true
 | j+1=>match gs[j]? with | some y=>ltL y x | none=>true
def QT6(gs:List LkI)(k:Nat)(x:LkI):Int:=if okL x=false then 3 else if qFm gs k x=false then 1 else 0
def QM1(gs:List LkI):Nat->Int
 | 0=>0
 | k+1=>if QM1 gs k≠0 then QM1 gs k else match gs[k]? with
  | none=>0
  | some x=>QT6 gs k x
def qJ6(gs:List LkI):Int:=if 200<gs.length then 2 else QM1 gs gs.length
theorem QP9(gs:List LkI)(k m:Nat)(c:Int)(hc:c≠0)(h:QM1 gs k=c)(hm:k<=m):QM1 gs m=c:=by
  induction m with
  | zero => obtain rfl:k=0:=by omega
            exact h
  | succ m ih =>
    by_cases e:k=m+1
    . subst e;exact h
    . have:=ih (by omega);simp only[QM1,this];rw[gK hc]
theorem QQ0{gs:List LkI}{k:Nat}{x:LkI}(hk:gs[k]?=some x)(h0:QM1 gs k=0):QM1 gs (k+1)=QT6 gs k x:=by
 simp[QM1,h0,hk]
theorem QJ1{gs:List LkI}{k:Nat}{x:LkI}:QT6 gs k x=0↔okL x=true/\qFm gs k x=true:=by
 unfold QT6;cases okL x <;> cases qFm gs k x <;> simp
def SL(gs:List LkI):Prop:=gs.Pairwise (fun a b=>ltL a b=true)
theorem QG8{a b c:LkI}(h1:ltL a b=true)(h2:ltL b c=true):ltL a c=true:=by
 simp only[ltL,jV]at *
 omega
theorem qIE{gs:List LkI}:∀k,k<=gs.length->QM1 gs k=0->SL (gs.take k)/\∀x∈gs.take k,okL x=true
 | 0,_,_=>by simp[SL]
 | k+1,hk,h=>by
  have h0:QM1 gs k=0:=by
   by_cases q:QM1 gs k=0
   .exact q
   .exact absurd (QP9 gs k (k+1) _ q rfl (by omega)) (by rw[h];exact fun e=>q e.symm)
  have hx:gs[k]?=some gs[k]:=gA (by omega);rw[QQ0 hx h0]at h;obtain⟨h1,h3⟩:=QJ1.1 h;obtain⟨i1,i2⟩:=qIE k (by omega) h0;rw[jR (by omega)];refine⟨List.pairwise_append.2 ⟨i1,by simp,fun a ha b hb=>?_⟩,fun x hx=>?_⟩
  .simp at hb;rw[hb];obtain⟨j,hj⟩:=jW.1 ha
   have hjk:j<k:=by
    by_cases q:j<k
    .exact q
    .rw[gE (by simp;omega)]at hj;cases hj
   match k,hk,hx,h3,i1,ha,hj,hjk with
   | m+1,hk,hx,h3,i1,ha,hj,hjk =>
    have hy:gs[m]?=some gs[m]:=gA (by omega);simp only[qFm,hy]at h3;by_cases e:j=m
    .subst e;rw[jJ,gK (by omega),hy]at hj;cases hj;exact h3
    .have hm2:(gs.take (m+1))[m]?=some gs[m]:=by rw[jJ,gK (by omega)];exact hy
     have:=jU.1 i1 j m (by simp;omega) (by simp;omega) (by omega);rw[gA (by simp;omega)]at hj hm2;rw[gJ hj,gJ hm2]at this;exact QG8 this h3
  .rcases kL.1 hx with q | q
   .exact i2 x q
   .simp at q;rw[q];exact h1
theorem QJ0{gs:List LkI}(h:qJ6 gs=0):gs.length<=200/\SL gs/\∀x∈gs,okL x=true:=by
 unfold qJ6 at h;split at h
 .cases h
 .have:=qIE gs.length (gB _) h;rw[kQ]at this;exact⟨by omega,this⟩
def qE6(gs:List LkI)(e c p:Int):Int:=match gs with
 | []=>0
 | x::xs=>if x.e=e/\x.c=c/\x.p=p then x.f else qE6 xs e c p
theorem qGT{gs:List LkI}{k:Nat}{x:LkI}(h:gs[k]?=some x)(e c p:Int):qE6 (gs.drop k) e c p=if x.e=e/\x.c=c/\x.p=p then x.f else qE6 (gs.drop (k+1)) e c p:=by
 have hk:k<gs.length:=by
  by_cases q:k<gs.length
  .exact q
  .rw[gE (by omega)]at h;cases h
 have e1:gs[k]=x:=by rw[gA hk]at h;exact gJ h
 rw[List.drop_eq_getElem_cons hk,e1];rfl
theorem QX6{gs:List LkI}{e c p:Int}(h:∀x∈gs,¬ (x.e=e/\x.c=c/\x.p=p)):qE6 gs e c p=0:=by
 induction gs with
 | nil=>rfl
 | cons x xs ih =>
  unfold qE6;rw[gI (h x (by simp))];exact ih (fun y hy=>h y (by simp[hy]))
theorem qIk{gs:List LkI}(hs:SL gs){x:LkI}(hx:x∈gs):qE6 gs x.e x.c x.p=x.f:=by
 induction gs with
 | nil=>cases hx
 | cons y ys ih =>
  have hp:=jN.1 hs;unfold qE6;rcases gX.1 hx with rfl | q
  .simp
  .have:=hp.1 x q;rw[gI (by simp only[ltL,jV]at this;omega)];exact ih hp.2 q
def qGb(x y:Int):Int:=if x<y then -1 else if y<x then 1 else 0
def orJ(c d:Int):Int:=if c=0 then d else c
def cfL(x y:LkI):Int:=orJ (qGb x.e y.e) (orJ (qGb x.c y.c) (qGb x.p y.p))
theorem qIv(x y:LkI):cfL x y<0↔ltL x y=true:=by
 unfold cfL orJ ltL qGb;simp only[jV];split <;> (repeat' split) <;> first | omega | (simp_all;try omega)
theorem qFB(x y:LkI):cfL x y=0↔(x.e=y.e/\x.c=y.c/\x.p=y.p):=by
 unfold cfL orJ qGb;split <;> (repeat' split) <;> first | omega | (simp_all;try omega)
def QS8(gs:List LkI)(t:LkI)(i:Nat):Prop:=i<=gs.length/\(∀k x,k<i->gs[k]?=some x->ltL x t=true)/\(∀k x,i<=k->gs[k]?=some x->ltL x t=false)
theorem qFn{gs:List LkI}(hs:SL gs){t:LkI}{i:Nat}(h:QS8 gs t i):qE6 gs t.e t.c t.p=match gs[i]? with | some x=>if cfL x t=0 then x.f else 0 | none=>0:=by
 cases hi:gs[i]? with
 | none =>
  refine QX6 (fun x hx e=>?_);obtain⟨k,hk⟩:=jW.1 hx
  have hkl:k<gs.length:=by
   by_cases q:k<gs.length
   .exact q
   .rw[gE (by omega)]at hk;cases hk
  have hil:gs.length<=i:=List.getElem?_eq_none_iff.1 hi;have:=h.2.1 k x (by omega) hk;simp only[ltL,jV]at this;omega
 | some y =>
  show _=if cfL y t=0 then y.f else 0
  by_cases q:cfL y t=0
  .rw[gK q];obtain⟨e1,e2,e3⟩:=(qFB y t).1 q;rw[<- e1,<- e2,<- e3];exact qIk hs (gO hi)
  .rw[gI q];refine QX6 (fun x hx e=>?_);obtain⟨k,hk⟩:=jW.1 hx;rcases Nat.lt_trichotomy k i with hki | hki | hki
   .have:=h.2.1 k x hki hk;simp only[ltL,jV]at this;omega
   .subst hki;rw[hi]at hk;cases hk;exact q ((qFB _ _).2 e)
   .have hkl:k<gs.length:=by
     by_cases q:k<gs.length
     .exact q
     .rw[gE (by omega)]at hk;cases hk
    have hil:i<gs.length:=by omega
    have h1:=jU.1 hs i k hil hkl hki;rw[gA hkl]at hk;rw[gA hil]at hi;rw[gJ hk,gJ hi]at h1;have h2:=h.2.2 i y (gB _) (by rw[gA hil,gJ hi]);simp only[ltL,jV,decide_eq_false_iff_not]at h1 h2;omega
def qG2(zs:List Int):Int:=if 4<zs.length then 2 else if zs.all (fun c=>inR c 0 15)=true then 0 else 3
theorem QJ4{zs:List Int}{k:Nat}{x:Int}(hl:zs.length<=4)(hx:zs[k]?=some x)(hb:inR x 0 15=false):qG2 zs=3:=by
 unfold qG2;rw[gI (by omega),gI];intro h;have:=List.all_eq_true.1 h x (gO hx);rw[hb]at this;cases this
theorem qCD{zs:List Int}(hl:zs.length<=4)(h:∀(k:Nat) (x:Int),k<zs.length->zs[k]?=some x->inR x 0 15=true):qG2 zs=0:=by
 unfold qG2;rw[gI (by omega),gK];refine List.all_eq_true.2 (fun x hx=>?_);obtain⟨k,hk⟩:=jW.1 hx
 exact h k x (by
  by_cases q:k<zs.length
  .exact q
  .rw[gE (by omega)]at hk;cases hk) hk
theorem qGc{zs:List Int}(h:qG2 zs=0):zs.length<=4/\∀x∈zs,inR x 0 15=true:=by
 unfold qG2 at h;split at h
 .cases h
 .split at h
  .rename_i q1 q2;exact⟨by omega,List.all_eq_true.1 q2⟩
  .cases h
theorem qD3(v lo hi:Int):inR v lo hi=true↔lo<=v/\v<=hi:=by simp[inR]
theorem qT5(v lo hi:Int)(w:World):CP 109 #[iv v,iv lo,iv hi] w fun e w'=>e=.returned (.bool (inR v lo hi))/\w=w':=by
 unfold inR;cases h0:decide (lo<=v)
 .go_enter func109,ntmps109;go_wp2;go_ret;exact⟨by simp,rfl⟩
 .cases h1:decide (v<=hi)
  all_goals
   go_enter func109,ntmps109;go_wp2;go_ret;exact⟨by simp,rfl⟩
theorem qHU(v:Int)(w:World):CP 111 #[iv v] w fun e w'=>e=.returned (.bool (inR v 1 4))/\w=w':=by
 go_enter func111,ntmps111;go_wp2_with (go_at_call 109;refine (qT5 _ _ _ _).mono ?_;rintro e w' ⟨rfl,rfl⟩)
 go_ret;exact⟨rfl,rfl⟩
theorem qU1(v:Int)(w:World):CP 110 #[iv v] w fun e w'=>e=.returned (.bool (inR v 1 9))/\w=w':=by
 go_enter func110,ntmps110;go_wp2_with (go_at_call 109;refine (qT5 _ _ _ _).mono ?_;rintro e w' ⟨rfl,rfl⟩)
 go_ret;exact⟨rfl,rfl⟩
theorem QE7(v:Int)(w:World):CP 164 #[iv v] w fun e w'=>e=.returned (.bool (inR v 1 4))/\w=w':=by
 unfold inR;cases h0:decide (1<=v)
 .go_enter func164,ntmps164;go_wp2;go_ret;exact⟨by simp,rfl⟩
 .cases h1:decide (v<=4)
  all_goals
   go_enter func164,ntmps164;go_wp2;go_ret;exact⟨by simp,rfl⟩
theorem qI4(v:Int)(w:World):CP 163 #[iv v] w fun e w'=>e=.returned (.bool (inR v 1 9))/\w=w':=by
 unfold inR;cases h0:decide (1<=v)
 .go_enter func163,ntmps163;go_wp2;go_ret;exact⟨by simp,rfl⟩
 .cases h1:decide (v<=9)
  all_goals
   go_enter func163,ntmps163;go_wp2;go_ret;exact⟨by simp,rfl⟩
theorem qIa(v:Int)(w:World):CP 272 #[iv v] w fun e w'=>e=.returned (.bool (inR v 1 8))/\w=w':=by
 unfold inR;cases h0:decide (1<=v)
 .go_enter func272,ntmps272;go_wp2;go_ret;exact⟨by simp,rfl⟩
 .cases h1:decide (v<=8)
  all_goals
   go_enter func272,ntmps272;go_wp2;go_ret;exact⟨by simp,rfl⟩
theorem qAQ(v:Int)(w:World):CP 312 #[iv v] w fun e w'=>e=.returned (.bool (inR v 0 3))/\w=w':=by
 by_cases q0:0<=v
 .by_cases q1:v<4
  .have e0:inR v 0 3=true:=by simp[inR];omega
   rw[e0];clear e0;go_enter func312,ntmps312;go_wp2;go_ret;exact⟨rfl,rfl⟩
  .have e0:inR v 0 3=false:=by simp[inR];omega
   rw[e0];clear e0;go_enter func312,ntmps312;go_wp2;go_ret;exact⟨rfl,rfl⟩
 .have e0:inR v 0 3=false:=by simp[inR];omega
  rw[e0];clear e0;go_enter func312,ntmps312;go_wp2;go_ret;exact⟨rfl,rfl⟩
theorem qF9(a:Option Addr)(n cap:Nat)(zs:List Int)(w:World)(h:qD0 w a n zs):
  CP 202 #[.slice a n cap] w fun e w'=>e=.returned (iv (qG2 zs))/\w=w':=by
 have HZ:=hJJ h.1;have HI:=hJJ h;clear h;by_cases h4:4<n
 .have hc:qG2 zs=2:=by unfold qG2;rw[gK (by rw[HZ.out];exact h4)]
  rw[hc];clear hc;have h4':(4:Int)<(n:Int):=by omega
  go_enter func202,ntmps202;go_wp2;go_ret;exact⟨rfl,rfl⟩
 .have h4':(n:Int)<=4:=by omega
  go_enter func202,ntmps202;go_wp2;go_loop [10] (fun i=>∃k:Nat,k<=n/\i=iv (k:Int)/\∀(j:Nat) (x:Int),j<k->zs[j]?=some x->inR x 0 15=true) (fun i=>n-(intOf i).toNat)
  case atStart=>exact⟨0,gH _,rfl,fun j x hj=>by omega⟩
  case round =>
   obtain⟨k,hk,rfl,hok⟩:=hrel;have HOK:=hJJ hok;clear hok;by_cases hlt:k<n
   .obtain⟨b,off,x,e,hx,hc,hb⟩:=HI.out.at hlt
    subst e;have HX:=hJJ hx;clear hx;have hlt':(k:Int)<(n:Int):=by omega
    by_cases q0:x<0
    .have HB:Hid (qG2 zs=3):=QJ4 (by rw[HZ.out];omega) HX.out (by simp[inR];omega);go_wp2;go_ret;exact⟨by rw[HB.out];rfl,rfl⟩
    .by_cases q1:16<=x
     .have HB:Hid (qG2 zs=3):=QJ4 (by rw[HZ.out];omega) HX.out (by simp[inR];omega);go_wp2;go_ret;exact⟨by rw[HB.out];rfl,rfl⟩
     .have HN:Hid (∀(j:Nat) (y:Int),j<k+1->zs[j]?=some y->inR y 0 15=true):=fun j y hj hy=>by
       by_cases e:j=k
       .subst e;rw[HX.out]at hy;cases hy;simp[inR];omega
       .exact HOK.out j y (by omega) hy
      go_wp2;go_round
      case rel=>exact⟨k+1,by omega,by go_num,HN.out⟩
      case measure=>simp[intOf];omega
   .have hkn:k=n:=by omega
    subst hkn;have HB:Hid (qG2 zs=0):=qCD (by rw[HZ.out];omega) (fun j x hj hx=>HOK.out j x (by rw[HZ.out]at hj;exact hj) hx);go_wp2;go_ret;exact⟨by rw[HB.out];rfl,rfl⟩
theorem qDE(a:Option Addr)(n cap:Nat)(zs:List Int)(w:World)(h:qD0 w a n zs):
  CP 180 #[.slice a n cap] w fun e w'=>e=.returned (iv (qG2 zs))/\w=w':=by
 have HZ:=hJJ h.1;have HI:=hJJ h;clear h;by_cases h4:4<n
 .have hc:qG2 zs=2:=by unfold qG2;rw[gK (by rw[HZ.out];exact h4)]
  rw[hc];clear hc;have h4':(4:Int)<(n:Int):=by omega
  go_enter func180,ntmps180;go_wp2;go_ret;exact⟨rfl,rfl⟩
 .have h4':(n:Int)<=4:=by omega
  go_enter func180,ntmps180;go_wp2;go_loop [3] (fun i=>∃k:Nat,k<=n/\i=iv (k:Int)/\∀(j:Nat) (x:Int),j<k->zs[j]?=some x->inR x 0 15=true) (fun i=>n-(intOf i).toNat)
  case atStart=>exact⟨0,gH _,rfl,fun j x hj=>by omega⟩
  case round =>
   obtain⟨k,hk,rfl,hok⟩:=hrel;have HOK:=hJJ hok;clear hok;by_cases hlt:k<n
   .obtain⟨b,off,x,e,hx,hc,hb⟩:=HI.out.at hlt
    subst e;have HX:=hJJ hx;clear hx;have hlt':(k:Int)<(n:Int):=by omega
    by_cases q0:inR x 0 15=true
    .have HN:Hid (∀(j:Nat) (y:Int),j<k+1->zs[j]?=some y->inR y 0 15=true):=fun j y hj hy=>by
      by_cases e:j=k
      .subst e;rw[HX.out]at hy;cases hy;exact q0
      .exact HOK.out j y (by omega) hy
     have HQ:=hJJ q0;clear q0;go_wp2_with (go_at_call 109;refine (qT5 _ _ _ _).mono ?_;rintro e w' ⟨rfl,rfl⟩;rw[HQ.out])
     go_round
     case rel=>exact⟨k+1,by omega,by go_num,HN.out⟩
     case measure=>simp[intOf];omega
    .have HQ:Hid (inR x 0 15=false):=by show inR x 0 15=false;simpa using q0
     clear q0;have HB:Hid (qG2 zs=3):=QJ4 (by rw[HZ.out];omega) HX.out HQ.out;go_wp2_with (go_at_call 109;refine (qT5 _ _ _ _).mono ?_;rintro e w' ⟨rfl,rfl⟩;rw[HQ.out])
     go_ret;exact⟨by rw[HB.out];rfl,rfl⟩
   .have hkn:k=n:=by omega
    subst hkn;have HB:Hid (qG2 zs=0):=qCD (by rw[HZ.out];omega) (fun j x hj hx=>HOK.out j x (by rw[HZ.out]at hj;exact hj) hx);go_wp2;go_ret;exact⟨by rw[HB.out];rfl,rfl⟩
def qA2:List LkI->List Value
 | []=>[]
 | p::ps => iv p.e :: iv p.c :: iv p.p :: iv p.f::qA2 ps
theorem qR7(a b:List LkI):qA2 (a++b)=qA2 a++qA2 b:=by
 induction a with
 | nil=>rfl
 | cons p ps ih=>simp[qA2,ih]
theorem qG0(a:List LkI):(qA2 a).length=a.length*4:=by
 induction a with
 | nil=>rfl
 | cons p ps ih=>simp[qA2,ih];omega
theorem QR6:∀(a:List LkI) (k:Nat) (p:LkI),a[k]?=some p->(qA2 a)[k*4]?=some (iv p.e)/\(qA2 a)[k*4+1]?=some (iv p.c)/\(qA2 a)[k*4+2]?=some (iv p.p)/\(qA2 a)[k*4+3]?=some (iv p.f)
 | [],_,_,h=>by simp at h
 | q::qs,0,p,h=>by simp at h;subst h;exact⟨rfl,rfl,rfl,rfl⟩
 | q::qs,k+1,p,h=>by
  have:=QR6 qs k p (by simpa using h);rw[show (k+1)*4=k*4+1+1+1+1 by omega,show k*4+1+1+1+1+1=(k*4+1)+1+1+1+1 by omega,show k*4+1+1+1+1+2=(k*4+2)+1+1+1+1 by omega,show k*4+1+1+1+1+3=(k*4+3)+1+1+1+1 by omega];simpa[qA2] using this
theorem qO6(a:List LkI):∀u∈qA2 a,u.oneCell'=true:=by
 induction a with
 | nil=>simp[qA2]
 | cons p ps ih =>
  intro u hu;simp only[qA2,gX]at hu;rcases hu with rfl|rfl|rfl|rfl | hu
  .rfl
  .rfl
  .rfl
  .rfl
  .exact ih u hu
def qB2(w:World)(B:Nat)(v:Value)(gs:List LkI):Prop:=w.ownsRow B 171 4 v gs.length (qA2 gs)
theorem qB2.shape{w:World}{B:Nat}{v:Value}{gs:List LkI}(h:qB2 w B v gs)(hv:v≠.slice none 0 0):∃g cap,v=.slice (some ⟨g,0,none⟩) gs.length cap:=by
 have h0:w.ownsRow B 171 4 v gs.length (qA2 gs):=h;rcases h0.2 with⟨h',_⟩ | ⟨g,cap,cur,h',_⟩
 .exact absurd h' hv
 .exact⟨g,cap,h'⟩
theorem qB2.below{w w':World}{B:Nat}{v:Value}{gs:List LkI}(h:qB2 w B v gs)(hb:Below w.heap.size w w'):qB2 w' B v gs :=
 World.ownsRow.kept (row:=none) h ⟨hb.os,hb.tape,hb.output,hb.size,fun k hk _=>hb.block k hk⟩ (by cases v.ownBlock <;> simp)
theorem qB0{w:World}{B B':Nat}{v:Value}{gs:List LkI}(h:qB2 w B v gs)(hb:B'<=B):qB2 w B' v gs:=by
 have h0:w.ownsRow B 171 4 v gs.length (qA2 gs):=h;refine⟨h0.1,?_⟩;rcases h0.2 with h' | ⟨g,cap,cur,e,hg,rest⟩
 .exact .inl h'
 .exact .inr ⟨g,cap,cur,e,jF hb hg,rest⟩
theorem qV9{w:World}{B:Nat}{v:Value}{es:List LkI}{x:LkI}(h:w.ownsRow B 171 4 v (es.length+1) (qA2 es++[iv x.e,iv x.c,iv x.p,iv x.f])):qB2 w B v (es++[x]):=by
 unfold qB2;rw[jD,qR7];exact h
theorem QE5{w1 Z w':World}{B:Nat}{v:Value}{es:List LkI}(ho:qB2 Z B v es)(hb:Below B w1 Z)(hg:Z.grownBy w' v.ownBlock)(hB:B<=Z.heap.size):Below B w1 w':=by
 have h0:Z.ownsRow B 171 4 v es.length (qA2 es):=ho;exact hb.grown hg hB (fun j hj=>(h0.lt j hj).1)
def LkV(w:World)(a:Option Addr)(zs:List LkI):Prop:=∀k p,zs[k]?=some p->∃g,a=some ⟨g,0,none⟩/\QF3 w g (k*4) p
theorem LkV.below{w w':World}{a:Option Addr}{zs:List LkI}(h:LkV w a zs)(hb:Below w.heap.size w w'):LkV w' a zs:=fun k p e=>by
 obtain⟨g,ha,h1⟩:=h k p e;exact⟨g,ha,h1.below hb (zL w ⟨g,k*4,none⟩ h1.1)⟩
theorem LkV.isIn{w:World}{a:Option Addr}{n:Nat}{zs:List LkI}(hn:zs.length=n)(h:LkV w a zs):qJ9 w a n zs:=by
 refine⟨hn,fun hp=>?_⟩;obtain⟨g,ha,_⟩:=h 0 _ (gA (by omega));refine⟨g,0,ha,fun k x e=>?_⟩;obtain⟨g',ha',hx⟩:=h k x e;rw[ha]at ha';cases ha';rw[gG];exact hx
theorem qB2.view{w:World}{B:Nat}{a:Option Addr}{n cap:Nat}{zs:List LkI}(h:qB2 w B (.slice a n cap) zs):LkV w a zs:=by
 intro k p e
 have hk:k<zs.length:=by
  by_cases q:k<zs.length
  .exact q
  .rw[gE (by omega)]at e;cases e
 have h0:w.ownsRow B 171 4 (.slice a n cap) zs.length (qA2 zs):=h;rcases h0.2 with⟨h',h''⟩ | ⟨g,cap',cur,h',_⟩
 .omega
 .simp at h';obtain⟨rfl,rfl,rfl⟩:=h';obtain⟨f0,f1,f2,f3⟩:=QR6 zs k p e;exact⟨g,rfl,(h0.cellAt (k*4) (by omega)).trans f0,(h0.cellAt (k*4+1) (by omega)).trans f1,(h0.cellAt (k*4+2) (by omega)).trans f2,(h0.cellAt (k*4+3) (by omega)).trans f3⟩
theorem qB2.form{w:World}{B:Nat}{v:Value}{zs:List LkI}(h:qB2 w B v zs):(v=.slice none 0 0/\zs=[])\/∃g cap,v=.slice (some ⟨g,0,none⟩) zs.length cap/\B<=g/\g<w.heap.size/\zs.length<=cap/\cap<=maxLen:=by
 have h0:w.ownsRow B 171 4 v zs.length (qA2 zs):=h;rcases h0.2 with⟨h',h''⟩ | ⟨g,cap',cur,h',hb,hg,hc,hm,_⟩
 .exact .inl ⟨h',List.length_eq_zero_iff.1 h''⟩
 .exact .inr ⟨g,cap',h',hb,(gN.1 hg).1,hc,hm⟩
theorem qB2.slice{w:World}{B:Nat}{v:Value}{zs:List LkI}(h:qB2 w B v zs):∃a cap,v=.slice a zs.length cap:=by
 rcases h.form with⟨rfl,rfl⟩ | ⟨g,cap,rfl,_⟩
 .exact⟨none,0,rfl⟩
 .exact⟨_,_,rfl⟩
theorem qB2.alloc{w:World}{B:Nat}{v:Value}{zs:List LkI}(h:qB2 w B v zs)(o:Obj):qB2 (w.alloc o) B v zs:=World.ownsRow.alloc h o
theorem qP8.below{w w':World}{g n:Nat}(h:qP8 w g n)(hg:g<w.heap.size)(hb:Below w.heap.size w w'):qP8 w' g n :=
 ⟨fun j hj=>by obtain⟨v,e⟩:=h.1 j hj;exact⟨v,(hb.cell (p:=⟨g,j,none⟩) hg).trans e⟩,fun j=>(hb.frozen (p:=⟨g,j,none⟩) hg).trans (h.2 j)⟩
theorem qP8.grown{w w':World}{g n:Nat}{row:Option Nat}(h:qP8 w g n)(hg:g<w.heap.size)(hr:w.grownBy w' row)(hne:some g≠row):qP8 w' g n :=
 ⟨fun j hj=>by obtain⟨v,e⟩:=h.1 j hj;exact⟨v,hr.cell e hne⟩,fun j=>by
  have:=h.2 j;unfold World.frozen? at this ⊢
  simp only at this ⊢
  rw[hr.block g hg hne];exact this⟩
theorem QO8{W:World}{B:Nat}{a:Option Addr}{n cap:Nat}{ys:List LkI}(h:qB2 W B (.slice a n cap) ys):∀q,(Value.slice a n cap).ownBlock=some q->B<=q/\q<W.heap.size:=by
 have h0:W.ownsRow B 171 4 (.slice a n cap) ys.length (qA2 ys):=h;exact fun q e=>h0.lt q e
theorem QW0{W W':World}{B q:Nat}{a:Option Addr}{n cap:Nat}{ys:List LkI}(h:qB2 W B (.slice a n cap) ys)(hg:W.grownBy W' (some q))(hq:q<B):qB2 W' B (.slice a n cap) ys:=by
 refine World.ownsRow.kept h hg ?_;rcases a with _ | ⟨g,o,sp⟩
 .rcases h.form with⟨h1,_⟩ | ⟨g',cap',h1,h2,_⟩
  .simp at h1;obtain⟨rfl,rfl⟩:=h1;exact .inl rfl
  .simp at h1
 .rcases h.form with⟨h1,_⟩ | ⟨g',cap',h1,h2,_⟩
  .simp at h1
  .simp at h1;obtain⟨⟨rfl,rfl,rfl⟩,_⟩:=h1;exact .inr (by simp[Value.ownBlock];omega)
theorem QF3.new(w:World)(x:LkI)(t:TypeId):QF3 (w.alloc (.cells #[iv x.e,iv x.c,iv x.p,iv x.f] t)) w.heap.size 0 x:=⟨by simp,by simp,by simp,by simp⟩
theorem qNI(x y:Int)(w:World):CP 221 #[iv x,iv y] w fun e w'=>e=.returned (iv (qGb x y))/\w=w':=by
 unfold qGb;by_cases h1:x<y
 .go_enter func221,ntmps221;go_wp2;go_ret;exact⟨by simp[h1],rfl⟩
 .by_cases h2:y<x
  .go_enter func221,ntmps221;go_wp2;go_ret;exact⟨by simp[h1,h2],rfl⟩
  .go_enter func221,ntmps221;go_wp2;go_ret;exact⟨by simp[h1,h2],rfl⟩
theorem qOx(g:Nat)(c d f:Int)(w:World)(h0:w.cell? ⟨g,0,none⟩=some (iv c))(h1:w.cell? ⟨g,1,none⟩=some (iv d))(h2:w.cell? ⟨g,2,none⟩=some (iv f)):
  CP 313 #[.slice (some ⟨g,0,none⟩) 3 3] w fun e w'=>e=.returned (iv (orJ c (orJ d f)))/\w=w':=by
 go_enter func313,ntmps313;go_wp2;go_loop [8] (fun i=>∃k:Nat,k<=3/\i=iv (k:Int)/\(1<=k->c=0)/\(2<=k->d=0)/\(3<=k->f=0)) (fun i=>3-(intOf i).toNat)
 case atStart=>exact⟨0,by omega,rfl,fun h=>by omega,fun h=>by omega,fun h=>by omega⟩
 case round =>
  obtain⟨k,hk,rfl,hc,hd,hf⟩:=hrel;have hk':k=0\/k=1\/k=2\/k=3:=by omega
  rcases hk' with rfl|rfl|rfl|rfl
  .clear hc hd hf;by_cases e:c=0
   .have b:(c != 0)=false:=by simp[e]
    have HE:=hJJ e;clear e;go_wp2;exact⟨⟨1,by omega,by go_num,fun _=>HE.out,fun h=>by omega,fun h=>by omega⟩,by simp[intOf]⟩
   .have b:(c != 0)=true:=by simp[e]
    go_wp2;go_ret;exact⟨by simp[orJ,e],rfl⟩
  .have HC:Hid (c=0):=hc (by omega);clear hc hd hf;by_cases e:d=0
   .have b:(d != 0)=false:=by simp[e]
    have HE:=hJJ e;clear e;go_wp2;exact⟨⟨2,by omega,by go_num,fun _=>HC.out,fun _=>HE.out,fun h=>by omega⟩,by simp[intOf]⟩
   .have b:(d != 0)=true:=by simp[e]
    go_wp2;go_ret;exact⟨by simp[orJ,HC.out,e],rfl⟩
  .have HC:Hid (c=0):=hc (by omega);have HD:Hid (d=0):=hd (by omega);clear hc hd hf;by_cases e:f=0
   .have b:(f != 0)=false:=by simp[e]
    have HE:=hJJ e;clear e;go_wp2;exact⟨⟨3,by omega,by go_num,fun _=>HC.out,fun _=>HD.out,fun _=>HE.out⟩,by simp[intOf]⟩
   .have b:(f != 0)=true:=by simp[e]
    go_wp2;go_ret;exact⟨by simp[orJ,HC.out,HD.out],rfl⟩
  .have HC:Hid (c=0):=hc (by omega);have HD:Hid (d=0):=hd (by omega);have HF:Hid (f=0):=hf (by omega);clear hc hd hf;go_wp2;go_ret;exact⟨by simp[orJ,HC.out,HD.out,HF.out],rfl⟩
theorem qV4(x y:LkI)(W:World):Calls prog 297 #[.agg #[.int .i64 x.e,.int .i64 x.c,.int .i64 x.p,.int .i64 x.f],.agg #[.int .i64 y.e,.int .i64 y.c,.int .i64 y.p,.int .i64 y.f]] W fun e w'=>e=.returned (.int .i64 (cfL x y))/\Below W.heap.size W w':=by
 have HF:Hid (cfL x y=orJ (qGb x.e y.e) (orJ (qGb x.c y.c) (qGb x.p y.p))):=rfl;go_enter func297,ntmps297;go_wp2
 go_region_held3 (fun w'=>((w'.cell? ⟨W.heap.size,0,none⟩=some (.int .i64 x.e)/\w'.cell? ⟨W.heap.size,1,none⟩=some (.int .i64 x.c)/\w'.cell? ⟨W.heap.size,2,none⟩=some (.int .i64 x.p))/\(w'.cell? ⟨W.heap.size+1,0,none⟩=some (.int .i64 y.e)/\w'.cell? ⟨W.heap.size+1,1,none⟩=some (.int .i64 y.c)/\w'.cell? ⟨W.heap.size+1,2,none⟩=some (.int .i64 y.p)))) (first | assumption | (refine⟨⟨?_,?_,?_⟩,?_,?_,?_⟩ <;> simp[go_sem]))
  (first | (go_at_call 221;refine (qNI _ _ _).mono ?_;rintro e w' ⟨rfl,rfl⟩) | (go_at_call 313;refine (qOx _ (qGb x.e y.e) (qGb x.c y.c) (qGb x.p y.p) _ ?_ ?_ ?_).mono ?_;(· simp[go_sem]);(· simp[go_sem]);(· simp[go_sem]);rintro e w' ⟨rfl,rfl⟩))
 all_goals go_wp2
 all_goals go_ret
 all_goals exact⟨by rw[HF.out];rfl,by go_grown⟩
theorem qIP(x y:LkI)(w:World):CP 271 #[.agg #[iv x.e,iv x.c,iv x.p,iv x.f],.agg #[iv y.e,iv y.c,iv y.p,iv y.f]] w fun e w'=>e=.returned (.bool (ltL x y))/\Below w.heap.size w w':=by
 by_cases q1:x.e=y.e
 .have b1:(x.e != y.e)=false:=by simp[q1]
  by_cases q2:x.c=y.c
  .have b2:(x.c != y.c)=false:=by simp[q2]
   have HV:Hid (ltL x y=decide (x.p<y.p)):=by show ltL x y=_;simp[ltL,q1,q2]
   clear q1 q2;go_enter func271,ntmps271;go_wp2;go_ret;exact⟨by rw[HV.out];rfl,by go_grown⟩
  .have b2:(x.c != y.c)=true:=by simp[q2]
   have HV:Hid (ltL x y=decide (x.c<y.c)):=by show ltL x y=_;simp[ltL,q1,q2]
   clear q1 q2;go_enter func271,ntmps271;go_wp2;go_ret;exact⟨by rw[HV.out];rfl,by go_grown⟩
 .have b1:(x.e != y.e)=true:=by simp[q1]
  have HV:Hid (ltL x y=decide (x.e<y.e)):=by show ltL x y=_;simp[ltL,q1]
  clear q1;go_enter func271,ntmps271;go_wp2;go_ret;exact⟨by rw[HV.out];rfl,by go_grown⟩
theorem qKb(x:LkI)(w:World):CP 296 #[.agg #[iv x.e,iv x.c,iv x.p,iv x.f]] w fun e w'=>e=.returned (.bool (okL x))/\Below w.heap.size w w':=by
 obtain⟨t1,h1⟩:∃t,inR x.e 1 9=t:=⟨_,rfl⟩;obtain⟨t2,h2⟩:∃t,inR x.c 0 3=t:=⟨_,rfl⟩;obtain⟨t3,h3⟩:∃t,inR x.p 1 8=t:=⟨_,rfl⟩;obtain⟨t4,h4⟩:∃t,inR x.f 1 4=t:=⟨_,rfl⟩;have HV:Hid (okL x=(t1&&t2&&t3&&t4)):=by show okL x=_;rw[okL,h1,h2,h3,h4]
 have H1:=hJJ h1;have H2:=hJJ h2;have H3:=hJJ h3;have H4:=hJJ h4;clear h1 h2 h3 h4;cases t1
 .go_enter func296,ntmps296;go_wp2_with (first | (go_at_call 163;refine (qI4 _ _).mono ?_;rintro e w' ⟨rfl,rfl⟩;rw[H1.out]))
  go_ret;exact⟨by rw[HV.out];rfl,by go_grown⟩
 .cases t2
  .go_enter func296,ntmps296;go_wp2_with (first | (go_at_call 163;refine (qI4 _ _).mono ?_;rintro e w' ⟨rfl,rfl⟩;rw[H1.out]) | (go_at_call 312;refine (qAQ _ _).mono ?_;rintro e w' ⟨rfl,rfl⟩;rw[H2.out]))
   go_ret;exact⟨by rw[HV.out];rfl,by go_grown⟩
  .cases t3
   .go_enter func296,ntmps296;go_wp2_with (first | (go_at_call 163;refine (qI4 _ _).mono ?_;rintro e w' ⟨rfl,rfl⟩;rw[H1.out]) | (go_at_call 312;refine (qAQ _ _).mono ?_;rintro e w' ⟨rfl,rfl⟩;rw[H2.out]) | (go_at_call 272;refine (qIa _ _).mono ?_;rintro e w' ⟨rfl,rfl⟩;rw[H3.out]))
    go_ret;exact⟨by rw[HV.out];rfl,by go_grown⟩
   .cases t4
    all_goals
     go_enter func296,ntmps296;go_wp2_with (first | (go_at_call 163;refine (qI4 _ _).mono ?_;rintro e w' ⟨rfl,rfl⟩;rw[H1.out]) | (go_at_call 312;refine (qAQ _ _).mono ?_;rintro e w' ⟨rfl,rfl⟩;rw[H2.out]) | (go_at_call 272;refine (qIa _ _).mono ?_;rintro e w' ⟨rfl,rfl⟩;rw[H3.out]) | (go_at_call 164;refine (QE7 _ _).mono ?_;rintro e w' ⟨rfl,rfl⟩;rw[H4.out]))
     go_ret;exact⟨by rw[HV.out];rfl,by go_grown⟩
theorem qES{gs:List LkI}{j:Nat}{x y:LkI}(h:gs[j]?=some y):qFm gs (j+1) x=ltL y x:=by simp[qFm,h]
theorem qKH{gs:List LkI}{k n:Nat}{x:LkI}{c:Int}(hc:QM1 gs n=c)(hn:QM1 gs (k+1)=QT6 gs k x)(hk:k<n)(h:okL x=false):c=3 :=
 hc.symm.trans (QP9 gs (k+1) n 3 (by decide) (by rw[hn];simp[QT6,h]) (by omega))
theorem QT5(a:Option Addr)(n cap:Nat)(gs:List LkI)(c:Int)(w:World)(h200:n<=200)(h:qJ9 w a n gs)(hc:QM1 gs n=c):
  CP 288 #[.slice a n cap] w fun e w'=>e=.returned (iv c)/\Below w.heap.size w w':=by
 have H:=hJJ h;have HC:=hJJ hc;clear h hc;have h':¬ ((200:Int)<(n:Int)):=by omega
 have hn':(n:Int)<=200:=by omega
 go_enter func288,ntmps288;go_wp2;go_loopw [10] (fun i wr=>∃k:Nat,k<=n/\i=iv (k:Int)/\QM1 gs k=0/\Below w.heap.size w wr) (fun i _=>n-(intOf i).toNat)
 case atStart=>exact⟨0,gH _,rfl,rfl,gC _ _⟩
 case round =>
  obtain⟨k,hk,rfl,hp,hnx⟩:=hrel;have HP:=hJJ hp;clear hp;by_cases hlt:k<n
  .obtain⟨b,off,x,rfl,hs,hx,hbl⟩:=H.out.at hlt
   have HN:Hid (QM1 gs (k+1)=QT6 gs k x):=QQ0 hs HP.out;clear hs;obtain⟨g0,g1,g2,g3⟩:=hx.below hnx hbl;have hbw:b<wr.heap.size:=gD hbl hnx.size;have hlt':(k:Int)<(n:Int):=by omega
   obtain⟨t,ht⟩:∃t,okL x=t:=⟨_,rfl⟩;have HT:=hJJ ht;clear ht;go_wp2_with fail
   refine (qKb x _).mono ?_;rintro e w1 ⟨rfl,hb1⟩;rw[HT.out];have hz1:=hb1.size;simp only[jC]at hz1;have hnx1:Below w.heap.size w w1:=hnx.trans ((qD5 hb1).mono hnx.size);have hlt1:wr.heap.size<w1.heap.size:=by omega
   have b0:w1.cell? ⟨wr.heap.size,0,none⟩=some (iv x.e):=(hb1.cell (p:=⟨wr.heap.size,0,none⟩) (by simp)).trans (by simp);have b1:w1.cell? ⟨wr.heap.size,1,none⟩=some (iv x.c):=(hb1.cell (p:=⟨wr.heap.size,1,none⟩) (by simp)).trans (by simp);have b2:w1.cell? ⟨wr.heap.size,2,none⟩=some (iv x.p):=(hb1.cell (p:=⟨wr.heap.size,2,none⟩) (by simp)).trans (by simp);have b3:w1.cell? ⟨wr.heap.size,3,none⟩=some (iv x.f):=(hb1.cell (p:=⟨wr.heap.size,3,none⟩) (by simp)).trans (by simp);have hold:∀o,w1.cell? ⟨b,o,none⟩=wr.cell? ⟨b,o,none⟩:=fun o=>((qD5 hb1).cell (p:=⟨b,o,none⟩) hbw)
   clear hb1 g0 g1 g2 g3;cases t
   .have E:Hid (c=3):=qKH HC.out HN.out hlt HT.out;clear hold;go_wp2;go_ret;exact⟨by rw[E.out];rfl,hnx1⟩
   obtain rfl | ⟨j,rfl⟩:k=0\/∃j,k=j+1:=by cases k;exact .inl rfl;exact .inr ⟨_,rfl⟩
   .have HE:Hid (QM1 gs 1=0):=HN.out.trans (QJ1.2 ⟨HT.out,rfl⟩);clear hold;go_wp2;go_quiet (fail)
    go_wp2;exact⟨⟨0+1,by omega,by go_num,HE.out,below_drewN hnx1 _⟩,by simp[intOf];omega⟩
   .obtain⟨b',off',y,e',hy,hyx,_⟩:=H.out.at (k:=j) (by omega)
    cases e';obtain⟨q0,q1,q2,q3⟩:=hyx.below hnx hbl;have HV2:Hid (QT6 gs (j+1) x=if ltL y x=false then 1 else 0):=by show QT6 gs (j+1) x=_;simp[QT6,HT.out,qES hy]
    have y0:=(hold _).trans q0;have y1:=(hold _).trans q1;have y2:=(hold _).trans q2;have y3:=(hold _).trans q3;clear hyx hy hold q0 q1 q2 q3;have hbv:b<w1.heap.size:=by omega
    have hj1:(j:Int)<(n:Int):=by omega
    have hj0:(0:Int)<=(j:Int):=by omega
    have hjw:IntKind.i64.wrap ((j:Int)+1-1)=(j:Int):=by rw[kG];omega
    have hjw2:IntKind.i64.wrap (j:Int)=(j:Int):=by rw[kG];omega
    have hjw3:IntKind.i64.wrap (((j+1:Nat):Int)-1)=(j:Int):=by rw[kG];omega
    have hpos1:(0:Int)<(j:Int)+1:=by omega
    go_wp2;obtain⟨v,hv⟩:∃v,cfL y x=v:=⟨_,rfl⟩;have HCm:Hid (∀w2:World,CP 297 #[.agg #[iv y.e,iv y.c,iv y.p,iv y.f],.agg #[iv x.e,iv x.c,iv x.p,iv x.f]] w2 fun e w'=>e=.returned (iv v)/\Below w2.heap.size w2 w'):=fun w2=>by rw[<- hv];exact qV4 y x w2
    have hge:(v<0)↔ltL y x=true:=by rw[<- hv];exact qIv y x
    by_cases hpos:0<=v
    .have E:Hid (c=1):=HC.out.symm.trans (QP9 gs (j+1+1) n 1 (by decide) (by rw[HN.out,HV2.out,gK (by cases q:ltL y x;rfl;have:=hge.2 q;omega)]) (by omega));clear hge hv
     go_region_held3 (fun w'=>(∀b o,b<w1.heap.size->w'.cell? ⟨b,o,none⟩=w1.cell? ⟨b,o,none⟩)/\Below w1.heap.size w1 w') (first | exact hS | exact qA8 _)
      (first | (go_at_call 297;refine (HCm.out _).mono ?_;rintro e w' ⟨rfl,hb2⟩;have hS:=qA0 (by assumption) hb2))
     go_wp2;go_ret;exact⟨by rw[E.out];rfl,hnx1.trans (hS.2.mono hnx1.size)⟩
    .have hneg:v<0:=by omega
     have HE:Hid (QM1 gs (j+1+1)=0):=by show QM1 gs (j+1+1)=0;rw[HN.out,HV2.out,gI (by rw[hge.1 hneg];simp)]
     clear hge hv hpos
     go_region_held3 (fun w'=>(∀b o,b<w1.heap.size->w'.cell? ⟨b,o,none⟩=w1.cell? ⟨b,o,none⟩)/\Below w1.heap.size w1 w') (first | exact hS | exact qA8 _)
      (first | (go_at_call 297;refine (HCm.out _).mono ?_;rintro e w' ⟨rfl,hb2⟩;have hS:=qA0 (by assumption) hb2))
     go_wp2;exact⟨⟨j+1+1,by omega,by go_num,HE.out,hnx1.trans (hS.2.mono hnx1.size)⟩,by simp[intOf];omega⟩
  .have hkn:k=n:=by omega
   subst hkn;have E:Hid (c=0):=HC.out.symm.trans HP.out;go_wp2;go_ret;exact⟨by rw[E.out];rfl,hnx⟩
theorem QP7(a:Option Addr)(n cap:Nat)(w:World)(h200:200<n):
  CP 288 #[.slice a n cap] w fun e w'=>e=.returned (iv 2)/\Below w.heap.size w w':=by
 have h':(200:Int)<(n:Int):=by omega
 go_enter func288,ntmps288;go_wp2;go_ret;exact⟨rfl,gC _ _⟩
theorem qZ3(a:Option Addr)(n cap:Nat)(gs:List LkI)(w:World)(h:qJ9 w a n gs):
  CP 288 #[.slice a n cap] w fun e w'=>e=.returned (iv (qJ6 gs))/\Below w.heap.size w w':=by
 have hz:=h.1;by_cases h40:200<n
 .have e:qJ6 gs=2:=by simp[qJ6,hz,h40]
  rw[e];exact QP7 a n cap w h40
 .have e:qJ6 gs=QM1 gs n:=by simp[qJ6,hz,h40]
  rw[e];exact QT5 a n cap gs _ w (by omega) h rfl
theorem qLc{gs:List LkI}(hs:SL gs){m:Nat}{x t:LkI}(hx:gs[m]?=some x)(h:ltL x t=true):∀(k:Nat) (y:LkI),k<m+1->gs[k]?=some y->ltL y t=true:=by
 intro k y hk hy;by_cases e:k=m
 .subst e;rw[hx]at hy;cases hy;exact h
 .have hm:m<gs.length:=by
   by_cases q:m<gs.length
   .exact q
   .rw[gE (by omega)]at hx;cases hx
  have h1:=jU.1 hs k m (by omega) hm (by omega);rw[gA hm]at hx;rw[gA (by omega)]at hy;rw[gJ hx,gJ hy]at h1;exact QG8 h1 h
theorem qLd{gs:List LkI}(hs:SL gs){m:Nat}{x t:LkI}(hx:gs[m]?=some x)(h:ltL x t=false):∀(k:Nat) (y:LkI),m<=k->gs[k]?=some y->ltL y t=false:=by
 intro k y hk hy;by_cases e:k=m
 .subst e;rw[hx]at hy;cases hy;exact h
 .have hk2:k<gs.length:=by
   by_cases q:k<gs.length
   .exact q
   .rw[gE (by omega)]at hy;cases hy
  have h1:=jU.1 hs m k (by omega) hk2 (by omega);rw[gA (by omega)]at hx;rw[gA hk2]at hy;rw[gJ hx,gJ hy]at h1;cases q:ltL y t
  .rfl
  .rw[QG8 h1 q]at h;cases h
def qPJ(gs:List LkI)(t:LkI)(w:World)(e:Ending)(w':World):Prop:=∃(i:Nat) (b:Bool),e=.returned (.tuple #[iv (i:Int),.bool b])/\QS8 gs t i/\(b=true↔∃x,gs[i]?=some x/\cfL x t=0)/\Below w.heap.size w w'
theorem qJo(a:Option Addr)(n cap:Nat)(gs:List LkI)(t:LkI)(w:World)(h:qJ9 w a n gs)(hs:SL gs)(hn:n<=1048576):
  CP 299 #[.slice a n cap,.agg #[iv t.e,iv t.c,iv t.p,iv t.f],.func (.func 297) #[] #[]] w fun e w'=>qPJ gs t w e w':=by
 have HZ:=hJJ h.1;have HL:=hJJ hs;have hn':(n:Int)<=1048576:=by omega
 obtain⟨w0,hw0⟩:∃w0,w0=w.alloc (.cells #[iv t.e,iv t.c,iv t.p,iv t.f] 171):=⟨_,rfl⟩;have hb0:Below w.heap.size w w0:=by rw[hw0];exact zN
 have hs0:w.heap.size<w0.heap.size:=by rw[hw0];simp
 have H:Hid (qJ9 w0 a n gs):=h.below hb0;have HB0:=hJJ hb0;have HT:Hid (QF3 w0 w.heap.size 0 t):=by rw[hw0];exact QF3.new _ _ _
 clear h hs hb0;go_enter func299,ntmps299;go_wp2_with fail
 rw[<- hw0];clear hw0;go_loopw [9,10] (fun p q wr=>∃(i j:Nat),i<=j/\j<=n/\p=iv (i:Int)/\q=iv (j:Int)/\(∀(k:Nat) (x:LkI),k<i->gs[k]?=some x->ltL x t=true)/\(∀(k:Nat) (x:LkI),j<=k->gs[k]?=some x->ltL x t=false)/\Below w0.heap.size w0 wr) (fun p q _=>(intOf q).toNat-(intOf p).toNat)
 case atStart=>exact⟨0,n,gH _,gB _,rfl,rfl,fun k x hk=>by omega,(fun k x hk hx=>by rw[gE (by rw[HZ.out];exact hk)]at hx;cases hx),gC _ _⟩
 case round =>
  obtain⟨i,j,hij,hjn,rfl,rfl,hlo,hhi,hnx⟩:=hrel;have HLO:=hJJ hlo;have HHI:=hJJ hhi;clear hlo hhi;obtain⟨t0,t1,t2,t3⟩:=HT.out.below hnx hs0;rw[gG]at t1 t2 t3;by_cases hlt:i<j
  .obtain⟨b,off,x,rfl,hx,hxa,hbl⟩:=H.out.at (show (i+j) / 2<n by omega)
   obtain⟨x0,x1,x2,x3⟩:=hxa.below hnx hbl;have HX:=hJJ hx;have hbw:b<wr.heap.size:=gD hbl hnx.size;have hwl:w.heap.size<wr.heap.size:=gD hs0 hnx.size;clear hx hxa;have hlt':(i:Int)<(j:Int):=by omega
   have hj':(j:Int)<=1048576:=by omega
   have hm0:(0:Int)<=((i:Int)+(j:Int)) / 2:=by omega
   have hm1:((i:Int)+(j:Int)) / 2<(n:Int):=by omega
   have hmN:(((i:Int)+(j:Int)) / 2).toNat=(i+j) / 2:=by omega
   rw[<- hmN]at x0 x1 x2 x3;clear hmN;obtain⟨v,hv⟩:∃v,cfL x t=v:=⟨_,rfl⟩;have HCm:Hid (∀w2:World,CP 297 #[.agg #[iv x.e,iv x.c,iv x.p,iv x.f],.agg #[iv t.e,iv t.c,iv t.p,iv t.f]] w2 fun e w'=>e=.returned (iv v)/\Below w2.heap.size w2 w'):=fun w2=>by rw[<- hv];exact qV4 x t w2
   have hge:(v<0)↔ltL x t=true:=by rw[<- hv];exact qIv x t
   have HGE:=hJJ hge;clear hv hge;go_upto_region 5 with fail
   by_cases hneg:v<0
   .have HLO2:Hid (∀(k:Nat) (y:LkI),k<(i+j) / 2+1->gs[k]?=some y->ltL y t=true):=qLc HL.out HX.out (HGE.out.1 hneg)
    go_region_held3 (fun w'=>(∀b o,b<wr.heap.size->w'.cell? ⟨b,o,none⟩=wr.cell? ⟨b,o,none⟩)/\Below wr.heap.size wr w') (first | exact hS | exact qA8 _)
     (first | (go_at_call 297;refine (HCm.out _).mono ?_;rintro e w' ⟨rfl,hb2⟩;have hS:=qA0 (by assumption) hb2))
    go_wp2;exact⟨⟨(i+j) / 2+1,j,by omega,hjn,by rw[show ((i:Int)+(j:Int)) / 2+1=(((i+j) / 2+1:Nat):Int) by omega],rfl,HLO2.out,HHI.out,hnx.trans (hS.2.mono hnx.size)⟩,by simp[intOf];omega⟩
   .have HHI2:Hid (∀(k:Nat) (y:LkI),(i+j) / 2<=k->gs[k]?=some y->ltL y t=false):=qLd HL.out HX.out (by cases q:ltL x t;rfl;exact absurd (HGE.out.2 q) hneg)
    go_region_held3 (fun w'=>(∀b o,b<wr.heap.size->w'.cell? ⟨b,o,none⟩=wr.cell? ⟨b,o,none⟩)/\Below wr.heap.size wr w') (first | exact hS | exact qA8 _)
     (first | (go_at_call 297;refine (HCm.out _).mono ?_;rintro e w' ⟨rfl,hb2⟩;have hS:=qA0 (by assumption) hb2))
    go_wp2;exact⟨⟨i,(i+j) / 2,by omega,by omega,rfl,by rw[show ((i:Int)+(j:Int)) / 2=(((i+j) / 2:Nat):Int) by omega],HLO.out,HHI2.out,hnx.trans (hS.2.mono hnx.size)⟩,by simp[intOf];omega⟩
  .obtain rfl:j=i:=by omega
   have HCU:Hid (QS8 gs t j):=⟨by rw[HZ.out];exact hjn,HLO.out,HHI.out⟩;clear HLO HHI;by_cases hlt2:j<n
   .obtain⟨b,off,x,rfl,hx,hxa,hbl⟩:=H.out.at hlt2
    obtain⟨x0,x1,x2,x3⟩:=hxa.below hnx hbl;have HX:=hJJ hx;have hbw:b<wr.heap.size:=gD hbl hnx.size;have hwl:w.heap.size<wr.heap.size:=gD hs0 hnx.size;clear hx hxa;have hlt':(j:Int)<(n:Int):=by omega
    obtain⟨v,hv⟩:∃v,cfL x t=v:=⟨_,rfl⟩;have HCm:Hid (∀w2:World,CP 297 #[.agg #[iv x.e,iv x.c,iv x.p,iv x.f],.agg #[iv t.e,iv t.c,iv t.p,iv t.f]] w2 fun e w'=>e=.returned (iv v)/\Below w2.heap.size w2 w'):=fun w2=>by rw[<- hv];exact qV4 x t w2
    have HF:Hid ((v==0)=true↔∃y,gs[j]?=some y/\cfL y t=0):=by
     refine⟨fun q=>⟨x,HX.out,by rw[hv];simpa using q⟩,fun⟨y,hy,q⟩=>?_⟩;rw[HX.out]at hy;cases hy;rw[hv]at q;simp[q]
    clear hv;go_upto_region 8 with fail
    go_region_held3 (fun w'=>(∀b o,b<wr.heap.size->w'.cell? ⟨b,o,none⟩=wr.cell? ⟨b,o,none⟩)/\Below wr.heap.size wr w') (first | exact hS | exact qA8 _)
     (first | (go_at_call 297;refine (HCm.out _).mono ?_;rintro e w' ⟨rfl,hb2⟩;have hS:=qA0 (by assumption) hb2))
    go_wp2;refine gQ (v:=.tuple #[iv (j:Int),.bool (v==0)]) (by simp[results,results299,go_sem]) rfl ?_;exact⟨j,v==0,rfl,HCU.out,HF.out,HB0.out.trans ((hnx.trans (hS.2.mono hnx.size)).mono (by omega))⟩
   .have HF:Hid (false=true↔∃y,gs[j]?=some y/\cfL y t=0):=by
     refine⟨(fun q=>by cases q),fun⟨y,hy,q⟩=>?_⟩;rw[gE (by rw[HZ.out];omega)]at hy;cases hy
    have hlt':¬ ((j:Int)<(n:Int)):=by omega
    go_upto_region 8 with fail
    go_quiet (fail)
    go_wp2;refine gQ (v:=.tuple #[iv (j:Int),.bool false]) (by simp[results,results299,go_sem]) rfl ?_;exact⟨j,false,rfl,HCU.out,HF.out,HB0.out.trans ((below_drewN hnx _).mono (by omega))⟩
theorem qLX(a:Option Addr)(n cap:Nat)(gs:List LkI)(e0 c0 p0:Int)(w:World)(h:qJ9 w a n gs)(hn:n<=1048576):
  CP 251 #[.slice a n cap,iv e0,iv c0,iv p0] w fun e w'=>e=.returned (iv (qE6 gs e0 c0 p0))/\Below w.heap.size w w':=by
 have HZ:=hJJ h.1;have H:=hJJ h;clear h;have hn':(n:Int)<=1048576:=by omega
 obtain⟨r,hr⟩:∃r,qE6 gs e0 c0 p0=r:=⟨_,rfl⟩;have HR:=hJJ hr;rw[hr];clear hr;go_enter func251,ntmps251;go_wp2;go_loopw [9] (fun i wr=>∃k:Nat,k<=n/\i=iv (k:Int)/\qE6 (gs.drop k) e0 c0 p0=r/\Below w.heap.size w wr) (fun i _=>n-(intOf i).toNat)
 case atStart=>exact⟨0,gH _,rfl,HR.out,gC _ _⟩
 case round =>
  obtain⟨k,hk,rfl,hp,hnx⟩:=hrel;by_cases hlt:k<n
  .obtain⟨b,off,x,rfl,hs,hx,hbl⟩:=H.out.at hlt
   rw[qGT hs]at hp;obtain⟨g0,g1,g2,g3⟩:=hx.below hnx hbl;have hbw:b<wr.heap.size:=gD hbl hnx.size;have hlt':(k:Int)<(n:Int):=by omega
   clear hs hx;by_cases q1:x.e=e0
   .have b1:(x.e==e0)=true:=by simp[q1]
    by_cases q2:x.c=c0
    .have b2:(x.c==c0)=true:=by simp[q2]
     by_cases q3:x.p=p0
     .have b3:(x.p==p0)=true:=by simp[q3]
      rw[gK ⟨q1,q2,q3⟩]at hp;have HP:=hJJ hp;clear hp q1 q2 q3;go_wp2;go_ret;exact⟨by rw[<- HP.out];rfl,hnx.alloc hnx.size _⟩
     .have b3:(x.p==p0)=false:=by simp[q3]
      rw[gI (fun q=>q3 q.2.2)]at hp;have HP:=hJJ hp;clear hp q1 q2 q3;go_wp2;exact⟨⟨k+1,by omega,by go_num,HP.out,hnx.alloc hnx.size _⟩,by simp[intOf];omega⟩
    .have b2:(x.c==c0)=false:=by simp[q2]
     rw[gI (fun q=>q2 q.2.1)]at hp;have HP:=hJJ hp;clear hp q1 q2;go_wp2;exact⟨⟨k+1,by omega,by go_num,HP.out,hnx.alloc hnx.size _⟩,by simp[intOf];omega⟩
   .have b1:(x.e==e0)=false:=by simp[q1]
    rw[gI (fun q=>q1 q.1)]at hp;have HP:=hJJ hp;clear hp q1;go_wp2;exact⟨⟨k+1,by omega,by go_num,HP.out,hnx.alloc hnx.size _⟩,by simp[intOf];omega⟩
  .have hkn:k=n:=by omega
   subst hkn;rw[jH (by rw[HZ.out];exact gB _)]at hp;have HP:=hJJ hp;clear hp;go_wp2;go_ret;exact⟨by rw[<- HP.out];rfl,hnx⟩
section
open Go
def qV3(J:Nat->Act->World->Prop)(Q:Exit->Act->World->Prop):Exit->Act->World->Prop
 | .goto l,a,w=>J l a w
 | e,a,w=>Q e a w
theorem qGs{P:Program}{c:Code}{Q Q':Exit->Act->World->Prop}{a:Act}{w:World}(h:c.wp P Q a w)(hq:∀e a w,Q e a w->Q' e a w):c.wp P Q' a w:=by
 intro b k cs;obtain⟨e,a',w',h1,h2⟩:=h b k cs;exact⟨e,a',w',hq e a' w' h1,h2⟩
theorem QM9{P:Program}{c:Code}{Q:Exit->Act->World->Prop}{a:Act}{w:World}(rest:Nat->Code)(J:Nat->Nat->Act->World->Prop)(hf:∀l m a w,J l m a w->findLabel c l=some (rest l))(first:c.wp P (qV3 (fun l a' w'=>∃m,J l m a' w') Q) a w)(pass:∀l m a w,J l m a w->(rest l).wp P (qV3 (fun l' a' w'=>∃m',m'<m/\J l' m' a' w') Q) a w):(Code.scope c).wp P Q a w:=by
 intro b k cs
 have again:∀m l a w,J l m a w->∃e a' w',Q e a' w'/\Arrives P (lone (b.at a (.code (rest l) :: .inScope c::k)) cs w) b k cs e a' w':=by
  intro m;induction m using Nat.strongRecOn with
  | _ m ih =>
   intro l a w hJ;obtain⟨e,a1,w1,hq,har⟩:=pass l m a w hJ b (.inScope c::k) cs;cases e with
   | goto l' =>
    obtain⟨m',hlt,hJ'⟩:=hq;obtain⟨e2,a2,w2,hq2,har2⟩:=ih m' hlt l' a1 w1 hJ';have hg:gotoIn l' (.inScope c::k)=some (.code (rest l') :: .inScope c::k):=by simp[gotoIn,hf l' m' a1 w1 hJ']
    exact⟨e2,a2,w2,hq2,.of_steps (har _ hg) har2⟩
   | normal=>exact⟨.normal,a1,w1,hq,Steps.trans har (.one step_inScope)⟩
   | exit id=>exact⟨.exit id,a1,w1,hq,fun k' hk=>har k' (by simp[exitTo,hk])⟩
   | ret=>exact⟨_,a1,w1,hq,har⟩
   | panic ch=>exact⟨_,a1,w1,hq,har⟩
   | outgrown=>exact⟨_,a1,w1,hq,har⟩
 obtain⟨e,a1,w1,hq,har⟩:=first b (.inScope c::k) cs;cases e with
 | goto l =>
  obtain⟨m,hJ⟩:=hq;obtain⟨e2,a2,w2,hq2,har2⟩:=again m l a1 w1 hJ;have hg:gotoIn l (.inScope c::k)=some (.code (rest l) :: .inScope c::k):=by simp[gotoIn,hf l m a1 w1 hJ]
  exact⟨e2,a2,w2,hq2,.of_steps (.head step_scope (har _ hg)) har2⟩
 | normal=>exact⟨.normal,a1,w1,hq,.head step_scope (Steps.trans har (.one step_inScope))⟩
 | exit id=>exact⟨.exit id,a1,w1,hq,fun k' hk => .head step_scope (har k' (by simp[exitTo,hk]))⟩
 | ret=>exact⟨_,a1,w1,hq,.of_steps (.one step_scope) har⟩
 | panic ch=>exact⟨_,a1,w1,hq,.of_steps (.one step_scope) har⟩
 | outgrown=>exact⟨_,a1,w1,hq,.of_steps (.one step_scope) har⟩
theorem qBW{J:Nat->Act->World->Prop}{J':Nat->Act->World->Prop}{Q:Exit->Act->World->Prop}(h:∀l a w,J l a w->J' l a w):∀e a w,qV3 J Q e a w->qV3 J' Q e a w
 | .goto l,a,w,q=>h l a w q
 | .normal,_,_,q=>q
 | .exit _,_,_,q=>q
 | .ret,_,_,q=>q
 | .panic _,_,_,q=>q
 | .outgrown,_,_,q=>q
def two(x y:Code):Nat->Code
 | 0=>x
 | _=>y
theorem qAr{P:Program}{c r0 r1:Code}{Q:Exit->Act->World->Prop}{a:Act}{w:World}(J:Nat->Nat->Act->World->Prop)(hf0:findLabel c 0=some (Code.seq .skip r0))(hf1:findLabel c 1=some (Code.seq .skip r1))(hJ:∀l m a w,J l m a w->l=0\/l=1)(first:(∀m a w,J 0 m a w->r0.wp P (qV3 (fun l' a' w'=>∃m',m'<m/\J l' m' a' w') Q) a w)->c.wp P (qV3 (fun l a' w'=>∃m,J l m a' w') Q) a w)(core0:∀m a w,J 0 m a w->r0.wp P (qV3 (fun l' a' w'=>∃m',m'<m/\J l' m' a' w') Q) a w)(core1:∀m a w,J 1 m a w->r1.wp P (qV3 (fun l' a' w'=>∃m',m'<m/\J l' m' a' w') Q) a w):(Code.scope c).wp P Q a w:=by
 refine QM9 (two (Code.seq .skip r0) (Code.seq .skip r1)) J ?_ (first core0) ?_
 .intro l m a w h;rcases hJ l m a w h with rfl|rfl
  .exact hf0
  .exact hf1
 .intro l m a w h;rcases hJ l m a w h with rfl|rfl
  .exact wp_seq (wp_skip (core0 m a w h))
  .exact wp_seq (wp_skip (core1 m a w h))
end
def qPR(k n:Nat):List Int:=(List.range n).map (fun i=>((k+i:Nat):Int))
theorem qFq{w:World}{b:Nat}{t:TypeId}{a:Option Addr}{n cap:Nat}{xs:List Value}(h:w.ownsRow b t 1 (.slice a n cap) n xs):
  xs.length=n/\(n=0\/∃g,a=some ⟨g,0,none⟩):=by
 refine⟨by simpa using h.1,?_⟩;rcases h.2 with⟨h',h0⟩ | ⟨g,cap',cur,h',_⟩
 .exact .inl h0
 .simp at h';exact .inr ⟨g,h'.1⟩
theorem qCj{w:World}{b:Nat}{a:Option Addr}{n cap:Nat}{zs:List Int}(h:w.ownsRow b 2 1 (.slice a n cap) n (zs.map (Value.int .i64))):qGh w a n zs:=by
 obtain⟨hl,hc⟩:=qFq h;simp at hl;refine⟨by omega,fun k hk=>?_⟩;rcases hc with h0 | ⟨g,rfl⟩
 .omega
 .refine⟨g,0,rfl,?_⟩;rw[gG,h.cellAt k (by omega)];simp[gA (show k<zs.length by omega)]
