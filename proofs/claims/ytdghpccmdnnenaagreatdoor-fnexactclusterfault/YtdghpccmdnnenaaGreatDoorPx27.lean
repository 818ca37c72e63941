/- Contracts. -/
import Derived.Test.YtdghpccmdnnenaaGreatDoorPx15
namespace Go.Proofs.YtdghpccmdnnenaaGreatDoor
set_option maxRecDepth 100000
set_option maxHeartbeats 8000000
open Go.RowKit Go.Proofs.Tryz
set_option linter.unusedVariables false
set_option linter.unusedSimpArgs false
structure ShI where
 r:Int
 k:Int
 e:Int
 f:Int
 s:Int
 n:Int
deriving DecidableEq,Inhabited
def QH9(w:World)(b o:Nat)(x:ShI):Prop:=w.cell? ⟨b,o,none⟩=some (iv x.r)/\w.cell? ⟨b,o+1,none⟩=some (iv x.k)/\w.cell? ⟨b,o+2,none⟩=some (iv x.e)/\w.cell? ⟨b,o+3,none⟩=some (iv x.f)/\w.cell? ⟨b,o+4,none⟩=some (iv x.s)/\w.cell? ⟨b,o+5,none⟩=some (iv x.n)
theorem QH9.below{w w':World}{B b o:Nat}{x:ShI}(h:QH9 w b o x)(hb:Below B w w')(hB:b<B):QH9 w' b o x :=
 ⟨(hb.cell (p:=⟨b,o,none⟩) hB).trans h.1,(hb.cell (p:=⟨b,o+1,none⟩) hB).trans h.2.1,(hb.cell (p:=⟨b,o+2,none⟩) hB).trans h.2.2.1,(hb.cell (p:=⟨b,o+3,none⟩) hB).trans h.2.2.2.1,(hb.cell (p:=⟨b,o+4,none⟩) hB).trans h.2.2.2.2.1,(hb.cell (p:=⟨b,o+5,none⟩) hB).trans h.2.2.2.2.2⟩
def qX6(w:World)(a:Option Addr)(n:Nat)(gs:List ShI):Prop:=gs.length=n/\(0<n->∃b off,a=some ⟨b,off,none⟩/\∀k x,gs[k]?=some x->QH9 w b (off+k*6) x)
theorem qX6.below{w w':World}{a:Option Addr}{n:Nat}{gs:List ShI}(h:qX6 w a n gs)(hb:Below w.heap.size w w'):qX6 w' a n gs:=by
 refine⟨h.1,fun hn=>?_⟩;obtain⟨b,off,e,k⟩:=h.2 hn;exact⟨b,off,e,fun j x hx=>(k j x hx).below hb (zL w ⟨b,off+j*6,none⟩ (k j x hx).1)⟩
theorem qX6.at{w:World}{a:Option Addr}{n:Nat}{gs:List ShI}(h:qX6 w a n gs){k:Nat}(hk:k<n):∃b off x,a=some ⟨b,off,none⟩/\gs[k]?=some x/\QH9 w b (off+k*6) x/\b<w.heap.size:=by
 obtain⟨b,off,e,q⟩:=h.2 (by omega);have hx:=gA (l:=gs) (i:=k) (by rw[h.1];exact hk);exact⟨b,off,_,e,hx,q k _ hx,zL w ⟨b,off+k*6,none⟩ (q k _ hx).1⟩
def QB8(w:World)(g:Nat)(gs:List ShI):Prop:=∀k x,gs[k]?=some x->QH9 w g (k*6) x
theorem QB8.below{w w':World}{g:Nat}{gs:List ShI}(h:QB8 w g gs)(hb:Below w.heap.size w w'):QB8 w' g gs:=fun k x e =>
 (h k x e).below hb (zL w ⟨g,k*6,none⟩ (h k x e).1)
theorem qX6.of{w:World}{g n:Nat}{gs:List ShI}(hl:gs.length=n)(h:QB8 w g gs):qX6 w (some ⟨g,0,none⟩) n gs :=
 ⟨hl,fun _=>⟨g,0,rfl,fun k x e=>by rw[gG];exact h k x e⟩⟩
def QK4(w:World)(g n:Nat):Prop:=(∀j,j<n*6->∃v,w.cell? ⟨g,j,none⟩=some v)/\∀j,w.frozen? ⟨g,j,none⟩=false
abbrev qCL(w:World)(g o:Nat)(s:ShI):World:=((((((w.setCell ⟨g,o,none⟩ (iv s.r)).setCell ⟨g,o+1,none⟩ (iv s.k)).setCell ⟨g,o+2,none⟩ (iv s.e)).setCell ⟨g,o+3,none⟩ (iv s.f)).setCell ⟨g,o+4,none⟩ (iv s.s)).setCell ⟨g,o+5,none⟩ (iv s.n))
theorem qM2(w:World)(g o:Nat)(s:ShI)(a:Addr)(h:∀j,j<6->a≠⟨g,o+j,none⟩):(qCL w g o s).cell? a=w.cell? a:=by
 rw[gF (h:=Ne.symm (h 5 (by omega))),gF (h:=Ne.symm (h 4 (by omega))),gF (h:=Ne.symm (h 3 (by omega))),gF (h:=Ne.symm (h 2 (by omega))),gF (h:=Ne.symm (h 1 (by omega))),gF (h:=Ne.symm (a:=a) (b:=⟨g,o,none⟩) (by simpa using h 0 (by omega)))]
theorem qLA(w:World)(g o:Nat)(s:ShI)(h:∀j,j<6->∃v,w.cell? ⟨g,o+j,none⟩=some v):QH9 (qCL w g o s) g o s:=by
 obtain⟨v0,h0⟩:=h 0 (by omega);obtain⟨v1,h1⟩:=h 1 (by omega);obtain⟨v2,h2⟩:=h 2 (by omega);obtain⟨v3,h3⟩:=h 3 (by omega);obtain⟨v4,h4⟩:=h 4 (by omega);obtain⟨v5,h5⟩:=h 5 (by omega);rw[jS]at h0;refine⟨?_,?_,?_,?_,?_,?_⟩ <;> simp[go_sem,h0,h1,h2,h3,h4,h5]
theorem qGg{w:World}{g n k:Nat}{zs:List ShI}{s:ShI}(hroom:QK4 w g n)(hd:QB8 w g (zs.take k))(hs:zs[k]?=some s)(hk:k<n):
  QK4 (qCL w g (k*6) s) g n/\QB8 (qCL w g (k*6) s) g (zs.take (k+1)):=by
 have hr:=qLA w g (k*6) s (fun j hj=>hroom.1 (k*6+j) (by omega));refine⟨⟨fun j hj=>?_,fun j=>?_⟩,fun i r e=>?_⟩
 .by_cases h:k*6<=j/\j<k*6+6
  .have hj':j=k*6\/j=k*6+1\/j=k*6+2\/j=k*6+3\/j=k*6+4\/j=k*6+5:=by omega
   obtain⟨h0,h1,h2,h3,h4,h5⟩:=hr;rcases hj' with rfl|rfl|rfl|rfl|rfl|rfl
   .exact⟨_,h0⟩
   .exact⟨_,h1⟩
   .exact⟨_,h2⟩
   .exact⟨_,h3⟩
   .exact⟨_,h4⟩
   .exact⟨_,h5⟩
  .rw[qM2 w g (k*6) s ⟨g,j,none⟩ (fun i hi e=>by have e2:=jA Addr.off e;simp only at e2;omega)];exact hroom.1 j hj
 .simp only[jE];exact hroom.2 j
 .rw[jJ]at e;split at e
  .by_cases hik:i=k
   .subst hik;rw[hs]at e;cases e;exact hr
   .have hi:i<k:=by omega
    have h1:=hd i r (by rw[jJ,gK hi];exact e);obtain⟨h0,h1,h2,h3,h4,h5⟩:=h1;refine⟨?_,?_,?_,?_,?_,?_⟩
    .rw[qM2 w g (k*6) s ⟨g,i*6,none⟩ (fun j hj e=>by have e2:=jA Addr.off e;simp only at e2;omega)];exact h0
    .rw[qM2 w g (k*6) s ⟨g,i*6+1,none⟩ (fun j hj e=>by have e2:=jA Addr.off e;simp only at e2;omega)];exact h1
    .rw[qM2 w g (k*6) s ⟨g,i*6+2,none⟩ (fun j hj e=>by have e2:=jA Addr.off e;simp only at e2;omega)];exact h2
    .rw[qM2 w g (k*6) s ⟨g,i*6+3,none⟩ (fun j hj e=>by have e2:=jA Addr.off e;simp only at e2;omega)];exact h3
    .rw[qM2 w g (k*6) s ⟨g,i*6+4,none⟩ (fun j hj e=>by have e2:=jA Addr.off e;simp only at e2;omega)];exact h4
    .rw[qM2 w g (k*6) s ⟨g,i*6+5,none⟩ (fun j hj e=>by have e2:=jA Addr.off e;simp only at e2;omega)];exact h5
  .cases e
theorem qDv{w0 w:World}{B g o:Nat}(h:Below B w0 w)(hg:B<=g)(s:ShI):Below B w0 (qCL w g o s) :=
 h.setCell hg _ |>.setCell hg _ |>.setCell hg _ |>.setCell hg _ |>.setCell hg _ |>.setCell hg _
theorem Tryz.info121:(prog.info? 121).map (fun i=>(i.zero,i.size,i.bytes))=some (some (.agg #[iv 0,iv 0,iv 0,iv 0,iv 0,iv 0]),6,48):=by kernel_rfl
theorem qGz(x:ShI)(w:World):CP 86 #[.agg #[iv x.r,iv x.k,iv x.e,iv x.f,iv x.s,iv x.n]] w fun e w'=>e=.returned (.agg #[iv x.r,iv x.k,iv x.e,iv x.f,iv x.s,iv x.n])/\Below w.heap.size w w':=by
 go_enter func86,ntmps86;go_wp2;go_returns
 exact⟨rfl,by go_grown⟩
theorem QY7(a:Option Addr)(n cap:Nat)(zs:List ShI)(w:World)(hn:n<=1048576)(h:qX6 w a n zs):
  CP 44 #[.slice a n cap] w fun e w'=>e=.returned (.slice (some ⟨w.heap.size,0,none⟩) n n)/\QB8 w' w.heap.size zs/\w.heap.size<w'.heap.size/\Below w.heap.size w w'/\QK4 w' w.heap.size n:=by
 obtain⟨i0,hi,hz0,hz1,hz2⟩:=jT Tryz.info121;obtain⟨wm,hmk,hownm,hgrm⟩:=run_make_full (P:=prog) (w:=w) w.heap.size 32 121 i0 (.agg #[iv 0,iv 0,iv 0,iv 0,iv 0,iv 0]) 6 underlying32 hi hz0 hz1 .i64 .i64 n (by rw[hz2];omega) (by unfold maxLen;omega) (gB _);have H:=hJJ h;have hz:=hJJ h.1;clear h
 have HM:Hid (QK4 wm w.heap.size n/\w.heap.size<wm.heap.size):=by
  refine⟨⟨fun j hj=>?_,fun j=>hownm.frozenAt j⟩,(hownm.lt _ rfl).2⟩;have hl:=hownm.1;exact⟨_,(hownm.cellAt j hj).trans (gA (by omega))⟩
 clear hownm;have HG:=hJJ hgrm;clear hgrm;have hn':(n:Int)<=1048576:=by omega
 go_enter func44,ntmps44;go_wp2
 go_loopw [4] (fun i wr=>∃k:Nat,k<=n/\i=iv (k:Int)/\QK4 wr w.heap.size n/\QB8 wr w.heap.size (zs.take k)/\w.heap.size<wr.heap.size/\Below w.heap.size w wr)
  (fun i _=>n-(intOf i).toNat)
 case atStart=>exact⟨0,gH _,rfl,HM.out.1,fun k r e=>by simp at e,HM.out.2,(gC _ _).grown HG.out (gB _) (fun k e=>by cases e)⟩
 case round =>
  obtain⟨k,hk,rfl,hroom,hdone,hlt0,hnx⟩:=hrel;by_cases hlt:k<n
  .obtain⟨b,off,s,rfl,hs,hr,hb⟩:=H.out.at hlt
   have HS:=hJJ hs;clear hs;obtain⟨h0,h1,h2,h3,h4,h5⟩:=hr.below hnx hb;have HD:Hid (QK4 wr w.heap.size n/\QB8 wr w.heap.size (zs.take k)):=⟨hroom,hdone⟩;clear hroom hdone hr;have hlt':(k:Int)<(n:Int):=by omega
   go_wp2_with fail
   refine (qGz s _).mono ?_;rintro e w1 ⟨rfl,hb1⟩;obtain⟨⟨hc,hf⟩,hd⟩:=HD.out;have hz1:=hb1.size
   have HD1:Hid (QK4 w1 w.heap.size n/\QB8 w1 w.heap.size (zs.take k)/\Below w.heap.size w w1) :=
    ⟨⟨fun j hj=>by obtain⟨v,e⟩:=hc j hj;exact⟨v,(hb1.cell (p:=⟨w.heap.size,j,none⟩) hlt0).trans e⟩,fun j=>(hb1.frozen (p:=⟨w.heap.size,j,none⟩) hlt0).trans (hf j)⟩,hd.below hb1,hnx.trans (hb1.mono hnx.size)⟩
   clear hc hf hd HD h0 h1 h2 h3 h4 h5;obtain⟨v0,c0⟩:=HD1.out.1.1 (k*6) (by omega);obtain⟨v1,c1⟩:=HD1.out.1.1 (k*6+1) (by omega);obtain⟨v2,c2⟩:=HD1.out.1.1 (k*6+2) (by omega);obtain⟨v3,c3⟩:=HD1.out.1.1 (k*6+3) (by omega);obtain⟨v4,c4⟩:=HD1.out.1.1 (k*6+4) (by omega);obtain⟨v5,c5⟩:=HD1.out.1.1 (k*6+5) (by omega);have f0:=HD1.out.1.2 (k*6);have f1:=HD1.out.1.2 (k*6+1);have f2:=HD1.out.1.2 (k*6+2);have f3:=HD1.out.1.2 (k*6+3);have f4:=HD1.out.1.2 (k*6+4);have f5:=HD1.out.1.2 (k*6+5)
   have RM:Hid (QK4 (qCL w1 w.heap.size (k*6) s) w.heap.size n/\QB8 (qCL w1 w.heap.size (k*6) s) w.heap.size (zs.take (k+1))/\Below w.heap.size w (qCL w1 w.heap.size (k*6) s)):=by
    have h2:=qGg HD1.out.1 HD1.out.2.1 HS.out hlt;exact⟨h2.1,h2.2,qDv HD1.out.2.2 (gB _) s⟩
   go_wp2;exact⟨⟨k+1,by omega,by go_num,RM.out.1,RM.out.2.1,by simp only[jP];omega,RM.out.2.2⟩,by simp[intOf];omega⟩
  .have hkn:k=n:=by omega
   subst hkn;rw[gV (by rw[hz.out];exact gB _)]at hdone;go_wp2;go_ret;exact⟨rfl,hdone,hlt0,hnx,hroom⟩
theorem qFP(a:Option Addr)(n cap:Nat)(zs:List ShI)(w:World)(hn:n<=1048576)(h:qX6 w a n zs):
  CP 44 #[.slice a n cap] w fun e w'=>e=.returned (.slice (some ⟨w.heap.size,0,none⟩) n n)/\QB8 w' w.heap.size zs/\w.heap.size<w'.heap.size/\Below w.heap.size w w' :=
 (QY7 a n cap zs w hn h).mono fun e w' hh=>⟨hh.1,hh.2.1,hh.2.2.1,hh.2.2.2.1⟩
theorem qBp(x:ShI)(w:World):
  CP 100 #[.agg #[iv x.r,iv x.k,iv x.e,iv x.f,iv x.s,iv x.n],.agg #[iv x.r,iv x.k,iv x.e,iv x.f,iv x.s,iv x.n]] w fun e w'=>e=.returned (.bool true)/\Below w.heap.size w w':=by
 go_enter func100,ntmps100;go_wp2;go_ret;exact⟨rfl,by go_grown⟩
theorem qAV(a b:Option Addr)(n c d:Nat)(zs:List ShI)(w:World)(hn:n<=1048576)(ha:qX6 w a n zs)(hb:qX6 w b n zs):
  CP 52 #[.slice a n c,.slice b n d] w fun e w'=>e=.returned (.bool true)/\Below w.heap.size w w':=by
 have HA:=hJJ ha;have HB:=hJJ hb;clear ha hb;have hn':(n:Int)<=1048576:=by omega
 go_enter func52,ntmps52;go_wp2;go_loopw [5] (fun i wr=>∃k:Nat,k<=n/\i=iv (k:Int)/\Below w.heap.size w wr) (fun i _=>n-(intOf i).toNat)
 case atStart=>exact⟨0,gH _,rfl,gC _ _⟩
 case round =>
  obtain⟨k,hk,rfl,hnx⟩:=hrel;by_cases hlt:k<n
  .obtain⟨b1,o1,s,e1,hs,hr,hl1⟩:=HA.out.at hlt
   obtain⟨b2,o2,s2,e2,hs2,hr2,hl2⟩:=HB.out.at hlt
   obtain rfl:s=s2:=gJ (hs.symm.trans hs2);subst e1 e2;clear hs hs2;obtain⟨h0,h1,h2,h3,h4,h5⟩:=hr.below hnx hl1;obtain⟨g0,g1,g2,g3,g4,g5⟩:=hr2.below hnx hl2;clear hr hr2;have hlt':(k:Int)<(n:Int):=by omega
   have hb1:b1<wr.heap.size:=zL wr ⟨b1,o1+k*6,none⟩ h0;have hb2:b2<wr.heap.size:=zL wr ⟨b2,o2+k*6,none⟩ g0;go_wp2
   go_region_held3 (fun w'=>(∀b o,b<wr.heap.size->w'.cell? ⟨b,o,none⟩=wr.cell? ⟨b,o,none⟩)/\Below wr.heap.size wr w') (first | exact hS | exact qA8 _)
    (first | (go_at_call 100;refine (qBp s _).mono ?_;rintro e w' ⟨rfl,hb1⟩;have hS:=qA0 (by assumption) hb1))
   go_wp2;exact⟨⟨k+1,by omega,by go_num,hnx.trans (hS.2.mono hnx.size)⟩,by simp[intOf];omega⟩
  .have hkn:k=n:=by omega
   subst hkn;go_wp2;go_ret;exact⟨rfl,hnx⟩
abbrev ShI.st(x:ShI):StI:=⟨x.k,x.e,x.f,x.s,x.n⟩
/-- The share of one. -/
abbrev qNT(r:Int)(x:StI):ShI:=⟨r,x.k,x.e,x.f,x.s,x.n⟩
theorem qMM{z:ShI}{r:Int}{x:StI}:z=qNT r x↔z.st=x/\z.r=r:=by
 obtain⟨a,b,c,d,e,f⟩:=z;obtain⟨k,e',f',s,n⟩:=x;simp only[ShI.mk.injEq,StI.mk.injEq];constructor
 .rintro⟨h0,h1,h2,h3,h4,h5⟩;exact⟨⟨h1,h2,h3,h4,h5⟩,h0⟩
 .rintro⟨⟨h1,h2,h3,h4,h5⟩,h0⟩;exact⟨h0,h1,h2,h3,h4,h5⟩
def QA5(x y:ShI):Bool:=decide (x=y)
def QB1(zs:List ShI)(x:ShI):Bool:=zs.any (fun y=>QA5 y x)
theorem QH3{zs:List ShI}{x:ShI}:QB1 zs x=true↔x∈zs:=by
 unfold QB1 QA5;rw[List.any_eq_true];constructor
 .rintro⟨y,hy,h⟩;have : y=x:=kK h;subst this;exact hy
 .intro h;exact⟨x,h,jQ rfl⟩
theorem qW2{zs:List ShI}{x:ShI}{k:Nat}:x∈zs.take k↔∃j,j<k/\zs[j]?=some x:=by
 rw[List.mem_take_iff_getElem];constructor
 .rintro⟨j,hj,e⟩;exact⟨j,by omega,by rw[gA (by omega),e]⟩
 .rintro⟨j,hj,e⟩
  have hl:j<zs.length:=by
   by_cases q:j<zs.length
   .exact q
   .rw[gE (by omega)]at e;cases e
  rw[gA hl]at e;exact⟨j,by omega,gJ e⟩
def qCf(f:Int)(pre:List ShI)(x:ShI):Int:=if inR x.r 1 (3*f+1)=true then (if qB5 x.st=0 then (if QB1 pre x=true then 6 else 0) else qB5 x.st) else 3
def qZ5(f:Int)(zs:List ShI):Nat->Int
 | 0=>0
 | k+1=>if qZ5 f zs k=0 then (match zs[k]? with
  | none=>0
  | some x=>qCf f (zs.take k) x) else qZ5 f zs k
def qF2(f:Int)(zs:List ShI):Int:=if inR f 1 2=true then (if 120<zs.length then 2 else qZ5 f zs zs.length) else 3
theorem qP4(f:Int)(zs:List ShI)(k m:Nat)(d:Int)(hd:d≠0)(h:qZ5 f zs k=d)(hm:k<=m):qZ5 f zs m=d:=by
  induction m with
  | zero => obtain rfl:k=0:=by omega
            exact h
  | succ m ih =>
    by_cases e:k=m+1
    . subst e;exact h
    . have:=ih (by omega);rw[qZ5,this,gI hd]
theorem QN8{f:Int}{zs:List ShI}{k:Nat}{x:ShI}(hx:zs[k]?=some x)(h0:qZ5 f zs k=0):qZ5 f zs (k+1)=qCf f (zs.take k) x:=by
 rw[qZ5,h0,gK rfl,hx]
theorem qJl{f:Int}{zs:List ShI}(h:qF2 f zs=0):inR f 1 2=true/\zs.length<=120/\∀x∈zs,inR x.r 1 (3*f+1)=true/\qB5 x.st=0:=by
 unfold qF2 at h;by_cases hf:inR f 1 2=true
 .rw[gK hf]at h;by_cases hl:120<zs.length
  .rw[gK hl]at h;omega
  .rw[gI hl]at h;refine⟨hf,by omega,fun x hx=>?_⟩;obtain⟨k,hk,e⟩:=List.mem_iff_getElem.1 hx;have hc:zs[k]?=some x:=by rw[gA hk,e]
   have h0:qZ5 f zs k=0:=by
    by_cases q:qZ5 f zs k=0
    .exact q
    .have:=qP4 f zs k zs.length _ q rfl (by omega);rw[this]at h;exact absurd h q
   have h1:qZ5 f zs (k+1)=0:=by
    by_cases q:qZ5 f zs (k+1)=0
    .exact q
    .have:=qP4 f zs (k+1) zs.length _ q rfl (by omega);rw[this]at h;exact absurd h q
   rw[QN8 hc h0]at h1;unfold qCf at h1;by_cases q:inR x.r 1 (3*f+1)=true
   .rw[gK q]at h1;by_cases q2:qB5 x.st=0
    .exact⟨q,q2⟩
    .rw[gI q2]at h1;exact absurd h1 q2
   .rw[gI q]at h1;omega
 .rw[gI hf]at h;omega
def qCO(r:Int):List Int->List Int
 | []=>[r]
 | y::ys=>if y<r then y::qCO r ys else if y=r then y::ys else r::y::ys
theorem qAF(r i:Int)(ys:List Int):i∈qCO r ys↔i=r\/i∈ys:=by
 induction ys with
 | nil=>simp[qCO]
 | cons y ys ih =>
  unfold qCO;by_cases h1:y<r
  .rw[gK h1,gX,gX,ih];constructor
   .rintro (h | h | h)
    .exact .inr (.inl h)
    .exact .inl h
    .exact .inr (.inr h)
   .rintro (h | h | h)
    .exact .inr (.inl h)
    .exact .inl h
    .exact .inr (.inr h)
  .rw[gI h1];by_cases h2:y=r
   .rw[gK h2,gX];constructor
    .intro h;exact .inr h
    .rintro (h | h)
     .exact .inl (by rw[h,h2])
     .exact h
   .rw[gI h2,gX,gX]
theorem qLq(r:Int)(ys:List Int)(h:Up ys):Up (qCO r ys):=by
 induction ys with
 | nil=>simp[qCO,Up]
 | cons y ys ih =>
  obtain⟨h0,h1⟩:=jN.1 h;unfold qCO;by_cases q1:y<r
  .rw[gK q1];refine jN.2 ⟨fun a ha=>?_,ih h1⟩;rcases (qAF r a ys).1 ha with rfl | ha
   .exact q1
   .exact h0 a ha
  .rw[gI q1];by_cases q2:y=r
   .rw[gK q2];exact h
   .rw[gI q2];refine jN.2 ⟨fun a ha=>?_,h⟩;rcases gX.1 ha with rfl | ha
    .omega
    .have:=h0 a ha;omega
def atI(r:Int):List Int->Nat
 | []=>0
 | y::ys=>if y<r then atI r ys+1 else 0
theorem qOS(r:Int)(ys:List Int):atI r ys<=ys.length:=by
 induction ys with
 | nil=>simp[atI]
 | cons y ys ih =>
  unfold atI;split
  .simp;omega
  .simp
theorem qOR(r:Int)(ys:List Int):∀j y,j<atI r ys->ys[j]?=some y->y<r:=by
 induction ys with
 | nil=>intro j y h;simp[atI]at h
 | cons z ys ih =>
  intro j y h e;unfold atI at h;split at h
  .rename_i q;cases j with
   | zero=>simp at e;omega
   | succ j=>exact ih j y (by omega) (by simpa using e)
  .omega
theorem qKt(r:Int)(ys:List Int):∀y,ys[atI r ys]?=some y->¬ y<r:=by
 induction ys with
 | nil=>intro y h;simp[atI]at h
 | cons z ys ih =>
  intro y e;unfold atI at e;split at e
  .exact ih y (by simpa using e)
  .rename_i q;simp at e;omega
theorem QX0(r:Int)(ys:List Int)(h:ys[atI r ys]?=some r):qCO r ys=ys:=by
 induction ys with
 | nil=>simp at h
 | cons y ys ih =>
  unfold atI at h;unfold qCO;split at h
  .rename_i q;rw[gK q,ih (by simpa using h)]
  .rename_i q;have e:y=r:=by simpa using h
   rw[gI q,gK e]
theorem qEs(r:Int)(ys:List Int)(h:ys[atI r ys]?≠some r):qCO r ys=ys.take (atI r ys)++[r]++ys.drop (atI r ys):=by
 induction ys with
 | nil=>simp[qCO,atI]
 | cons y ys ih =>
  unfold atI at h ⊢
  unfold qCO;by_cases q:y<r
  .rw[gK q]at h ⊢
   rw[gK q,ih (by simpa using h)];simp
  .rw[gI q]at h ⊢
   have e:¬ y=r:=by simpa using h
   rw[gI q,gI e];simp
theorem qKe(r:Int)(ys:List Int):(qCO r ys).length<=ys.length+1:=by
 by_cases h:ys[atI r ys]?=some r
 .rw[QX0 r ys h];omega
 .rw[qEs r ys h];simp;omega
theorem qGv{xs ys:List Int}(hx:Up xs)(hy:Up ys)(h:∀i,i∈xs↔i∈ys):xs=ys:=by
 induction xs generalizing ys with
 | nil =>
  cases ys with
  | nil=>rfl
  | cons y ys=>exact absurd ((h y).2 (by simp)) (by simp)
 | cons x xs ih =>
  cases ys with
  | nil=>exact absurd ((h x).1 (by simp)) (by simp)
  | cons y ys =>
   obtain⟨hx0,hx1⟩:=jN.1 hx;obtain⟨hy0,hy1⟩:=jN.1 hy
   have e:x=y:=by
    rcases gX.1 ((h x).1 (by simp))with q | q
    .exact q
    .rcases gX.1 ((h y).2 (by simp))with p | p
     .exact p.symm
     .have:=hy0 x q;have:=hx0 y p;omega
   subst e;have hn1:x ∉ xs:=fun q=>by have:=hx0 x q;omega
   have hn2:x ∉ ys:=fun q=>by have:=hy0 x q;omega
   rw[ih hx1 hy1 (fun i=>?_)];constructor
   .intro hi;rcases gX.1 ((h i).1 (List.mem_cons_of_mem _ hi))with q | q
    .subst q;exact absurd hi hn1
    .exact q
   .intro hi;rcases gX.1 ((h i).2 (List.mem_cons_of_mem _ hi))with q | q
    .subst q;exact absurd hi hn2
    .exact q
theorem qJR{xs:List Int}(h:Up xs):xs.Nodup:=List.Pairwise.imp (fun {a b} q=>by omega) h
def qX5(zs:List ShI)(x:StI):Nat->List Int
 | 0=>[]
 | k+1=>match zs[k]? with
  | none=>qX5 zs x k
  | some z=>if qJ1 z.st x=true then qCO z.r (qX5 zs x k) else qX5 zs x k
def sgL(zs:List ShI)(x:StI):List Int:=qX5 zs x zs.length
theorem QZ5{zs:List ShI}{x:StI}{k:Nat}{z:ShI}(hz:zs[k]?=some z)(h:qJ1 z.st x=true):qX5 zs x (k+1)=qCO z.r (qX5 zs x k):=by
 rw[qX5,hz];exact gK h
theorem QN9{zs:List ShI}{x:StI}{k:Nat}{z:ShI}(hz:zs[k]?=some z)(h:qJ1 z.st x=false):qX5 zs x (k+1)=qX5 zs x k:=by
 rw[qX5,hz];exact gI (by rw[h];simp)
theorem qMO(zs:List ShI)(x:StI)(k:Nat):Up (qX5 zs x k):=by
 induction k with
 | zero=>exact List.Pairwise.nil
 | succ k ih =>
  unfold qX5;split
  .exact ih
  .split
   .exact qLq _ _ ih
   .exact ih
theorem qEJ(zs:List ShI)(x:StI)(k:Nat):(qX5 zs x k).length<=k:=by
 induction k with
 | zero=>exact gB _
 | succ k ih =>
  unfold qX5;split
  .omega
  .split
   .have:=qKe (by assumption:ShI).r (qX5 zs x k);omega
   .omega
theorem qKE(zs:List ShI)(x:StI)(i:Int)(k:Nat):i∈qX5 zs x k↔qNT i x∈zs.take k:=by
 induction k with
 | zero=>simp[qX5]
 | succ k ih =>
  have hS:qNT i x∈zs.take (k+1)↔(qNT i x∈zs.take k\/zs[k]?=some (qNT i x)):=by
   rw[qW2,qW2];constructor
   .rintro⟨j,hj,e⟩;by_cases q:j=k
    .subst q;exact .inr e
    .exact .inl ⟨j,by omega,e⟩
   .rintro (⟨j,hj,e⟩ | e)
    .exact⟨j,by omega,e⟩
    .exact⟨k,by omega,e⟩
  rw[hS,<- ih];cases e:zs[k]? with
  | none=>rw[qX5,e];simp
  | some z =>
   by_cases q:qJ1 z.st x=true
   .rw[QZ5 e q,qAF];have hst:z.st=x:=by unfold qJ1 at q;exact kK q
    constructor
    .rintro (h | h)
     .exact .inr (by rw[qMM.2 ⟨hst,h.symm⟩])
     .exact .inl h
    .rintro (h | h)
     .exact .inr h
     .exact .inl (qMM.1 (gJ h)).2.symm
   .rw[QN9 e (by simpa using q)];constructor
    .intro h;exact .inl h
    .rintro (h | h)
     .exact h
     .exact absurd (by unfold qJ1;exact jQ (qMM.1 (gJ h)).1) q
theorem qMe(zs:List ShI)(x:StI)(i:Int):i∈sgL zs x↔qNT i x∈zs:=by
 unfold sgL;rw[qKE,gV (gB _)]
theorem qNn(zs:List ShI)(x:StI):Up (sgL zs x):=qMO zs x _
theorem qCg(zs:List ShI)(x:StI):(sgL zs x).length<=zs.length:=qEJ zs x _
def QU9(zs:List ShI)(x:StI):Int:=if 120<zs.length then 2 else qB5 x
def qHO(zs:List ShI)(x:StI):List Int:=if QU9 zs x=0 then sgL zs x else []
def QS0(f:Int)(zs:List ShI)(x:StI):Int:=if qF2 f zs=0 then (if qB5 x=0 then (if ((sgL zs x).length:Int)<2*f+1 then 7 else 0) else qB5 x) else qF2 f zs
def isB(f:Int)(zs:List ShI)(x:StI):Bool:=(QS0 f zs x==0)
section
open Go.RowKit Go.Shelf Go.Maps Go.Sort Go.Proofs Go.Lib
attribute [local go_sem] Oper.semAt_some
attribute [local go_sem] QL5
attribute [local simp] QL5
set_option linter.unusedVariables false
set_option linter.unusedSimpArgs false
theorem Tryz.infoI2:(prog.info? 2).map (fun i=>(i.zero,i.size,i.bytes))=some (some (iv 0),1,8):=by kernel_rfl
abbrev qX7(w:World)(B:Nat)(v:Value)(ys:List Int):Prop:=w.ownsRow B 2 1 v ys.length (ys.map (Value.int .i64))
theorem qMQ(n:Nat)(hn:3<=n)(Bm b N:Nat)(p:Int->Bool)(w:World)(hN:N<=1000)(hBm:Bm<w.heap.size)(hm:w.cell? ⟨Bm,0,none⟩=some (.map (some b)))(h:SM w b N p):
  CallsIn Fence.wide n prog 292 #[.slice none 0 0,.func (.func 282) #[] #[.pointer (some ⟨Bm,0,none⟩)]] w fun e W'=>∃v ys,e=.returned v/\QL4 p ys/\qX7 W' w.heap.size v ys/\Below w.heap.size w W':=by
 have h1:1<=n:=by omega
 obtain⟨i0,hi,hz0,hz1,hz2⟩:=jT Tryz.infoI2;refine callsIn_of_wp_marks func292 rfl trivial ?_ rfl;simp only[ntmps292,kO,jX,List.length_nil,Nat.reduceAdd,Nat.reduceSub,Array.replicate_succ,Array.replicate_zero,List.push_toArray,List.append_toArray,kR,List.cons_append];gi_wp2
 have bL:=Boxed.new w 23 (.slice none 0 0);obtain⟨W0,hW0⟩:∃W0,w.alloc (.cells #[.slice none 0 0] 23)=W0:=⟨_,rfl⟩;have hsz:W0.heap.size=w.heap.size+1:=by rw[<- hW0];simp
 have hB0:Below w.heap.size w W0:=by rw[<- hW0];exact (gC _ w).alloc (gB _) _
 rw[hW0]at bL ⊢
 have HB0:=hJJ hB0;have hG0:=h.below h.lt hB0;have hm0:=(hB0.cell (p:=⟨Bm,0,none⟩) hBm).trans hm;clear hW0 hB0
 refine wpIn_rangeFunc_ownH rfl h1 (gf:=282) (lb:=#[.pointer (some ⟨Bm,0,none⟩)]) rfl trivial (enters_of func282 (by kernel_rfl) rfl)
  (qCd (n-1) (by omega) Bm b N p W0 hN (by omega) hm0 hG0) (Kp:=KeepsWalks) walksK_t (fun W l o o' hl h hc hw=>KeepsWalks.putObj _ h hw) (gC _ _) (fun _=>rfl)
  (fun pre W=>(∃v,Boxed W w.heap.size 23 v/\W.ownsRow w.heap.size 2 1 v pre.length (pre.map (Value.int .i64))/\True)/\Below w.heap.size W0 W)
  (fun _ _ _=>False)
  (OwnFrom.and (Own.from (holdsRow_own w.heap.size w.heap.size 23 2 1 (fun pre:List Int=>pre.length) (fun pre=>pre.map (Value.int .i64)) (fun _ _=>True)) _) (ownFrom_below (by omega) (by omega)))
  (fun _ _ _ _ _ hs _ _=>hs)
  ⟨⟨_,bL,jB _ _ _ _,trivial⟩,gC _ _⟩
  (fun x a' W=>∃u7,a' = { tmps:=#[.slice none 0 0,.func (.func 282) #[] #[.pointer (some ⟨Bm,0,none⟩)],.pointer (some ⟨w.heap.size,0,none⟩),undef,.slice none 0 0,iv x,.func (.func 282) #[] #[.pointer (some ⟨Bm,0,none⟩)],u7,undef,undef,undef,undef,undef],defers:=[] })
  (fun x a' s X Y row hs hg hr=>hs) ?assign ?body ?done ?stop
 case assign =>
  rintro l pre x W K ⟨⟨v,hv,hrow,_⟩,hB⟩ hK;have hKK:=fun u7=>hK { tmps:=#[.slice none 0 0,.func (.func 282) #[] #[.pointer (some ⟨Bm,0,none⟩)],.pointer (some ⟨w.heap.size,0,none⟩),undef,.slice none 0 0,iv x,.func (.func 282) #[] #[.pointer (some ⟨Bm,0,none⟩)],u7,undef,undef,undef,undef,undef],defers:=[] } W ((KeepsOthers.refl W).from _) (KeepsWalks.refl W) ⟨⟨v,hv,hrow,trivial⟩,hB⟩ ⟨u7,rfl⟩
  clear hK;gi_wp2
  exact hKK _
 case body =>
  rintro l pre x a' W hlw hlo ⟨⟨v,hv,hrow,_⟩,hB⟩ ⟨u7,rfl⟩ hlt;have hc:=hv.cell;have hWs:=hB.size;gi_wp2_with (gi_at_builtin;refine wpListIn_append_own _ rfl _ _ 23 rfl w.heap.size 2 i0 (iv 0) 1 8 underlying23 hi hz0 hz1 hz2 rfl (by decide) _ _ _ rfl (hrow.alloc _) ⟨W.heap.size,0,none⟩ 1 1 [iv x] rfl rfl (World.news_of_block (World.alloc_heap_new W _)) (by simp[Value.oneCell']) (by unfold maxLen;omega) (by omega) (by simp;omega) ?_;intro v' w1 hown' hgrow _;obtain⟨g',cap',rfl⟩:=ownsRow_succ hown';obtain⟨hv1,hv2,hr2,hk2,hb2⟩:=hv.appended (by decide) hrow (by omega) (gB _) hown' hgrow;have hc1:=hv1.cell;have hf1:=hv1.frozen)
  exact⟨hk2.from _,hk2.walks,⟨_,hv2,by simpa using hr2,trivial⟩,hB.trans hb2⟩
 case done =>
  rintro D ys W hD hys ⟨⟨v,hv,hrow,_⟩,hB⟩ hK;have hc:=hv.cell;gi_wp2
  refine⟨by simp,.inl ⟨_,_,rfl,run_takeDeferred hK,?_⟩⟩;refine⟨v,?res,v,ys,rfl,hys,?own,?below⟩
  case res=>simp[results,results292,go_sem]
  case own=>exact ownsRow_putObj hrow _ hK rfl
  case below=>exact (HB0.out.trans hB).trans (belowK_b (w:=w) (gB _) _ D _ _ (by omega) hK rfl rfl)
 case stop =>
  rintro D c pre W _ _ h _;exact h.elim
theorem qMR(Bm b N:Nat)(p:Int->Bool)(w:World)(hN:N<=1000)(hBm:Bm<w.heap.size)(hm:w.cell? ⟨Bm,0,none⟩=some (.map (some b)))(h:SM w b N p):
  CP 292 #[.slice none 0 0,.func (.func 282) #[] #[.pointer (some ⟨Bm,0,none⟩)]] w fun e W'=>∃v ys,e=.returned v/\QL4 p ys/\qX7 W' w.heap.size v ys/\Below w.heap.size w W' :=
 callsIn_wide.1 (qMQ 3 (gB _) Bm b N p w hN hBm hm h)
theorem qFb(Bm b N:Nat)(p:Int->Bool)(w:World)(hN:N<=1000)(hBm:Bm<w.heap.size)(hm:w.cell? ⟨Bm,0,none⟩=some (.map (some b)))(h:SM w b N p):
  CP 280 #[.func (.func 282) #[] #[.pointer (some ⟨Bm,0,none⟩)]] w fun e W'=>∃v ys,e=.returned v/\QL4 p ys/\qX7 W' w.heap.size v ys/\Below w.heap.size w W':=by
 go_enter func280,ntmps280;go_wp2_with (first | (go_at_call 292;refine (qMR Bm b N p _ hN hBm hm h).mono ?_;rintro e w1 ⟨v,ys,rfl,hk,ho,hb⟩) | go_in)
 go_ret;exact⟨v,ys,rfl,hk,ho,hb⟩
theorem qML(b:Nat)(w:World):
  CP 264 #[.map (some b)] w fun e w'=>e=.returned (.func (.func 282) #[] #[.pointer (some ⟨w.heap.size,0,none⟩)])/\w.alloc (.cells #[.map (some b)] 301)=w' :=
 callsIn_wide.1 (qJj 3 b w)
theorem QG3{w:World}{B B':Nat}{v:Value}{ys:List Int}(h:qX7 w B v ys)(hB:B'<=B):qX7 w B' v ys:=by
 refine⟨h.1,?_⟩;rcases h.2 with q | ⟨g,cap,cur,e,hg,rest⟩
 .exact .inl q
 .exact .inr ⟨g,cap,cur,e,jF hB hg,rest⟩
theorem QW2(xs ys:List Int)(hn:xs.Nodup)(h:∀x∈xs,x∈ys):xs.length<=ys.length:=by
 induction xs generalizing ys with
 | nil=>simp
 | cons x xs ih =>
  obtain⟨h1,h2⟩:=List.nodup_cons.1 hn;have hx:=h x (by simp);have:=ih (ys.erase x) h2 (fun y hy=>(List.mem_erase_of_ne (fun e=>h1 (by rw[<- e];exact hy))).2 (h y (List.mem_cons_of_mem _ hy)));rw[List.length_erase_of_mem hx]at this;have : 0<ys.length:=List.length_pos_of_mem hx;simp;omega
theorem QG7(x y:Int):ltOf qFA x y=decide (x<y):=by
 unfold ltOf qFA;rw[kX];simp only[jV];split <;> (repeat' split) <;> omega
theorem qJc:SWO (ltOf qFA) where
 irrefl x:=by rw[QG7];simp
 trans x y z h1 h2:=by rw[QG7]at *;simp at *;omega
 ntrans x y z h1 h2:=by rw[QG7]at *;simp at *;omega
theorem qKm(blk off size:Nat)(w:World):CmpLays1 prog 189 #[] (Value.int .i64) qFA blk off size w:=fun m os dk _ x y =>
 (qQ2 x y _).mono fun e w' h=>⟨h.1,0,#[],by rw[<- h.2,grow_empty];rfl⟩
theorem qBN{w:World}{B g cap q:Nat}{os:Array Obj}{xs ys:List Int}(h:qX7 w B (.slice (some ⟨g,0,none⟩) xs.length cap) xs)(hl:ys.length=xs.length):
  qX7 (sortWorld (Value.int .i64) w g 0 q ys.toArray os) B (.slice (some ⟨g,0,none⟩) ys.length cap) ys/\w.grownBy (sortWorld (Value.int .i64) w g 0 q ys.toArray os) (some g):=by
 have h0:w.ownsRow B 2 1 (.slice (some ⟨g,0,none⟩) xs.length cap) xs.length (xs.map (Value.int .i64)):=h;rcases h0.2 with⟨e0,_⟩ | ⟨g',cap',cur,e0,hb,hg,hn,hm,hs,ht⟩
 .cases e0
 .injection e0 with e1 _ e3
  injection e1 with e1
  injection e1 with e1
  subst e1;subst e3;have hgl:g<w.heap.size:=(gN.1 hg).1;unfold sortWorld;refine⟨⟨by simp,.inr ⟨g,cap,putCells (Value.int .i64) 0 ys.toArray cur,rfl,hb,?_,by omega,hm,by simpa[putCells] using hs,?_⟩⟩,⟨rfl,rfl,rfl,by simp,fun k hk hne=>?_⟩⟩
  .rw[heap_grow_old _ _ (by simpa using hgl)];simp[putRow,mapBlock,Sort.ahead,Array.getElem?_modify,hg,onCells]
  .apply List.ext_getElem?;intro j;by_cases hj:j<ys.length
   .rw[List.getElem?_take_of_lt (by omega),Array.getElem?_toList];have hjc:j<cur.size:=by rw[hs];omega
    simp[putCells,hjc,hj]
   .rw[List.getElem?_take_eq_none (by omega),gE (by simp;omega)]
  .rw[heap_grow_old _ _ (by simpa using hk)];have : g≠k:=fun e=>hne (by rw[e])
   simp[putRow,mapBlock,Sort.ahead,Array.getElem?_modify,this]
theorem qJh(g cap B:Nat)(xs:List Int)(w:World)(h:qX7 w B (.slice (some ⟨g,0,none⟩) xs.length cap) xs)(hx:xs.length<=100000):
  CP 281 #[.slice (some ⟨g,0,none⟩) xs.length cap,.func (.func 189) #[] #[]] w fun e w'=>e=.returned (.tuple #[])/\∃ys:List Int,ys.length=xs.length/\(∀x,x∈ys↔x∈xs)/\ys.Pairwise (fun a b=>¬ b<a)/\qX7 w' B (.slice (some ⟨g,0,none⟩) ys.length cap) ys/\Below B w w':=by
 have h0:w.ownsRow B 2 1 (.slice (some ⟨g,0,none⟩) xs.length cap) xs.length (xs.map (Value.int .i64)):=h;have hlt:=(h0.lt g rfl)
 have hH:Holds (Value.int .i64) w g 0 xs.toArray:=by
  intro j hj;have hj':j<xs.length:=by simpa using hj
  refine⟨?_,by rw[gG];exact h0.frozenAt j⟩;rw[gG,h0.cellAt j (by omega),getElem!_pos _ j hj];simp[hj']
 have eg:∀args w,(callFunc 189 args).run prog w=.ok (.enter 189 args) w:=enters_of func189 (by kernel_rfl) rfl;have hcon:=Any.slices_SortFunc Tryz.sortInt (Value.int .i64) (fun _=>rfl) qFA qJc 189 #[] g 0 cap xs.toArray w eg (qKm g 0 xs.toArray.size w) hH hlt.2 (by simp;omega);change CP 281 _ _ _ at hcon
 simp only[kO]at hcon;refine hcon.mono ?_;rintro e w' ⟨rfl,d',q,os,hp,hs,rfl⟩;obtain⟨hsz,_,hperm⟩:=hp;have hsz':d'.toList.length=xs.length:=by simpa using hsz
 have hperm':d'.toList.Perm xs:=by
  have h1:=hperm;simp[hsz]at h1;rw[gV (by omega)]at h1;exact h1
 have ed:d'=d'.toList.toArray:=by simp
 obtain⟨ho,hgr⟩:=qBN (q:=q) (os:=os) h hsz';rw[<- ed]at ho hgr;refine⟨rfl,d'.toList,hsz',fun x=>hperm'.mem_iff,?_,ho,(gC B w).grown hgr (by have:=hlt.1;omega) (fun k e=>by cases e;exact hlt.1)⟩;rw[jU];intro i j hi hj hij;have:=hs i j (gH _) hij (by omega);rw[QG7,getElem!_pos _ _ (by simpa using hj),getElem!_pos _ _ (by simpa using hi)]at this;simpa using this
theorem qFV(fv:Value)(w:World):CP 281 #[.slice none 0 0,fv] w fun e w'=>e=.returned (.tuple #[])/\Below w.heap.size w w':=by
 have h:=AnyF.slices_SortFunc_none Tryz.sortInt0 none 0 fv w;change CP 281 _ _ _ at h
 exact h.mono (fun e w' ⟨h1,h2⟩=>⟨h1,by rw[h2];exact gC _ _⟩)
theorem QJ6{xs ys:List Int}(hl:ys.length=xs.length)(hm:∀x,x∈ys↔x∈xs)(hs:ys.Pairwise (fun a b=>¬ b<a))(hn:xs.Nodup):Up ys:=by
 have hnd:ys.Nodup:=by
  refine List.nodup_iff_count.2 (fun a=>?_)
  exact Classical.byContradiction fun q=>by
   have h2:2<=ys.count a:=by omega
   have hsub:=QW2 xs (ys.erase a) hn (fun x hx=>by
    by_cases e:x=a
    .subst e;exact List.count_pos_iff.1 (by rw[List.count_erase_self];omega)
    .exact (List.mem_erase_of_ne e).2 ((hm x).2 hx))
   have ha:a∈ys:=List.count_pos_iff.1 (by omega);rw[List.length_erase_of_mem ha]at hsub;have : 0<ys.length:=List.length_pos_of_mem ha;omega
 refine jU.2 (fun i j hi hj hij=>?_);have h1:=jU.1 hs i j hi hj hij
 have h2:ys[i]≠ys[j]:=fun e=>by
  have:=jU.1 hnd i j hi hj hij;exact this e
 omega
theorem QZ0(Bm b N:Nat)(p:Int->Bool)(w:World)(hN:N<=1000)(hBm:Bm<w.heap.size)(hm:w.cell? ⟨Bm,0,none⟩=some (.map (some b)))(h:SM w b N p)(hlen:∀ys,QL4 p ys->ys.length<=1000):
  CP 263 #[.func (.func 282) #[] #[.pointer (some ⟨Bm,0,none⟩)],.func (.func 189) #[] #[]] w fun e W'=>∃v ys,e=.returned v/\Up ys/\QL4 p ys/\qX7 W' w.heap.size v ys/\Below w.heap.size w W':=by
 go_enter func263,ntmps263;go_wp2_with fail
 refine (qFb Bm b N p _ hN hBm hm h).mono ?_;rintro e w1 ⟨v,ys,rfl,hk,ho,hb⟩;have hle:=hlen ys hk;have ho0:w1.ownsRow w.heap.size 2 1 v ys.length (ys.map (Value.int .i64)):=ho;rcases ho0.2 with⟨rfl,h0⟩ | ⟨g,cap,cur,rfl,_⟩
 .have hy:ys=[]:=List.eq_nil_of_length_eq_zero h0;subst hy;go_wp2_with fail
  refine (qFV _ _).mono ?_;rintro e w2 ⟨rfl,hb2⟩;go_wp2;go_ret;exact⟨_,[],rfl,List.Pairwise.nil,hk,jB _ _ _ _,hb.trans (hb2.mono hb.size)⟩
 .go_wp2_with fail
  refine (qJh g cap w.heap.size ys _ ho (by omega)).mono ?_;rintro e w2 ⟨rfl,zs,hl,hsm,hp,ho2,hb2⟩;have HO:Hid (qX7 w2 w.heap.size (.slice (some ⟨g,0,none⟩) ys.length cap) zs):=by show qX7 _ _ _ _;rw[<- hl];exact ho2
  have HU:Hid (Up zs/\QL4 p zs):=⟨QJ6 hl hsm hp hk.1,qJR (QJ6 hl hsm hp hk.1),fun i hi=>hk.2.1 i ((hsm i).1 hi),fun i hi=>(hsm i).trans (hk.2.2 i hi)⟩;clear hp hsm hl ho2;go_wp2;go_ret;exact⟨.slice (some ⟨g,0,none⟩) ys.length cap,zs,rfl,HU.out.1,HU.out.2,HO.out,hb.trans hb2⟩
theorem qMK(b N:Nat)(p:Int->Bool)(w:World)(hN:N<=1000)(h:SM w b N p)(hlen:∀ys,QL4 p ys->ys.length<=1000):
  CP 246 #[.map (some b),.func (.func 189) #[] #[]] w fun e W'=>∃v ys,e=.returned v/\Up ys/\QL4 p ys/\qX7 W' w.heap.size v ys/\Below w.heap.size w W':=by
 have hlt:=h.lt;go_enter func246,ntmps246;go_wp2_with fail
 refine (qML b _).mono ?_;rintro e w1 ⟨rfl,hw1⟩;have hb1:Below w.heap.size w w1:=by rw[<- hw1];exact zN
 have hc1:w1.cell? ⟨w.heap.size,0,none⟩=some (.map (some b)):=by rw[<- hw1];simp
 have hs1:w.heap.size<w1.heap.size:=by rw[<- hw1];simp
 have hG1:=h.below hlt hb1;clear hw1;go_wp2_with fail
 refine (QZ0 w.heap.size b N p _ hN hs1 hc1 hG1 hlen).mono ?_;rintro e w2 ⟨v,ys,rfl,hup,hk,ho,hb2⟩;go_wp2;go_ret;exact⟨v,ys,rfl,hup,hk,QG3 ho (by omega),hb1.trans (hb2.mono (by omega))⟩
end
section
theorem qHS(a0 a1 a2 a3 a4 a5 b0 b1 b2 b3 b4 b5:Int):QA5 ⟨a0,a1,a2,a3,a4,a5⟩ ⟨b0,b1,b2,b3,b4,b5⟩=(a0==b0&&a1==b1&&a2==b2&&a3==b3&&a4==b4&&a5==b5):=by
 unfold QA5;rw[kX];simp only[jV,ShI.mk.injEq,jY,beq_iff_eq];constructor
 .rintro⟨h0,h1,h2,h3,h4,h5⟩;exact⟨⟨⟨⟨⟨h0,h1⟩,h2⟩,h3⟩,h4⟩,h5⟩
 .rintro⟨⟨⟨⟨⟨h0,h1⟩,h2⟩,h3⟩,h4⟩,h5⟩;exact⟨h0,h1,h2,h3,h4,h5⟩
theorem qNi(x y:ShI)(w:World):(binOp .eql 121 (.agg #[iv x.r,iv x.k,iv x.e,iv x.f,iv x.s,iv x.n]) (.agg #[iv y.r,iv y.k,iv y.e,iv y.f,iv y.s,iv y.n])).run prog w=.ok (.bool (QA5 x y)) w:=by
 obtain⟨a0,a1,a2,a3,a4,a5⟩:=x;obtain⟨b0,b1,b2,b3,b4,b5⟩:=y;simp only;rw[qHS];cases e0:(a0==b0)
 .simp[go_sem,e0]
 cases e1:(a1==b1)
 .simp[go_sem,e0,e1]
 cases e2:(a2==b2)
 .simp[go_sem,e0,e1,e2]
 cases e3:(a3==b3)
 .simp[go_sem,e0,e1,e2,e3]
 cases e4:(a4==b4)
 .simp[go_sem,e0,e1,e2,e3,e4]
 cases e5:(a5==b5)
 .simp[go_sem,e0,e1,e2,e3,e4,e5]
 .simp[go_sem,e0,e1,e2,e3,e4,e5]
attribute [local go_sem ↓] qNi
theorem QH9.new(w:World)(x:ShI)(t:TypeId):QH9 (w.alloc (.cells #[iv x.r,iv x.k,iv x.e,iv x.f,iv x.s,iv x.n] t)) w.heap.size 0 x:=by
 refine⟨?_,?_,?_,?_,?_,?_⟩ <;> simp
theorem QH9.stat{w:World}{b o:Nat}{x:ShI}(h:QH9 w b o x):qM9 w b (o+1) x.st:=⟨h.2.1,h.2.2.1,h.2.2.2.1,h.2.2.2.2.1,h.2.2.2.2.2⟩
theorem qX6.take{w:World}{a:Option Addr}{n:Nat}{zs:List ShI}(h:qX6 w a n zs){k:Nat}(hk:k<=n):qX6 w a k (zs.take k):=by
 have hz:=h.1;refine⟨by simp;omega,fun hp=>?_⟩;obtain⟨b,off,e,q⟩:=h.2 (by omega);refine⟨b,off,e,fun j x hx=>?_⟩;rw[jJ]at hx;split at hx
 .exact q j x hx
 .cases hx
theorem qMo(a:Option Addr)(n cap:Nat)(zs:List ShI)(x:ShI)(w:World)(hn:n<=1048576)(h:qX6 w a n zs):
  CP 182 #[.slice a n cap,.agg #[iv x.r,iv x.k,iv x.e,iv x.f,iv x.s,iv x.n]] w fun e w'=>e=.returned (.bool (QB1 zs x))/\Below w.heap.size w w':=by
 have hz:=hJJ h.1;have hn':(n:Int)<=1048576:=by omega
 obtain⟨w0,hw0⟩:∃w0,w0=w.alloc (.cells #[iv x.r,iv x.k,iv x.e,iv x.f,iv x.s,iv x.n] 121):=⟨_,rfl⟩;have hb0:Below w.heap.size w w0:=by rw[hw0];exact zN
 have hs0:w.heap.size<w0.heap.size:=by rw[hw0];simp
 have HB0:=hJJ hb0;have H:Hid (qX6 w0 a n zs):=h.below hb0;have HY:Hid (QH9 w0 w.heap.size 0 x):=by rw[hw0];exact QH9.new w x _
 clear h hb0;go_enter func182,ntmps182;go_wp2;rw[<- hw0];clear hw0;go_loopw [5] (fun i wr=>∃k:Nat,k<=n/\i=iv (k:Int)/\¬ x∈zs.take k/\Below w0.heap.size w0 wr) (fun i _=>n-(intOf i).toNat)
 case atStart=>exact⟨0,gH _,rfl,by simp,gC _ _⟩
 case round =>
  obtain⟨k,hk,rfl,hm,hnx⟩:=hrel;have HM:=hJJ hm;have BN:Hid (Below w.heap.size w wr):=HB0.out.trans (hnx.mono (by omega));clear hm;by_cases hlt:k<n
  .obtain⟨g,off,y,rfl,hs,hxa,hgl⟩:=H.out.at hlt
   have HS:=hJJ hs;obtain⟨g0,g1,g2,g3,g4,g5⟩:=hxa.below hnx hgl;obtain⟨y0,y1,y2,y3,y4,y5⟩:=HY.out.below hnx hs0;simp only[gG]at y0 y1 y2 y3 y4 y5;have hbw:g<wr.heap.size:=gD hgl hnx.size;have hyw:w.heap.size<wr.heap.size:=gD hs0 hnx.size;have hlt':(k:Int)<(n:Int):=by omega
   clear hs hxa;cases hsame:QA5 y x
   .have HN:Hid (¬ x∈zs.take (k+1)):=by
     show ¬ x∈zs.take (k+1)
     rw[qW2];rintro⟨j,hj,hjs⟩;by_cases e:j=k
     .subst e;rw[HS.out]at hjs;simp[QA5]at hsame;exact hsame (gJ hjs)
     .exact HM.out (qW2.2 ⟨j,by omega,hjs⟩)
    go_wp2;go_quiet (fail)
    go_wp2;exact⟨⟨k+1,by omega,by go_num,HN.out,below_drewN hnx _⟩,by simp[intOf];omega⟩
   .have HI:Hid (QB1 zs x=true):=by
     show QB1 zs x=true
     simp[QA5]at hsame;subst hsame;exact QH3.2 (gO HS.out)
    go_wp2;go_quiet (fail)
    go_wp2;go_ret;exact⟨by rw[HI.out];rfl,below_drewN BN.out _⟩
  .have hkn:k=n:=by omega
   subst hkn
   have HN:Hid (QB1 zs x=false):=by
    show QB1 zs x=false
    have:=HM.out;rw[gV (by rw[hz.out];exact gB _)]at this;cases q:QB1 zs x
    .rfl
    .exact absurd (QH3.1 q) this
   go_wp2;go_ret;exact⟨by rw[HN.out];rfl,BN.out⟩
theorem qFZ(a:Option Addr)(n cap:Nat)(zs:List ShI)(x:ShI)(w:World)(hn:n<=1048576)(h:qX6 w a n zs):
  CP 194 #[.slice a n cap,.agg #[iv x.r,iv x.k,iv x.e,iv x.f,iv x.s,iv x.n]] w fun e w'=>(∃i:Int,e=.returned (iv i)/\((0<=i/\x∈zs)\/(i = -1/\¬ x∈zs)))/\Below w.heap.size w w':=by
 have hz:=hJJ h.1;have hn':(n:Int)<=1048576:=by omega
 obtain⟨w0,hw0⟩:∃w0,w0=w.alloc (.cells #[iv x.r,iv x.k,iv x.e,iv x.f,iv x.s,iv x.n] 121):=⟨_,rfl⟩;have hb0:Below w.heap.size w w0:=by rw[hw0];exact zN
 have hs0:w.heap.size<w0.heap.size:=by rw[hw0];simp
 have HB0:=hJJ hb0;have H:Hid (qX6 w0 a n zs):=h.below hb0;have HY:Hid (QH9 w0 w.heap.size 0 x):=by rw[hw0];exact QH9.new w x _
 clear h hb0;go_enter func194,ntmps194;go_wp2;rw[<- hw0];clear hw0;go_loopw [8] (fun i wr=>∃k:Nat,k<=n/\i=iv (k:Int)/\¬ x∈zs.take k/\Below w0.heap.size w0 wr) (fun i _=>n-(intOf i).toNat)
 case atStart=>exact⟨0,gH _,rfl,by simp,gC _ _⟩
 case round =>
  obtain⟨k,hk,rfl,hm,hnx⟩:=hrel;have HM:=hJJ hm;have BN:Hid (Below w.heap.size w wr):=HB0.out.trans (hnx.mono (by omega));clear hm;by_cases hlt:k<n
  .obtain⟨g,off,y,rfl,hs,hxa,hgl⟩:=H.out.at hlt
   have HS:=hJJ hs;obtain⟨g0,g1,g2,g3,g4,g5⟩:=hxa.below hnx hgl;obtain⟨y0,y1,y2,y3,y4,y5⟩:=HY.out.below hnx hs0;simp only[gG]at y0 y1 y2 y3 y4 y5;have hbw:g<wr.heap.size:=gD hgl hnx.size;have hyw:w.heap.size<wr.heap.size:=gD hs0 hnx.size;have hlt':(k:Int)<(n:Int):=by omega
   clear hs hxa;cases hsame:QA5 x y
   .have HN:Hid (¬ x∈zs.take (k+1)):=by
     show ¬ x∈zs.take (k+1)
     rw[qW2];rintro⟨j,hj,hjs⟩;by_cases e:j=k
     .subst e;rw[HS.out]at hjs;simp[QA5]at hsame;exact hsame (gJ hjs).symm
     .exact HM.out (qW2.2 ⟨j,by omega,hjs⟩)
    go_wp2;go_quiet (fail)
    go_wp2;exact⟨⟨k+1,by omega,by go_num,HN.out,below_drewN hnx _⟩,by simp[intOf];omega⟩
   .have HI:Hid (x∈zs):=by
     show x∈zs
     simp[QA5]at hsame;subst hsame;exact gO HS.out
    go_wp2;go_quiet (fail)
    go_wp2;go_ret;exact⟨⟨_,rfl,Or.inl ⟨by omega,HI.out⟩⟩,below_drewN BN.out _⟩
  .have hkn:k=n:=by omega
   subst hkn
   have HN:Hid (¬ x∈zs):=by
    have:=HM.out;rw[gV (by rw[hz.out];exact gB _)]at this;exact this
   go_wp2;go_ret;exact⟨⟨_,rfl,Or.inr ⟨rfl,HN.out⟩⟩,BN.out⟩
theorem QZ4(a:Option Addr)(n cap:Nat)(zs:List ShI)(x:ShI)(w:World)(hn:n<=1048576)(h:qX6 w a n zs):
  CP 148 #[.slice a n cap,.agg #[iv x.r,iv x.k,iv x.e,iv x.f,iv x.s,iv x.n]] w fun e w'=>e=.returned (.bool (QB1 zs x))/\Below w.heap.size w w':=by
 have H:Hid (qX6 (w.alloc (.cells #[iv x.r,iv x.k,iv x.e,iv x.f,iv x.s,iv x.n] 121)) a n zs):=h.below (zN);clear h;go_enter func148,ntmps148;go_wp2_with fail
 refine (qFZ a n cap zs x _ hn H.out).mono ?_;rintro e w1 ⟨⟨i,rfl,hi⟩,hb1⟩
 have HX:Hid (decide (0<=i)=QB1 zs x):=by
  show decide (0<=i)=QB1 zs x
  cases q:QB1 zs x
  .have hq:¬ x∈zs:=fun m=>by rw[QH3.2 m]at q;cases q
   rcases hi with⟨_,h2⟩ | ⟨rfl,_⟩
   .exact absurd h2 hq
   .rfl
  .have hq:=QH3.1 q;rcases hi with⟨h1,_⟩ | ⟨_,h2⟩
   .simp[h1]
   .exact absurd hq h2
 clear hi;go_wp2;go_ret;exact⟨by rw[HX.out];rfl,((gC w.heap.size w).alloc (gB _) _).trans (hb1.mono (by simp))⟩
end
def qAm(fn:Nat)(a:Option Addr)(n cap:Nat)(f c:Int)(w:World):Prop:=Calls prog fn #[.slice a n cap,iv f] w fun e w'=>e=.returned (iv c)/\Below w.heap.size w w'
theorem qIJ(a:Option Addr)(n cap:Nat)(zs:List ShI)(f:Int)(w:World)(hn:n<=1048576)(hcap:n<=cap)(hcm:cap<=maxLen)(h:qX6 w a n zs):qAm 134 a n cap f (qF2 f zs) w:=by
 have H:=hJJ h;have HZ:=hJJ h.1;have hn':(n:Int)<=1048576:=by omega
 unfold qAm;clear h;cases hf:inR f 1 2
 .have HC:Hid (qF2 f zs=3):=by show qF2 f zs=3;unfold qF2;rw[gI (by rw[hf];simp)]
  have HF:=hJJ hf;clear hf;rw[HC.out];go_enter func134,ntmps134;go_wp2_with (first | (go_at_call 177;refine (qIM _ _).mono ?_;rintro e w' ⟨rfl,rfl⟩;rw[HF.out]))
  go_ret;exact⟨rfl,gC _ _⟩
 .obtain⟨hf1,hf2⟩:=(qD3 f 1 2).1 hf;have HF:=hJJ hf;by_cases hl:120<n
  .have HC:Hid (qF2 f zs=2):=by show qF2 f zs=2;unfold qF2;rw[gK hf,gK (by rw[HZ.out];exact hl)]
   have hl':(120:Int)<(n:Int):=by omega
   clear hf;rw[HC.out];go_enter func134,ntmps134;go_wp2_with (first | (go_at_call 177;refine (qIM _ _).mono ?_;rintro e w' ⟨rfl,rfl⟩;rw[HF.out]))
   go_ret;exact⟨rfl,gC _ _⟩
  .have HC:Hid (qF2 f zs=qZ5 f zs n):=by show qF2 f zs=_;unfold qF2;rw[gK hf,gI (by rw[HZ.out];exact hl),HZ.out]
   have hl':¬ ((120:Int)<(n:Int)):=by omega
   clear hf;rw[HC.out];go_enter func134,ntmps134;go_wp2_with (first | (go_at_call 177;refine (qIM _ _).mono ?_;rintro e w' ⟨rfl,rfl⟩;rw[HF.out]))
   go_loopw [5] (fun i wr=>∃k:Nat,k<=n/\i=iv (k:Int)/\qZ5 f zs k=0/\Below w.heap.size w wr) (fun i _=>n-(intOf i).toNat)
   case atStart=>exact⟨0,gH _,rfl,rfl,gC _ _⟩
   case round =>
    obtain⟨k,hk,rfl,hz,hnx⟩:=hrel;have HK0:=hJJ hz;clear hz;by_cases hlt:k<n
    .obtain⟨b,off,x,rfl,hx,hxa,hbl⟩:=H.out.at hlt
     have hlt':(k:Int)<(n:Int):=by omega
     have hxw:=hxa.below hnx hbl;have HX:=hJJ hxw;have hbw:b<wr.heap.size:=gD hbl hnx.size;have HN:Hid (qZ5 f zs (k+1)=qCf f (zs.take k) x):=QN8 hx HK0.out;have HT:Hid (qX6 wr (some ⟨b,off,none⟩) k (zs.take k)):=(H.out.below hnx).take hk;obtain⟨x0,x1,x2,x3,x4,x5⟩:=hxw;clear hx hxa;obtain⟨t,ht⟩:∃t,inR x.r 1 (3*f+1)=t:=⟨_,rfl⟩;have HTR:=hJJ ht;obtain⟨c,hc⟩:∃c,qB5 x.st=c:=⟨_,rfl⟩;have HSC:=hJJ hc;obtain⟨u,hu⟩:∃u,QB1 (zs.take k) x=u:=⟨_,rfl⟩;have HU:=hJJ hu;have HN2:Hid (qZ5 f zs (k+1)=if t=true then (if c=0 then (if u=true then 6 else 0) else c) else 3):=by show _=_;rw[HN.out];unfold qCf;rw[ht,hc,hu]
     clear ht hc hu HN;cases t
     .have HE:Hid (qZ5 f zs n=3):=qP4 f zs (k+1) n 3 (by omega) (by rw[HN2.out];rfl) (by omega);go_wp2_with (first | (go_at_call 109;refine (qT5 _ _ _ _).mono ?_;rintro e w' ⟨rfl,rfl⟩;rw[HTR.out]))
      go_ret;exact⟨by rw[HE.out];rfl,hnx⟩
     .by_cases c0:c=0
      .have cb:(c != 0)=false:=by simp[c0]
       have HE0:Hid (u=false->qZ5 f zs (k+1)=0):=fun q=>by rw[HN2.out,gK rfl,gK c0,q];rfl
       have HE6:Hid (u=true->qZ5 f zs n=6):=fun q=>qP4 f zs (k+1) n 6 (by omega) (by rw[HN2.out,gK rfl,gK c0,q];rfl) (by omega)
       clear c0 HN2;have hkc:(k:Int)<=(cap:Int):=by omega
       have hk0:(0:Int)<=(k:Int):=by omega
       go_wp2_with (first | (go_at_call 109;refine (qT5 _ _ _ _).mono ?_;rintro e w' ⟨rfl,rfl⟩;rw[HTR.out]) | (go_at_call 62;refine (qK1 _ _ x.st _ HX.out.stat).mono ?_;rintro e w' ⟨rfl,rfl⟩;rw[HSC.out]))
       have HQ:Hid (∀w2:World,(∀b o,b<wr.heap.size->w2.cell? ⟨b,o,none⟩=wr.cell? ⟨b,o,none⟩)/\Below wr.heap.size wr w2->CP 182 #[.slice (some ⟨b,off,none⟩) k cap,.agg #[iv x.r,iv x.k,iv x.e,iv x.f,iv x.s,iv x.n]] w2 fun e w'=>e=.returned (.bool u)/\Below w2.heap.size w2 w'):=fun w2 hb=>by
        have:=qMo (some ⟨b,off,none⟩) k cap (zs.take k) x w2 (by omega) (HT.out.below hb.2);rw[HU.out]at this;exact this
       go_region_held3 (fun w'=>(∀b o,b<wr.heap.size->w'.cell? ⟨b,o,none⟩=wr.cell? ⟨b,o,none⟩)/\Below wr.heap.size wr w') (first | exact hS | exact qA8 _)
        (first | (go_at_call 182;refine (HQ.out _ (by assumption)).mono ?_;rintro e w' ⟨rfl,hb1⟩;have hS:=qA0 (by assumption) hb1))
       have B1:=hnx.trans (hS.2.mono hnx.size);cases u
       .have HX0:Hid (qZ5 f zs (k+1)=0):=HE0.out rfl;go_wp2;exact⟨⟨k+1,by omega,by go_num,HX0.out,B1⟩,by simp[intOf];omega⟩
       .have HX6:Hid (qZ5 f zs n=6):=HE6.out rfl;go_wp2;go_ret;exact⟨by rw[HX6.out];rfl,B1⟩
      .have cb:(c != 0)=true:=by simp[c0]
       have HE:Hid (qZ5 f zs n=c):=qP4 f zs (k+1) n c c0 (by rw[HN2.out,gK rfl,gI c0]) (by omega);clear c0;go_wp2_with (first | (go_at_call 109;refine (qT5 _ _ _ _).mono ?_;rintro e w' ⟨rfl,rfl⟩;rw[HTR.out]) | (go_at_call 62;refine (qK1 _ _ x.st _ HX.out.stat).mono ?_;rintro e w' ⟨rfl,rfl⟩;rw[HSC.out]))
       go_ret;exact⟨by rw[HE.out];rfl,hnx⟩
    .have hkn:k=n:=by omega
     have hlt':¬ ((k:Int)<(n:Int)):=by omega
     have HE:Hid (qZ5 f zs n=0):=by rw[<- hkn];exact HK0.out
     clear hkn;go_wp2;go_ret;exact⟨by rw[HE.out];rfl,hnx⟩
section
attribute [local go_sem] qIm qGU
theorem qW4(a:Option Addr)(n cap:Nat)(zs:List ShI)(f:Int)(w:World)(hn:n<=1048576)(hcap:n<=cap)(hcm:cap<=maxLen)(h:qX6 w a n zs):qAm 94 a n cap f (qF2 f zs) w:=by
 have H:=hJJ h;have HZ:=hJJ h.1;have hn':(n:Int)<=1048576:=by omega
 unfold qAm;clear h;have HNF:Hid (∀w:World,qP0 147 f (qQ6 f) (qZ7 2 f) w):=QK0 f;cases hf:inR f 1 2
 .have HC:Hid (qF2 f zs=3):=by show qF2 f zs=3;unfold qF2;rw[gI (by rw[hf];simp)]
  have e1:qQ6 f=3:=by unfold qQ6;rw[gI (by rw[hf];simp)]
  have e2:qZ7 2 f=0:=by unfold qZ7;rw[gI (by rw[hf];simp)]
  rw[e1,e2]at HNF;unfold qP0 at HNF;clear hf e1 e2;rw[HC.out];go_enter func94,ntmps94;go_wp2_with fail
  refine (HNF.out _).mono ?_;rintro e w1 ⟨rfl,hb1⟩;go_wp2;go_ret;exact⟨rfl,hb1⟩
 .obtain⟨hf1,hf2⟩:=(qD3 f 1 2).1 hf;have e1:qQ6 f=0:=by unfold qQ6;rw[gK hf]
  have e2:qZ7 2 f=2*f+1:=by unfold qZ7;rw[gK hf]
  have e3:qZ7 3 f=3*f+1:=by unfold qZ7;rw[gK hf]
  have HRF:Hid (∀w:World,qP0 142 f (qQ6 f) (qZ7 3 f) w):=qM0 f;rw[e1,e2]at HNF;rw[e1,e3]at HRF;unfold qP0 at HNF HRF;by_cases hl:120<n
  .have HC:Hid (qF2 f zs=2):=by show qF2 f zs=2;unfold qF2;rw[gK hf,gK (by rw[HZ.out];exact hl)]
   have hl':(120:Int)<(n:Int):=by omega
   clear hf e1 e2 e3;rw[HC.out];go_enter func94,ntmps94;go_wp2_with fail
   refine (HNF.out _).mono ?_;rintro e w1 ⟨rfl,hb1⟩;go_wp2;go_ret;exact⟨rfl,hb1⟩
  .have HC:Hid (qF2 f zs=qZ5 f zs n):=by show qF2 f zs=_;unfold qF2;rw[gK hf,gI (by rw[HZ.out];exact hl),HZ.out]
   have hl':¬ ((120:Int)<(n:Int)):=by omega
   clear hf e1 e2 e3;rw[HC.out];obtain⟨v,hv⟩:∃v,v=3*f+1:=⟨_,rfl⟩;rw[<- hv]at HRF;have HV:=hJJ hv;clear hv;go_enter func94,ntmps94;go_wp2_with fail
   refine (HNF.out _).mono ?_;rintro e w1 ⟨rfl,hb1⟩;go_wp2_with fail
   refine (HRF.out _).mono ?_;rintro e w2 ⟨rfl,hb2⟩;have hb12:Below w.heap.size w w2:=hb1.trans (hb2.mono hb1.size);obtain⟨V,hV⟩:∃V,V=w2.alloc (.cells #[iv 0,iv v] 48):=⟨_,rfl⟩;have BV:Hid (Below w.heap.size w V):=by rw[hV];exact hb12.alloc hb12.size _
   have XV:Hid (qAp V w2.heap.size (iv 0) (iv v)):=by rw[hV];exact qAp.new _ _ _ _
   go_wp2_with fail
   rw[<- hV];clear hV hb1 hb2 hb12;go_loopw [23] (fun i wr=>∃k:Nat,k<=n/\i=iv (k:Int)/\qZ5 f zs k=0/\Below V.heap.size V wr) (fun i _=>n-(intOf i).toNat)
   case atStart=>exact⟨0,gH _,rfl,rfl,gC _ _⟩
   case round =>
    obtain⟨k,hk,rfl,hz,hvx⟩:=hrel;have hnx:Below w.heap.size w wr:=BV.out.trans (hvx.mono BV.out.size);have HK0:=hJJ hz;clear hz;by_cases hlt:k<n
    .obtain⟨b,off,x,rfl,hx,hxa,hbl⟩:=H.out.at hlt
     have hlt':(k:Int)<(n:Int):=by omega
     have HN:Hid (qZ5 f zs (k+1)=qCf f (zs.take k) x):=QN8 hx HK0.out;obtain⟨x0,x1,x2,x3,x4,x5⟩:=hxa.below hnx hbl;obtain⟨U,hU⟩:∃U,U=wr.alloc (.cells #[iv x.r,iv x.k,iv x.e,iv x.f,iv x.s,iv x.n] 121):=⟨_,rfl⟩;have BU:Below wr.heap.size wr U:=by rw[hU];exact zN
     have KU:Hid (QH9 U wr.heap.size 0 x):=by rw[hU];exact QH9.new wr x _
     have hUl:wr.heap.size<U.heap.size:=by rw[hU];simp
     have YU:Hid (qAp U w2.heap.size (iv 0) (iv v)):=(XV.out.below hvx).below BU;have BWU:Below w.heap.size w U:=hnx.trans (BU.mono hnx.size);have BVU:Below V.heap.size V U:=hvx.trans (BU.mono hvx.size);have HT:Hid (qX6 U (some ⟨b,off,none⟩) k (zs.take k)):=(H.out.below BWU).take hk;clear hx hxa;obtain⟨t,ht⟩:∃t,inR x.r 1 v=t:=⟨_,rfl⟩;have HTR:=hJJ ht;obtain⟨c,hc⟩:∃c,qB5 x.st=c:=⟨_,rfl⟩;have HSC:Hid (∀w:World,CP 65 #[.agg #[iv x.k,iv x.e,iv x.f,iv x.s,iv x.n]] w fun e w'=>e=.returned (iv c)/\Below w.heap.size w w'):=by rw[<- hc];exact qB8 x.st
     have HID:Hid (∀w:World,CP 143 #[iv x.r,.agg #[iv 0,iv v]] w fun e w'=>e=.returned (.bool t)/\Below w.heap.size w w'):=fun w=>by
      have:=QH1 x.r 0 v w;rw[ht]at this;simpa using this
     obtain⟨u,hu⟩:∃u,QB1 (zs.take k) x=u:=⟨_,rfl⟩;have HU:=hJJ hu;have HN2:Hid (qZ5 f zs (k+1)=if t=true then (if c=0 then (if u=true then 6 else 0) else c) else 3):=by show _=_;rw[HN.out];unfold qCf;rw[<- HV.out,ht,hc,hu]
     clear ht hc hu HN;obtain⟨z0,z1,z2,z3,z4,z5⟩:=KU.out;simp only[gG]at z0 z1 z2 z3 z4 z5;obtain⟨y0,y1⟩:=XV.out.below hvx;have hYl:w2.heap.size<wr.heap.size:=(XV.out.below hvx).lt;cases t
     .have HE:Hid (qZ5 f zs n=3):=qP4 f zs (k+1) n 3 (by omega) (by rw[HN2.out];rfl) (by omega);go_wp2_with fail
      rw[<- hU];clear hU;refine (HID.out _).mono ?_;rintro e w3 ⟨rfl,hb3⟩;go_wp2;go_ret;exact⟨by rw[HE.out];rfl,BWU.trans (hb3.mono BWU.size)⟩
     .by_cases c0:c=0
      .have cb:(c != 0)=false:=by simp[c0]
       have HE0:Hid (u=false->qZ5 f zs (k+1)=0):=fun q=>by rw[HN2.out,gK rfl,gK c0,q];rfl
       have HE6:Hid (u=true->qZ5 f zs n=6):=fun q=>qP4 f zs (k+1) n 6 (by omega) (by rw[HN2.out,gK rfl,gK c0,q];rfl) (by omega)
       clear c0 HN2;have hkc:(k:Int)<=(cap:Int):=by omega
       have hk0:(0:Int)<=(k:Int):=by omega
       go_wp2_with fail
       rw[<- hU];clear hU;refine (HID.out _).mono ?_;rintro e w3 ⟨rfl,hb3⟩;have K3:Hid (QH9 w3 wr.heap.size 0 x):=KU.out.below hb3 hUl;have hs3:=hb3.size;clear z0 z1 z2 z3 z4 z5 y0 y1;obtain⟨z0,z1,z2,z3,z4,z5⟩:=K3.out;simp only[gG]at z0 z1 z2 z3 z4 z5;go_wp2_with fail
       refine (HSC.out _).mono ?_;rintro e w4 ⟨rfl,hb4⟩;have K4:Hid (QH9 w4 wr.heap.size 0 x):=K3.out.below hb4 (by omega);have hs4:=hb4.size;have BU4:Below U.heap.size U w4:=hb3.trans (hb4.mono hs3);have BW4:Below w.heap.size w w4:=BWU.trans (BU4.mono BWU.size);have BV4:Below V.heap.size V w4:=BVU.trans (BU4.mono BVU.size);have hl4:wr.heap.size<w4.heap.size:=by omega
       clear z0 z1 z2 z3 z4 z5;obtain⟨z0,z1,z2,z3,z4,z5⟩:=K4.out;simp only[gG]at z0 z1 z2 z3 z4 z5
       have HQ:Hid (∀w2:World,(∀b o,b<w4.heap.size->w2.cell? ⟨b,o,none⟩=w4.cell? ⟨b,o,none⟩)/\Below w4.heap.size w4 w2->CP 148 #[.slice (some ⟨b,off,none⟩) k cap,.agg #[iv x.r,iv x.k,iv x.e,iv x.f,iv x.s,iv x.n]] w2 fun e w'=>e=.returned (.bool u)/\Below w2.heap.size w2 w'):=fun w2 hb=>by
        have:=QZ4 (some ⟨b,off,none⟩) k cap (zs.take k) x w2 (by omega) ((HT.out.below BU4).below hb.2);rw[HU.out]at this;exact this
       clear hb3 hb4 hs3 hs4;go_wp2_with fail
       go_region_held3 (fun w'=>(∀b o,b<w4.heap.size->w'.cell? ⟨b,o,none⟩=w4.cell? ⟨b,o,none⟩)/\Below w4.heap.size w4 w') (first | exact hS | exact qA8 _)
        (first | (go_at_call 148;refine (HQ.out _ (by assumption)).mono ?_;rintro e w' ⟨rfl,hb1⟩;have hS:=qA0 (by assumption) hb1))
       have B1:=BW4.trans (hS.2.mono BW4.size);have B2:=BV4.trans (hS.2.mono BV4.size);cases u
       .have HX0:Hid (qZ5 f zs (k+1)=0):=HE0.out rfl;go_wp2;exact⟨⟨k+1,by omega,by go_num,HX0.out,B2⟩,by simp[intOf];omega⟩
       .have HX6:Hid (qZ5 f zs n=6):=HE6.out rfl;go_wp2;go_ret;exact⟨by rw[HX6.out];rfl,B1⟩
      .have cb:(c != 0)=true:=by simp[c0]
       have HE:Hid (qZ5 f zs n=c):=qP4 f zs (k+1) n c c0 (by rw[HN2.out,gK rfl,gI c0]) (by omega);clear c0 HN2;go_wp2_with fail
       rw[<- hU];clear hU;refine (HID.out _).mono ?_;rintro e w3 ⟨rfl,hb3⟩;have K3:Hid (QH9 w3 wr.heap.size 0 x):=KU.out.below hb3 hUl;have hs3:=hb3.size;clear z0 z1 z2 z3 z4 z5 y0 y1;obtain⟨z0,z1,z2,z3,z4,z5⟩:=K3.out;simp only[gG]at z0 z1 z2 z3 z4 z5;go_wp2_with fail
       refine (HSC.out _).mono ?_;rintro e w4 ⟨rfl,hb4⟩;go_wp2;go_ret;exact⟨by rw[HE.out];rfl,BWU.trans ((hb3.trans (hb4.mono hs3)).mono BWU.size)⟩
    .have hkn:k=n:=by omega
     have hlt':¬ ((k:Int)<(n:Int)):=by omega
     have HE:Hid (qZ5 f zs n=0):=by rw[<- hkn];exact HK0.out
     clear hkn;go_wp2;go_ret;exact⟨by rw[HE.out];rfl,hnx⟩
end
section
open Go.RowKit Go.Maps
attribute [local go_sem] qIm qGU
attribute [local go_sem ↓] QU7
theorem SM.cong{w:World}{b N:Nat}{p q:Int->Bool}(h:SM w b N p)(e:∀i,p i=q i):SM w b N q:=by
 have : p=q:=funext e;rw[<- this];exact h
theorem SM.le{w:World}{b N M:Nat}{p:Int->Bool}(h:SM w b N p)(hN:N<=M):SM w b M p:=by
 obtain⟨D,n,h1,h2⟩:=h;exact⟨D,n,by omega,h2⟩
end
section
open Go.RowKit Go.ChangeShapes Go.WideShapes
def qPG(w:World)(a:Option Addr)(len:Nat)(zs:List ShI):Prop:=qX6 w a len zs/\len<=maxLen/\∀z∈zs,(Lit.int .i64 z.r).wf=true
theorem qJB:prog.cellsOf 2=1:=by kernel_rfl
theorem Tryz.cells124:prog.cellsOf 124=6:=by kernel_rfl
theorem qNu{α:Type}{l:List α}(h:l.length=6):∃c0 c1 c2 c3 c4 c5,l=[c0,c1,c2,c3,c4,c5]:=by
 match l,h with
 | [c0,c1,c2,c3,c4,c5],_=>exact⟨c0,c1,c2,c3,c4,c5,rfl⟩
theorem qMj{α:Type}{l:List α}(h:l.length=2):∃c0 c1,l=[c0,c1]:=by
 match l,h with
 | [c0,c1],_=>exact⟨c0,c1,rfl⟩
theorem qFa{H:Type}{enc:TypeId × Value->H}{w:World}{base:Nat}{spare:Nat->Bool}{held:Bool}{fuel:Nat}{cs:List Value}{x:DataW H × List MemPlace}(h:DataW.trod enc prog w base spare held fuel 124 cs=some x):
  ∃r:ShI,cs=[.int .i64 r.r,.int .i64 r.k,.int .i64 r.e,.int .i64 r.f,.int .i64 r.s,.int .i64 r.n]/\(Lit.int .i64 r.r).wf=true:=by
 obtain⟨xs,n,_,_,hl,hlen,hf⟩:=DataW.trod_struct underlying124 h;rw[Tryz.cells124]at hl;obtain⟨c0,c1,c2,c3,c4,c5,rfl⟩:=qNu hl;obtain⟨y0,y1,rfl⟩:=qMj hlen;have g0:=hf 0 _ rfl;have g1:=hf 1 _ rfl;simp[qJB,Tryz.cells46]at g0 g1;obtain⟨b0,e0,_,hwf⟩:=jZ underlying2 g0;obtain⟨b1,e1⟩:=QD4 g1;simp at e0 e1;obtain⟨rfl,rfl,rfl,rfl,rfl⟩:=e1;subst e0;exact⟨⟨b0,b1.k,b1.e,b1.f,b1.s,b1.n⟩,rfl,hwf⟩
theorem qIx{w:World}{base:Nat}{a:Addr}{r:ShI}(h:w.cells? base a 6=some [iv r.r,iv r.k,iv r.e,iv r.f,iv r.s,iv r.n]):a.spot=none/\QH9 w a.block a.off r:=by
 have e:List.range 6=[0,1,2,3,4,5]:=rfl;unfold World.cells? at h;split at h
 .rw[e]at h;simp only[List.mapM_cons,List.mapM_nil,Option.bind_eq_bind,kV,Option.pure_def,Option.some.injEq,gW]at h;obtain⟨x0,h0,y0,⟨x1,h1,y1,⟨x2,h2,y2,⟨x3,h3,y3,⟨x4,h4,y4,⟨x5,h5,y5,rfl,e5⟩,e4⟩,e3⟩,e2⟩,e1⟩,e0,ee⟩:=h;subst e0;rw[<- e1]at ee;simp only[gW]at ee;obtain⟨rfl,ee⟩:=ee;rw[<- e2]at ee;simp only[gW]at ee;obtain⟨rfl,ee⟩:=ee;rw[<- e3]at ee;simp only[gW]at ee;obtain⟨rfl,ee⟩:=ee;rw[<- e4]at ee;simp only[gW]at ee;obtain⟨rfl,ee⟩:=ee;rw[<- e5]at ee;simp only[gW]at ee;obtain⟨rfl,_⟩:=ee;obtain⟨b,off,spot⟩:=a;have hspot:spot=none:=by simpa[Addr.add] using World.cell?_spot h0
  subst hspot;simp only[Addr.add]at h0 h1 h2 h3 h4 h5;exact⟨rfl,by simpa using h0,by simpa using h1,by simpa using h2,by simpa using h3,by simpa using h4,by simpa using h5⟩
 .cases h
theorem qBB{H:Type}{enc:TypeId × Value->H}{w:World}{base:Nat}{spare:Nat->Bool}{held:Bool}{fuel:Nat}{a0:Option Addr}{len cap:Nat}{x:DataW H × List MemPlace}(h:DataW.trod enc prog w base spare held fuel 25 [.slice a0 len cap]=some x):
  ∃zs:List ShI,qPG w a0 len zs:=by
 rcases Go.Deep.open_slice underlying25 h with⟨hcs,_⟩ | ⟨a,l,c,m,n,D,Pl,hcs,hb,hl,hm,hmm,_,hel⟩
 .simp at hcs;obtain⟨rfl,rfl,rfl⟩:=hcs;exact⟨[],⟨rfl,fun h=>by omega⟩,gH _,fun z h=>by cases h⟩
 .simp at hcs;obtain⟨rfl,rfl,rfl⟩:=hcs;have hle:len<=m:=by rw[hmm];split <;> omega
  rw[Tryz.cells124]at hel
  have hk:∀i,i<len->∃r:ShI,w.cells? base (a.add (i*6)) 6=some [.int .i64 r.r,.int .i64 r.k,.int .i64 r.e,.int .i64 r.f,.int .i64 r.s,.int .i64 r.n]/\(Lit.int .i64 r.r).wf=true:=fun i hi=>by
   obtain⟨cs',hc,ht⟩:=hel i (by omega);obtain⟨r,rfl,hwf⟩:=qFa ht;exact⟨r,hc,hwf⟩
  obtain⟨f,hf⟩:=Go.Deep.choose_lt hk;refine⟨(List.range len).map f,⟨by simp,fun hp=>?_⟩,jF hl hm,fun z hz=>?_⟩;rotate_left 1
  .obtain⟨i,hi,rfl⟩:=kU.1 hz;exact (hf i (List.mem_range.1 hi)).2
  obtain⟨hsp,_⟩:=qIx (hf 0 hp).1;obtain⟨b,off,spot⟩:=a;simp[Addr.add]at hsp;subst hsp;refine⟨b,off,rfl,fun k r e=>?_⟩
  have hkl:k<len:=by
   by_cases q:k<len
   .exact q
   .rw[gE (by simp;omega)]at e;cases e
  rw[jI,List.getElem?_range hkl]at e;simp at e;subst e;obtain⟨_,hr⟩:=qIx (hf k hkl).1;have : ((⟨b,off,none⟩:Addr).add (k*6))=⟨b,off+k*6,none⟩:=gR ..;rw[this]at hr;exact hr
end
