/- Contracts. -/
import Derived.Test.YtdghpccmdnnenaaGreatDoorPx02
import Derived.Deep.AppendLies
namespace Go.Proofs.YtdghpccmdnnenaaGreatDoor
set_option maxRecDepth 100000
set_option maxHeartbeats 8000000
open Go.RowKit Go.Proofs.Tryz
set_option linter.unusedVariables false
set_option linter.unusedSimpArgs false
theorem Tryz.info208:(prog.info? 208).map (fun i=>(i.zero,i.size,i.bytes))=some (some (.agg #[iv 0,iv 0,iv 0,iv 0,iv 0,iv 0,iv 0,iv 0]),8,64):=by kernel_rfl
def qN9(w:World)(g n:Nat):Prop:=(∀j,j<n*8->∃v,w.cell? ⟨g,j,none⟩=some v)/\∀j,w.frozen? ⟨g,j,none⟩=false
abbrev qJN(w:World)(g o:Nat)(s:qA1):World:=((((((((w.setCell ⟨g,o,none⟩ (iv s.k)).setCell ⟨g,o+1,none⟩ (iv s.ho)).setCell ⟨g,o+2,none⟩ (iv s.hn)).setCell ⟨g,o+3,none⟩ (iv s.w)).setCell ⟨g,o+4,none⟩ (iv s.oo)).setCell ⟨g,o+5,none⟩ (iv s.on)).setCell ⟨g,o+6,none⟩ (iv s.to)).setCell ⟨g,o+7,none⟩ (iv s.tn))
theorem qK4(w:World)(g o:Nat)(s:qA1)(a:Addr)(h:∀j,j<8->a≠⟨g,o+j,none⟩):(qJN w g o s).cell? a=w.cell? a:=by
 rw[gF (h:=Ne.symm (h 7 (by omega))),gF (h:=Ne.symm (h 6 (by omega))),gF (h:=Ne.symm (h 5 (by omega))),gF (h:=Ne.symm (h 4 (by omega))),gF (h:=Ne.symm (h 3 (by omega))),gF (h:=Ne.symm (h 2 (by omega))),gF (h:=Ne.symm (h 1 (by omega))),gF (h:=Ne.symm (a:=a) (b:=⟨g,o,none⟩) (by simpa using h 0 (by omega)))]
theorem qHf(w:World)(g o:Nat)(s:qA1)(h:∀j,j<8->∃v,w.cell? ⟨g,o+j,none⟩=some v):qC2 (qJN w g o s) g o s:=by
 obtain⟨v0,h0⟩:=h 0 (by omega);obtain⟨v1,h1⟩:=h 1 (by omega);obtain⟨v2,h2⟩:=h 2 (by omega);obtain⟨v3,h3⟩:=h 3 (by omega);obtain⟨v4,h4⟩:=h 4 (by omega);obtain⟨v5,h5⟩:=h 5 (by omega);obtain⟨v6,h6⟩:=h 6 (by omega);obtain⟨v7,h7⟩:=h 7 (by omega);rw[jS]at h0;refine⟨?_,?_,?_,?_,?_,?_,?_,?_⟩ <;> simp[go_sem,h0,h1,h2,h3,h4,h5,h6,h7]
theorem qBK{w:World}{g n k:Nat}{zs:List qA1}{s:qA1}(hroom:qN9 w g n)(hd:qL3 w g 0 (zs.take k))(hs:zs[k]?=some s)(hk:k<n):
  qN9 (qJN w g (k*8) s) g n/\qL3 (qJN w g (k*8) s) g 0 (zs.take (k+1)):=by
 have hr:=qHf w g (k*8) s (fun j hj=>hroom.1 (k*8+j) (by omega));refine⟨⟨fun j hj=>?_,fun j=>?_⟩,fun i r e=>?_⟩
 .by_cases h:k*8<=j/\j<k*8+8
  .have hj':j=k*8\/j=k*8+1\/j=k*8+2\/j=k*8+3\/j=k*8+4\/j=k*8+5\/j=k*8+6\/j=k*8+7:=by omega
   obtain⟨h0,h1,h2,h3,h4,h5,h6,h7⟩:=hr;rcases hj' with rfl|rfl|rfl|rfl|rfl|rfl|rfl|rfl
   .exact⟨_,h0⟩
   .exact⟨_,h1⟩
   .exact⟨_,h2⟩
   .exact⟨_,h3⟩
   .exact⟨_,h4⟩
   .exact⟨_,h5⟩
   .exact⟨_,h6⟩
   .exact⟨_,h7⟩
  .rw[qK4 w g (k*8) s ⟨g,j,none⟩ (fun i hi e=>by have e2:=jA Addr.off e;simp only at e2;omega)];exact hroom.1 j hj
 .simp only[jE];exact hroom.2 j
 .rw[jJ]at e;split at e
  .by_cases hik:i=k
   .subst hik;rw[hs]at e;cases e;rw[gG];exact hr
   .have hi:i<k:=by omega
    have h1:=hd i r (by rw[jJ,gK hi];exact e);obtain⟨h0,h1,h2,h3,h4,h5,h6,h7⟩:=h1;refine⟨?_,?_,?_,?_,?_,?_,?_,?_⟩
    .rw[qK4 w g (k*8) s ⟨g,0+i*8,none⟩ (fun j hj e=>by have e2:=jA Addr.off e;simp only at e2;omega)];exact h0
    .rw[qK4 w g (k*8) s ⟨g,0+i*8+1,none⟩ (fun j hj e=>by have e2:=jA Addr.off e;simp only at e2;omega)];exact h1
    .rw[qK4 w g (k*8) s ⟨g,0+i*8+2,none⟩ (fun j hj e=>by have e2:=jA Addr.off e;simp only at e2;omega)];exact h2
    .rw[qK4 w g (k*8) s ⟨g,0+i*8+3,none⟩ (fun j hj e=>by have e2:=jA Addr.off e;simp only at e2;omega)];exact h3
    .rw[qK4 w g (k*8) s ⟨g,0+i*8+4,none⟩ (fun j hj e=>by have e2:=jA Addr.off e;simp only at e2;omega)];exact h4
    .rw[qK4 w g (k*8) s ⟨g,0+i*8+5,none⟩ (fun j hj e=>by have e2:=jA Addr.off e;simp only at e2;omega)];exact h5
    .rw[qK4 w g (k*8) s ⟨g,0+i*8+6,none⟩ (fun j hj e=>by have e2:=jA Addr.off e;simp only at e2;omega)];exact h6
    .rw[qK4 w g (k*8) s ⟨g,0+i*8+7,none⟩ (fun j hj e=>by have e2:=jA Addr.off e;simp only at e2;omega)];exact h7
  .cases e
theorem QV4{w0 w:World}{B g o:Nat}(h:Below B w0 w)(hg:B<=g)(s:qA1):Below B w0 (qJN w g o s) :=
 h.setCell hg _ |>.setCell hg _ |>.setCell hg _ |>.setCell hg _ |>.setCell hg _ |>.setCell hg _ |>.setCell hg _ |>.setCell hg _
theorem qAu(a:Option Addr)(n cap:Nat)(zs:List qA1)(w:World)(hn:n<=1048576)(h:qB9 w a n zs):
  CP 137 #[.slice a n cap] w fun e w'=>e=.returned (.slice (some ⟨w.heap.size,0,none⟩) n n)/\qL3 w' w.heap.size 0 zs/\w.heap.size<w'.heap.size/\Below w.heap.size w w'/\qN9 w' w.heap.size n:=by
 obtain⟨i0,hi,hz0,hz1,hz2⟩:=jT Tryz.info208;obtain⟨wm,hmk,hownm,hgrm⟩:=run_make_full (P:=prog) (w:=w) w.heap.size 89 208 i0 (.agg #[iv 0,iv 0,iv 0,iv 0,iv 0,iv 0,iv 0,iv 0]) 8 underlying89 hi hz0 hz1 .i64 .i64 n (by rw[hz2];omega) (by unfold maxLen;omega) (gB _);have H:=hJJ h;have hz:=hJJ h.1;clear h
 have HM:Hid (qN9 wm w.heap.size n/\w.heap.size<wm.heap.size):=by
  refine⟨⟨fun j hj=>?_,fun j=>hownm.frozenAt j⟩,(hownm.lt _ rfl).2⟩;have hl:=hownm.1;exact⟨_,(hownm.cellAt j hj).trans (gA (by omega))⟩
 clear hownm;have HG:=hJJ hgrm;clear hgrm;have hn':(n:Int)<=1048576:=by omega
 go_enter func137,ntmps137;go_wp2
 go_loopw [4] (fun i wr=>∃k:Nat,k<=n/\i=iv (k:Int)/\qN9 wr w.heap.size n/\qL3 wr w.heap.size 0 (zs.take k)/\w.heap.size<wr.heap.size/\Below w.heap.size w wr)
  (fun i _=>n-(intOf i).toNat)
 case atStart=>exact⟨0,gH _,rfl,HM.out.1,fun k r e=>by simp at e,HM.out.2,(gC _ _).grown HG.out (gB _) (fun k e=>by cases e)⟩
 case round =>
  obtain⟨k,hk,rfl,hroom,hdone,hlt0,hnx⟩:=hrel;by_cases hlt:k<n
  .obtain⟨b,off,s,rfl,hs,hr⟩:=H.out.at hlt
   have HS:=hJJ hs;clear hs;have hb:b<w.heap.size:=zL w ⟨b,off+k*8,none⟩ hr.1;have hr':=hr.below hnx;have HD:Hid (qN9 wr w.heap.size n/\qL3 wr w.heap.size 0 (zs.take k)):=⟨hroom,hdone⟩;obtain⟨h0,h1,h2,h3,h4,h5,h6,h7⟩:=hr';clear hroom hdone hr;have hlt':(k:Int)<(n:Int):=by omega
   go_wp2_with fail
   refine (qJV s _).mono ?_;rintro e w1 ⟨rfl,hb1⟩;obtain⟨⟨hc,hf⟩,hd⟩:=HD.out;have hz1:=hb1.size
   have HD1:Hid (qN9 w1 w.heap.size n/\qL3 w1 w.heap.size 0 (zs.take k)/\Below w.heap.size w w1) :=
    ⟨⟨fun j hj=>by obtain⟨v,e⟩:=hc j hj;exact⟨v,(hb1.cell (p:=⟨w.heap.size,j,none⟩) hlt0).trans e⟩,fun j=>(hb1.frozen (p:=⟨w.heap.size,j,none⟩) hlt0).trans (hf j)⟩,hd.below hb1,hnx.trans (hb1.mono hnx.size)⟩
   clear hc hf hd HD h0 h1 h2 h3 h4 h5 h6 h7;obtain⟨v0,c0⟩:=HD1.out.1.1 (k*8) (by omega);obtain⟨v1,c1⟩:=HD1.out.1.1 (k*8+1) (by omega);obtain⟨v2,c2⟩:=HD1.out.1.1 (k*8+2) (by omega);obtain⟨v3,c3⟩:=HD1.out.1.1 (k*8+3) (by omega);obtain⟨v4,c4⟩:=HD1.out.1.1 (k*8+4) (by omega);obtain⟨v5,c5⟩:=HD1.out.1.1 (k*8+5) (by omega);obtain⟨v6,c6⟩:=HD1.out.1.1 (k*8+6) (by omega);obtain⟨v7,c7⟩:=HD1.out.1.1 (k*8+7) (by omega);have f0:=HD1.out.1.2 (k*8);have f1:=HD1.out.1.2 (k*8+1);have f2:=HD1.out.1.2 (k*8+2);have f3:=HD1.out.1.2 (k*8+3);have f4:=HD1.out.1.2 (k*8+4);have f5:=HD1.out.1.2 (k*8+5);have f6:=HD1.out.1.2 (k*8+6);have f7:=HD1.out.1.2 (k*8+7)
   have RM:Hid (qN9 (qJN w1 w.heap.size (k*8) s) w.heap.size n/\qL3 (qJN w1 w.heap.size (k*8) s) w.heap.size 0 (zs.take (k+1))/\Below w.heap.size w (qJN w1 w.heap.size (k*8) s)):=by
    have h2:=qBK HD1.out.1 HD1.out.2.1 HS.out hlt;exact⟨h2.1,h2.2,QV4 HD1.out.2.2 (gB _) s⟩
   go_wp2;exact⟨⟨k+1,by omega,by go_num,RM.out.1,RM.out.2.1,by simp only[jP];omega,RM.out.2.2⟩,by simp[intOf];omega⟩
  .have hkn:k=n:=by omega
   subst hkn;rw[gV (by rw[hz.out];exact gB _)]at hdone;go_wp2;go_ret;exact⟨rfl,hdone,hlt0,hnx,hroom⟩
theorem qDc(r:qA1)(w:World):
  CP 196 #[.agg #[iv r.k,iv r.ho,iv r.hn,iv r.w,iv r.oo,iv r.on,iv r.to,iv r.tn],.agg #[iv r.k,iv r.ho,iv r.hn,iv r.w,iv r.oo,iv r.on,iv r.to,iv r.tn]] w fun e w'=>e=.returned (.bool true)/\Below w.heap.size w w':=by
 go_enter func196,ntmps196;go_wp2;go_ret;exact⟨rfl,by go_grown⟩
theorem qBq(a b:Option Addr)(n c d:Nat)(zs:List qA1)(w:World)(hn:n<=1048576)(ha:qB9 w a n zs)(hb:qB9 w b n zs):
  CP 152 #[.slice a n c,.slice b n d] w fun e w'=>e=.returned (.bool true)/\Below w.heap.size w w':=by
 have HA:=hJJ ha;have HB:=hJJ hb;clear ha hb;have hn':(n:Int)<=1048576:=by omega
 go_enter func152,ntmps152;go_wp2;go_loopw [5] (fun i wr=>∃k:Nat,k<=n/\i=iv (k:Int)/\Below w.heap.size w wr) (fun i _=>n-(intOf i).toNat)
 case atStart=>exact⟨0,gH _,rfl,gC _ _⟩
 case round =>
  obtain⟨k,hk,rfl,hnx⟩:=hrel;by_cases hlt:k<n
  .obtain⟨b1,o1,s,e1,hs,hr⟩:=HA.out.at hlt
   obtain⟨b2,o2,s2,e2,hs2,hr2⟩:=HB.out.at hlt
   obtain rfl:s=s2:=gJ (hs.symm.trans hs2);subst e1 e2;clear hs hs2;obtain⟨h0,h1,h2,h3,h4,h5,h6,h7⟩:=hr.below hnx;obtain⟨g0,g1,g2,g3,g4,g5,g6,g7⟩:=hr2.below hnx;clear hr hr2;have hlt':(k:Int)<(n:Int):=by omega
   have hb1:b1<wr.heap.size:=zL wr ⟨b1,o1+k*8,none⟩ h0;have hb2:b2<wr.heap.size:=zL wr ⟨b2,o2+k*8,none⟩ g0;go_wp2
   go_region_held3 (fun w'=>(∀b o,b<wr.heap.size->w'.cell? ⟨b,o,none⟩=wr.cell? ⟨b,o,none⟩)/\Below wr.heap.size wr w') (first | exact hS | exact qA8 _)
    (first | (go_at_call 196;refine (qDc s _).mono ?_;rintro e w' ⟨rfl,hb1⟩;have hS:=qA0 (by assumption) hb1))
   go_wp2;exact⟨⟨k+1,by omega,by go_num,hnx.trans (hS.2.mono hnx.size)⟩,by simp[intOf];omega⟩
  .have hkn:k=n:=by omega
   subst hkn;go_wp2;go_ret;exact⟨rfl,hnx⟩
theorem QC8(w:World)(row:Option Nat):w.grownBy w row:=⟨rfl,rfl,rfl,gB _,fun _ _ _=>rfl⟩
theorem qAR{a b c:World}{row:Option Nat}(h:a.grownBy b row)(k:b.grownBy c row):a.grownBy c row :=
 ⟨k.os.trans h.os,k.tape.trans h.tape,k.output.trans h.output,jF h.size k.size,fun q hq hne=>(k.block q (gD hq h.size) hne).trans (h.block q hq hne)⟩
section
theorem Tryz.info263:(prog.info? 263).map (fun i=>(i.zero,i.size,i.bytes))=some (some (.agg #[iv 0,iv 0,iv 0]),3,24):=by kernel_rfl
theorem Tryz.under215:prog.underlying 215=some (.slice 263):=by kernel_rfl
def qL6:List GrI->List Value
 | []=>[]
 | p::ps => iv p.1.1 :: iv p.1.2 :: iv p.2::qL6 ps
theorem qBm(a b:List GrI):qL6 (a++b)=qL6 a++qL6 b:=by
 induction a with
 | nil=>rfl
 | cons p ps ih=>simp[qL6,ih]
theorem qBl(a:List GrI):(qL6 a).length=a.length*3:=by
 induction a with
 | nil=>rfl
 | cons p ps ih=>simp[qL6,ih];omega
theorem qAU:∀(a:List GrI) (k:Nat) (p:GrI),a[k]?=some p->(qL6 a)[k*3]?=some (iv p.1.1)/\(qL6 a)[k*3+1]?=some (iv p.1.2)/\(qL6 a)[k*3+2]?=some (iv p.2)
 | [],_,_,h=>by simp at h
 | q::qs,0,p,h=>by simp at h;subst h;exact⟨rfl,rfl,rfl⟩
 | q::qs,k+1,p,h=>by
  have:=qAU qs k p (by simpa using h);rw[show (k+1)*3=k*3+1+1+1 by omega,show k*3+1+1+1+1=(k*3+1)+1+1+1 by omega,show k*3+1+1+1+2=(k*3+2)+1+1+1 by omega];simpa[qL6] using this
theorem qIn(a:List GrI):∀u∈qL6 a,u.oneCell'=true:=by
 induction a with
 | nil=>simp[qL6]
 | cons p ps ih =>
  intro u hu;simp only[qL6,gX]at hu;rcases hu with rfl|rfl|rfl | hu
  .rfl
  .rfl
  .rfl
  .exact ih u hu
def qP9(w:World)(B:Nat)(v:Value)(gs:List GrI):Prop:=w.ownsRow B 263 3 v gs.length (qL6 gs)
theorem qP9.shape{w:World}{B:Nat}{v:Value}{gs:List GrI}(h:qP9 w B v gs)(hv:v≠.slice none 0 0):∃g cap,v=.slice (some ⟨g,0,none⟩) gs.length cap:=by
 have h0:w.ownsRow B 263 3 v gs.length (qL6 gs):=h;rcases h0.2 with⟨h',_⟩ | ⟨g,cap,cur,h',_⟩
 .exact absurd h' hv
 .exact⟨g,cap,h'⟩
theorem qP9.read{w:World}{B g n cap:Nat}{gs:List GrI}(hn:gs.length=n)(h:qP9 w B (.slice (some ⟨g,0,none⟩) n cap) gs):QF2 w (some ⟨g,0,none⟩) n gs:=by
 subst hn;have h0:w.ownsRow B 263 3 (.slice (some ⟨g,0,none⟩) gs.length cap) gs.length (qL6 gs):=h;refine⟨rfl,fun _=>⟨g,0,rfl,fun k x hx=>?_⟩⟩
 have hk:k<gs.length:=by
  by_cases q:k<gs.length
  .exact q
  .rw[gE (by omega)]at hx;cases hx
 obtain⟨f0,f1,f2⟩:=qAU gs k x hx;rw[gG];exact⟨(h0.cellAt (k*3) (by omega)).trans f0,(h0.cellAt (k*3+1) (by omega)).trans f1,(h0.cellAt (k*3+2) (by omega)).trans f2⟩
theorem qP9.below{w w':World}{B:Nat}{v:Value}{gs:List GrI}(h:qP9 w B v gs)(hb:Below w.heap.size w w'):qP9 w' B v gs :=
 World.ownsRow.kept (row:=none) h ⟨hb.os,hb.tape,hb.output,hb.size,fun k hk _=>hb.block k hk⟩ (by cases v.ownBlock <;> simp)
theorem QS5(gs:List GrI)(r:RoI)(s:Int):∀k,(qR9 gs r s k).1.length<=k+(if (qR9 gs r s k).2=true then 1 else 0)
 | 0=>by simp[QY2]
 | k+1=>by
  have ih:=QS5 gs r s k;cases h:gs[k]? with
  | none =>
   have hk:gs.length<=k:=by
    by_cases q:k<gs.length
    .rw[gA q]at h;cases h
    .omega
   have : qR9 gs r s (k+1)=qR9 gs r s k:=by unfold qR9;rw[gV (by omega),gV (by omega)]
   rw[this];omega
  | some x =>
   rw[QY3 h];unfold qK3;split
   .simp;split at ih <;> omega
   .split
    .rename_i q;rw[q.1]at ih;simp at ih ⊢
     omega
    .simp only[jD,List.length_singleton];omega
theorem qN8(W:World)(b:Nat)(hb:b=W.heap.size)(u0 u1 u2:Value)(T:TypeId):∀j u,[u0,u1,u2][j]?=some u->(W.alloc (.cells #[u0,u1,u2] T)).cell? ((⟨b,0,none⟩:Addr).add j)=some u:=by
 subst hb;intro j u hj;match j,hj with
 | 0,hj=>simp at hj;subst hj;simp[Addr.add]
 | 1,hj=>simp at hj;subst hj;simp[Addr.add]
 | 2,hj=>simp at hj;subst hj;simp[Addr.add]
theorem QC5{w:World}{B B':Nat}{v:Value}{gs:List GrI}(h:qP9 w B v gs)(hb:B'<=B):qP9 w B' v gs:=by
 have h0:w.ownsRow B 263 3 v gs.length (qL6 gs):=h;refine⟨h0.1,?_⟩;rcases h0.2 with h' | ⟨g,cap,cur,e,hg,rest⟩
 .exact .inl h'
 .exact .inr ⟨g,cap,cur,e,jF hb hg,rest⟩
theorem qN5{w:World}{B:Nat}{v:Value}{es:List GrI}{x:GrI}(h:w.ownsRow B 263 3 v (es.length+1) (qL6 es++[iv x.1.1,iv x.1.2,iv x.2])):qP9 w B v (es++[x]):=by
 unfold qP9;rw[jD,qBm];exact h
theorem qK5{w1 Z w':World}{B:Nat}{v:Value}{es:List GrI}(ho:qP9 Z B v es)(hb:Below B w1 Z)(hg:Z.grownBy w' v.ownBlock)(hB:B<=Z.heap.size):Below B w1 w':=by
 have h0:Z.ownsRow B 263 3 v es.length (qL6 es):=ho;exact hb.grown hg hB (fun j hj=>(h0.lt j hj).1)
theorem qS1{wr Z w':World}{B b o:Nat}{v u:Value}{es:List GrI}(ho:qP9 wr B v es)(hg:Z.grownBy w' v.ownBlock)(hb:wr.heap.size<=b)(hc:Z.cell? ⟨b,o,none⟩=some u):w'.cell? ⟨b,o,none⟩=some u:=by
 have h0:wr.ownsRow B 263 3 v es.length (qL6 es):=ho;exact hg.cell hc (fun e=>by have:=(h0.lt b e.symm).2;omega)
attribute [local go_sem ↓] qEM
theorem qMq(a:Option Addr)(n c:Nat)(gs:List GrI)(r:RoI)(s:Int)(w:World)(hg:QF2 w a n gs)(hn:n<=1000)(hs:s≠0):
  CP 228 #[.slice a n c,.agg #[iv r.1,iv r.2],iv s] w fun e w'=>∃g m cap es,e=.returned (.slice (some ⟨g,0,none⟩) m cap)/\es.length=m/\es=QY4 r s (qR9 gs r s n)/\qP9 w' w.heap.size (.slice (some ⟨g,0,none⟩) m cap) es/\Below w.heap.size w w':=by
 have b1:(s==0)=false:=by simpa using hs
 have hn':(n:Int)<=1000:=by omega
 obtain⟨i0,hi,hz0,hz1,hz2⟩:=jT Tryz.info263;obtain⟨w1,hw1⟩:∃w1,w1=w.alloc (.cells #[iv r.1,iv r.2] 206):=⟨_,rfl⟩;have hsz:w1.heap.size=w.heap.size+1:=by rw[hw1];simp
 have HB:Hid (Below w.heap.size w w1):=by rw[hw1];exact zN
 have HR:Hid (w1.cell? ⟨w.heap.size,0,none⟩=some (iv r.1)/\w1.cell? ⟨w.heap.size,1,none⟩=some (iv r.2)):=by rw[hw1];exact⟨by simp,by simp⟩
 have HG:Hid (QF2 w1 a n gs):=hg.below HB.out;clear hg;go_enter func228,ntmps228;go_wp2_with fail
 rw[<- hw1];go_loopw [7,8,9] (fun v d i wr=>∃(k:Nat) (es:List GrI) (b:Bool),k<=n/\i=iv (k:Int)/\d=.bool b/\qR9 gs r s k=(es,b)/\qP9 wr w1.heap.size v es/\v≠.slice none 0 0/\Below w1.heap.size w1 wr) (fun _ _ i _=>n-(intOf i).toNat)
 case atStart =>
  exact⟨0,[],false,gH _,rfl,rfl,QY2 _ _ _,by rw[show w.heap.size+1=w1.heap.size by omega];exact kH w1 #[] 0 (gB _) (gH _) rfl,by simp,zN⟩
 case round =>
  obtain⟨k,es,d,hk,rfl,rfl,hat,hown,hnn,hnx⟩:=hrel;by_cases hlt:k<n
  .obtain⟨b,off,x,e,hx,⟨c0,c1,c2⟩,hbl⟩:=(HG.out.below hnx).at hlt
   obtain⟨r0,r1⟩:=HR.out;replace r0:=(hnx.cell (p:=⟨w.heap.size,0,none⟩) (by show w.heap.size<_;omega)).trans r0
   replace r1:=(hnx.cell (p:=⟨w.heap.size,1,none⟩) (by show w.heap.size<_;omega)).trans r1
   subst e;have hlt':(k:Int)<(n:Int):=by omega
   go_upto_region 9 with fail
   obtain⟨X,hX⟩:∃X,X=wr.alloc (.cells #[iv x.1.1,iv x.1.2,iv x.2] 263):=⟨_,rfl⟩;rw[<- hX];have hbX:Below wr.heap.size wr X:=by rw[hX];exact zN
   have x0:X.cell? ⟨wr.heap.size,0,none⟩=some (iv x.1.1):=by rw[hX];simp
   have x1:X.cell? ⟨wr.heap.size,1,none⟩=some (iv x.1.2):=by rw[hX];simp
   have x2:X.cell? ⟨wr.heap.size,2,none⟩=some (iv x.2):=by rw[hX];simp
   have x3:X.frozen? ⟨wr.heap.size,2,none⟩=false:=by rw[hX];simp
   have hXs:X.heap.size=wr.heap.size+1:=by rw[hX];simp
   have hwr:w1.heap.size<=wr.heap.size:=hnx.size;replace r0:=(hbX.cell (p:=⟨w.heap.size,0,none⟩) (by show w.heap.size<_;omega)).trans r0
   replace r1:=(hbX.cell (p:=⟨w.heap.size,1,none⟩) (by show w.heap.size<_;omega)).trans r1
   have HO:=hJJ hown;have HAT:Hid (qR9 gs r s (k+1)=qK3 r s (es,d) x):=by show qR9 gs r s (k+1)=_;rw[QY3 hx,hat]
   have HLE:Hid (es.length<=k+1):=by
    have:=QS5 gs r s k;rw[hat]at this;show es.length<=k+1
    split at this <;> simp_all <;> omega
   clear hX hown hat hx c0 c1 c2;have hnX:Below w1.heap.size w1 X:=hnx.trans (hbX.mono hwr);by_cases qe:x.1=r
   .have he:qGq x.1 r=true:=(qU6 _ _).2 qe;have HN:Hid (qR9 gs r s (k+1)=(es++[(x.1,orI x.2 s)],true)):=by show qR9 gs r s (k+1)=_;rw[HAT.out];simp[qK3,qe]
    clear HAT qe;go_wp2_with (first | (at_builtin;refine jG _ rfl _ _ 215 rfl w1.heap.size 263 i0 (.agg #[iv 0,iv 0,iv 0]) 3 24 Tryz.under215 hi hz0 hz1 hz2 rfl (by decide) u7 (es.length) (qL6 es) rfl ?c0 ⟨_,0,none⟩ 1 1 [iv x.1.1,iv x.1.2,iv (orI x.2 s)] rfl rfl ?c1 ?c2 ?c3 ?c4 ?c5 ?_))
    case c0=>exact HO.out.below ((hbX.setCell (p:=⟨wr.heap.size,2,none⟩) (gB _) _).alloc (by simp;omega) _)
    case c1=>exact qN8 _ _ (by first | rfl | simp[hXs] | simp) _ _ _ _
    case c2=>intro u hu;simp at hu;rcases hu with rfl|rfl|rfl <;> rfl
    case c3=>have:=HLE.out;unfold maxLen;omega
    case c4=>have:=HLE.out;omega
    case c5=>simp;omega
    .intro v' w' hown' hgrow hnil;have R1:Hid (qP9 w' w1.heap.size v' (es++[(x.1,orI x.2 s)])):=by show qP9 w' w1.heap.size v' _;rw[hsz];exact qN5 hown'
     have R2:Hid (Below w1.heap.size w1 w'):=qK5 (HO.out.below ((hbX.setCell (p:=⟨wr.heap.size,2,none⟩) (gB _) _).alloc (by simp;omega) _)) ((hnX.setCell (p:=⟨wr.heap.size,2,none⟩) hwr _).alloc (by simp;omega) _) hgrow (by simp;omega);have hnn':v'≠.slice none 0 0:=by first | exact hnil | simpa using hnil
     clear hown' hgrow hnil;go_wp2;go_roundw
     case rel=>exact⟨k+1,_,_,by omega,by go_num,rfl,HN.out,R1.out,hnn',R2.out⟩
     case measure=>simp[intOf];omega
   .have he:qGq x.1 r=false:=by
     cases q:qGq x.1 r
     .rfl
     .exact absurd ((qU6 _ _).1 q) qe
    have HQ:=hJJ qe;clear qe;by_cases qd:d=false/\ltR r x.1=true
    .obtain⟨rfl,ql⟩:=qd;have HN:Hid (qR9 gs r s (k+1)=(es++[(r,s)]++[x],true)):=by show qR9 gs r s (k+1)=_;rw[HAT.out];simp[qK3,HQ.out,ql]
     clear HAT;have hc1:X.cell? ⟨w.heap.size,0,none⟩=some (iv r.1):=r0
     have hcase:r.1<x.1.1\/(¬ r.1<x.1.1/\x.1.1=r.1/\r.2<x.1.2):=by
      simp[ltR]at ql;omega
     clear ql;rcases hcase with q1 | ⟨q1,q2,q3⟩
     .have g1:decide (r.1<x.1.1)=true:=by simpa using q1
      clear q1;go_wp2_with (first | (at_builtin;refine jG _ rfl _ _ 215 rfl w1.heap.size 263 i0 (.agg #[iv 0,iv 0,iv 0]) 3 24 Tryz.under215 hi hz0 hz1 hz2 rfl (by decide) u7 (es.length) (qL6 es) rfl ?c0 ⟨_,0,none⟩ 1 1 [iv r.1,iv r.2,iv s] rfl rfl ?c1 ?c2 ?c3 ?c4 ?c5 ?_))
      case c0=>exact HO.out.below (hbX.alloc (by omega) _)
      case c1=>exact qN8 _ _ (by first | rfl | simp[hXs] | simp) _ _ _ _
      case c2=>intro u hu;simp at hu;rcases hu with rfl|rfl|rfl <;> rfl
      case c3=>have:=HLE.out;unfold maxLen;omega
      case c4=>have:=HLE.out;omega
      case c5=>simp;omega
      .intro v' w' hown' hgrow hnil;have R1:Hid (qP9 w' w1.heap.size v' (es++[(r,s)])):=by show qP9 w' w1.heap.size v' _;rw[hsz];exact qN5 (x:=(r,s)) hown'
       have R2:Hid (Below w1.heap.size w1 w'):=qK5 (HO.out.below (hbX.alloc (by omega) _)) (hnX.alloc (by omega) _) hgrow (by simp;omega);have hnn':v'≠.slice none 0 0:=by first | exact hnil | simpa using hnil
       have hX2:=(gC X.heap.size X).alloc (gB _) (.cells #[iv r.1,iv r.2,iv s] 263);have y0:=qS1 HO.out hgrow (gB _) ((hX2.cell (p:=⟨wr.heap.size,0,none⟩) (by show wr.heap.size<_;omega)).trans x0);have y1:=qS1 HO.out hgrow (gB _) ((hX2.cell (p:=⟨wr.heap.size,1,none⟩) (by show wr.heap.size<_;omega)).trans x1);have y2:=qS1 HO.out hgrow (gB _) ((hX2.cell (p:=⟨wr.heap.size,2,none⟩) (by show wr.heap.size<_;omega)).trans x2);have hs2:=R2.out.size;have HLE2:Hid ((es++[(r,s)]).length<=k+2):=by show (es++[(r,s)]).length<=k+2;have:=HLE.out;simp;omega
       clear hown' hgrow hnil hX2;go_wp2_with (first | (at_builtin;refine jG _ rfl _ _ 215 rfl w1.heap.size 263 i0 (.agg #[iv 0,iv 0,iv 0]) 3 24 Tryz.under215 hi hz0 hz1 hz2 rfl (by decide) v' ((es++[(r,s)]).length) (qL6 (es++[(r,s)])) rfl ?c0 ⟨_,0,none⟩ 1 1 [iv x.1.1,iv x.1.2,iv x.2] rfl rfl ?c1 ?c2 ?c3 ?c4 ?c5 ?_))
       case c0=>exact R1.out.below (zN)
       case c1=>exact qN8 _ _ (by first | rfl | simp) _ _ _ _
       case c2=>intro u hu;simp at hu;rcases hu with rfl|rfl|rfl <;> rfl
       case c3=>have:=HLE2.out;unfold maxLen;omega
       case c4=>have:=HLE2.out;omega
       case c5=>simp;omega
       .intro v2 w2 hown' hgrow hnil;have R3:Hid (qP9 w2 w1.heap.size v2 (es++[(r,s)]++[x])):=by show qP9 w2 w1.heap.size v2 _;rw[hsz];exact qN5 (by rw[jD];exact hown')
        have R4:Hid (Below w1.heap.size w1 w2):=qK5 (R1.out.below (zN)) (R2.out.alloc (by omega) _) hgrow (by simp;omega);have hnn2:v2≠.slice none 0 0:=by first | exact hnil | simpa using hnil
        clear hown' hgrow hnil;go_wp2;go_roundw
        case rel=>exact⟨k+1,_,_,by omega,by go_num,rfl,HN.out,R3.out,hnn2,R4.out⟩
        case measure=>simp[intOf];omega
     .have g1:decide (r.1<x.1.1)=false:=by simpa using q1
      have g2:(x.1.1==r.1)=true:=by simpa using q2
      have g3:decide (r.2<x.1.2)=true:=by simpa using q3
      clear q1 q2 q3;go_wp2_with (first | (at_builtin;refine jG _ rfl _ _ 215 rfl w1.heap.size 263 i0 (.agg #[iv 0,iv 0,iv 0]) 3 24 Tryz.under215 hi hz0 hz1 hz2 rfl (by decide) u7 (es.length) (qL6 es) rfl ?c0 ⟨_,0,none⟩ 1 1 [iv r.1,iv r.2,iv s] rfl rfl ?c1 ?c2 ?c3 ?c4 ?c5 ?_))
      case c0=>exact HO.out.below (hbX.alloc (by omega) _)
      case c1=>exact qN8 _ _ (by first | rfl | simp[hXs] | simp) _ _ _ _
      case c2=>intro u hu;simp at hu;rcases hu with rfl|rfl|rfl <;> rfl
      case c3=>have:=HLE.out;unfold maxLen;omega
      case c4=>have:=HLE.out;omega
      case c5=>simp;omega
      .intro v' w' hown' hgrow hnil;have R1:Hid (qP9 w' w1.heap.size v' (es++[(r,s)])):=by show qP9 w' w1.heap.size v' _;rw[hsz];exact qN5 (x:=(r,s)) hown'
       have R2:Hid (Below w1.heap.size w1 w'):=qK5 (HO.out.below (hbX.alloc (by omega) _)) (hnX.alloc (by omega) _) hgrow (by simp;omega);have hnn':v'≠.slice none 0 0:=by first | exact hnil | simpa using hnil
       have hX2:=(gC X.heap.size X).alloc (gB _) (.cells #[iv r.1,iv r.2,iv s] 263);have y0:=qS1 HO.out hgrow (gB _) ((hX2.cell (p:=⟨wr.heap.size,0,none⟩) (by show wr.heap.size<_;omega)).trans x0);have y1:=qS1 HO.out hgrow (gB _) ((hX2.cell (p:=⟨wr.heap.size,1,none⟩) (by show wr.heap.size<_;omega)).trans x1);have y2:=qS1 HO.out hgrow (gB _) ((hX2.cell (p:=⟨wr.heap.size,2,none⟩) (by show wr.heap.size<_;omega)).trans x2);have hs2:=R2.out.size;have HLE2:Hid ((es++[(r,s)]).length<=k+2):=by show (es++[(r,s)]).length<=k+2;have:=HLE.out;simp;omega
       clear hown' hgrow hnil hX2;go_wp2_with (first | (at_builtin;refine jG _ rfl _ _ 215 rfl w1.heap.size 263 i0 (.agg #[iv 0,iv 0,iv 0]) 3 24 Tryz.under215 hi hz0 hz1 hz2 rfl (by decide) v' ((es++[(r,s)]).length) (qL6 (es++[(r,s)])) rfl ?c0 ⟨_,0,none⟩ 1 1 [iv x.1.1,iv x.1.2,iv x.2] rfl rfl ?c1 ?c2 ?c3 ?c4 ?c5 ?_))
       case c0=>exact R1.out.below (zN)
       case c1=>exact qN8 _ _ (by first | rfl | simp) _ _ _ _
       case c2=>intro u hu;simp at hu;rcases hu with rfl|rfl|rfl <;> rfl
       case c3=>have:=HLE2.out;unfold maxLen;omega
       case c4=>have:=HLE2.out;omega
       case c5=>simp;omega
       .intro v2 w2 hown' hgrow hnil;have R3:Hid (qP9 w2 w1.heap.size v2 (es++[(r,s)]++[x])):=by show qP9 w2 w1.heap.size v2 _;rw[hsz];exact qN5 (by rw[jD];exact hown')
        have R4:Hid (Below w1.heap.size w1 w2):=qK5 (R1.out.below (zN)) (R2.out.alloc (by omega) _) hgrow (by simp;omega);have hnn2:v2≠.slice none 0 0:=by first | exact hnil | simpa using hnil
        clear hown' hgrow hnil;go_wp2;go_roundw
        case rel=>exact⟨k+1,_,_,by omega,by go_num,rfl,HN.out,R3.out,hnn2,R4.out⟩
        case measure=>simp[intOf];omega
    .have HN:Hid (qR9 gs r s (k+1)=(es++[x],d)):=by
      show qR9 gs r s (k+1)=_
      rw[HAT.out];unfold qK3;rw[gI HQ.out,gI qd]
     clear HAT
     have hcase:d=true\/(d=false/\¬ r.1<x.1.1/\x.1.1≠r.1)\/(d=false/\¬ r.1<x.1.1/\x.1.1=r.1/\¬ r.2<x.1.2):=by
      cases d
      .have q1:¬ r.1<x.1.1:=fun h=>qd ⟨rfl,by simp[ltR,h]⟩
       have q3:x.1.1=r.1->¬ r.2<x.1.2:=fun e h=>qd ⟨rfl,by simp[ltR,e,h]⟩
       by_cases e:x.1.1=r.1
       .exact .inr (.inr ⟨rfl,q1,e,q3 e⟩)
       .exact .inr (.inl ⟨rfl,q1,e⟩)
      .exact .inl rfl
     clear qd;rcases hcase with rfl | ⟨rfl,q1,q2⟩ | ⟨rfl,q1,q2,q3⟩
     .skip
      go_wp2_with (first | (at_builtin;refine jG _ rfl _ _ 215 rfl w1.heap.size 263 i0 (.agg #[iv 0,iv 0,iv 0]) 3 24 Tryz.under215 hi hz0 hz1 hz2 rfl (by decide) u7 (es.length) (qL6 es) rfl ?c0 ⟨_,0,none⟩ 1 1 [iv x.1.1,iv x.1.2,iv x.2] rfl rfl ?c1 ?c2 ?c3 ?c4 ?c5 ?_))
      case c0=>exact HO.out.below (hbX.alloc (by omega) _)
      case c1=>exact qN8 _ _ (by first | rfl | simp[hXs] | simp) _ _ _ _
      case c2=>intro u hu;simp at hu;rcases hu with rfl|rfl|rfl <;> rfl
      case c3=>have:=HLE.out;unfold maxLen;omega
      case c4=>have:=HLE.out;omega
      case c5=>simp;omega
      .intro v' w' hown' hgrow hnil;have R1:Hid (qP9 w' w1.heap.size v' (es++[x])):=by show qP9 w' w1.heap.size v' _;rw[hsz];exact qN5 hown'
       have R2:Hid (Below w1.heap.size w1 w'):=qK5 (HO.out.below (hbX.alloc (by omega) _)) (hnX.alloc (by omega) _) hgrow (by simp;omega);have hnn':v'≠.slice none 0 0:=by first | exact hnil | simpa using hnil
       clear hown' hgrow hnil;go_wp2;go_roundw
       case rel=>exact⟨k+1,_,_,by omega,by go_num,rfl,HN.out,R1.out,hnn',R2.out⟩
       case measure=>simp[intOf];omega
     .have g1:decide (r.1<x.1.1)=false:=by simpa using q1
      have g2:(x.1.1==r.1)=false:=by simpa using q2
      clear q1 q2;go_wp2_with (first | (at_builtin;refine jG _ rfl _ _ 215 rfl w1.heap.size 263 i0 (.agg #[iv 0,iv 0,iv 0]) 3 24 Tryz.under215 hi hz0 hz1 hz2 rfl (by decide) u7 (es.length) (qL6 es) rfl ?c0 ⟨_,0,none⟩ 1 1 [iv x.1.1,iv x.1.2,iv x.2] rfl rfl ?c1 ?c2 ?c3 ?c4 ?c5 ?_))
      case c0=>exact HO.out.below (hbX.alloc (by omega) _)
      case c1=>exact qN8 _ _ (by first | rfl | simp[hXs] | simp) _ _ _ _
      case c2=>intro u hu;simp at hu;rcases hu with rfl|rfl|rfl <;> rfl
      case c3=>have:=HLE.out;unfold maxLen;omega
      case c4=>have:=HLE.out;omega
      case c5=>simp;omega
      .intro v' w' hown' hgrow hnil;have R1:Hid (qP9 w' w1.heap.size v' (es++[x])):=by show qP9 w' w1.heap.size v' _;rw[hsz];exact qN5 hown'
       have R2:Hid (Below w1.heap.size w1 w'):=qK5 (HO.out.below (hbX.alloc (by omega) _)) (hnX.alloc (by omega) _) hgrow (by simp;omega);have hnn':v'≠.slice none 0 0:=by first | exact hnil | simpa using hnil
       clear hown' hgrow hnil;go_wp2;go_roundw
       case rel=>exact⟨k+1,_,_,by omega,by go_num,rfl,HN.out,R1.out,hnn',R2.out⟩
       case measure=>simp[intOf];omega
     .have g1:decide (r.1<x.1.1)=false:=by simpa using q1
      have g2:(x.1.1==r.1)=true:=by simpa using q2
      have g3:decide (r.2<x.1.2)=false:=by simpa using q3
      clear q1 q2 q3;go_wp2_with (first | (at_builtin;refine jG _ rfl _ _ 215 rfl w1.heap.size 263 i0 (.agg #[iv 0,iv 0,iv 0]) 3 24 Tryz.under215 hi hz0 hz1 hz2 rfl (by decide) u7 (es.length) (qL6 es) rfl ?c0 ⟨_,0,none⟩ 1 1 [iv x.1.1,iv x.1.2,iv x.2] rfl rfl ?c1 ?c2 ?c3 ?c4 ?c5 ?_))
      case c0=>exact HO.out.below (hbX.alloc (by omega) _)
      case c1=>exact qN8 _ _ (by first | rfl | simp[hXs] | simp) _ _ _ _
      case c2=>intro u hu;simp at hu;rcases hu with rfl|rfl|rfl <;> rfl
      case c3=>have:=HLE.out;unfold maxLen;omega
      case c4=>have:=HLE.out;omega
      case c5=>simp;omega
      .intro v' w' hown' hgrow hnil;have R1:Hid (qP9 w' w1.heap.size v' (es++[x])):=by show qP9 w' w1.heap.size v' _;rw[hsz];exact qN5 hown'
       have R2:Hid (Below w1.heap.size w1 w'):=qK5 (HO.out.below (hbX.alloc (by omega) _)) (hnX.alloc (by omega) _) hgrow (by simp;omega);have hnn':v'≠.slice none 0 0:=by first | exact hnil | simpa using hnil
       clear hown' hgrow hnil;go_wp2;go_roundw
       case rel=>exact⟨k+1,_,_,by omega,by go_num,rfl,HN.out,R1.out,hnn',R2.out⟩
       case measure=>simp[intOf];omega
  .have hkn:k=n:=by omega
   subst hkn;cases d
   .obtain⟨r0,r1⟩:=HR.out;replace r0:=(hnx.cell (p:=⟨w.heap.size,0,none⟩) (by show w.heap.size<_;omega)).trans r0
    replace r1:=(hnx.cell (p:=⟨w.heap.size,1,none⟩) (by show w.heap.size<_;omega)).trans r1
    have HO:=hJJ hown
    have HLE:Hid (es.length<=k+1):=by
     have:=QS5 gs r s k;rw[hat]at this;show es.length<=k+1
     simp at this;omega
    have HAT:=hJJ hat;have hwr:w1.heap.size<=wr.heap.size:=hnx.size;clear hown hat;go_wp2_with (first | (at_builtin;refine jG _ rfl _ _ 215 rfl w1.heap.size 263 i0 (.agg #[iv 0,iv 0,iv 0]) 3 24 Tryz.under215 hi hz0 hz1 hz2 rfl (by decide) u7 (es.length) (qL6 es) rfl ?c0 ⟨_,0,none⟩ 1 1 [iv r.1,iv r.2,iv s] rfl rfl ?c1 ?c2 ?c3 ?c4 ?c5 ?_))
    case c0=>exact HO.out.below (zN)
    case c1=>exact qN8 _ _ (by first | rfl | simp) _ _ _ _
    case c2=>intro u hu;simp at hu;rcases hu with rfl|rfl|rfl <;> rfl
    case c3=>have:=HLE.out;unfold maxLen;omega
    case c4=>have:=HLE.out;omega
    case c5=>simp;omega
    .intro v' w' hown' hgrow hnil;have R1:qP9 w' w1.heap.size v' (es++[(r,s)]):=by rw[hsz];exact qN5 (x:=(r,s)) hown'
     have R2:Hid (Below w1.heap.size w1 w'):=qK5 (HO.out.below (zN)) (hnx.alloc (by omega) _) hgrow (by simp;omega);have hnn':v'≠.slice none 0 0:=by first | exact hnil | simpa using hnil
     obtain⟨g,cap,rfl⟩:=R1.shape hnn';have HR1:=hJJ R1;clear hown' hgrow hnil R1;go_wp2;go_ret;exact⟨g,_,cap,es++[(r,s)],rfl,rfl,by rw[HAT.out];rfl,QC5 HR1.out (by omega),HB.out.trans (R2.out.mono (by omega))⟩
   .obtain⟨g,cap,rfl⟩:=hown.shape hnn;have HO:=hJJ hown;have HAT:=hJJ hat;clear hown hat;go_wp2;go_ret;exact⟨g,_,cap,es,rfl,rfl,by rw[HAT.out];rfl,QC5 HO.out (by omega),HB.out.trans (hnx.mono (by omega))⟩
theorem qMr(B:Nat)(g n c:Nat)(gs:List GrI)(r:RoI)(s:Int)(w:World)(hz:gs.length=n)(ho:qP9 w B (.slice (some ⟨g,0,none⟩) n c) gs)(hg:SG gs)(hB:B<=w.heap.size):
  CP 228 #[.slice (some ⟨g,0,none⟩) n c,.agg #[iv r.1,iv r.2],iv s] w fun e w'=>∃g' m cap,e=.returned (.slice (some ⟨g',0,none⟩) m cap)/\(QS6 gs r s).length=m/\qP9 w' B (.slice (some ⟨g',0,none⟩) m cap) (QS6 gs r s)/\Below w.heap.size w w':=by
 by_cases hs:s=0
 .subst hs;have HO:=hJJ ho;have HZ:=hJJ hz;clear ho hz;go_enter func228,ntmps228;go_wp2;go_ret;have e:QS6 gs r 0=gs:=by simp[QS6]
  have hb:Below w.heap.size w (w.alloc (.cells #[iv r.1,iv r.2] 206)):=zN;rw[e];exact⟨g,n,c,rfl,HZ.out,HO.out.below hb,hb⟩
 .have hl:=QU8 hg;refine (qMq (some ⟨g,0,none⟩) n c gs r s w (ho.read hz) (by omega) hs).mono ?_;rintro e w' ⟨g',m,cap,es,rfl,hm,hes,hown,hb⟩;have e2:es=QS6 gs r s:=by rw[hes,<- hz,qJJ hg,QS6,gI hs]
  subst e2;exact⟨g',m,cap,rfl,hm,QC5 hown hB,hb⟩
end
abbrev put3(w:World)(g o:Nat)(s:GrI):World:=(((w.setCell ⟨g,o,none⟩ (iv s.1.1)).setCell ⟨g,o+1,none⟩ (iv s.1.2)).setCell ⟨g,o+2,none⟩ (iv s.2))
theorem qGW{w:World}{b off n:Nat}{gs:List GrI}(h:QF2 w (some ⟨b,off,none⟩) n gs):∀j u,(qL6 gs)[j]?=some u->w.cell? ((⟨b,off,none⟩:Addr).add j)=some u:=by
 intro j u hj
 have hjl:j<gs.length*3:=by
  by_cases q:j<gs.length*3
  .exact q
  .rw[gE (by rw[qBl];omega)]at hj;cases hj
 have hk:j / 3<n:=by rw[<- h.1];omega
 obtain⟨b',off',x,e,hx,⟨c0,c1,c2⟩,_⟩:=h.at hk
 cases e;obtain⟨f0,f1,f2⟩:=qAU gs (j / 3) x hx;rw[gR];have hm:j=j / 3*3\/j=j / 3*3+1\/j=j / 3*3+2:=by omega
 rcases hm with e | e | e
 .rw[e,f0]at hj;rw[e,<- hj];exact c0
 .rw[e,f1]at hj;rw[e,<- hj,<- Nat.add_assoc];exact c1
 .rw[e,f2]at hj;rw[e,<- hj,<- Nat.add_assoc];exact c2
theorem qKQ(b0 off0 n c:Nat)(gs:List GrI)(a:Option Addr)(m d:Nat)(zs:List qA1)(w:World)(hg:QF2 w (some ⟨b0,off0,none⟩) n gs)(hs:SG gs)(hr:qB9 w a m zs)(hm:m<=1000)(hz:∀z∈zs,okR z/\1<=z.k/\z.k<=4):
  CP 204 #[.slice a m d,.slice (some ⟨b0,off0,none⟩) n c] w fun e w'=>∃g l cap,e=.returned (.slice (some ⟨g,0,none⟩) l cap)/\(qO3 zs gs).length=l/\qP9 w' w.heap.size (.slice (some ⟨g,0,none⟩) l cap) (qO3 zs gs)/\Below w.heap.size w w':=by
 have hn:n<=40:=by rw[<- hg.1];exact QU8 hs
 obtain⟨i0,hi,hz0,hz1,hz2⟩:=jT Tryz.info263;have HG:=hJJ hg;have HS:=hJJ hs;have HR:=hJJ hr;have HZ:=hJJ hz;clear hg hs hr hz;have hn':(n:Int)<=40:=by omega
 have hm':(m:Int)<=1000:=by omega
 go_enter func204,ntmps204;go_wp2_with (first | (at_builtin;refine jG _ rfl _ _ 215 rfl w.heap.size 263 i0 (.agg #[iv 0,iv 0,iv 0]) 3 24 Tryz.under215 hi hz0 hz1 hz2 rfl (by decide) (.slice (some ⟨w.heap.size,0,none⟩) 0 0) 0 [] rfl ?c0 ⟨b0,off0,none⟩ n c (qL6 gs) rfl ?cl ?c1 ?c2 ?c3 ?c4 ?c5 ?_))
 case c0=>exact kH w #[] 0 (gB _) (gH _) rfl
 case cl=>rw[qBl,HG.out.1]
 case c1=>exact qGW (HG.out.below (zN))
 case c2=>exact qIn gs
 case c3=>unfold maxLen;omega
 case c4=>omega
 case c5=>simp
 .intro v1 w1 hown hgrow hnil
  have R1:qP9 w1 w.heap.size v1 gs:=by
   unfold qP9;rw[HG.out.1];simpa using hown
  have R2:Hid (Below w.heap.size w w1):=(zN).grown hgrow (by simp) (fun j hj=>by simp[Value.ownBlock]at hj;omega);have hnn:v1≠.slice none 0 0:=by first | exact hnil | simpa using hnil
  obtain⟨g1,cap1,rfl⟩:=R1.shape hnn;have HO:=hJJ R1;clear R1 hown hgrow hnil hnn;go_wp2;go_loopw [5,6] (fun v i wr=>∃k l g cap:Nat,k<=m/\i=iv (k:Int)/\v=.slice (some ⟨g,0,none⟩) l cap/\(qO1 zs gs k).length=l/\qP9 wr w.heap.size (.slice (some ⟨g,0,none⟩) l cap) (qO1 zs gs k)/\Below w.heap.size w wr) (fun _ i _=>m-(intOf i).toNat)
  case atStart=>exact⟨0,_,g1,cap1,gH _,rfl,rfl,by rw[QN5],by rw[QN5];exact HO.out,R2.out⟩
  case round =>
   obtain⟨k,l,g,cap,hk,rfl,rfl,hl,hown,hnx⟩:=hrel;by_cases hlt:k<m
   .obtain⟨b,off,z,e,hzk,hra⟩:=(HR.out.below hnx).at hlt
    subst e;have hzm:z∈zs:=gO hzk;have HE:Hid (qO1 zs gs (k+1)=QS6 (qO1 zs gs k) (z.ho,z.hn) (byF (ofG gs) z)):=qCc hzk gs
    have HBY:Hid (∀W:World,((∀b o,b<wr.heap.size->W.cell? ⟨b,o,none⟩=wr.cell? ⟨b,o,none⟩)/\Below wr.heap.size wr W)->CP 229 #[.slice (some ⟨b0,off0,none⟩) n c,.pointer (some ⟨b,off+k*8,none⟩)] W fun e w'=>e=.returned (iv (byF (ofG gs) z))/\Below W.heap.size W w'):=fun W hW =>
     qNw _ _ _ gs b (off+k*8) z W ((HG.out.below hnx).below hW.2) (by omega) (hra.below hW.2) (QA7 HS.out) (HZ.out z hzm).1 (HZ.out z hzm).2
    have HAD:Hid (∀W:World,((∀b o,b<wr.heap.size->W.cell? ⟨b,o,none⟩=wr.cell? ⟨b,o,none⟩)/\Below wr.heap.size wr W)->CP 228 #[.slice (some ⟨g,0,none⟩) l cap,.agg #[iv z.ho,iv z.hn],iv (byF (ofG gs) z)] W fun e w'=>∃g' m' cap',e=.returned (.slice (some ⟨g',0,none⟩) m' cap')/\(qO1 zs gs (k+1)).length=m'/\qP9 w' w.heap.size (.slice (some ⟨g',0,none⟩) m' cap') (qO1 zs gs (k+1))/\Below W.heap.size W w'):=fun W hW=>by
     rw[HE.out];exact qMr w.heap.size g l cap _ (z.ho,z.hn) _ W hl (hown.below hW.2) (qHM (fun z h=>(HZ.out z h).1) HS.out k) (jF hnx.size hW.2.size)
    obtain⟨h0,h1,h2,_⟩:=hra;have hbb:b<wr.heap.size:=zL wr ⟨b,off+k*8,none⟩ h0;have hlt':(k:Int)<(m:Int):=by omega
    clear hown hl HE hzm hzk;go_wp2_with fail
    go_region_held3 (fun w'=>(∀b o,b<wr.heap.size->w'.cell? ⟨b,o,none⟩=wr.cell? ⟨b,o,none⟩)/\Below wr.heap.size wr w') (first | exact hS | exact qA8 _)
     (first
      | (go_at_call 229;refine (HBY.out _ (by assumption)).mono ?_;rintro e w' ⟨rfl,hb1⟩;have hS:=qA0 (by assumption) hb1)
      | (go_at_call 228;refine (HAD.out _ (by assumption)).mono ?_;rintro e w' ⟨g',m',cap',rfl,hl',hown',hb1⟩;have hS:=qA0 (by assumption) hb1))
    go_wp2;exact⟨⟨k+1,m',g',cap',by omega,by go_num,rfl,hl',hown',hnx.trans (hS.2.mono hnx.size)⟩,by simp[intOf];omega⟩
   .have hkn:k=m:=by omega
    subst hkn;have E:Hid (qO1 zs gs k=qO3 zs gs):=by show qO1 zs gs k=_;rw[qO3,HR.out.1]
    have HO2:Hid (qP9 wr w.heap.size (.slice (some ⟨g,0,none⟩) l cap) (qO3 zs gs)):=by rw[<- E.out];exact hown
    have HL:Hid ((qO3 zs gs).length=l):=by rw[<- E.out];exact hl
    clear hown hl E;go_wp2;go_ret;exact⟨g,l,cap,rfl,HL.out,HO2.out,hnx⟩
section
def qOn(p q:GrI):Bool:=p.1.1==q.1.1&&p.1.2==q.1.2&&p.2==q.2
theorem qEz(p q:GrI):qOn p q=true↔p=q:=by
 obtain⟨⟨a,b⟩,c⟩:=p;obtain⟨⟨d,e⟩,f⟩:=q;simp[qOn,and_assoc]
theorem qOD(p q:GrI)(w:World):(binOp .neq 263 (.agg #[iv p.1.1,iv p.1.2,iv p.2]) (.agg #[iv q.1.1,iv q.1.2,iv q.2])).run prog w=.ok (.bool (!qOn p q)) w:=by
 obtain⟨⟨a0,a1⟩,a2⟩:=p;obtain⟨⟨b0,b1⟩,b2⟩:=q;simp only[qOn];cases e0:(a0==b0)
 .simp[go_sem,e0]
 cases e1:(a1==b1)
 .simp[go_sem,e0,e1]
 cases e2:(a2==b2)
 .simp[go_sem,e0,e1,e2]
 .simp[go_sem,e0,e1,e2]
attribute [local go_sem ↓] qOD
theorem bd0(w:World)(m:Nat):Below w.heap.size w (w.drewN m):=bdN (gC _ _) _
theorem qKR(a b:Option Addr)(n m c d:Nat)(xs ys:List GrI)(w:World)(hx:QF2 w a n xs)(hy:QF2 w b m ys)(hn:n<=1000)(hm:m<=1000):
  CP 205 #[.slice a n c,.slice b m d] w fun e w'=>e=.returned (.bool (decide (xs=ys)))/\Below w.heap.size w w':=by
 have HX:=hJJ hx;have HY:=hJJ hy;clear hx hy;have hn':(n:Int)<=1000:=by omega
 have hm':(m:Int)<=1000:=by omega
 by_cases hnm:n=m
 .subst hnm;go_enter func205,ntmps205;go_wp2;go_loopw [5] (fun i wr=>∃k:Nat,k<=n/\i=iv (k:Int)/\xs.take k=ys.take k/\∃q,wr=w.drewN q) (fun i _=>n-(intOf i).toNat)
  case atStart=>exact⟨0,gH _,rfl,by simp,0,rfl⟩
  case round =>
   obtain⟨k,hk,rfl,htk,q,rfl⟩:=hrel;have HT:=hJJ htk;clear htk;by_cases hlt:k<n
   .obtain⟨b1,o1,x,e1,hx1,⟨c0,c1,c2⟩,_⟩:=HX.out.at hlt
    obtain⟨b2,o2,y,e2,hy1,⟨d0,d1,d2⟩,_⟩:=HY.out.at hlt
    subst e1 e2;have hkx:k<xs.length:=by rw[HX.out.1];exact hlt
    have hky:k<ys.length:=by rw[HY.out.1];exact hlt
    have ex:xs[k]=x:=by rw[gA hkx]at hx1;exact gJ hx1
    have ey:ys[k]=y:=by rw[gA hky]at hy1;exact gJ hy1
    have hlt':(k:Int)<(n:Int):=by omega
    cases he:qOn x y
    .have HN:Hid (decide (xs=ys)=false):=by
      show decide (xs=ys)=false
      refine jL (fun e=>?_);subst e;have : x=y:=by rw[<- ex,<- ey]
      rw[(qEz _ _).2 this]at he;cases he
     clear ex ey hx1 hy1 hkx hky;go_wp2;go_quiet (fail)
     go_wp2;go_ret;exact⟨by rw[HN.out];rfl,bdN (bd0 _ _) _⟩
    .have HN:Hid (xs.take (k+1)=ys.take (k+1)):=by
      show xs.take (k+1)=ys.take (k+1)
      rw[jR hkx,jR hky,HT.out,ex,ey,(qEz _ _).1 he]
     clear ex ey hx1 hy1 hkx hky;go_wp2;go_quiet (fail)
     go_wp2;exact⟨⟨k+1,by omega,by go_num,HN.out,_,rfl⟩,by simp[intOf];omega⟩
   .have hkn:k=n:=by omega
    subst hkn
    have HE:Hid (decide (xs=ys)=true):=by
     show decide (xs=ys)=true
     have h1:=HT.out;rw[gV (by rw[HX.out.1];exact gB _),gV (by rw[HY.out.1];exact gB _)]at h1;exact jQ h1
    go_wp2;go_ret;exact⟨by rw[HE.out];rfl,bd0 _ _⟩
 .have HN:Hid (decide (xs=ys)=false):=by
   show decide (xs=ys)=false
   refine jL (fun e=>hnm ?_);rw[<- HX.out.1,<- HY.out.1,e]
  have hne:((n:Int)==(m:Int))=false:=by simp;omega
  have hne2:((n:Int) != (m:Int))=true:=by simp;omega
  go_enter func205,ntmps205;go_wp2;go_ret;exact⟨by rw[HN.out];rfl,gC _ _⟩
def qNS(w:World):Value->Int
 | .slice (some a) n _=>((List.range n).map (fun k=>intOf ((w.cell? ⟨a.block,a.off+k*3+2,none⟩).getD undef))).sum
 | _=>0
theorem qHD{w:World}{b off n c:Nat}{gs:List GrI}(h:QF2 w (some ⟨b,off,none⟩) n gs):qNS w (.slice (some ⟨b,off,none⟩) n c)=qU8 gs:=by
 suffices key:(List.range n).map (fun k=>intOf ((w.cell? ⟨b,off+k*3+2,none⟩).getD undef))=gs.map Prod.snd by
  show ((List.range n).map (fun k=>intOf ((w.cell? ⟨b,off+k*3+2,none⟩).getD undef))).sum=(gs.map Prod.snd).sum
  rw[key]
 apply List.ext_getElem
 .simp[h.1]
 .intro k h1 h2;have hk:k<n:=by simpa using h1
  obtain⟨b',off',x,e,hx,⟨_,_,c2⟩,_⟩:=h.at hk
  cases e;have hkx:k<gs.length:=by rw[h.1];exact hk
  have ex:gs[k]=x:=by rw[gA hkx]at hx;exact gJ hx
  simp[c2,ex,intOf]
theorem qMp(a:Option Addr)(m d:Nat)(zs:List qA1)(w:World)(hr:qB9 w a m zs)(hm:m<=1000)(hz:∀z∈zs,okR z/\1<=z.k/\z.k<=4):
  CP 171 #[.slice a m d] w fun e w'=>∃g l cap gs,e=.returned (.slice (some ⟨g,0,none⟩) l cap)/\gs.length=l/\QM8 zs gs/\(∃n,gs=itG zs n)/\qP9 w' w.heap.size (.slice (some ⟨g,0,none⟩) l cap) gs/\Below w.heap.size w w':=by
 have HR:=hJJ hr;have HZ:=hJJ hz;clear hr hz;go_enter func171,ntmps171;go_wp2_with fail
 go_loopw [3] (fun v wr=>∃k l g cap:Nat,v=.slice (some ⟨g,0,none⟩) l cap/\(itG zs k).length=l/\qP9 wr w.heap.size (.slice (some ⟨g,0,none⟩) l cap) (itG zs k)/\Below w.heap.size w wr) (fun v wr=>(10200-qNS wr v).toNat)
 case atStart=>exact⟨0,0,w.heap.size,0,rfl,rfl,kH w #[] 0 (gB _) (gH _) rfl,zN⟩
 case round =>
  obtain⟨k,l,g,cap,rfl,hl,hown,hnx⟩:=hrel;have HO:=hJJ hown;have HL:=hJJ hl;have HK:Hid (∀z∈zs,okR z):=fun z h=>(HZ.out z h).1
  have HM:Hid (qNS wr (.slice (some ⟨g,0,none⟩) l cap)=qU8 (itG zs k)):=qHD (hown.read hl);have hl40:l<=40:=by rw[<- hl];exact QU8 (QK8 HK.out k)
  clear hown hl
  have HST:Hid (CP 204 #[.slice a m d,.slice (some ⟨g,0,none⟩) l cap] wr fun e w'=>∃g' l' cap',e=.returned (.slice (some ⟨g',0,none⟩) l' cap')/\(qO3 zs (itG zs k)).length=l'/\qP9 w' wr.heap.size (.slice (some ⟨g',0,none⟩) l' cap') (qO3 zs (itG zs k))/\Below wr.heap.size wr w') :=
   qKQ g 0 l cap (itG zs k) a m d zs wr (HO.out.read HL.out) (QK8 HK.out k) (HR.out.below hnx) hm HZ.out
  go_upto_region 3 with (first | (go_at_call 204;refine HST.out.mono ?_;rintro e w2 ⟨g2,l2,cap2,rfl,hl2,hown2,hb2⟩))
  have HL2:=hJJ hl2;have HO2:=hJJ hown2;have hl240:l2<=40:=by rw[<- hl2];exact QU8 (qHN HK.out (QK8 HK.out k))
  clear hl2 hown2 HST
  have HSA:Hid (CP 205 #[.slice (some ⟨g2,0,none⟩) l2 cap2,.slice (some ⟨g,0,none⟩) l cap] w2 fun e w'=>e=.returned (.bool (decide (qO3 zs (itG zs k)=itG zs k)))/\Below w2.heap.size w2 w') :=
   qKR _ _ _ _ _ _ _ _ w2 (HO2.out.read HL2.out) ((HO.out.read HL.out).below hb2) (by omega) (by omega)
  by_cases hfix:qO3 zs (itG zs k)=itG zs k
  .have HF:Hid (qO3 zs (itG zs k)=itG zs k):=hfix;rw[jQ hfix]at HSA;clear hfix;go_wp2_with (first | (go_at_call 205;refine HSA.out.mono ?_;rintro e w3 ⟨rfl,hb3⟩))
   go_ret;have hb:Below wr.heap.size wr w3:=hb2.trans (hb3.mono hb2.size);exact⟨g,l,cap,itG zs k,rfl,HL.out,qJI HK.out HF.out,⟨k,rfl⟩,HO.out.below hb,hnx.trans (hb.mono hnx.size)⟩
  .have HF:Hid (qU8 (itG zs k)<qU8 (itG zs (k+1))/\qU8 (itG zs (k+1))<=10200):=by
    have h1:=qEE HK.out (QK8 HK.out k);have h2:=(qLI (QK8 HK.out (k+1))).2;have h3:qU8 (itG zs k)≠qU8 (qO3 zs (itG zs k)):=fun e=>hfix (h1.2 e)
    have h4:=h1.1;show qU8 (itG zs k)<qU8 (itG zs (k+1))/\qU8 (itG zs (k+1))<=10200
    simp only[itG]at h2 ⊢
    omega
   rw[jL hfix]at HSA;clear hfix;go_wp2_with (first | (go_at_call 205;refine HSA.out.mono ?_;rintro e w3 ⟨rfl,hb3⟩))
   have ho3:qP9 w3 w.heap.size (.slice (some ⟨g2,0,none⟩) l2 cap2) (itG zs (k+1)):=QC5 (HO2.out.below hb3) hnx.size;have hs3:qNS w3 (.slice (some ⟨g2,0,none⟩) l2 cap2)=qU8 (itG zs (k+1)):=qHD (ho3.read HL2.out);have hb:Below wr.heap.size wr w3:=hb2.trans (hb3.mono hb2.size);go_roundw
   case rel=>exact⟨k+1,l2,g2,cap2,rfl,HL2.out,ho3,hnx.trans (hb.mono hnx.size)⟩
   case measure =>
    have h1:=HM.out;have h2:=HF.out;show (10200-qNS w3 (.slice (some ⟨g2,0,none⟩) l2 cap2)).toNat<(10200-qNS wr (.slice (some ⟨g,0,none⟩) l cap)).toNat
    rw[hs3,h1];omega
end
