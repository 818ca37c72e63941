/- Contracts. -/
import Derived.Test.YtdghpccmdnnenaaGreatDoorPx22
namespace Go.Proofs.YtdghpccmdnnenaaGreatDoor
set_option maxRecDepth 100000
set_option maxHeartbeats 8000000
open Go.RowKit Go.Proofs.Tryz
set_option linter.unusedVariables false
set_option linter.unusedSimpArgs false
theorem qDI(f i:Int)(w:World)(h1:1<=f)(h2:f<=2):CP 131 #[iv f,iv i] w fun e w'=>e=.returned (.bool (inR i 1 (3*f+1)))/\w=w':=by
 go_enter func131,ntmps131;go_wp2_with (go_at_call 109;refine (qT5 _ _ _ _).mono ?_;rintro e w' ⟨rfl,rfl⟩)
 go_ret;exact⟨rfl,rfl⟩
def qX2(f:Int)(us:List Int):Int:=if QA6 f us=true then (if f<(us.length:Int) then 2 else if qY1 us=true then 0 else 1) else 3
theorem qKV(f:Int)(a:Option Addr)(n cap:Nat)(us:List Int)(w:World)(h1:1<=f)(h2:f<=2)(hn:n<=1048576)(h:qD0 w a n us):CP 80 #[iv f,.slice a n cap] w fun e w'=>e=.returned (iv (qX2 f us))/\Below w.heap.size w w':=by
 have H:=hJJ h;have HZ:=hJJ h.1;have hn':(n:Int)<=1048576:=by omega
 obtain⟨K,hK⟩:∃K,qX2 f us=K:=⟨_,rfl⟩
 have HK:Hid ((if QA6 f us=true then (if f<(n:Int) then 2 else if qY1 us=true then 0 else 1) else 3)=K):=by
  show _=K
  rw[<- hK];unfold qX2;rw[h.1]
 have HM:Hid (∀(i:Int) (w:World),CP 131 #[iv f,iv i] w fun e w'=>e=.returned (.bool (inR i 1 (3*f+1)))/\w=w'):=fun i w=>qDI f i w h1 h2
 rw[hK];clear h hK;go_enter func80,ntmps80;go_wp2_with fail
 go_loopw [5] (fun i wr=>∃k:Nat,k<=n/\i=iv (k:Int)/\Hid (∀j x,j<k->us[j]?=some x->inR x 1 (3*f+1)=true)/\w=wr) (fun i _=>n-(intOf i).toNat)
 case atStart=>exact⟨0,gH _,rfl,fun j x q=>by omega,rfl⟩
 case round =>
  obtain⟨k,hk,rfl,HJ,rfl⟩:=hrel;by_cases hlt:k<n
  .obtain⟨b,off,x,rfl,hx,hxa,hbl⟩:=H.out.at hlt
   have hlt':(k:Int)<(n:Int):=by omega
   have HX:=hJJ hx;obtain⟨t,ht⟩:∃t,inR x 1 (3*f+1)=t:=⟨_,rfl⟩;have HT:=hJJ ht;have HC:Hid (∀w:World,CP 131 #[iv f,iv x] w fun e w'=>e=.returned (.bool t)/\w=w'):=fun w=>by rw[<- ht];exact HM.out x w
   clear hx ht;go_wp2_with fail
   refine (HC.out _).mono ?_;rintro e w1 ⟨rfl,rfl⟩;cases t
   .have HE:Hid (K=3):=by
     show K=3
     rw[<- HK.out]
     have : QA6 f us=false:=by
      cases z:QA6 f us
      .rfl
      .unfold QA6 at z;have:=List.all_eq_true.1 z x (gO HX.out);rw[HT.out]at this;cases this
     rw[this];rfl
    clear HK;go_wp2;go_ret;exact⟨by rw[HE.out];rfl,gC _ _⟩
   .have HN:Hid (∀j y,j<k+1->us[j]?=some y->inR y 1 (3*f+1)=true):=fun j y q1 q2=>by
     by_cases e:j=k
     .subst e;rw[HX.out]at q2;cases q2;exact HT.out
     .exact HJ.out j y (by omega) q2
    go_wp2;exact⟨⟨k+1,by omega,by go_num,HN,trivial⟩,by simp[intOf];omega⟩
  .have hkn:k=n:=by omega
   have hlt':¬ ((k:Int)<(n:Int)):=by omega
   have HK2:Hid ((if f<(n:Int) then 2 else if qY1 us=true then 0 else 1)=K):=by
    show _=K
    rw[<- HK.out]
    have : QA6 f us=true:=by
     unfold QA6;refine List.all_eq_true.2 (fun y hy=>?_);obtain⟨q,hq,e⟩:=List.mem_iff_getElem.1 hy;exact HJ.out q y (by have:=HZ.out;omega) (by rw[gA hq,e])
    rw[this,gK rfl]
   clear hkn HK HJ;by_cases q1:f<(n:Int)
   .have HE:Hid (K=2):=by show K=2;rw[<- HK2.out,gK q1]
    clear HK2;go_wp2;go_ret;exact⟨by rw[HE.out];rfl,gC _ _⟩
   have HK3:Hid ((if qY1 us=true then 0 else 1)=K):=by show _=K;rw[<- HK2.out,gI q1]
   clear HK2;go_wp2_with fail
   go_loopw [6] (fun i wr=>∃m:Nat,1<=m/\(m<=n\/m=1)/\i=iv (m:Int)/\Hid (∀j x y,1<=j->j<m->us[j-1]?=some x->us[j]?=some y->x<y)/\Below w.heap.size w wr) (fun i _=>n+1-(intOf i).toNat)
   case atStart=>exact⟨1,gB _,.inr rfl,rfl,fun j x y h1 h2=>by omega,gC _ _⟩
   case round =>
    obtain⟨m,hm1,hmn,rfl,HR,hnx⟩:=hrel;by_cases hlt:m<n
    .obtain⟨k,hk⟩:∃k,k+1=m:=⟨m-1,by omega⟩;obtain⟨b,off,x,rfl,hx,hxa,hbl⟩:=H.out.at (show k<n by omega)
     obtain⟨b',off',y,e',hy,hya,_⟩:=H.out.at hlt
     cases e';have c0:=(hnx.cell (p:=⟨b,off+k,none⟩) hbl).trans hxa;have c1:=(hnx.cell (p:=⟨b,off+m,none⟩) hbl).trans hya;have hbw:b<wr.heap.size:=gD hbl hnx.size;have hlt':(m:Int)<(n:Int):=by omega
     have hm0:(0:Int)<=(m:Int):=by omega
     have hk0:(0:Int)<=(k:Int):=by omega
     have hkn:(k:Int)<(n:Int):=by omega
     have hwr:IntKind.i64.wrap ((m:Int)-1)=(k:Int):=by rw[kG];omega
     have HX:Hid (us[m-1]?=some x/\us[m]?=some y):=⟨by rw[show m-1=k by omega];exact hx,hy⟩;clear hx hy hxa hya hk hmn;by_cases hxy:x<y
     .have hle:¬ y<=x:=by omega
      have HN:Hid (∀j x y,1<=j->j<m+1->us[j-1]?=some x->us[j]?=some y->x<y):=fun j x' y' h1 h2 e1 e2=>by
       by_cases q:j=m
       .subst q;rw[HX.out.1]at e1;rw[HX.out.2]at e2;cases e1;cases e2;exact hxy
       .exact HR.out j x' y' h1 (by omega) e1 e2
      clear hxy;go_wp2_with fail
      go_quiet (fail)
      go_wp2;exact⟨⟨m+1,by omega,.inl (by omega),by go_num,HN,below_drewN hnx _⟩,by simp[intOf];omega⟩
     .have hle:y<=x:=by omega
      have HE:Hid (K=1):=by
       show K=1
       have : qY1 us=false:=jL (qEN (k:=m) HX.out.1 HX.out.2 (by omega) hxy);rw[<- HK3.out,this];rfl
      clear hxy HK3;go_wp2_with fail
      go_quiet (fail)
      go_wp2;go_ret;exact⟨by rw[HE.out];rfl,below_drewN hnx _⟩
    .have hlt':¬ ((m:Int)<(n:Int)):=by omega
     have HE:Hid (K=0):=by
      show K=0
      have : qY1 us=true:=jQ (qBG HZ.out (fun j x y h1 h2 e1 e2=>HR.out j x y h1 (by omega) e1 e2));rw[<- HK3.out,this];rfl
     clear HK3;go_wp2;go_ret;exact⟨by rw[HE.out];rfl,hnx⟩
theorem qS3{P:Program}{w:World}{ops:Array Oper}{rest:List Oper}{o:Oper}{a:Act}{Q:Exit->Act->World->Prop}(hgd:o.guard=none)(s x:Operand)(t:TypeId)(ho:o.op=.call { callee:=.builtin .append,args:=#[s,x],argTypes:=#[t,t] })(base:Nat)(e:TypeId)(i:TypeInfo)(z:Value)(size bytes:Nat)(ht:P.underlying t=some (.slice e))(hi:P.info? e=some i)(hz:i.zero=some z)(hsize:i.size=size)(hby:i.bytes=bytes)(hzs:z.cells.size=size)(hsz:0<size)(v:Value)(n:Nat)(xs:List Value)(hs:a.eval s=v)(hown:w.ownsRow base e size v n xs)(hv:v≠.slice none 0 0)(ad:Option Addr)(m c:Nat)(news:List Value)(hx:a.eval x=.slice ad m c)(hnil:ad=none->m=0/\c=0)(hl:news.length=m*size)(hnews:∀p,ad=some p->∀j u,news[j]?=some u->w.cell? (p.add j)=some u)(h1:∀u∈news,u.oneCell'=true)(h63:n+m<=maxLen)(hbytes:(n+m)*bytes<=140737488355328)(hbase:base<=w.heap.size)(h:∀v' w',w'.ownsRow base e size v' (n+m) (xs++news)->w.grownBy w' v.ownBlock->v'≠.slice none 0 0->wpList P ops Q rest (a.put o.dst v') w'):wpList P ops Q (o::rest) a w:=by
 cases ad with
 | none =>
  obtain⟨rfl,rfl⟩:=hnil rfl;obtain rfl:news=[]:=List.length_eq_zero_iff.1 (by rw[hl];omega);refine wpList_append_own_none hgd s x t ho base e i size ht hi v n xs hs hown hx ?_;exact h v w (by simpa using hown) (QC8 _ _) hv
 | some p=>exact jG w hgd s x t ho base e i z size bytes ht hi hz hsize hby hzs hsz v n xs hs hown p m c news hx hl (hnews p rfl) h1 h63 hbytes hbase (fun v' w' a1 a2 a3=>h v' w' a1 a2 (fun q=>hv (a3.1 q).1))
theorem qX1{b B:Nat}{vs:List Value}{W W':World}(h:qJ2 b vs W)(hb:b<W.heap.size)(hg:W.grownBy W' (some B))(hne:b≠B):qJ2 b vs W':=by
 have k:=hg.block b hb (by simpa using hne);exact⟨fun j v e=>(jO (w:=W) (w':=W') (a:=⟨b,j,none⟩) k).trans (h.1 j v e),fun j=>(World.frozen?_of_block (w:=W) (w':=W') (a:=⟨b,j,none⟩) k).trans (h.2 j)⟩
theorem QA8{w:World}{b o n:Nat}{gs:List StI}(h:qL2 w (some ⟨b,o,none⟩) n gs):∀j u,(qD4 gs)[j]?=some u->w.cell? ((⟨b,o,none⟩:Addr).add j)=some u:=by
 intro j u hj
 have hjl:j<gs.length*5:=by
  by_cases q:j<gs.length*5
  .exact q
  .rw[gE (by rw[QJ2];omega)]at hj;cases hj
 have hk:j / 5<gs.length:=by omega
 obtain⟨b',o',e',hc⟩:=h.2 (by have:=h.1;omega);cases e';have hp:=hc (j / 5) _ (gA hk);obtain⟨f0,f1,f2,f3,f4⟩:=QR5 gs (j / 5) _ (gA hk);obtain⟨p0,p1,p2,p3,p4⟩:=hp;rw[gR];have hr:j=j / 5*5\/j=j / 5*5+1\/j=j / 5*5+2\/j=j / 5*5+3\/j=j / 5*5+4:=by omega
 rcases hr with e | e | e | e | e
 .rw[e]at hj ⊢;rw[f0]at hj;cases hj;exact p0
 .rw[e]at hj ⊢;rw[f1]at hj;cases hj;rw[<- Nat.add_assoc];exact p1
 .rw[e]at hj ⊢;rw[f2]at hj;cases hj;rw[<- Nat.add_assoc];exact p2
 .rw[e]at hj ⊢;rw[f3]at hj;cases hj;rw[<- Nat.add_assoc];exact p3
 .rw[e]at hj ⊢;rw[f4]at hj;cases hj;rw[<- Nat.add_assoc];exact p4
theorem qMD{w:World}{p:Addr}{n:Nat}{gs:List StI}(h:qL2 w (some p) n gs):∀j u,(qD4 gs)[j]?=some u->w.cell? (p.add j)=some u:=by
 intro j u e
 have hj:j<gs.length*5:=by
  rw[<- QJ2];exact (gY.1 e).1
 have h0:0<n:=by have:=h.1;omega
 obtain⟨b,off,ea,hc⟩:=h.2 h0;obtain rfl:p=⟨b,off,none⟩:=gJ ea;exact QA8 h j u e
theorem qMi{w:World}{p:Addr}{n:Nat}{gs:List LkI}(h:qJ9 w (some p) n gs):∀j u,(qA2 gs)[j]?=some u->w.cell? (p.add j)=some u:=by
 intro j u e
 have hj:j<gs.length*4:=by
  rw[<- qG0];exact (gY.1 e).1
 have h0:0<n:=by have:=h.1;omega
 obtain⟨b,off,ea,hc⟩:=h.2 h0;obtain rfl:p=⟨b,off,none⟩:=gJ ea;exact QO9 h j u e
structure qK9 (r:qD2):Prop where
 s:r.sa=none->r.sn=0/\r.sc=0
 l:r.la=none->r.ln=0/\r.lc=0
def qPL(r:qD2)(w:World)(d:Ending)(w':World):Prop:=∃(gs sc gl lc:Nat),d=.returned (.agg #[iv r.i,iv r.u,.slice (some ⟨gs,0,none⟩) r.sn sc,.slice (some ⟨gl,0,none⟩) r.ln lc])/\qF0 w' w.heap.size (.slice (some ⟨gs,0,none⟩) r.sn sc) r.ss/\qB2 w' w.heap.size (.slice (some ⟨gl,0,none⟩) r.ln lc) r.ls/\Below w.heap.size w w'
theorem qU4(r:qD2)(w:World)(hr:qE7 w r)(hN:qK9 r)(hs:r.sn<=1048576)(hl:r.ln<=1048576):
  CP 211 #[.agg #[iv r.i,iv r.u,.slice r.sa r.sn r.sc,.slice r.la r.ln r.lc]] w fun d w'=>qPL r w d w':=by
 obtain⟨i0,hi,hz0,hz1,hz2⟩:=jT Tryz.info50;obtain⟨j0,hj,hy0,hy1,hy2⟩:=jT Tryz.info171;have HN:=hJJ hN;have HZ:Hid (r.ss.length=r.sn/\r.ls.length=r.ln):=⟨hr.said.1,hr.locks.1⟩;obtain⟨W,hW⟩:∃W,W=(w.alloc (.cells #[iv r.i,iv r.u,.slice r.sa r.sn r.sc,.slice r.la r.ln r.lc] 115)).alloc (.cells #[iv 0,iv 0,.slice none 0 0,.slice none 0 0] 115):=⟨_,rfl⟩;have hzW:W.heap.size=w.heap.size+2:=by rw[hW];simp
 have B0:Hid (Below w.heap.size w W):=by show Below _ _ _;rw[hW];exact (zN).alloc (by simp) _
 have X0:qJ2 w.heap.size [iv r.i,iv r.u,.slice r.sa r.sn r.sc,.slice r.la r.ln r.lc] W:=by
  rw[hW];exact qJ2.below (qI5 w _ _) (by simp) (zN)
 have Y0:qJ2 (w.heap.size+1) [iv 0,iv 0,.slice none 0 0,.slice none 0 0] W:=by
  have e:w.heap.size+1=(w.alloc (.cells #[iv r.i,iv r.u,.slice r.sa r.sn r.sc,.slice r.la r.ln r.lc] 115)).heap.size:=by simp
  rw[hW,e];exact qI5 _ _ _
 obtain⟨W1,hW1⟩:∃W1,W1=W.alloc (.cells #[] 50):=⟨_,rfl⟩;have A1:Below W.heap.size W W1:=by rw[hW1];exact zN
 have hz1':W1.heap.size=w.heap.size+3:=by rw[hW1];simp;omega
 have X1:Hid (qJ2 w.heap.size [iv r.i,iv r.u,.slice r.sa r.sn r.sc,.slice r.la r.ln r.lc] W1):=qJ2.below X0 (by omega) A1;have Y1:Hid (qJ2 (w.heap.size+1) [iv 0,iv 0,.slice none 0 0,.slice none 0 0] W1):=qJ2.below Y0 (by omega) A1;have B1:Hid (Below w.heap.size w W1):=B0.out.trans (A1.mono (by omega));have R1:Hid (qE7 W1 r):=hr.below B1.out
 have O1:Hid (W1.ownsRow (w.heap.size+2) 50 5 (.slice (some ⟨w.heap.size+2,0,none⟩) 0 0) 0 []):=by
  have h0:=kH (base:=w.heap.size+2) (e:=50) (size:=5) W #[] 0 (by omega) (gH _) rfl;rw[hzW,<- hW1]at h0;exact h0
 have u0:=X0.1 0 _ rfl;have u1:=X0.1 1 _ rfl;have u2:=X0.1 2 _ rfl;have u3:=X0.1 3 _ rfl;have hul:w.heap.size<W.heap.size:=by omega
 have HR:Hid (∀W,Below w.heap.size w W->qE7 W r):=fun W hb=>hr.below hb
 clear hr hN A1 X0 Y0 B0;go_enter func211,ntmps211;go_upto_region 1 with fail
 rw[<- hW];clear hW;have q2:=X1.out.1 2 _ rfl;have hql:w.heap.size<W1.heap.size:=by omega
 go_wp2_with (first
  | (at_builtin;rw[<- hW1];refine qS3 rfl _ _ 38 rfl (w.heap.size+2) 50 i0 (.agg #[iv 0,iv 0,iv 0,iv 0,iv 0]) 5 40 underlying38 hi hz0 hz1 hz2 rfl (by decide) (.slice (some ⟨w.heap.size+2,0,none⟩) 0 0) 0 [] rfl O1.out (by simp) r.sa r.sn r.sc (qD4 r.ss) rfl HN.out.s (by rw[QJ2,HZ.out.1]) (fun p e=>qMD (by rw[<- e];exact R1.out.said)) (qO5 _) (by unfold maxLen;omega) (by omega) (by omega) ?_)
  | fail)
 intro v6 w6 hown6 hgrow6 hnil6
 have E6:qF0 w6 (w.heap.size+2) v6 r.ss:=by
  show World.ownsRow _ _ 50 5 _ r.ss.length (qD4 r.ss)
  rw[HZ.out.1];have h7:=hown6;try simp only[gG,kR]at h7
  exact h7
 obtain⟨g6,cap6,hv6⟩:=E6.shape hnil6;rw[HZ.out.1]at hv6;subst hv6;have hg:W1.grownBy w6 (some (w.heap.size+2)):=by first | exact hgrow6 | (rw[hW1];exact hgrow6)
 have X6:=qX1 X1.out (by omega) hg (by omega);have Y6:=qX1 Y1.out (by omega) hg (by omega);have B6:Below w.heap.size w w6:=B1.out.grown hg (by omega) (fun q e=>by cases e;omega);have hz6:w.heap.size+3<=w6.heap.size:=by have:=hg.size;omega
 obtain⟨cur6,hc6,hg6⟩:=qE0 E6 (g:=g6) rfl;have hl6:=(gN.1 hc6).1;obtain⟨w7,hw7⟩:∃w7,w7=w6.setCell ⟨w.heap.size,2,none⟩ (.slice (some ⟨g6,0,none⟩) r.sn cap6):=⟨_,rfl⟩;have X7:qJ2 w.heap.size [iv r.i,iv r.u,.slice (some ⟨g6,0,none⟩) r.sn cap6,.slice r.la r.ln r.lc] w7:=by rw[hw7];exact X6.put 2 (by simp) _
 have Y7:qJ2 (w.heap.size+1) [iv 0,iv 0,.slice none 0 0,.slice none 0 0] w7:=by rw[hw7];exact Y6.other (by show w.heap.size≠w.heap.size+1;omega) _
 have O7:qF0 w7 (w.heap.size+2) (.slice (some ⟨g6,0,none⟩) r.sn cap6) r.ss:=by
  rw[hw7];exact qA4 E6 (fun g e=>zS (by simp[Value.ownBlock]at e;subst e;show g6≠w.heap.size;omega))
 have B7:Below w.heap.size w w7:=by rw[hw7];exact B6.setCell (gB _) _
 have hz7:w7.heap.size=w6.heap.size:=by rw[hw7];simp
 obtain⟨W8,hW8⟩:∃W8,W8=w7.alloc (.cells #[] 171):=⟨_,rfl⟩;have A8:Below w7.heap.size w7 W8:=by rw[hW8];exact zN
 have hz8:W8.heap.size=w7.heap.size+1:=by rw[hW8];simp
 have X8:Hid (qJ2 w.heap.size [iv r.i,iv r.u,.slice (some ⟨g6,0,none⟩) r.sn cap6,.slice r.la r.ln r.lc] W8):=qJ2.below X7 (by omega) A8;have Y8:Hid (qJ2 (w.heap.size+1) [iv 0,iv 0,.slice none 0 0,.slice none 0 0] W8):=qJ2.below Y7 (by omega) A8;have B8:Hid (Below w.heap.size w W8):=B7.trans (A8.mono (by omega));have S8:Hid (qF0 W8 (w.heap.size+2) (.slice (some ⟨g6,0,none⟩) r.sn cap6) r.ss):=O7.below A8;have R8:Hid (qE7 W8 r):=HR.out _ B8.out;obtain⟨q8,hq8⟩:∃q8,w7.heap.size=q8:=⟨_,rfl⟩
 have O8:Hid (W8.ownsRow q8 171 4 (.slice (some ⟨q8,0,none⟩) 0 0) 0 []):=by
  have h0:=kH (base:=q8) (e:=171) (size:=4) w7 #[] 0 (by omega) (gH _) rfl;rw[hq8,<- hW8]at h0;exact h0
 have x2:=X6.1 2 _ rfl;have f2:=X6.2 2;have hxl6:w.heap.size<w6.heap.size:=by omega
 clear hown6 hgrow6 hnil6 hg E6 X6 Y6 B6 Y7 O7 B7 A8 hc6 u0 u1 u2 u3 hul q2 hql X1 Y1 B1 R1 O1 hW1 hzW hz1';go_upto_region 2 with fail
 rw[<- hw7];have x3:=X7.1 3 _ rfl;have hxl7:w.heap.size<w7.heap.size:=by omega
 have y3:=X8.out.1 3 _ rfl;have hxl8:w.heap.size<W8.heap.size:=by omega
 have hq8':w.heap.size<q8:=by omega
 have hq6:g6<q8:=by omega
 have hz8':W8.heap.size=q8+1:=by omega
 clear hw7 X7 x2 f2 hxl6 hz7 hz6 hl6
 go_wp2_with (first
  | (at_builtin;rw[<- hW8];refine qS3 rfl _ _ 113 rfl q8 171 j0 (.agg #[iv 0,iv 0,iv 0,iv 0]) 4 32 underlying113 hj hy0 hy1 hy2 rfl (by decide) (.slice (some ⟨q8,0,none⟩) 0 0) 0 [] rfl O8.out (by simp) r.la r.ln r.lc (qA2 r.ls) rfl HN.out.l (by rw[qG0,HZ.out.2]) (fun p e=>qMi (by rw[<- e];exact R8.out.locks)) (qO6 _) (by unfold maxLen;omega) (by omega) (by omega) ?_)
  | fail)
 intro v9 w9 hown9 hgrow9 hnil9
 have E9:qB2 w9 q8 v9 r.ls:=by
  show World.ownsRow _ _ 171 4 _ r.ls.length (qA2 r.ls)
  rw[HZ.out.2];have h7:=hown9;try simp only[gG,kR]at h7
  exact h7
 obtain⟨g9,cap9,hv9⟩:=qU3 hown9 hnil9;try rw[gG]at hv9
 subst hv9;have hg:W8.grownBy w9 (some q8):=by first | exact hgrow9 | (rw[hW8];exact hgrow9)
 have X9:=qX1 X8.out hxl8 hg (by omega);have Y9:=qX1 Y8.out (by omega) hg (by omega);have B9:Below w.heap.size w w9:=B8.out.grown hg (by omega) (fun q e=>by cases e;omega);have hz9:q8+1<=w9.heap.size:=by have:=hg.size;omega
 have S9:qF0 w9 (w.heap.size+2) (.slice (some ⟨g6,0,none⟩) r.sn cap6) r.ss:=qA4 S8.out (fun g e=>by
  obtain⟨cur,hc,_⟩:=qE0 S8.out e;simp[Value.ownBlock]at e;exact hg.block g (gN.1 hc).1 (by intro q;cases q;omega))
 obtain⟨cur9,hc9,hg9⟩:=qD8 E9 (g:=g9) rfl;obtain⟨wa,hwa⟩:∃wa,wa=w9.setCell ⟨w.heap.size,3,none⟩ (.slice (some ⟨g9,0,none⟩) r.ln cap9):=⟨_,rfl⟩;have Xa:qJ2 w.heap.size [iv r.i,iv r.u,.slice (some ⟨g6,0,none⟩) r.sn cap6,.slice (some ⟨g9,0,none⟩) r.ln cap9] wa:=by rw[hwa];exact X9.put 3 (by simp) _
 have Ya:qJ2 (w.heap.size+1) [iv 0,iv 0,.slice none 0 0,.slice none 0 0] wa:=by rw[hwa];exact Y9.other (by show w.heap.size≠w.heap.size+1;omega) _
 have Sa:Hid (qF0 wa (w.heap.size+2) (.slice (some ⟨g6,0,none⟩) r.sn cap6) r.ss):=by
  show qF0 _ _ _ _
  rw[hwa];exact qA4 S9 (fun g e=>zS (by simp[Value.ownBlock]at e;subst e;show g6≠w.heap.size;omega))
 have La:Hid (qB2 wa q8 (.slice (some ⟨g9,0,none⟩) r.ln cap9) r.ls):=by
  show qB2 _ _ _ _
  rw[hwa];exact qA4 E9 (fun g e=>zS (by simp[Value.ownBlock]at e;subst e;show g9≠w.heap.size;omega))
 have Ba:Hid (Below w.heap.size w wa):=by show Below _ _ _;rw[hwa];exact B9.setCell (gB _) _
 have hza:wa.heap.size=w9.heap.size:=by rw[hwa];simp
 have z3:=X9.1 3 _ rfl;have f3:=X9.2 3;have hl9:w.heap.size<w9.heap.size:=by omega
 clear hown9 hgrow9 hnil9 hg E9 X9 Y9 B9 S9 hc9 X8 Y8 B8 S8 R8 O8 x3 y3 hxl7 hxl8 hW8;go_upto_region 3 with fail
 rw[<- hwa];clear hwa z3 f3;have a0:=Xa.1 0 _ rfl;have a1:=Xa.1 1 _ rfl;have a2:=Xa.1 2 _ rfl;have a3:=Xa.1 3 _ rfl;have b0:=Ya.1 0 _ rfl;have b1:=Ya.1 1 _ rfl;have b2:=Ya.1 2 _ rfl;have b3:=Ya.1 3 _ rfl;have e0:=Ya.2 0;have e1:=Ya.2 1;have e2:=Ya.2 2;have e3:=Ya.2 3;have hla:w.heap.size+1<wa.heap.size:=by omega
 have hla0:w.heap.size<wa.heap.size:=by omega
 have hne:w.heap.size≠w.heap.size+1:=by omega
 clear Xa Ya;go_wp2_with fail
 refine gQ (v:=.agg #[iv r.i,iv r.u,.slice (some ⟨g6,0,none⟩) r.sn cap6,.slice (some ⟨g9,0,none⟩) r.ln cap9]) (by simp[results,results211,go_sem,b0,b1,b2,b3,hla]) rfl ?_;refine⟨g6,cap6,g9,cap9,rfl,qC9 (qA4 Sa.out (fun g e=>?_)) (by omega),qB0 (qA4 La.out (fun g e=>?_)) (by omega),(((Ba.out.setCell (kF _) _).setCell (kF _) _).setCell (kF _) _).setCell (kF _) _⟩
 .simp[Value.ownBlock]at e;subst e;rw[zS (by show g6≠w.heap.size+1;omega),zS (by show g6≠w.heap.size+1;omega),zS (by show g6≠w.heap.size+1;omega),zS (by show g6≠w.heap.size+1;omega)]
 .simp[Value.ownBlock]at e;subst e;rw[zS (by show g9≠w.heap.size+1;omega),zS (by show g9≠w.heap.size+1;omega),zS (by show g9≠w.heap.size+1;omega),zS (by show g9≠w.heap.size+1;omega)]
