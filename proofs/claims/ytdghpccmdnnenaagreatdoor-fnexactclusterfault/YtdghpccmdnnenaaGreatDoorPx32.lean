/- Contracts. -/
import Derived.Test.YtdghpccmdnnenaaGreatDoorPx29
import Derived.Test.YtdghpccmdnnenaaGreatDoorPx30
namespace Go.Proofs.YtdghpccmdnnenaaGreatDoor
set_option maxRecDepth 100000
set_option maxHeartbeats 8000000
open Go.RowKit Go.Proofs.Tryz
set_option linter.unusedVariables false
set_option linter.unusedSimpArgs false
theorem qJT(b:Nat)(c:ClI)(x:StI)(w:World)(h:KuI w b c)(hle:qFK c)(hcn:0<c.cn):
  CP 97 #[.pointer (some ⟨b,0,none⟩),.agg #[iv x.k,iv x.e,iv x.f,iv x.s,iv x.n]] w fun e w'=>e=.returned (.bool (qH8 (f0C c.cs) c.zs x))/\Below w.heap.size w w':=by
 obtain⟨V,hV⟩:∃V,V=w.alloc (.cells #[iv x.k,iv x.e,iv x.f,iv x.s,iv x.n] 50):=⟨_,rfl⟩;have BV:Hid (Below w.heap.size w V):=by show Below _ _ _;rw[hV];exact zN
 have ZV:Hid (qM9 V w.heap.size 0 x/\w.heap.size<V.heap.size):=by rw[hV];exact⟨qM9.new w x _,by simp⟩
 have HF:Hid (∀W,Below V.heap.size V W->CP 89 #[.pointer (some ⟨b,0,none⟩)] W fun e w'=>e=.returned (iv (f0C c.cs))/\Below W.heap.size W w'):=fun W q=>(qKY b c W (h.below (BV.out.trans (q.mono BV.out.size))) hcn).mono fun e w' z=>⟨z.1,by rw[<- z.2];exact gC _ _⟩
 have HIS:Hid (∀W,Below V.heap.size V W->CP 151 #[.slice c.za c.zn c.zc,iv (f0C c.cs),.agg #[iv 3,iv x.e,iv 0,iv 0,iv x.n]] W fun e w'=>e=.returned (.bool (isB (f0C c.cs) c.zs (QH8 x)))/\Below W.heap.size W w'):=fun W q=>qBb c.za c.zn c.zc c.zs (f0C c.cs) (QH8 x) W hle.zn hle.zc.1 hle.zc.2 (h.cl.zi.below (BV.out.trans (q.mono BV.out.size)))
 have HX:=qB4 ((h.below BV.out).bx);obtain⟨ca,cn,cc,cs,ba,bn,bc,bs,ra,rn,rc,rs,za,zn,zc,zs⟩:=c;simp only at HF HIS HX ⊢
 obtain⟨f,hf⟩:∃f,f0C cs=f:=⟨_,rfl⟩;rw[hf]at HF HIS ⊢
 obtain⟨s,hs⟩:∃s,isB f zs (QH8 x)=s:=⟨_,rfl⟩;obtain⟨K,hK⟩:∃K,qH8 f zs x=K:=⟨_,rfl⟩;have HK:Hid ((decide (x.k=4) && !s)=K):=by show _=K;rw[<- hK,<- hs];rfl
 rw[hs]at HIS;rw[hK];obtain⟨x0,x1,x2,x3⟩:=HX.out;simp only at x0 x1 x2 x3;have hbl:b<V.heap.size:=zL V _ x0;obtain⟨y0,y1,y2,y3,y4⟩:=ZV.out.1;simp only[gG]at y0 y1 y2 y3 y4;have hyv:=ZV.out.2;clear h hle hcn hf hs hK;go_enter func97,ntmps97;go_upto_region 1 with fail
 rw[<- hV];clear hV;by_cases e4:x.k=4
 .have b4:(x.k==4)=true:=by simp[e4]
  have HU:Hid (K = !s):=by show _=_;rw[<- HK.out];simp[e4]
  clear e4 HK;refine gL (S:=fun w'=>(∀b o,b<V.heap.size->w'.cell? ⟨b,o,none⟩=V.cell? ⟨b,o,none⟩)/\Below V.heap.size V w') (by kernel_rfl) (qA8 _) (fun hHeld=>?_);refine Zk.go [0,1,2,3,4,5,6,7,8,10,11,12,13,14] ?_
  iterate 14
   refine Zk.st (v:=?_) rfl ?_ ?_;rotate_left 1
   .intro w hSw;(try dsimp only at hSw);go_simp;try (with_reducible rfl)
   try simp only[Act.put,zA,zB,zC,zD,zE,zF]
  refine Zk.fin ?_;refine Zk.rd (i:=9) rfl (fun K hK=>?_);go_simp;refine (HF.out _ hHeld.2).mono ?_;rintro d wA ⟨rfl,hbA⟩;have hS:=qA0 hHeld hbA;refine hK.out _ _ hS (fun hHeld=>?_);clear hK K;try simp only[Act.put,zA,zB,zC,zD,zE,zF]
  refine Zk.rd (i:=15) rfl (fun K hK=>?_);go_simp;refine (HIS.out _ hHeld.2).mono ?_;rintro d wB ⟨rfl,hbB⟩;have hS:=qA0 hHeld hbB;refine hK.out _ _ hS (fun hHeld=>?_);clear hK K;try simp only[Act.put,zA,zB,zC,zD,zE,zF]
  refine Zk.go [16,17] ?_
  iterate 2
   refine Zk.st (v:=?_) rfl ?_ ?_;rotate_left 1
   .intro w hSw;(try dsimp only at hSw);go_simp;try (with_reducible rfl)
   try simp only[Act.put,zA,zB,zC,zD,zE,zF]
  refine Zk.fin ?_;refine Zk.rd (i:=18) rfl (fun K hK=>?_);go_simp;refine hK.out _ _ (by assumption) (fun hHeld=>?_);clear hK K;try simp only[Act.put,zA,zB,zC,zD,zE,zF]
  refine gZ (by kernel_rfl) ?_ _;have B2:=qB4 (BV.out.trans (hHeld.2.mono BV.out.size));clear hS hHeld;go_wp2;go_ret;exact⟨by rw[HU.out];rfl,B2.out⟩
 .have b4:(x.k==4)=false:=by simp[e4]
  have HU:Hid (K=false):=by show _=_;rw[<- HK.out];simp[e4]
  clear e4 HK;refine gL (S:=fun w'=>(∀b o,b<V.heap.size->w'.cell? ⟨b,o,none⟩=V.cell? ⟨b,o,none⟩)/\Below V.heap.size V w') (by kernel_rfl) (qA8 _) (fun hHeld=>?_);refine Zk.go [0,1,2,3,4,5,6,7,8,9,10,11,12,13,14,15,16,17] ?_
  iterate 4
   refine Zk.st (v:=?_) rfl ?_ ?_;rotate_left 1
   .intro w hSw;(try dsimp only at hSw);go_simp;try (with_reducible rfl)
   try simp only[Act.put,zA,zB,zC,zD,zE,zF]
  iterate 13 (refine Zk.un rfl ?_;try simp only[Act.put,zA,zB,zC,zD,zE,zF])
  refine Zk.st (v:=?_) rfl ?_ ?_;rotate_left 1
  .intro w hSw;(try dsimp only at hSw);go_simp;try (with_reducible rfl)
  try simp only[Act.put,zA,zB,zC,zD,zE,zF]
  refine Zk.fin ?_;refine Zk.rd (i:=18) rfl (fun K hK=>?_);go_simp;refine hK.out _ _ (by assumption) (fun hHeld=>?_);clear hK K;try simp only[Act.put,zA,zB,zC,zD,zE,zF]
  refine gZ (by kernel_rfl) ?_ _;have B2:=qB4 (BV.out.trans (hHeld.2.mono BV.out.size));clear hHeld;go_wp2;go_ret;exact⟨by rw[HU.out];rfl,B2.out⟩
theorem qGw(b:Nat)(c:ClI)(a:Option Addr)(n cap:Nat)(gs:List StI)(w:World)(h:KuI w b c)(hle:qFK c)(hcn:0<c.cn)(hn:n<=1048576)(hg:qL2 w a n gs):
  CP 150 #[.slice a n cap,.func (.func 97) #[.pointer (some ⟨b,0,none⟩)] #[]] w fun e w'=>(∃i:Int,e=.returned (iv i)/\decide (0<=i)=gs.any (qH8 (f0C c.cs) c.zs))/\Below w.heap.size w w':=by
 have HC:Hid (∀x W,Below w.heap.size w W->CP 97 #[.pointer (some ⟨b,0,none⟩),.agg #[iv x.k,iv x.e,iv x.f,iv x.s,iv x.n]] W fun e w'=>e=.returned (.bool (qH8 (f0C c.cs) c.zs x))/\Below W.heap.size W w'):=fun x W q=>qJT b c x W (h.below q) hle hcn
 obtain⟨P,hP⟩:∃P,qH8 (f0C c.cs) c.zs=P:=⟨_,rfl⟩;rw[hP]at HC ⊢
 have H:=qB4 hg;have HZ:=hJJ hg.1;have hn':(n:Int)<=1048576:=by omega
 clear h hle hcn hP c hg;go_enter func150,ntmps150;go_wp2_with fail
 go_loopw [8] (fun i wr=>∃j:Nat,j<=n/\i=iv (j:Int)/\Hid (∀k x,k<j->gs[k]?=some x->P x=false)/\Below w.heap.size w wr) (fun i _=>n-(intOf i).toNat)
 case atStart=>exact⟨0,gH _,rfl,fun k x h=>by omega,gC _ _⟩
 case round =>
  obtain⟨j,hj,rfl,HP,hnx⟩:=hrel;by_cases hlt:j<n
  .obtain⟨g,off,x,rfl,hs,hxa,hgl⟩:=H.out.at hlt
   have HS:=hJJ hs;obtain⟨x0,x1,x2,x3,x4⟩:=hxa.below hnx hgl;have hbw:g<wr.heap.size:=gD hgl hnx.size;have hlt':(j:Int)<(n:Int):=by omega
   obtain⟨t,ht⟩:∃t,P x=t:=⟨_,rfl⟩;have HT:=hJJ ht;have HQ:Hid (CP 97 #[.pointer (some ⟨b,0,none⟩),.agg #[iv x.k,iv x.e,iv x.f,iv x.s,iv x.n]] wr fun e w'=>e=.returned (.bool t)/\Below wr.heap.size wr w'):=by show Calls _ _ _ _ _;rw[<- ht];exact HC.out x wr hnx
   have BN:=qB4 hnx;clear hs hxa ht hnx;go_wp2_with fail
   refine HQ.out.mono ?_;rintro d w1 ⟨rfl,hb1⟩;have B2:=qB4 (BN.out.trans (hb1.mono BN.out.size));clear hb1 x0 x1 x2 x3 x4 hbw HQ;cases t
   .have HN:Hid (∀k y,k<j+1->gs[k]?=some y->P y=false):=fun k y hk hy=>by
     by_cases e:k=j
     .subst e;rw[HS.out]at hy;cases hy;exact HT.out
     .exact HP.out k y (by omega) hy
    go_wp2;exact⟨⟨j+1,by omega,by go_num,HN,B2.out⟩,by simp[intOf];omega⟩
   .have HI:Hid (gs.any P=true):=List.any_eq_true.2 ⟨x,gO HS.out,HT.out⟩;go_wp2;go_ret;exact⟨⟨_,rfl,by rw[HI.out];simp⟩,B2.out⟩
  .have hjn:j=n:=by omega
   subst hjn
   have HI:Hid (gs.any P=false):=by
    refine List.any_eq_false.2 (fun y hy=>?_);obtain⟨q,hq,e⟩:=List.mem_iff_getElem.1 hy;rw[HP.out q y (by have:=HZ.out;omega) (by rw[gA hq,e])];decide
   go_wp2;go_ret;exact⟨⟨_,rfl,by rw[HI.out];simp⟩,hnx⟩
theorem qAt(b:Nat)(c:ClI)(a:Option Addr)(n cap:Nat)(gs:List StI)(w:World)(h:KuI w b c)(hle:qFK c)(hcn:0<c.cn)(hn:n<=1048576)(hg:qL2 w a n gs):
  CP 96 #[.slice a n cap,.func (.func 97) #[.pointer (some ⟨b,0,none⟩)] #[]] w fun e w'=>e=.returned (.bool (gs.any (qH8 (f0C c.cs) c.zs)))/\Below w.heap.size w w':=by
 have HC:=qB4 (qGw b c a n cap gs w h hle hcn hn hg);obtain⟨t,ht⟩:∃t,gs.any (qH8 (f0C c.cs) c.zs)=t:=⟨_,rfl⟩;rw[ht]at HC ⊢
 clear h hle hcn hn hg ht;go_enter func96,ntmps96;go_wp2_with fail
 refine HC.out.mono ?_;rintro e w1 ⟨⟨i,rfl,hi⟩,hb1⟩;have HI:=hJJ hi;clear hi;go_wp2;go_ret;exact⟨by rw[<- HI.out];rfl,hb1⟩
theorem qIV(b:Nat)(c:ClI)(w:World)(h:KuI w b c)(hle:qFK c)(hcn:0<c.cn):
  CP 48 #[.pointer (some ⟨b,0,none⟩)] w fun e w'=>e=.returned (iv (tkC (f0C c.cs) c.rs c.zs))/\Below w.heap.size w w':=by
 have HUC:Hid (∀(a:Option Addr) (n cap:Nat) (gs:List StI) W,Below w.heap.size w W->n<=1048576->qL2 W a n gs->CP 96 #[.slice a n cap,.func (.func 97) #[.pointer (some ⟨b,0,none⟩)] #[]] W fun e w'=>e=.returned (.bool (gs.any (qH8 (f0C c.cs) c.zs)))/\Below W.heap.size W w'):=fun a n cap gs W q h1 h2=>qAt b c a n cap gs W (h.below q) hle hcn h1 h2
 obtain⟨ca,cn,cc,cs,ba,bn,bc,bs,ra,rn,rc,rs,za,zn,zc,zs⟩:=c;have HB:Hid (∀W,Below w.heap.size w W->KuI W b ⟨ca,cn,cc,cs,ba,bn,bc,bs,ra,rn,rc,rs,za,zn,zc,zs⟩):=fun W q=>h.below q
 have HRL:=hJJ hle.rl;simp only at HUC ⊢
 have hrn:rn<=1048576:=hle.rn;have hn':(rn:Int)<=1048576:=by omega
 have HZ:=hJJ h.cl.ri.len;obtain⟨f,hf⟩:∃f,f0C cs=f:=⟨_,rfl⟩;rw[hf]at HUC ⊢
 obtain⟨K,hK⟩:∃K,tkC f rs zs=K:=⟨_,rfl⟩;have HE:=hJJ hK;rw[hK];obtain⟨x0,x1,x2,x3⟩:=h.bx;simp only at x0 x1 x2 x3;have hbl:b<w.heap.size:=zL w _ x0;clear h hle hcn hf hK hrn;go_enter func48,ntmps48;go_wp2_with fail
 go_loopw [9] (fun i wr=>∃j:Nat,j<=rn/\i=iv (j:Int)/\Hid (qD6 (QI5 f zs) (rs.drop j)=K)/\Hid (Below w.heap.size w wr)) (fun i _=>rn-(intOf i).toNat)
 case atStart=>exact⟨0,gH _,rfl,HE.out,gC _ _⟩
 case round =>
  obtain⟨j,hj,rfl,HJ,BN⟩:=hrel;clear x0 x1 x2 x3 hbl;by_cases hlt:j<rn
  .obtain⟨g,off,r,e2,hr,hra,hri⟩:=(HB.out _ BN.out).cl.ri.at hlt
   simp only at e2;subst e2;have hgl:g<wr.heap.size:=hra.lt;obtain⟨c0,c1,c2,c3⟩:=hra;have hlt':(j:Int)<(rn:Int):=by omega
   obtain⟨x0,x1,x2,x3⟩:=(HB.out _ BN.out).bx;simp only at x0 x1 x2 x3;have hbw:b<wr.heap.size:=zL wr _ x0;obtain⟨t,ht⟩:∃t,r.ss.any (qH8 f zs)=t:=⟨_,rfl⟩
   have HJ2:Hid ((if t=true then 7 else qD6 (QI5 f zs) (rs.drop (j+1)))=K):=by
    show _=K
    rw[<- HJ.out,qO7 _ hr];unfold QI5;rw[ht];cases t <;> simp
   have HQ:Hid (CP 96 #[.slice r.sa r.sn r.sc,.func (.func 97) #[.pointer (some ⟨b,0,none⟩)] #[]] wr fun e w'=>e=.returned (.bool t)/\Below wr.heap.size wr w'):=by show Calls _ _ _ _ _;rw[<- ht];exact HUC.out r.sa r.sn r.sc r.ss wr BN.out (HRL.out j r hr).said hri.said
   clear hr hri ht HJ;go_wp2_with fail
   refine HQ.out.mono ?_;rintro d w1 ⟨rfl,hb1⟩;have B2:=qB4 (BN.out.trans (hb1.mono BN.out.size));clear hb1 HQ x0 x1 x2 x3 hbw c0 c1 c2 c3 hgl;cases t
   .have HN:Hid (qD6 (QI5 f zs) (rs.drop (j+1))=K):=HJ2.out;clear HJ2;go_wp2;exact⟨⟨j+1,by omega,by go_num,HN,B2⟩,by simp[intOf];omega⟩
   .have HN:Hid (7=K):=HJ2.out;clear HJ2;go_wp2;go_ret;exact⟨by rw[<- HN.out];rfl,B2.out⟩
  .have hjn:j=rn:=by omega
   subst hjn;have HE2:Hid (K=0):=by show K=0;rw[<- HJ.out,jH (by rw[HZ.out];exact gB _)];rfl
   go_wp2;go_ret;exact⟨by rw[HE2.out];rfl,BN.out⟩
theorem qAP(E:qH3)(c:ClI)(w:World)(h:qCR w c)(hle:qFK c)(hEC:qB1 c.cs=0->qN0 E c.cs)(hEr:qM4 0 w)(hH:qD9 w):
  CP 14 #[.agg #[.slice c.ca c.cn c.cc,.slice c.ba c.bn c.bc,.slice c.ra c.rn c.rc,.slice c.za c.zn c.zc]] w fun e w'=>e=.returned (iv (QD7 E c.cs c.bs c.rs c.zs))/\Below w.heap.size w w':=by
 obtain⟨V,hV⟩:∃V,V=w.alloc (.cells #[.slice c.ca c.cn c.cc,.slice c.ba c.bn c.bc,.slice c.ra c.rn c.rc,.slice c.za c.zn c.zc] 34):=⟨_,rfl⟩;obtain⟨b,hb⟩:∃b,b=w.heap.size:=⟨_,rfl⟩;have bv:Below w.heap.size w V:=by rw[hV];exact zN
 have BV:=qB4 bv;have hI:KuI V b c:=⟨by rw[hV,hb];exact qT3.new w c _,h.below bv⟩;have HA:=qB4 (qKX b c V hI hle);obtain⟨k1,hk1⟩:∃k,qW7 c.cs c.bs=k:=⟨_,rfl⟩;obtain⟨k2,hk2⟩:∃k,qR3 E c.cs c.bs c.rs=k:=⟨_,rfl⟩;obtain⟨k3,hk3⟩:∃k,QT2 (f0C c.cs) c.bs c.rs c.zs=k:=⟨_,rfl⟩;obtain⟨k4,hk4⟩:∃k,tkC (f0C c.cs) c.rs c.zs=k:=⟨_,rfl⟩;obtain⟨K,hK⟩:∃k,QD7 E c.cs c.bs c.rs c.zs=k:=⟨_,rfl⟩;have HK:Hid ((if k1=0 then (if k2=0 then (if k3=0 then k4 else k3) else k2) else k1)=K):=by show _=K;rw[<- hK,<- hk1,<- hk2,<- hk3,<- hk4];rfl
 have H2:Hid (k1=0->∀W,Below V.heap.size V W->CP 46 #[.pointer (some ⟨b,0,none⟩)] W fun e w'=>e=.returned (iv k2)/\Below W.heap.size W w'):=fun q W hb=>by rw[<- hk2];exact qKW E b c W (hI.below hb) hle (hk1.trans q) hEC ((hEr.below bv).below hb) ((hH.below bv).below hb)
 have H3:Hid (k1=0->k2=0->∀W,Below V.heap.size V W->CP 47 #[.pointer (some ⟨b,0,none⟩)] W fun e w'=>e=.returned (iv k3)/\Below W.heap.size W w'):=fun q q2 W hb=>by rw[<- hk3];exact qGJ E b c W (hI.below hb) hle (hk1.trans q) (hk2.trans q2)
 have H4:Hid (k1=0->∀W,Below V.heap.size V W->CP 48 #[.pointer (some ⟨b,0,none⟩)] W fun e w'=>e=.returned (iv k4)/\Below W.heap.size W w'):=fun q W hb=>by
  rw[<- hk4];exact qIV b c W (hI.below hb) hle (by have:=(QQ9 (hk1.trans q)).2.2.2.2;have:=h.ci.len;omega)
 rw[hk1]at HA;rw[hK];clear h hle hEC hEr hH hI hk1 hk2 hk3 hk4 hK bv;go_enter func14,ntmps14;go_upto_region 1 with fail
 rw[<- hV,<- hb];clear hV hb;go_wp2_with fail
 refine HA.out.mono ?_;rintro e w1 ⟨rfl,hb1⟩;have C1:=qB4 hb1;clear hb1 HA;by_cases e1:k1=0
 .have H2':=qB4 (H2.out e1);have H3':=qB4 (H3.out e1);have H4':=qB4 (H4.out e1);have HK2:Hid ((if k2=0 then (if k3=0 then k4 else k3) else k2)=K):=by show _=K;rw[<- HK.out,gK e1]
  subst e1;clear HK H2 H3 H4;go_wp2_with fail
  refine (H2'.out _ C1.out).mono ?_;rintro e w2 ⟨rfl,hb2⟩;have C2:=qB4 (C1.out.trans (hb2.mono C1.out.size));clear hb2 H2';by_cases e2:k2=0
  .have H3'':=qB4 (H3'.out e2);have HK3:Hid ((if k3=0 then k4 else k3)=K):=by show _=K;rw[<- HK2.out,gK e2]
   subst e2;clear HK2 H3';go_wp2_with fail
   refine (H3''.out _ C2.out).mono ?_;rintro e w3 ⟨rfl,hb3⟩;have C3:=qB4 (C2.out.trans (hb3.mono C2.out.size));clear hb3 H3'';by_cases e3:k3=0
   .have HK4:Hid (k4=K):=by show _=K;rw[<- HK3.out,gK e3]
    subst e3;clear HK3;go_wp2_with fail
    refine (H4'.out _ C3.out).mono ?_;rintro e w4 ⟨rfl,hb4⟩;have C4:=qB4 (C3.out.trans (hb4.mono C3.out.size));clear hb4 H4';go_wp2;go_ret;exact⟨by rw[<- HK4.out];rfl,BV.out.trans (C4.out.mono BV.out.size)⟩
   .have HK4:Hid (k3=K):=by show _=K;rw[<- HK3.out,gI e3]
    have kb:(k3 != 0)=true:=by simp[e3]
    clear HK3 e3;go_wp2;go_ret;exact⟨by rw[<- HK4.out];rfl,BV.out.trans (C3.out.mono BV.out.size)⟩
  .have HK3:Hid (k2=K):=by show _=K;rw[<- HK2.out,gI e2]
   have kb:(k2 != 0)=true:=by simp[e2]
   clear HK2 e2 H3';go_wp2;go_ret;exact⟨by rw[<- HK3.out];rfl,BV.out.trans (C2.out.mono BV.out.size)⟩
 .have HK2:Hid (k1=K):=by show _=K;rw[<- HK.out,gI e1]
  have kb:(k1 != 0)=true:=by simp[e1]
  clear HK e1 H2 H3 H4;go_wp2;go_ret;exact⟨by rw[<- HK2.out];rfl,BV.out.trans (C1.out.mono BV.out.size)⟩
