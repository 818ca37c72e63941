/- Contracts. -/
import Derived.Test.YtdghpccmdnnenaaGreatDoorPx33
import Derived.Test.YtdghpccmdnnenaaGreatDoorPx37
namespace Go.Proofs.YtdghpccmdnnenaaGreatDoor
set_option maxRecDepth 100000
set_option maxHeartbeats 8000000
open Go.RowKit Go.Proofs.Tryz
set_option linter.unusedVariables false
set_option linter.unusedSimpArgs false
theorem qGI(E:qH3)(b:Nat)(c:ClI)(w:World)(h:KuI w b c)(hle:qFK c)(hEC:qB1 c.cs=0->qN0 E c.cs):
  Calls prog 40 #[.pointer (some ⟨b,0,none⟩)] w fun e w'=>e=.returned (.int .i64 (QD7 E c.cs c.bs c.rs c.zs))/\Below w.heap.size w w':=by
 have HSH:Hid (qW7 c.cs c.bs=0->qR3 E c.cs c.bs c.rs=0->∀W,Below w.heap.size w W->Calls prog 83 #[.pointer (some ⟨b,0,none⟩)] W fun e w'=>e=.returned (.int .i64 (if QT2 (f0C c.cs) c.bs c.rs c.zs=0 then tkC (f0C c.cs) c.rs c.zs else QT2 (f0C c.cs) c.bs c.rs c.zs))/\Below W.heap.size W w'):=fun q1 q2 W hb=>qDH E b c W (h.below hb) hle q1 q2
 have HCF:Hid (Calls prog 79 #[.slice c.ca c.cn c.cc] w fun e w'=>e=.returned (.int .i64 (qB1 c.cs))/\Below w.heap.size w w'):=qK0 c.ca c.cn c.cc c.cs w hle.cn hle.cl h.cl.ci;have HBD:Hid (∀f W,1<=f->f<=2->Below w.heap.size w W->Calls prog 80 #[.int .i64 f,.slice c.ba c.bn c.bc] W fun e w'=>e=.returned (.int .i64 (qX2 f c.bs))/\Below W.heap.size W w'):=fun f W f1 f2 hb=>qKV f c.ba c.bn c.bc c.bs W f1 f2 hle.bn (h.cl.bi.below hb)
 have HGD:Hid (∀f W,1<=f->f<=2->Below w.heap.size w W->Calls prog 81 #[.int .i64 f,.slice c.ba c.bn c.bc] W fun e w'=>∃(ga:Option Addr) (gc:Nat),e=.returned (.slice ga (qO0 f c.bs).length gc)/\qD0 w' ga (qO0 f c.bs).length (qO0 f c.bs)/\Below W.heap.size W w'):=fun f W f1 f2 hb=>qIU f c.ba c.bn c.bc c.bs W f1 f2 hle.bn (h.cl.bi.below hb)
 have HRF:Hid (∀(g o:Nat) (r:qD2) W,Below w.heap.size w W->qI2 W g o r->qE7 W r->qH2 1048576 r->Calls prog 82 #[.pointer (some ⟨g,o,none⟩),.slice c.ca c.cn c.cc] W fun d w'=>d=.returned (.int .i64 (qD7 E c.cs r))/\Below W.heap.size W w'):=fun g o r W hb q1 q2 q3=>qFz E g o r c.ca c.cn c.cc c.cs W q1 q2 q3 (h.cl.ci.below hb) hle.cl hle.cn hEC
 obtain⟨ca,cn,cc,cs,ba,bn,bc,bs,ra,rn,rc,rs,za,zn,zc,zs⟩:=c;have HB:Hid (∀W,Below w.heap.size w W->KuI W b ⟨ca,cn,cc,cs,ba,bn,bc,bs,ra,rn,rc,rs,za,zn,zc,zs⟩):=fun W q=>h.below q
 have HRL:Hid (∀(k:Nat) r,rs[k]?=some r->qH2 1048576 r):=hle.rl;have hrn:rn<=1048576:=hle.rn;have hrn':(rn:Int)<=1048576:=by omega
 have HZ:Hid (cs.length=cn/\rs.length=rn):=⟨h.cl.ci.len,h.cl.ri.len⟩;simp only at HSH HCF HBD HGD HRF ⊢
 obtain⟨K,hK⟩:∃K,QD7 E cs bs rs zs=K:=⟨_,rfl⟩;have HK:Hid ((if qW7 cs bs=0 then (if qR3 E cs bs rs=0 then (if QT2 (f0C cs) bs rs zs=0 then tkC (f0C cs) rs zs else QT2 (f0C cs) bs rs zs) else qR3 E cs bs rs) else qW7 cs bs)=K):=hK;rw[hK];obtain⟨x0,x1,x2,x3⟩:=h.bx;simp only at x0 x1 x2 x3;have hbl:b<w.heap.size:=zL w _ x0;clear h hle hEC hK hrn;by_cases hk0:qB1 cs=0
 .obtain⟨hm1,hm8,hok⟩:=qT1 hk0;have e0:=List.getElem?_eq_getElem (l:=cs) (i:=0) (by omega)
  have hff:1<=f0C cs/\f0C cs<=2:=by
   have:=qEy (hok 0 _ e0).1;have hf0:f0C cs=(cs[0]'(by omega)).f:=by unfold f0C;rw[e0];rfl
   rw[hf0];exact this
  have hcn:0<cn:=by have:=HZ.out.1;omega
  have hcn':(0:Int)<(cn:Int):=by omega
  have HBD2:=qB4 (fun W hb=>HBD.out (f0C cs) W hff.1 hff.2 hb);have HGD2:=qB4 (fun W hb=>HGD.out (f0C cs) W hff.1 hff.2 hb);have HHC:Hid (qW7 cs bs=qX2 (f0C cs) bs):=by show _=_;unfold qW7;rw[if_pos hk0]
  rw[hk0]at HCF;clear HBD HGD hm1 hm8 hok e0 hff hk0;go_enter func40,ntmps40;go_wp2_with fail
  refine HCF.out.mono ?_;rintro e w1 ⟨rfl,hb1⟩;have B1:=qB4 hb1;clear hb1 HCF x0 x1 x2 x3 hbl;obtain⟨x0,x1,x2,x3⟩:=(HB.out _ B1.out).bx;simp only at x0 x1 x2 x3;have hbw:b<w1.heap.size:=zL w1 _ x0;obtain⟨g0,off0,cf,ec,hc0,hat,_⟩:=(HB.out _ B1.out).cl.ci.at hcn
  simp only at ec hc0;subst ec;have hf0:f0C cs=cf.f:=by unfold f0C;rw[hc0];rfl
  have HFF:Hid (cf.f=f0C cs):=hf0.symm;have HC0:Hid (cs[0]?=some cf):=hc0;obtain⟨v0,v1,v2,v3,v4⟩:=hat;simp only[Nat.zero_mul,Nat.add_zero]at v0 v1 v2 v3 v4;rw[<- hf0]at v1;have hgw:g0<w1.heap.size:=zL w1 _ v0;obtain⟨f,hf⟩:∃f,f0C cs=f:=⟨_,rfl⟩;have HF:Hid (f0C cs=f):=hf;rw[hf]at v1 HBD2 HGD2 HHC;obtain⟨k1,hk1⟩:∃k1,qX2 f bs=k1:=⟨_,rfl⟩;rw[hk1]at HBD2 HHC;have HBA:Hid (∀W,Below w1.heap.size w1 W->Calls prog 80 #[.int .i64 f,.slice ba bn bc] W fun e w'=>e=.returned (.int .i64 k1)/\Below W.heap.size W w'):=fun W q=>HBD2.out W (B1.out.trans (q.mono B1.out.size))
  clear hc0 hf0 hf hk1 HBD2;go_upto_region 4 with fail
  go_region_held3 (fun w'=>(∀b o,b<w1.heap.size->w'.cell? ⟨b,o,none⟩=w1.cell? ⟨b,o,none⟩)/\Below w1.heap.size w1 w') (first | exact hS | exact qA8 _)
   (first | (go_at_call 80;refine (HBA.out _ (by first | exact hHeld.2 | exact hS.2 | exact (Below.refl _ _).drew)).mono ?_;rintro e w' ⟨rfl,hbz⟩;have hS:=qA0 (by assumption) hbz))
  have B2:=qB4 (B1.out.trans (hS.2.mono B1.out.size));clear hS x0 x1 x2 x3 hbw v0 v1 v2 v3 v4 hgw HBA;by_cases e1:k1=0
  .have HH0:Hid (qW7 cs bs=0):=by show _=0;rw[HHC.out,e1]
   have HK1:Hid ((if qR3 E cs bs rs=0 then (if QT2 (f0C cs) bs rs zs=0 then tkC (f0C cs) rs zs else QT2 (f0C cs) bs rs zs) else qR3 E cs bs rs)=K):=by show _=K;rw[<- HK.out,if_pos HH0.out]
   have HSH2:=qB4 (HSH.out HH0.out);subst e1;clear HK HHC HSH;obtain⟨M,hM⟩:∃M,qO0 f bs=M:=⟨_,rfl⟩;have HRP:Hid (qR3 E cs bs rs=if rs.map (·.i)=M then qD6 (qD7 E cs) rs else 1):=by show _=_;unfold qR3;rw[HF.out,hM]
   rw[hM]at HGD2;obtain⟨m,hm⟩:∃m,M.length=m:=⟨_,rfl⟩;have HMM:Hid (M.length=m):=hm
   have hm7:m<=1048576:=by
    have:=qW8 bs (3*f+1).toNat;rw[<- hm,<- hM];unfold qO0;have:=(QQ9 HH0.out).2.2.2.1;rw[HF.out]at this;omega
   have hm7':(m:Int)<=1048576:=by omega
   rw[hm]at HGD2;clear hM hm;generalize w'=w3 at B2 ⊢
   have B3:=B2;have HGO:Hid (∀W,Below w3.heap.size w3 W->Calls prog 81 #[.int .i64 f,.slice ba bn bc] W fun e w'=>∃(ga:Option Addr) (gc:Nat),e=.returned (.slice ga m gc)/\qD0 w' ga m M/\Below W.heap.size W w'):=fun W q=>HGD2.out W (B2.out.trans (q.mono B2.out.size))
   obtain⟨x0,x1,x2,x3⟩:=(HB.out _ B3.out).bx;simp only at x0 x1 x2 x3;have hbw:b<w3.heap.size:=zL w3 _ x0;obtain⟨g1,off1,cf',ec,hc0,hat,_⟩:=(HB.out _ B3.out).cl.ci.at hcn
   simp only at ec hc0;cases ec;rw[HC0.out]at hc0;cases hc0;obtain⟨v0,v1,v2,v3,v4⟩:=hat;simp only[Nat.zero_mul,Nat.add_zero]at v0 v1 v2 v3 v4;rw[HFF.out,HF.out]at v1;have hgw:g0<w3.heap.size:=zL w3 _ v0;clear HGD2 B2;go_upto_region 7 with fail
   refine wp_region_held_drew (S:=fun w'=>(∀b o,b<w3.heap.size->w'.cell? ⟨b,o,none⟩=w3.cell? ⟨b,o,none⟩)/\Below w3.heap.size w3 w') (by kernel_rfl) (qA8 _) (fun hHeld=>?_);refine Zk.go [0,1,2,3,4,5,6,7,8,9,10] ?_
   iterate 11
    refine Zk.st (v:=?_) rfl ?_ ?_;rotate_left 1
    .intro w hSw;(try dsimp only at hSw);go_simp;try (with_reducible rfl)
    try simp only[Act.put,zA,zB,zC,zD,zE,zF]
   refine Zk.fin ?_;refine Zk.rd (i:=11) rfl (fun K hK=>?_);go_simp;refine (HGO.out _ hHeld.2).mono ?_;rintro d wA ⟨ga,gc,rfl,hgi,hbA⟩;have hS:=qA0 hHeld hbA;have GI:=qB4 hgi;clear hgi;refine hK.out _ _ hS (fun hHeld=>?_);clear hK K;try simp only[Act.put,zA,zB,zC,zD,zE,zF]
   refine Zk.rd (i:=12) rfl (fun K hK=>?_);go_simp;refine hK.out _ _ (by assumption) (fun hHeld=>?_);clear hK K;try simp only[Act.put,zA,zB,zC,zD,zE,zF]
   refine wpAnyH_done (by kernel_rfl) ?_ _;have B4:=qB4 (B3.out.trans (hHeld.2.mono B3.out.size));clear hS hHeld x0 x1 x2 x3 hbw v0 v1 v2 v3 v4 hgw;obtain⟨x0,x1,x2,x3⟩:=(HB.out _ B4.out).bx;simp only at x0 x1 x2 x3;have hbw:b<wA.heap.size:=zL wA _ x0;by_cases hmn:m=rn
   .subst hmn;obtain⟨K2,hK2⟩:∃K2,qD6 (qD7 E cs) rs=K2:=⟨_,rfl⟩;have HK2:Hid (qD6 (qD7 E cs) rs=K2):=hK2;rw[hK2]at HRP;clear hK2;go_wp2_with fail
    go_loopw [6] (fun i wr=>∃j:Nat,j<=m/\i=.int .i64 (j:Int)/\Hid (∀q r y,q<j->rs[q]?=some r->M[q]?=some y->r.i=y)/\Hid (Below wA.heap.size wA wr)) (fun i _=>m-(intOf i).toNat)
    case atStart=>exact⟨0,Nat.zero_le _,rfl,fun q r y h=>by omega,Below.refl _ _⟩
    case round =>
     obtain⟨j,hj,rfl,HJ,BA⟩:=hrel;clear x0 x1 x2 x3 hbw;have BN:=qB4 (B4.out.trans (BA.out.mono B4.out.size));obtain⟨x0,x1,x2,x3⟩:=(HB.out _ BN.out).bx;simp only at x0 x1 x2 x3;have hbw:b<wr.heap.size:=zL wr _ x0;by_cases hlt:j<m
     .obtain⟨g,off,r,e2,hr,hra,hri⟩:=(HB.out _ BN.out).cl.ri.at hlt
      simp only at e2;subst e2;obtain⟨g',off',y,rfl,hy,hya,hgl'⟩:=(GI.out.below BA.out).at hlt
      have hgl:g<wr.heap.size:=hra.lt;obtain⟨c0,c1,c2,c3⟩:=hra;have hlt':(j:Int)<(m:Int):=by omega
      have HX:Hid (rs[j]?=some r/\M[j]?=some y):=⟨hr,hy⟩;clear hr hy hri;by_cases e:r.i=y
      .have eb:(r.i != y)=false:=by simp[e]
       have HN:Hid (∀q r' y',q<j+1->rs[q]?=some r'->M[q]?=some y'->r'.i=y'):=fun q r' y' q1 q2 q3=>by
        by_cases eq:q=j
        .subst eq;rw[HX.out.1]at q2;rw[HX.out.2]at q3;cases q2;cases q3;exact e
        .exact HJ.out q r' y' (by omega) q2 q3
       clear e HJ;go_wp2;go_quiet (fail)
       go_wp2;exact⟨⟨j+1,by omega,by go_num,HN,below_drewN BA.out _⟩,by simp[intOf];omega⟩
      .have eb:(r.i != y)=true:=by simp[e]
       have HE:Hid (1=K):=by
        show _=K
        have : qR3 E cs bs rs=1:=by rw[HRP.out,if_neg (qHz HX.out.1 HX.out.2 e)]
        rw[<- HK1.out,this];rfl
       clear e HJ HK1 HRP HSH2;go_wp2;go_quiet (fail)
       go_wp2;go_ret;exact⟨by rw[<- HE.out];rfl,below_drewN BN.out _⟩
     .have hjn:j=m:=by omega
      subst hjn
      have HR2:Hid (qR3 E cs bs rs=K2):=by
       show _=K2
       rw[HRP.out,if_pos (qIA (by rw[HZ.out.2,HMM.out]) (fun k r y e1 e2=>HJ.out k r y (by have:=(List.getElem?_eq_some_iff.1 e1).1;have:=HZ.out.2;omega) e1 e2))]
      clear HJ HRP hlt;go_wp2_with fail
      go_loopw [7] (fun i wz=>∃q:Nat,q<=j/\i=.int .i64 (q:Int)/\Hid (qD6 (qD7 E cs) (rs.drop q)=K2)/\Hid (Below w.heap.size w wz)) (fun i _=>j-(intOf i).toNat)
      case atStart=>exact⟨0,Nat.zero_le _,rfl,HK2.out,BN⟩
      case round =>
       obtain⟨q,hq,rfl,HQ,BQ⟩:=hrel;clear x0 x1 x2 x3 hbw;obtain⟨x0,x1,x2,x3⟩:=(HB.out _ BQ.out).bx;simp only at x0 x1 x2 x3;have hbw:b<wr.heap.size:=zL wr _ x0;by_cases hlt:q<j
       .obtain⟨g,off,r,e2,hr,hra,hri⟩:=(HB.out _ BQ.out).cl.ri.at hlt
        simp only at e2;subst e2;have hlt':(q:Int)<(j:Int):=by omega
        have hgl:g<wr.heap.size:=hra.lt;have HQ2:Hid ((if qD7 E cs r=0 then qD6 (qD7 E cs) (rs.drop (q+1)) else qD7 E cs r)=K2):=by show _=K2;rw[<- HQ.out,qO7 _ hr]
        obtain⟨k,hk⟩:∃k,qD7 E cs r=k:=⟨_,rfl⟩
        have HRC:Hid (∀W,Below wr.heap.size wr W->Calls prog 82 #[.pointer (some ⟨g,off+q*4,none⟩),.slice (some ⟨g0,off0,none⟩) cn cc] W fun d w'=>d=.returned (.int .i64 k)/\Below W.heap.size W w'):=by
         have q5:=HRL.out q r hr;intro W hb;rw[<- hk];exact HRF.out g (off+q*4) r W (BQ.out.trans (hb.mono BQ.out.size)) (hra.below hb) (hri.below hb) q5
        obtain⟨c0,c1,c2,c3⟩:=hra;rw[hk]at HQ2;clear hr hri hk HQ;go_upto_region 18 with fail
        go_region_held3 (fun w'=>(∀b o,b<wr.heap.size->w'.cell? ⟨b,o,none⟩=wr.cell? ⟨b,o,none⟩)/\Below wr.heap.size wr w') (first | exact hS | exact qA8 _)
         (first | (go_at_call 82;refine (HRC.out _ (by first | exact hHeld.2 | exact hS.2 | exact (Below.refl _ _).drew)).mono ?_;rintro e w' ⟨rfl,hbz⟩;have hS:=qA0 (by assumption) hbz))
        have B5:=qB4 (BQ.out.trans (hS.2.mono BQ.out.size));clear hS x0 x1 x2 x3 hbw c0 c1 c2 c3 hgl HRC;by_cases k0:k=0
        .have HN:Hid (qD6 (qD7 E cs) (rs.drop (q+1))=K2):=by show _=K2;rw[<- HQ2.out,if_pos k0]
         subst k0;clear HQ2;go_wp2;exact⟨⟨q+1,by omega,by go_num,HN,B5⟩,by simp[intOf];omega⟩
        .have kb:(k != 0)=true:=by simp[k0]
         have HE:Hid (k=K):=by
          show _=K
          have : k=K2:=by rw[<- HQ2.out,if_neg k0]
          rw[<- HK1.out,HR2.out,<- this,if_neg k0]
         clear HQ2 k0 HK1 HR2 HSH2;go_wp2;go_ret;exact⟨by rw[<- HE.out];rfl,B5.out⟩
       .have hqn:q=j:=by omega
        subst hqn;have hk20:K2=0:=by rw[<- HQ.out,List.drop_of_length_le (by rw[HZ.out.2];exact Nat.le_refl _)];rfl
        have hr0:qR3 E cs bs rs=0:=by rw[HR2.out,hk20]
        have HE:Hid ((if QT2 (f0C cs) bs rs zs=0 then tkC (f0C cs) rs zs else QT2 (f0C cs) bs rs zs)=K):=by show _=K;rw[<- HK1.out,if_pos hr0]
        have HSH3:=qB4 (HSH2.out hr0 _ BQ.out);rw[HE.out]at HSH3;clear hr0 hk20 HE HK1 HR2 HQ HSH2 hlt;go_wp2_with fail
        refine HSH3.out.mono ?_;rintro e w9 ⟨rfl,hb9⟩;have B9:=qB4 (BQ.out.trans (hb9.mono BQ.out.size));clear hb9 HSH3;go_wp2;go_ret;exact⟨rfl,B9.out⟩
   .have hb:((m:Int) != (rn:Int))=true:=by
     have : ¬ (m:Int)=(rn:Int):=by omega
     simp[this]
    have HE:Hid (1=K):=by
     show _=K
     have : qR3 E cs bs rs=1:=by
      rw[HRP.out,if_neg (fun e=>hmn ?_)];have:=congrArg List.length e;rw[List.length_map,HZ.out.2,HMM.out]at this;exact this.symm
     rw[<- HK1.out,this];rfl
    clear HK1 HRP HSH2 hmn;go_wp2;go_ret;exact⟨by rw[<- HE.out];rfl,B4.out⟩
  .have HE:Hid (k1=K):=by show _=K;rw[<- HK.out,if_neg (by rw[HHC.out];exact e1),HHC.out]
   have kb:(k1 != 0)=true:=by simp[e1]
   clear HK HHC e1 HSH;go_wp2;go_ret;exact⟨by rw[<- HE.out];rfl,B2.out⟩
 .have HE:Hid (qB1 cs=K):=by show _=K;rw[<- HK.out];unfold qW7;rw[if_neg hk0,if_neg hk0]
  obtain⟨k0,hkk⟩:∃k0,qB1 cs=k0:=⟨_,rfl⟩;rw[hkk]at HCF hk0 HE;have kb:(k0 != 0)=true:=by simp[hk0]
  clear hkk hk0 HK HSH HBD HGD HRF;go_enter func40,ntmps40;go_wp2_with fail
  refine HCF.out.mono ?_;rintro e w1 ⟨rfl,hb1⟩;have B1:=qB4 hb1;clear hb1 HCF;go_wp2;go_ret;exact⟨by rw[<- HE.out];rfl,B1.out⟩
theorem QZ1(E:qH3)(c:ClI)(w:World)(h:qCR w c)(hle:qFK c)(hEC:qB1 c.cs=0->qN0 E c.cs):
  CP 12 #[.agg #[.slice c.ca c.cn c.cc,.slice c.ba c.bn c.bc,.slice c.ra c.rn c.rc,.slice c.za c.zn c.zc]] w fun e w'=>e=.returned (iv (QD7 E c.cs c.bs c.rs c.zs))/\Below w.heap.size w w':=by
 obtain⟨V,hV⟩:∃V,V=w.alloc (.cells #[.slice c.ca c.cn c.cc,.slice c.ba c.bn c.bc,.slice c.ra c.rn c.rc,.slice c.za c.zn c.zc] 34):=⟨_,rfl⟩;obtain⟨b,hb⟩:∃b,b=w.heap.size:=⟨_,rfl⟩;have bv:Below w.heap.size w V:=by rw[hV];exact zN
 have BV:=qB4 bv;have hI:KuI V b c:=⟨by rw[hV,hb];exact qT3.new w c _,h.below bv⟩;have HA:=qB4 (qGI E b c V hI hle hEC);obtain⟨K,hK⟩:∃k,QD7 E c.cs c.bs c.rs c.zs=k:=⟨_,rfl⟩;rw[hK]at HA ⊢
 clear h hle hEC hI bv hK;go_enter func12,ntmps12;go_upto_region 1 with fail
 rw[<- hV,<- hb];clear hV hb;go_wp2_with fail
 refine HA.out.mono ?_;rintro e w1 ⟨rfl,hb1⟩;have B1:=qB4 (BV.out.trans (hb1.mono BV.out.size));clear hb1 HA;go_wp2;go_ret;exact⟨rfl,B1.out⟩
