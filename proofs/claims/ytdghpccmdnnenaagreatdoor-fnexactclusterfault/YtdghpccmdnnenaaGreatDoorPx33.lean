/- Contracts. -/
import Derived.Test.YtdghpccmdnnenaaGreatDoorPx31
import Derived.Test.YtdghpccmdnnenaaGreatDoorPx32
namespace Go.Proofs.YtdghpccmdnnenaaGreatDoor
set_option maxRecDepth 100000
set_option maxHeartbeats 8000000
open Go.RowKit Go.Proofs.Tryz
set_option linter.unusedVariables false
set_option linter.unusedSimpArgs false
theorem qOt{e n:Int}(h1:1<=e/\e<=9)(h2:0<=n/\n<=7):qB5 ⟨3,e,0,0,n⟩=0:=by
 have a:inR e 1 9=true:=(qD3 _ _ _).2 h1;have b:inR n 0 7=true:=(qD3 _ _ _).2 h2;have c:inR 3 1 4=true:=by decide
 have d:qHq ⟨3,e,0,0,n⟩=true:=by simp[qHq,qEU,qJ1,QH6]
 have f:qGo ⟨3,e,0,0,n⟩=true:=by unfold qGo;simp only[a,b];simp[QH6]
 unfold qB5;simp only[c,d,f];rfl
theorem qKc{f:Int}{zs:List ShI}{x:StI}(hs:qF2 f zs=0)(hx:qB5 x=0)(h4:x.k=4):isB f zs (QH8 x)=decide (2*f+1<=((sgL zs ⟨3,x.e,x.f,x.s,x.n⟩).length:Int)):=by
 obtain⟨_,h2,h3,_,_,_,h7⟩:=qH1 hx;obtain⟨e1,e2⟩:=h7 (by omega);have q:qB5 (QH8 x)=0:=qOt h2 h3;rw[e1,e2];unfold isB QS0;rw[hs,gK rfl,q,gK rfl];show ((if ((sgL zs (QH8 x)).length:Int)<2*f+1 then (7:Int) else 0)==0)=decide (2*f+1<=((sgL zs (QH8 x)).length:Int))
 by_cases c:((sgL zs (QH8 x)).length:Int)<2*f+1
 .rw[gK c,jL (by omega)];rfl
 .rw[gI c,jQ (by omega)];rfl
theorem qOu{cs:List qA5}{bs:List Int}{rs:List qD2}{z:ShI}(hm:rs.map (·.i)=qO0 (f0C cs) bs)(hz:qY9 bs rs z):
  (QL0 z.r rs 0 = -1/\qZ0 bs rs z=true)\/∃(k:Nat) (r:qD2),QL0 z.r rs 0=(k:Int)/\rs[k]?=some r/\qZ0 bs rs z=qC4 (r.ss.take r.u.toNat) z.st:=by
 rcases QQ8 z.r rs 0 with⟨q1,q2⟩ | ⟨k,r,q1,q2,q3⟩
 .refine .inl ⟨q1,?_⟩
  have : z.r∈bs:=by
   by_cases c:z.r∈bs
   .exact c
   .obtain⟨r,e⟩:=hz.st c;rw[q2]at e;cases e
  unfold qZ0;rw[jQ this];rfl
 .rw[gG]at q1;refine .inr ⟨k,r,q1,q2,?_⟩
  have hi:r.i=z.r:=by
   unfold QD1 at q3;have:=List.find?_some q3;simpa using this
  have hno:¬ z.r∈bs:=by
   have : r.i∈rs.map (·.i):=kU.2 ⟨r,gO q2,rfl⟩;rw[hm,hi]at this;unfold qO0 at this;exact (QC6.1 this).2.2
  unfold qZ0;rw[jL hno,q3];rfl
theorem qLs(V:World)(r:qD2)(u:Nat):qJ5 (V.alloc (.cells #[iv 0,iv 0,.slice r.sa u r.sc,.slice none 0 0] 115)) V.heap.size ⟨0,0,r.sa,u,r.sc,r.ss.take u,none,0,0,[]⟩:=qJ5.new V ⟨0,0,r.sa,u,r.sc,r.ss.take u,none,0,0,[]⟩ _
theorem qDH(E:qH3)(b:Nat)(c:ClI)(w:World)(h:KuI w b c)(hle:qFK c)(hk:qW7 c.cs c.bs=0)(hr:qR3 E c.cs c.bs c.rs=0):
  CP 83 #[.pointer (some ⟨b,0,none⟩)] w fun e w'=>e=.returned (iv (if QT2 (f0C c.cs) c.bs c.rs c.zs=0 then tkC (f0C c.cs) c.rs c.zs else QT2 (f0C c.cs) c.bs c.rs c.zs))/\Below w.heap.size w w':=by
 obtain⟨hcf,_,f1,f2,hl1⟩:=QQ9 hk;obtain⟨hmp,hrc⟩:=qHY hr;have hcn:0<c.cn:=by have:=h.cl.ci.len;omega
 have HSF:Hid (∀W,Below w.heap.size w W->CP 134 #[.slice c.za c.zn c.zc,iv (f0C c.cs)] W fun e w'=>e=.returned (iv (qF2 (f0C c.cs) c.zs))/\Below W.heap.size W w'):=fun W q=>qIJ c.za c.zn c.zc c.zs (f0C c.cs) W hle.zn hle.zc.1 hle.zc.2 (h.cl.zi.below q)
 have HSTS:Hid (∀r∈c.rs,(0<=r.u/\r.u<=(r.sn:Int)/\r.sn<=40)/\∀x∈r.ss,qB5 x=0):=fun r hr=>by
  obtain⟨k,e⟩:=jW.1 hr;exact qHZ (hrc r hr) (h.cl.ri.each k r e).said.1
 have HRT:Hid (qF2 (f0C c.cs) c.zs=0->∀z∈c.zs,qY9 c.bs c.rs z):=fun q z hz=>by
  obtain⟨_,_,q3⟩:=qJl q;obtain⟨q4,q5⟩:=(qD3 _ _ _).1 (q3 z hz).1;refine⟨fun hno=>QV3 hmp ?_,fun r hr=>?_⟩
  .unfold qO0;refine QC6.2 ⟨q4,by omega,hno⟩
  .have:=HSTS.out r hr;exact⟨this.1.1,this.1.2.1⟩
 have HZN:Hid (qF2 (f0C c.cs) c.zs=0->c.zn<=120):=fun q=>by
  have:=(qJl q).2.1;rw[h.cl.zi.1]at this;exact this
 have HAT:Hid (∀i W,Below w.heap.size w W->CP 135 #[.pointer (some ⟨b,0,none⟩),iv i] W fun e w'=>e=.returned (iv (QL0 i c.rs 0))/\W=w'):=fun i W q=>qMt b c i W (h.below q) hle.rn
 have HTK:Hid (c.zn<=120->∀(x:StI) W,Below w.heap.size w W->CP 136 #[.pointer (some ⟨b,0,none⟩),.agg #[iv x.k,iv x.e,iv x.f,iv x.s,iv x.n]] W fun e w'=>e=.returned (.bool (decide (2*f0C c.cs+1<=((sgL c.zs ⟨3,x.e,x.f,x.s,x.n⟩).length:Int))))/\Below W.heap.size W w'):=fun q x W hb=>qGH b c x W (h.below hb) hcn q f1 f2
 obtain⟨ca,cn,cc,cs,ba,bn,bc,bs,ra,rn,rc,rs,za,zn,zc,zs⟩:=c;have HB:Hid (∀W,Below w.heap.size w W->KuI W b ⟨ca,cn,cc,cs,ba,bn,bc,bs,ra,rn,rc,rs,za,zn,zc,zs⟩):=fun W q=>h.below q
 have HRC:Hid (∀(k:Nat) r,rs[k]?=some r->r.sn<=r.sc/\r.sc<=maxLen/\r.sn<=1048576):=fun k r e=>⟨(hle.rc k r e).1,(hle.rc k r e).2,(hle.rl k r e).said⟩
 simp only at HSF HSTS HRT HZN HAT HTK f1 f2 hcn hmp ⊢
 have HMP:=qB4 hmp;have hzn:zn<=1048576:=hle.zn;have hrn:rn<=1048576:=hle.rn;have hn':(zn:Int)<=1048576:=by omega
 have hrn':(rn:Int)<=1048576:=by omega
 have HZ:Hid (zs.length=zn/\rs.length=rn):=⟨h.cl.zi.1,h.cl.ri.len⟩;obtain⟨g0,off0,cf,e0,hc0,hat,_⟩:=h.cl.ci.at hcn
 simp only at e0 hc0;subst e0;have HAT0:Hid (qH4 w g0 off0 cf):=by have:=hat;simp only[kJ,jS]at this;exact this
 have hf0:f0C cs=cf.f:=by unfold f0C;rw[hc0];rfl
 obtain⟨f,hf⟩:∃f,f0C cs=f:=⟨_,rfl⟩;have hff:cf.f=f:=hf0.symm.trans hf;rw[hf]at HSF HRT HZN HTK f1 f2 ⊢
 obtain⟨s,hs⟩:∃s,qF2 f zs=s:=⟨_,rfl⟩;obtain⟨K1,hK1⟩:∃K,qD6 (qJ0 bs rs) zs=K:=⟨_,rfl⟩;obtain⟨K2,hK2⟩:∃K,qD6 (QI5 f zs) rs=K:=⟨_,rfl⟩;obtain⟨K,hK⟩:∃K,(if QT2 f bs rs zs=0 then tkC f rs zs else QT2 f bs rs zs)=K:=⟨_,rfl⟩
 have HK:Hid ((if s=0 then (if K1=0 then K2 else K1) else s)=K):=by
  show _=K
  rw[<- hK];unfold QT2 tkC;rw[hs,hK1,hK2];by_cases q:s=0
  .simp[q]
  .simp[q]
 have HS0:=hJJ hs;have HKA:Hid (qD6 (qJ0 bs rs) zs=K1/\qD6 (QI5 f zs) rs=K2):=⟨hK1,hK2⟩;rw[hs]at HSF HRT HZN;rw[hK];obtain⟨x0,x1,x2,x3⟩:=h.bx;simp only at x0 x1 x2 x3;have hbl:b<w.heap.size:=zL w _ x0;obtain⟨v0,v1,v2,v3,v4⟩:=HAT0.out;rw[hff]at v1;have hgl0:g0<w.heap.size:=zL w _ v0;have hcn':(0:Int)<(cn:Int):=by omega
 clear h hle hk hr hcf hl1 hmp hrc hf hs hK hK1 hK2 hzn hrn hat hf0 hc0 hff;go_enter func83,ntmps83;go_upto_region 1 with fail
 go_region_held3 (fun w'=>(∀b o,b<w.heap.size->w'.cell? ⟨b,o,none⟩=w.cell? ⟨b,o,none⟩)/\Below w.heap.size w w') (first | exact hS | exact qA8 _)
  (first
   | (go_at_call 134;refine (HSF.out _ (by first | exact hHeld.2 | exact hS.2 | exact (gC _ _).drew)).mono ?_;rintro e w' ⟨rfl,hbz⟩;have hS:=qA0 (by assumption) hbz))
 have B1:=qB4 hS.2;clear hS x0 x1 x2 x3 hbl HSF v0 v1 v2 v3 v4 hgl0 HAT0;by_cases s0:s=0
 .have HR2:Hid (∀z∈zs,qY9 bs rs z):=HRT.out s0;have hz120:=HZN.out s0;have HTK2:=qB4 (HTK.out hz120);have HK3:Hid ((if K1=0 then K2 else K1)=K):=by show _=K;rw[<- HK.out,gK s0]
  have HS1:Hid (qF2 f zs=0):=by show _=0;rw[HS0.out,s0]
  subst s0;clear HK HRT HTK HZN HS0;go_wp2_with fail
  go_upto_region 5 with fail
  go_loopw [4] (fun i wr=>∃j:Nat,j<=zn/\i=iv (j:Int)/\Hid (qD6 (qJ0 bs rs) (zs.drop j)=K1)/\Hid (Below w.heap.size w wr)) (fun i _=>zn-(intOf i).toNat)
  case atStart=>exact⟨0,gH _,rfl,HKA.out.1,B1⟩
  case round =>
   obtain⟨j,hj,rfl,HJ,BN⟩:=hrel;clear B1;obtain⟨x0,x1,x2,x3⟩:=(HB.out _ BN.out).bx;simp only at x0 x1 x2 x3;have hbw:b<wr.heap.size:=zL wr _ x0;by_cases hlt:j<zn
   .obtain⟨g,off,z,e2,hz,hza,hgl⟩:=(HB.out _ BN.out).cl.zi.at hlt
    simp only at e2;subst e2;have HJ2:Hid ((if qJ0 bs rs z=0 then qD6 (qJ0 bs rs) (zs.drop (j+1)) else qJ0 bs rs z)=K1):=by show _=K1;rw[<- HJ.out,qO7 _ hz]
    have HZR:Hid (qY9 bs rs z):=HR2.out z (gO hz);obtain⟨c0,c1,c2,c3,c4,c5⟩:=hza;have hlt':(j:Int)<(zn:Int):=by omega
    obtain⟨V,hV⟩:∃V,V=wr.alloc (.cells #[iv z.r,iv z.k,iv z.e,iv z.f,iv z.s,iv z.n] 121):=⟨_,rfl⟩;obtain⟨q,hq⟩:∃q,q=wr.heap.size:=⟨_,rfl⟩;have BV:=qB4 (BN.out.trans (by rw[hV];exact (gC _ _).alloc BN.out.size _:Below w.heap.size wr V));have ZV:Hid (QH9 V q 0 z/\q<V.heap.size):=by rw[hV,hq];exact⟨QH9.new wr z _,by simp⟩
    clear hz HJ;go_upto_region 8 with fail
    rw[<- hV,<- hq];clear hV hq x0 x1 x2 x3 hbw c0 c1 c2 c3 c4 c5 hgl BN wr;obtain⟨z0,z1,z2,z3,z4,z5⟩:=ZV.out.1;simp only[gG]at z0 z1 z2 z3 z4 z5;have hqv:=ZV.out.2;by_cases e4:z.k=4
    .have b4:(z.k==4)=true:=by simp[e4]
     have HN:Hid (1=K):=by
      show _=K
      have : (1:Int)=K1:=by rw[<- HJ2.out];unfold qJ0;rw[gK e4];rfl
      rw[<- HK3.out,<- this];rfl
     clear e4 HJ2 HK3;go_wp2_with fail
     go_ret;exact⟨by rw[<- HN.out];rfl,BV.out⟩
    .have b4:(z.k==4)=false:=by simp[e4]
     have HJ3:Hid ((if qZ0 bs rs z=true then qD6 (qJ0 bs rs) (zs.drop (j+1)) else 7)=K1):=by
      show _=K1
      rw[<- HJ2.out];unfold qJ0;rw[gI e4];cases qZ0 bs rs z <;> rfl
     clear e4 HJ2;rcases qOu HMP.out HZR.out with⟨p1,p2⟩ | ⟨k,r,p1,p2,p3⟩
     .have HN:Hid (qD6 (qJ0 bs rs) (zs.drop (j+1))=K1):=by show _=K1;rw[<- HJ3.out,gK p2]
      have HQ:Hid (CP 135 #[.pointer (some ⟨b,0,none⟩),iv z.r] V fun e w'=>e=.returned (iv (-1))/\V=w'):=by show Calls _ _ _ _ _;rw[<- p1];exact HAT.out z.r V BV.out
      clear p1 p2 HJ3;go_wp2_with fail
      refine HQ.out.mono ?_;rintro e w2 ⟨rfl,rfl⟩;go_wp2;exact⟨⟨j+1,by omega,by go_num,HN,BV⟩,by simp[intOf];omega⟩
     .have HQ:Hid (CP 135 #[.pointer (some ⟨b,0,none⟩),iv z.r] V fun e w'=>e=.returned (iv (k:Int))/\V=w'):=by show Calls _ _ _ _ _;rw[<- p1];exact HAT.out z.r V BV.out
      have hltk:k<rn:=by have:=(gY.1 p2).1;have:=HZ.out.2;omega
      obtain⟨g,off,r2,e2,hr2,hra,hri⟩:=(HB.out _ BV.out).cl.ri.at hltk
      simp only at e2 hr2;subst e2;rw[p2]at hr2;cases hr2;obtain⟨x0,x1,x2,x3⟩:=(HB.out _ BV.out).bx;simp only at x0 x1 x2 x3;have hbl:b<V.heap.size:=zL V _ x0;have hgl:g<V.heap.size:=hra.lt;have hlt2:(k:Int)<(rn:Int):=by omega
      have hk0:¬ (k:Int)<0:=by omega
      obtain⟨⟨u0,u1,u2⟩,_⟩:=HSTS.out r (gO p2);obtain⟨u,hu⟩:∃u:Nat,r.u=(u:Int):=gP u0;obtain⟨s1,s2,s3⟩:=HRC.out k r p2;have hus:u<=r.sn:=by omega
      obtain⟨t,ht⟩:∃t,qC4 (r.ss.take u) z.st=t:=⟨_,rfl⟩
      have HJ4:Hid ((if t=true then qD6 (qJ0 bs rs) (zs.drop (j+1)) else 7)=K1):=by
       show _=K1
       rw[<- HJ3.out,p3,hu,kS,ht]
      obtain⟨c0,c1,c2,c3⟩:=hra;rw[hu]at c1;have husc:(u:Int)<=(r.sc:Int):=by omega
      have hu0:(0:Int)<=(u:Int):=by omega
      have hsc:(r.sc:Int)<=9223372036854775807:=by unfold maxLen at s2;omega
      have HSI:Hid (qL2 V r.sa u (r.ss.take u)):=qNf hri.said hus;have HU:Hid (u<=1048576/\qC4 (r.ss.take u) z.st=t):=⟨by omega,ht⟩;clear p1 p2 p3 hri ht hu u0 u1 u2 s1 s2 s3 hus HJ3;go_wp2_with fail
      refine HQ.out.mono ?_;rintro e w2 ⟨rfl,rfl⟩;go_upto_region 12 with fail
      refine gL (S:=fun w'=>(∀b o,b<V.heap.size->w'.cell? ⟨b,o,none⟩=V.cell? ⟨b,o,none⟩)/\Below V.heap.size V w') (by kernel_rfl) (qA8 _) (fun hHeld=>?_);refine Zk.go [0,1,2,3,4,5,6,7,8,9,10,11,12,13,14,15,16,17] ?_
      iterate 18
       refine Zk.st (v:=?_) rfl ?_ ?_;rotate_left 1
       .intro w hSw;(try dsimp only at hSw);go_simp;try (with_reducible rfl)
       try simp only[Act.put,zA,zB,zC,zD,zE,zF]
      refine Zk.fin ?_;refine Zk.rd (i:=18) rfl (fun K hK=>?_);go_simp;have hS:=kpQ (((gC V.heap.size V).alloc (gB _) (.cells #[iv 0,iv 0,.slice none 0 0,.slice none 0 0] 115)).drew);refine hK.out _ _ hS (fun hHeld=>?_);clear hK K;try simp only[Act.put,zA,zB,zC,zD,zE,zF]
      refine Zk.rd (i:=19) rfl (fun K hK=>?_);go_simp;have hS:=kpQ (((gC V.heap.size V).alloc (gB _) (.cells #[iv 0,iv 0,.slice r.sa u r.sc,.slice none 0 0] 115)).drew);refine hK.out _ _ hS (fun hHeld=>?_);clear hK K;try simp only[Act.put,zA,zB,zC,zD,zE,zF]
      refine gZ (by kernel_rfl) ?_ _;clear hHeld hS x0 x1 x2 x3 hbl c0 c1 c2 c3 hgl husc hu0 hsc hlt2 hk0;obtain⟨W,hW⟩:∃W,W=(V.alloc (.cells #[iv 0,iv 0,.slice r.sa u r.sc,.slice none 0 0] 115)).drew:=⟨_,rfl⟩;obtain⟨d,hd⟩:∃d,d=V.heap.size:=⟨_,rfl⟩;have bw:Below V.heap.size V W:=by rw[hW];exact (zN).drew
      have BW:=qB4 (BV.out.trans (bw.mono BV.out.size));have XW:qJ5 W d ⟨0,0,r.sa,u,r.sc,r.ss.take u,none,0,0,[]⟩:=by rw[hW,hd];exact (qLs V r u).below (gC _ _).drew
      have HSD:Hid (CP 101 #[.pointer (some ⟨d,0,none⟩),.agg #[iv z.k,iv z.e,iv z.f,iv z.s,iv z.n]] W fun e w'=>e=.returned (.bool t)/\Below W.heap.size W w'):=by show Calls _ _ _ _ _;rw[<- HU.out.2];exact qK7 d ⟨0,0,r.sa,u,r.sc,r.ss.take u,none,0,0,[]⟩ z.st W XW (HSI.out.below bw) HU.out.1
      have ZW:=qB4 (ZV.out.1.below bw ZV.out.2);have hqw:q<W.heap.size:=gD ZV.out.2 bw.size;rw[<- hW,<- hd];clear hW hd bw XW z0 z1 z2 z3 z4 z5 hqv HSI;obtain⟨z0,z1,z2,z3,z4,z5⟩:=ZW.out;simp only[gG]at z0 z1 z2 z3 z4 z5;go_wp2_with fail
      refine HSD.out.mono ?_;rintro e w3 ⟨rfl,hb3⟩;have B3:=qB4 (BW.out.trans (hb3.mono BW.out.size));clear hb3 z0 z1 z2 z3 z4 z5 hqw HSD;cases t
      .have HN:Hid (7=K):=by
        show _=K
        have : (7:Int)=K1:=HJ4.out;rw[<- HK3.out,<- this];rfl
       clear HJ4 HK3;go_wp2;go_ret;exact⟨by rw[<- HN.out];rfl,B3.out⟩
      .have HN:Hid (qD6 (qJ0 bs rs) (zs.drop (j+1))=K1):=HJ4.out;clear HJ4;go_wp2;exact⟨⟨j+1,by omega,by go_num,HN,B3⟩,by simp[intOf];omega⟩
   .have hjn:j=zn:=by omega
    subst hjn
    have HE:Hid (K2=K):=by
     show _=K
     have : K1=0:=by rw[<- HJ.out,jH (by rw[HZ.out.1];exact gB _)];rfl
     rw[<- HK3.out,gK this]
    clear HK3 HJ HR2 HAT hlt;go_wp2_with fail
    go_loopw [8] (fun i w2=>∃m:Nat,m<=rn/\i=iv (m:Int)/\Hid (qD6 (QI5 f zs) (rs.drop m)=K2)/\Hid (Below w.heap.size w w2)) (fun i _=>rn-(intOf i).toNat)
    case atStart=>exact⟨0,gH _,rfl,HKA.out.2,BN⟩
    case round =>
     obtain⟨m,hm,rfl,HM,BM⟩:=hrel;clear x0 x1 x2 x3 hbw;obtain⟨x0,x1,x2,x3⟩:=(HB.out _ BM.out).bx;simp only at x0 x1 x2 x3;have hbw:=zL _ _ x0;by_cases hltm:m<rn
     .obtain⟨g,off,r,e2,hr,hra,hri⟩:=(HB.out _ BM.out).cl.ri.at hltm
      simp only at e2;subst e2;have hltm':(m:Int)<(rn:Int):=by omega
      obtain⟨t,ht⟩:∃t,r.ss.any (qH8 f zs)=t:=⟨_,rfl⟩
      have HM2:Hid ((if t=true then 7 else qD6 (QI5 f zs) (rs.drop (m+1)))=K2):=by
       show _=K2
       rw[<- HM.out,qO7 _ hr];unfold QI5;rw[ht];cases t <;> simp
      have HT:=hJJ ht;have HSTR:=qB4 (HSTS.out r (gO hr));have HRR:=hJJ hr;have hsn:(r.sn:Int)<=40:=by have:=HSTR.out.1.2.2;omega
      have HSL:=hJJ hri.said.1;clear hr ht HM hra hri;go_wp2_with fail
      go_loopw [9] (fun i w3=>∃n:Nat,n<=r.sn/\i=iv (n:Int)/\Hid ((r.ss.drop n).any (qH8 f zs)=t)/\Hid (Below w.heap.size w w3)) (fun i _=>r.sn-(intOf i).toNat)
      case atStart=>exact⟨0,gH _,rfl,HT.out,BM⟩
      case round =>
       obtain⟨n,hn,rfl,HN0,BN2⟩:=hrel;clear x0 x1 x2 x3 hbw;obtain⟨x0,x1,x2,x3⟩:=(HB.out _ BN2.out).bx;simp only at x0 x1 x2 x3;have hbw:=zL _ _ x0;obtain⟨g2,off2,r2,e2,hr2,hra,hri⟩:=(HB.out _ BN2.out).cl.ri.at hltm
       simp only at e2 hr2;cases e2;rw[HRR.out]at hr2;cases hr2;have hgw:=hra.lt;obtain⟨c0,c1,c2,c3⟩:=hra;by_cases hltn:n<r.sn
       .obtain⟨g3,off3,x,e3,hx,hxa,hg3⟩:=hri.said.at hltn
        rw[e3]at c2;obtain⟨u0,u1,u2,u3,u4⟩:=hxa;have hltn':(n:Int)<(r.sn:Int):=by omega
        have HXS:Hid (qB5 x=0):=HSTR.out.2 x (gO hx)
        have HN1:Hid ((qH8 f zs x || (r.ss.drop (n+1)).any (qH8 f zs))=t):=by
         show _=t
         rw[<- HN0.out];have hl:n<r.ss.length:=(gY.1 hx).1;rw[List.drop_eq_getElem_cons hl,(gY.1 hx).2];rfl
        obtain⟨V,hV⟩:∃V,V=wr.alloc (.cells #[iv x.k,iv x.e,iv x.f,iv x.s,iv x.n] 50):=⟨_,rfl⟩;obtain⟨dq,hdq⟩:∃dq,dq=wr.heap.size:=⟨_,rfl⟩;have BV:=qB4 (BN2.out.trans (by rw[hV];exact (gC _ _).alloc BN2.out.size _:Below w.heap.size wr V));have XV:Hid (qM9 V dq 0 x/\dq<V.heap.size):=by rw[hV,hdq];exact⟨qM9.new wr x _,by simp⟩
        clear hx hri HN0 e3;go_upto_region 22 with fail
        rw[<- hV,<- hdq];clear hV hdq x0 x1 x2 x3 hbw c0 c1 c2 c3 hgw u0 u1 u2 u3 u4 hg3 BN2 wr;obtain⟨y0,y1,y2,y3,y4⟩:=XV.out.1;simp only[gG]at y0 y1 y2 y3 y4;have hdv:=XV.out.2;by_cases e4:x.k=4
        .have b4:(x.k==4)=true:=by simp[e4]
         obtain⟨d,hd⟩:∃d,decide (2*f+1<=((sgL zs ⟨3,x.e,x.f,x.s,x.n⟩).length:Int))=d:=⟨_,rfl⟩
         have HU:Hid (qH8 f zs x = !d):=by
          show _=_
          unfold qH8;rw[qKc HS1.out HXS.out e4,hd,jQ e4];rfl
         have HQ:Hid (∀W,Below V.heap.size V W->CP 136 #[.pointer (some ⟨b,0,none⟩),.agg #[iv x.k,iv x.e,iv x.f,iv x.s,iv x.n]] W fun e w'=>e=.returned (.bool d)/\Below W.heap.size W w'):=fun W q=>by rw[<- hd];exact HTK2.out x W (BV.out.trans (q.mono BV.out.size))
         clear hd e4;go_wp2_with fail
         refine (HQ.out _ (gC _ _)).mono ?_;rintro d' wB ⟨rfl,hbB⟩;have B3:=qB4 (BV.out.trans (hbB.mono BV.out.size));clear hbB y0 y1 y2 y3 y4 hdv HQ;cases d
         .have HE3:Hid (7=K):=by
           show _=K
           have e7:t=true:=by rw[<- HN1.out,HU.out];rfl
           have : (7:Int)=K2:=by rw[<- HM2.out,gK e7]
           rw[<- HE.out,this]
          clear HM2 HE;go_wp2;go_ret;exact⟨by rw[<- HE3.out];rfl,B3.out⟩
         .have HE3:Hid ((r.ss.drop (n+1)).any (qH8 f zs)=t):=by show _=t;rw[<- HN1.out,HU.out];rfl
          go_wp2;exact⟨⟨n+1,by omega,by go_num,HE3,B3⟩,by simp[intOf];omega⟩
        .have b4:(x.k==4)=false:=by simp[e4]
         have HU:Hid (qH8 f zs x=false):=by show _=_;unfold qH8;rw[jL e4];rfl
         clear e4;clear HTK2;have HE3:Hid ((r.ss.drop (n+1)).any (qH8 f zs)=t):=by show _=t;rw[<- HN1.out,HU.out];rfl
         go_wp2;exact⟨⟨n+1,by omega,by go_num,HE3,BV⟩,by simp[intOf];omega⟩
       .have hnn:n=r.sn:=by omega
        have HE3:Hid (qD6 (QI5 f zs) (rs.drop (m+1))=K2):=by
         show _=K2
         have : t=false:=by rw[<- HN0.out,hnn,jH (by rw[HSL.out];exact gB _)];rfl
         rw[<- HM2.out,this];rfl
        have hltn':¬ (n:Int)<(r.sn:Int):=by omega
        clear HN0 HM2 hnn hltn hri;go_wp2;exact⟨⟨m+1,by omega,by go_num,HE3,BN2⟩,by simp[intOf];omega⟩
     .have hmn:m=rn:=by omega
      subst hmn
      have HE2:Hid (0=K):=by
       show _=K
       have : K2=0:=by rw[<- HM.out,jH (by rw[HZ.out.2];exact gB _)];rfl
       rw[<- HE.out,this]
      clear HM HE;go_wp2;go_ret;exact⟨by rw[<- HE2.out];rfl,BM.out⟩
 .have kb:(s != 0)=true:=by simp[s0]
  have HE:Hid (s=K):=by show _=K;rw[<- HK.out,gI s0]
  clear s0 HK HRT;go_wp2;go_ret;exact⟨by rw[<- HE.out];rfl,B1.out⟩
