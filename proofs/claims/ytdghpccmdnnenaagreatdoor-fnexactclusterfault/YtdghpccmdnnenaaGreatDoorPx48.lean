/- Contracts. -/
import Derived.Test.YtdghpccmdnnenaaGreatDoorPx38
import Derived.Test.YtdghpccmdnnenaaGreatDoorPx43
import Derived.Test.YtdghpccmdnnenaaGreatDoorPx47
namespace Go.Proofs.YtdghpccmdnnenaaGreatDoor
set_option maxRecDepth 100000
set_option maxHeartbeats 8000000
open Go.RowKit Go.Proofs.Tryz
set_option linter.unusedVariables false
set_option linter.unusedSimpArgs false
structure KL (w:World) (c:ClI) (W:World):Prop where
 bl:Below w.heap.size w W
 lt:w.heap.size<W.heap.size
 bx:qT3 W w.heap.size c
 is:qCR W c
 er:qM4 0 W
 hh:qD9 W
theorem KL.below{w:World}{c:ClI}{W W':World}(h:KL w c W)(hb:Below W.heap.size W W'):KL w c W' :=
 ⟨h.bl.trans (hb.mono h.bl.size),gD h.lt hb.size,h.bx.below hb,h.is.below hb,h.er.below hb,h.hh.below hb⟩
theorem KL.new{w:World}{c:ClI}(h:qCR w c)(hE:qM4 0 w/\qD9 w):KL w c (w.alloc (.cells #[.slice c.ca c.cn c.cc,.slice c.ba c.bn c.bc,.slice c.ra c.rn c.rc,.slice c.za c.zn c.zc] 27)):=by
 have b:Below w.heap.size w (w.alloc (.cells #[.slice c.ca c.cn c.cc,.slice c.ba c.bn c.bc,.slice c.ra c.rn c.rc,.slice c.za c.zn c.zc] 27)):=zN;exact⟨b,by simp,qT3.new w c _,h.below b,hE.1.below b,hE.2.below b⟩
theorem qOI(c:ClI):∃E:qH3,∀y W,qJM c y W->qB1 y.cs=0->qN0 E y.cs:=by
 by_cases h:∃y W,qJM c y W
 .obtain⟨y,W,hy⟩:=h;obtain⟨E,hE⟩:=qOH hy.le.cl;refine⟨E,fun z W' hz hk=>?_⟩;have hs:qQ8 y.cs z.cs:=⟨by rw[hz.cs.ln,hy.cs.ln],QV1 hy.cs hz.cs⟩;exact qQ8.env hs (hE (by rw[hy.cs.cfs,<- hz.cs.cfs];exact hk)) hz.le.cl
 .exact⟨⟨[],fun _ _ _=>false,fun _=>[]⟩,fun y W hy=>absurd ⟨y,W,hy⟩ h⟩
theorem QB0(c:ClI)(k:Int)(w:World)(h:qCR w c/\qLG maxLen c)(hE:qM4 0 w/\qD9 w)(hS:∀y W,qJM c y W->CP 12 #[.agg #[.slice y.ca y.cn y.cc,.slice y.ba y.bn y.bc,.slice y.ra y.rn y.rc,.slice y.za y.zn y.zc]] W fun e W'=>e=.returned (iv k)/\Below W.heap.size W W')(hI:∀y W,qJM c y W->qM4 0 W->qD9 W->CP 14 #[.agg #[.slice y.ca y.cn y.cc,.slice y.ba y.bn y.bc,.slice y.ra y.rn y.rc,.slice y.za y.zn y.zc]] W fun e W'=>e=.returned (iv k)/\Below W.heap.size W W'):
  CP 3 #[.agg #[.slice c.ca c.cn c.cc,.slice c.ba c.bn c.bc,.slice c.ra c.rn c.rc,.slice c.za c.zn c.zc]] w fun e w'=>e=.returned (.bool true)/\Below w.heap.size w w':=by
 obtain⟨V,hV⟩:∃V,V=w.alloc (.cells #[.slice c.ca c.cn c.cc,.slice c.ba c.bn c.bc,.slice c.ra c.rn c.rc,.slice c.za c.zn c.zc] 27):=⟨_,rfl⟩;have F0:Hid (KL w c V):=by rw[hV];exact KL.new h.1 hE
 have HM:=qB4 h.2;have HS:=qB4 hS;have HI:=qB4 hI;clear h hE hS hI;go_enter func3,ntmps3;go_upto_region 1 with fail
 rw[<- hV];clear hV;obtain⟨x0,x1,x2,x3⟩:=F0.out.bx;have hvl:=F0.out.lt;go_wp2_with fail
 refine (qCb c 1048576 _ HM.out (by omega) (by omega) F0.out.is).mono ?_;rintro e w1 ⟨⟨s1,rfl,hs1,hs2⟩,hb1⟩;have F1:=qB4 (F0.out.below hb1);clear hb1 F0 x0 x1 x2 x3 hvl;by_cases hneg:s1<0
 .go_wp2_with fail
  go_ret;exact⟨rfl,F1.out.bl⟩
 .have HM1:=qB4 (hs2 (by omega));obtain⟨x0,x1,x2,x3⟩:=F1.out.bx;have hvl:=F1.out.lt;clear hs2 HM;go_wp2_with fail
  refine (QE2 c _ HM1.out F1.out.is).mono ?_;rintro e w2 ⟨y1,rfl,hy1,hb2⟩;have F2:=qB4 (F1.out.below hb2);clear hb2 F1 x0 x1 x2 x3 hvl;go_wp2_with fail
  refine (HS.out y1 _ hy1).mono ?_;rintro e w3 ⟨rfl,hb3⟩;have F3:=qB4 (F2.out.below hb3);clear hb3 F2 hy1 HS;obtain⟨x0,x1,x2,x3⟩:=F3.out.bx;have hvl:=F3.out.lt;go_wp2_with fail
  refine (QE2 c _ HM1.out F3.out.is).mono ?_;rintro e w4 ⟨y2,rfl,hy2,hb4⟩;obtain⟨Z,hZ⟩:∃Z,Z=w4.alloc (.cells #[.slice y2.ca y2.cn y2.cc,.slice y2.ba y2.bn y2.bc,.slice y2.ra y2.rn y2.rc,.slice y2.za y2.zn y2.zc] 34):=⟨_,rfl⟩;obtain⟨q,hq⟩:∃q,q=w4.heap.size:=⟨_,rfl⟩;have bz:Below w4.heap.size w4 Z:=by rw[hZ];exact zN
  have F5:=qB4 ((F3.out.below hb4).below bz);have Y5:=qB4 (hy2.below bz);have X5:Hid (qT3 Z q y2):=by rw[hZ,hq];exact qT3.new w4 y2 _
  clear hb4 F3 x0 x1 x2 x3 hvl hy2 bz;go_upto_region 7 with fail
  rw[<- hZ,<- hq];clear hZ hq;obtain⟨z0,z1,z2,z3⟩:=X5.out;have hqv:=X5.out.lt;go_wp2_with fail
  refine (HI.out y2 _ Y5.out F5.out.er F5.out.hh).mono ?_;rintro e w6 ⟨rfl,hb6⟩;have F6:=qB4 (F5.out.below hb6);have Y6:=qB4 (Y5.out.below hb6);have X6:=qB4 (X5.out.below hb6);clear hb6 F5 Y5 X5 HI z0 z1 z2 z3 hqv;go_upto_region 10 with fail
  obtain⟨x0,x1,x2,x3⟩:=F6.out.bx;have hvl:=F6.out.lt;obtain⟨z0,z1,z2,z3⟩:=X6.out;have hqv:=X6.out.lt;refine gL (S:=fun w'=>(∀b o,b<w6.heap.size->w'.cell? ⟨b,o,none⟩=w6.cell? ⟨b,o,none⟩)/\Below w6.heap.size w6 w') (by kernel_rfl) (qA8 _) (fun hHeld=>?_);refine Zk.go [0,1] ?_
  iterate 2
   refine Zk.st (v:=?_) rfl ?_ ?_;rotate_left 1
   .intro w hSw;(try dsimp only at hSw);go_simp;try (with_reducible rfl)
   try simp only[Act.put,zA,zB,zC,zD,zE,zF]
  refine Zk.fin ?_;refine Zk.rd (i:=2) rfl (fun K hK=>?_);go_simp;refine (QE2 c _ HM1.out (F6.out.below hHeld.2).is).mono ?_;rintro d wA ⟨y3,rfl,hy3,hbA⟩;have hS:=qA0 hHeld hbA;have Y3:=qB4 hy3;clear hy3;refine hK.out _ _ hS (fun hHeld=>?_);clear hK K;try simp only[Act.put,zA,zB,zC,zD,zE,zF]
  refine Zk.rd (i:=3) rfl (fun K hK=>?_);go_simp;refine (qDg c _ _ _ HM1.out (Y6.out.below hHeld.2) Y3.out).mono ?_;rintro d wB ⟨rfl,hbB⟩;have hS:=qA0 hHeld hbB;refine hK.out _ _ hS (fun hHeld=>?_);clear hK K;try simp only[Act.put,zA,zB,zC,zD,zE,zF]
  refine Zk.go [4] ?_;refine Zk.st (v:=?_) rfl ?_ ?_;rotate_left 1
  .intro w hSw;(try dsimp only at hSw);go_simp;try (with_reducible rfl)
  try simp only[Act.put,zA,zB,zC,zD,zE,zF]
  refine Zk.fin ?_;refine gZ (by kernel_rfl) ?_ _;have B9:=qB4 ((F6.out.below hHeld.2).bl);clear hS hHeld x0 x1 x2 x3 hvl z0 z1 z2 z3 hqv Y3;go_wp2_with fail
  go_ret;exact⟨rfl,B9.out⟩
theorem QL2(c:ClI)(w:World)(h:qCR w c/\qLG maxLen c)(hE:qM4 0 w/\qD9 w):
  CP 3 #[.agg #[.slice c.ca c.cn c.cc,.slice c.ba c.bn c.bc,.slice c.ra c.rn c.rc,.slice c.za c.zn c.zc]] w fun e w'=>e=.returned (.bool true)/\Below w.heap.size w w':=by
 obtain⟨E,hEC⟩:=qOI c;refine QB0 c (QD7 E c.cs c.bs c.rs c.zs) w h hE (fun y W hy=>?_) (fun y W hy hr hh=>?_)
 .have q:=QZ1 E y W hy.is hy.le (hEC y W hy);rw[QQ6 hy]at q;exact q
 .have q:=qAP E y W hy.is hy.le (hEC y W hy) hr hh;rw[QQ6 hy]at q;exact q
