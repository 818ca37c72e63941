/- Contracts. -/
import Derived.Test.YtdghpccmdnnenaaGreatDoorPx28
import Derived.Test.YtdghpccmdnnenaaGreatDoorPx34
import Derived.Test.YtdghpccmdnnenaaGreatDoorPx23
namespace Go.Proofs.YtdghpccmdnnenaaGreatDoor
set_option maxRecDepth 100000
set_option maxHeartbeats 8000000
open Go.RowKit Go.Proofs.Tryz
set_option linter.unusedVariables false
set_option linter.unusedSimpArgs false
theorem kpN{B:Nat}{w w':World}(hb:Below B w w'):(∀b o,b<B->w'.cell? ⟨b,o,none⟩=w.cell? ⟨b,o,none⟩)/\Below B w w' :=
 ⟨fun b o h=>hb.cell (p:=⟨b,o,none⟩) h,hb⟩
theorem qGG(a:Option Addr)(n cap:Nat)(b:Option Addr)(m cap2:Nat)(gs ys:List LkI)(w:World)(hn:n<=200)(hm:m<=100)(h:qJ9 w a n gs)(hnil:a=none->n=0/\cap=0)(hsome:∀p,a=some p->∃b0 o0,p=⟨b0,o0,none⟩/\b0<w.heap.size)(hy:qJ9 w b m ys)(hs:SL gs)(ho:∀x∈gs,okL x=true)(hys:SL ys)(hyo:∀x∈ys,okL x=true):
  qH7 236 #[.slice a n cap,.slice b m cap2] (qI9 gs ys) (tkL gs ys) w:=by
 cases a with
 | none =>
  obtain⟨rfl,rfl⟩:=hnil rfl;obtain rfl:gs=[]:=List.length_eq_zero_iff.1 h.1;exact qGF b m cap2 ys w hm hy hys hyo
 | some p =>
  obtain⟨b0,o0,rfl,hb0⟩:=hsome p rfl;exact qKO b0 o0 n cap b m cap2 gs ys w hn hm h hb0 hy hs ho hys hyo
structure IsA (w:World) (b:Nat) (r:qD2) (g o:Nat) (c:qA5) (gs:List GrI) (bx:Nat) (x:StI):Prop where
 rb:qJ5 w b r
 ri:qE7 w r
 rn:r.sn<=1048576
 nl:r.la=none->r.ln=0/\r.lc=0
 sm:∀p,r.la=some p->∃b0 o0,p=⟨b0,o0,none⟩/\b0<w.heap.size
 lk:qJ6 r.ls=0
 ca:qH4 w g o c
 ci:qF4 w c
 cl:qE2 1048576 c
 c0:qV5 c=0
 ag:QM8 c.zs gs
 xa:qM9 w bx 0 x
 x0:qB5 x=0
 x1:x.k=1
theorem IsA.below{w w':World}{b:Nat}{r:qD2}{g o:Nat}{c:qA5}{gs:List GrI}{bx:Nat}{x:StI}(h:IsA w b r g o c gs bx x)(hb:Below w.heap.size w w'):IsA w' b r g o c gs bx x :=
 ⟨h.rb.below hb,h.ri.below hb,h.rn,h.nl,fun p e=>by obtain⟨b0,o0,q,hl⟩:=h.sm p e;exact⟨b0,o0,q,gD hl hb.size⟩,h.lk,h.ca.below hb,h.ci.below hb,h.cl,h.c0,h.ag,h.xa.below hb (zL w _ h.xa.1),h.x0,h.x1⟩
theorem qEX{v a b:Int}(h:inR v a b=true):a<=v/\v<=b:=by simpa[inR] using h
theorem kpM{n:Nat}{w4 w w':World}(h:(∀b' o',b'<n->w.cell? ⟨b',o',none⟩=w4.cell? ⟨b',o',none⟩)/\Below n w4 w)(hb:Below w.heap.size w w')(hn:n<=w4.heap.size):(∀b' o',b'<n->w'.cell? ⟨b',o',none⟩=w4.cell? ⟨b',o',none⟩)/\Below n w4 w' :=
 have q:=h.2.trans (hb.mono (jF hn h.2.size));⟨fun b' o' hl=>q.cell (p:=⟨b',o',none⟩) hl,q⟩
theorem kpS{n:Nat}{w4 w:World}(h:(∀b' o',b'<n->w.cell? ⟨b',o',none⟩=w4.cell? ⟨b',o',none⟩)/\Below n w4 w){o:Nat}(v:Value):(∀b' o',b'<n->(w.setCell ⟨n,o,none⟩ v).cell? ⟨b',o',none⟩=w4.cell? ⟨b',o',none⟩)/\Below n w4 (w.setCell ⟨n,o,none⟩ v) :=
 have q:=h.2.setCell (p:=⟨n,o,none⟩) (gB _) v;⟨fun b' o' hl=>q.cell (p:=⟨b',o',none⟩) hl,q⟩
theorem qDM(b:Nat)(r:qD2)(g o:Nat)(c:qA5)(gs:List GrI)(bx:Nat)(x:StI)(w:World)(h:IsA w b r g o c gs bx x)(hs1:qV1 r.ss x.e=true):
  qH7 213 #[.pointer (some ⟨b,0,none⟩),.pointer (some ⟨g,o,none⟩),.pointer (some ⟨bx,0,none⟩)] 9 [] w:=by
 unfold qH7;have HA:Hid (∀W,Below w.heap.size w W->IsA W b r g o c gs bx x):=fun W hb=>h.below hb
 have hbl:b<w.heap.size:=h.rb.lt;have hgl:g<w.heap.size:=h.ca.lt;have hxl:bx<w.heap.size:=zL w _ h.xa.1;obtain⟨W,hW⟩:∃W,W=w.alloc (.cells #[iv 0,.slice none 0 0] 272):=⟨_,rfl⟩;obtain⟨V,hV⟩:∃V,V=(W.alloc (.cells #[iv 2,iv x.e,iv x.f,iv x.s,iv 0] 50)).drew:=⟨_,rfl⟩;have hzW:W.heap.size=w.heap.size+1:=by rw[hW];simp
 have B0:Below w.heap.size w W:=by rw[hW];exact zN
 have A1:Below W.heap.size W V:=by rw[hV];exact (zN).drew
 have B1:Hid (Below w.heap.size w V):=B0.trans (A1.mono (by omega))
 have X1:Hid (qJ2 w.heap.size [iv 0,.slice none 0 0] V):=by
  refine qJ2.below (W:=W) ?_ (by omega) A1;rw[hW];exact qI5 w _ _
 have Y1:Hid (QD0 (w.heap.size+1) [iv 2,iv x.e,iv x.f,iv x.s,iv 0] V):=by
  have e:w.heap.size+1=W.heap.size:=hzW.symm;rw[hV,e];exact (qG3 W _ _).out
 have hVl:w.heap.size+1<V.heap.size:=by rw[hV];simp;omega
 have HXA:Hid (∀W,Below w.heap.size w W->qM9 W bx 0 x):=fun W hb=>(h.below hb).xa
 have HSE:Hid (∀W,Below w.heap.size w W->CP 235 #[.pointer (some ⟨b,0,none⟩),iv x.e] W fun d w'=>d=.returned (.bool true)/\Below W.heap.size W w'):=fun W hb=>by
  have q:=h.below hb;rw[<- hs1];exact QC7 b r x.e W q.rb q.ri.said q.rn
 clear hs1;obtain⟨x0,x1,x2,x3,x4⟩:=(h.below B0).xa;simp only[gG]at x0 x1 x2 x3 x4;have hxW:bx<W.heap.size:=by omega
 clear h A1 B0;go_enter func213,ntmps213;go_upto_region 1 with fail
 rw[<- hW];clear hW;go_region
 try rw[hzW]
 rw[<- hV];clear hV hzW x0 x1 x2 x3 x4 hxW;obtain⟨x0,x1,x2,x3,x4⟩:=HXA.out _ B1.out;simp only[gG]at x0 x1 x2 x3 x4;have hxV:bx<V.heap.size:=by omega
 have y0:=Y1.out 0 _ rfl;have y1:=Y1.out 1 _ rfl;have y2:=Y1.out 2 _ rfl;have y3:=Y1.out 3 _ rfl;have y4:=Y1.out 4 _ rfl;go_wp2_with fail
 refine (HSE.out _ B1.out).mono ?_;rintro d w2 ⟨rfl,hb2⟩;have X2:=qB4 (qJ2.below X1.out (by omega) hb2);have B2:Hid (Below w.heap.size w w2):=B1.out.trans (hb2.mono B1.out.size);have hzl:w.heap.size<w2.heap.size:=by have:=B2.out.size;have:=hb2.size;omega
 clear x0 x1 x2 x3 x4 hxV y0 y1 y2 y3 y4;have z0:=X2.out.1 0 _ rfl;have z1:=X2.out.1 1 _ rfl;have zf0:=X2.out.2 0;have zf1:=X2.out.2 1;go_wp2_with fail
 refine gQ (v:=.agg #[iv 9,.slice none 0 0]) (by simp[results,results213,go_sem,z0,z1,hzl]) rfl ⟨none,0,rfl,jB _ _ _ _,?_⟩;exact (B2.out.setCell (gB _) _).setCell (gB _) _
theorem qDN(b:Nat)(r:qD2)(g o:Nat)(c:qA5)(gs:List GrI)(bx:Nat)(x:StI)(w:World)(h:IsA w b r g o c gs bx x)(hs1:qV1 r.ss x.e=false)(hs2:qC4 r.ss (qT6 x)=true):
  qH7 213 #[.pointer (some ⟨b,0,none⟩),.pointer (some ⟨g,o,none⟩),.pointer (some ⟨bx,0,none⟩)] 9 [] w:=by
 unfold qH7;have HA:Hid (∀W,Below w.heap.size w W->IsA W b r g o c gs bx x):=fun W hb=>h.below hb
 have hbl:b<w.heap.size:=h.rb.lt;have hgl:g<w.heap.size:=h.ca.lt;have hxl:bx<w.heap.size:=zL w _ h.xa.1;obtain⟨W,hW⟩:∃W,W=w.alloc (.cells #[iv 0,.slice none 0 0] 272):=⟨_,rfl⟩;obtain⟨V,hV⟩:∃V,V=(W.alloc (.cells #[iv 2,iv x.e,iv x.f,iv x.s,iv 0] 50)).drew:=⟨_,rfl⟩;have hzW:W.heap.size=w.heap.size+1:=by rw[hW];simp
 have B0:Below w.heap.size w W:=by rw[hW];exact zN
 have A1:Below W.heap.size W V:=by rw[hV];exact (zN).drew
 have B1:Hid (Below w.heap.size w V):=B0.trans (A1.mono (by omega))
 have X1:Hid (qJ2 w.heap.size [iv 0,.slice none 0 0] V):=by
  refine qJ2.below (W:=W) ?_ (by omega) A1;rw[hW];exact qI5 w _ _
 have Y1:Hid (QD0 (w.heap.size+1) [iv 2,iv x.e,iv x.f,iv x.s,iv 0] V):=by
  have e:w.heap.size+1=W.heap.size:=hzW.symm;rw[hV,e];exact (qG3 W _ _).out
 have hVl:w.heap.size+1<V.heap.size:=by rw[hV];simp;omega
 have HXA:Hid (∀W,Below w.heap.size w W->qM9 W bx 0 x):=fun W hb=>(h.below hb).xa
 have HSE:Hid (∀W,Below w.heap.size w W->CP 235 #[.pointer (some ⟨b,0,none⟩),iv x.e] W fun d w'=>d=.returned (.bool false)/\Below W.heap.size W w'):=fun W hb=>by
  have q:=h.below hb;rw[<- hs1];exact QC7 b r x.e W q.rb q.ri.said q.rn
 have HSD:Hid (∀W,Below w.heap.size w W->CP 101 #[.pointer (some ⟨b,0,none⟩),.agg #[iv 2,iv x.e,iv x.f,iv x.s,iv 0]] W fun d w'=>d=.returned (.bool true)/\Below W.heap.size W w'):=fun W hb=>by
  have q:=h.below hb;rw[<- hs2];exact qK7 b r (qT6 x) W q.rb q.ri.said q.rn
 clear hs1 hs2;obtain⟨x0,x1,x2,x3,x4⟩:=(h.below B0).xa;simp only[gG]at x0 x1 x2 x3 x4;have hxW:bx<W.heap.size:=by omega
 clear h A1 B0;go_enter func213,ntmps213;go_upto_region 1 with fail
 rw[<- hW];clear hW;go_region
 try rw[hzW]
 rw[<- hV];clear hV hzW x0 x1 x2 x3 x4 hxW;obtain⟨x0,x1,x2,x3,x4⟩:=HXA.out _ B1.out;simp only[gG]at x0 x1 x2 x3 x4;have hxV:bx<V.heap.size:=by omega
 have y0:=Y1.out 0 _ rfl;have y1:=Y1.out 1 _ rfl;have y2:=Y1.out 2 _ rfl;have y3:=Y1.out 3 _ rfl;have y4:=Y1.out 4 _ rfl;go_wp2_with fail
 refine (HSE.out _ B1.out).mono ?_;rintro d w2 ⟨rfl,hb2⟩;have X2:=qB4 (qJ2.below X1.out (by omega) hb2);have B2:Hid (Below w.heap.size w w2):=B1.out.trans (hb2.mono B1.out.size);have Y2:=qB4 (((QD0.hold Y1.out hVl).below hb2).out);have hl2:w.heap.size+1<w2.heap.size:=gD hVl hb2.size;clear x0 x1 x2 x3 x4 hxV y0 y1 y2 y3 y4;have y0:=Y2.out 0 _ rfl;have y1:=Y2.out 1 _ rfl;have y2:=Y2.out 2 _ rfl;have y3:=Y2.out 3 _ rfl;have y4:=Y2.out 4 _ rfl;go_wp2_with fail
 refine (HSD.out _ B2.out).mono ?_;rintro d w3 ⟨rfl,hb3⟩;have X3:=qB4 (qJ2.below X2.out (by omega) hb3);have B3:Hid (Below w.heap.size w w3):=B2.out.trans (hb3.mono B2.out.size);have hzl:w.heap.size<w3.heap.size:=by have:=hb3.size;omega
 clear y0 y1 y2 y3 y4 Y2;have z0:=X3.out.1 0 _ rfl;have z1:=X3.out.1 1 _ rfl;have zf0:=X3.out.2 0;have zf1:=X3.out.2 1;go_wp2_with fail
 refine gQ (v:=.agg #[iv 9,.slice none 0 0]) (by simp[results,results213,go_sem,z0,z1,hzl]) rfl ⟨none,0,rfl,jB _ _ _ _,?_⟩;exact (B3.out.setCell (gB _) _).setCell (gB _) _
theorem qGK(b:Nat)(r:qD2)(g o:Nat)(c:qA5)(gs:List GrI)(bx:Nat)(x:StI)(w:World)(h:IsA w b r g o c gs bx x)(hs1:qV1 r.ss x.e=false)(hs2:qC4 r.ss (qT6 x)=false)(hal:alW (qA3 c.fs) gs x.f x.s=false):
  qH7 213 #[.pointer (some ⟨b,0,none⟩),.pointer (some ⟨g,o,none⟩),.pointer (some ⟨bx,0,none⟩)] 8 [] w:=by
 unfold qH7;have HA:Hid (∀W,Below w.heap.size w W->IsA W b r g o c gs bx x):=fun W hb=>h.below hb
 have hbl:b<w.heap.size:=h.rb.lt;have hgl:g<w.heap.size:=h.ca.lt;have hxl:bx<w.heap.size:=zL w _ h.xa.1;obtain⟨W,hW⟩:∃W,W=w.alloc (.cells #[iv 0,.slice none 0 0] 272):=⟨_,rfl⟩;obtain⟨V,hV⟩:∃V,V=(W.alloc (.cells #[iv 2,iv x.e,iv x.f,iv x.s,iv 0] 50)).drew:=⟨_,rfl⟩;have hzW:W.heap.size=w.heap.size+1:=by rw[hW];simp
 have B0:Below w.heap.size w W:=by rw[hW];exact zN
 have A1:Below W.heap.size W V:=by rw[hV];exact (zN).drew
 have B1:Hid (Below w.heap.size w V):=B0.trans (A1.mono (by omega))
 have X1:Hid (qJ2 w.heap.size [iv 0,.slice none 0 0] V):=by
  refine qJ2.below (W:=W) ?_ (by omega) A1;rw[hW];exact qI5 w _ _
 have Y1:Hid (QD0 (w.heap.size+1) [iv 2,iv x.e,iv x.f,iv x.s,iv 0] V):=by
  have e:w.heap.size+1=W.heap.size:=hzW.symm;rw[hV,e];exact (qG3 W _ _).out
 have hVl:w.heap.size+1<V.heap.size:=by rw[hV];simp;omega
 have HXA:Hid (∀W,Below w.heap.size w W->qM9 W bx 0 x):=fun W hb=>(h.below hb).xa
 have HSE:Hid (∀W,Below w.heap.size w W->CP 235 #[.pointer (some ⟨b,0,none⟩),iv x.e] W fun d w'=>d=.returned (.bool false)/\Below W.heap.size W w'):=fun W hb=>by
  have q:=h.below hb;rw[<- hs1];exact QC7 b r x.e W q.rb q.ri.said q.rn
 have HSD:Hid (∀W,Below w.heap.size w W->CP 101 #[.pointer (some ⟨b,0,none⟩),.agg #[iv 2,iv x.e,iv x.f,iv x.s,iv 0]] W fun d w'=>d=.returned (.bool false)/\Below W.heap.size W w'):=fun W hb=>by
  have q:=h.below hb;rw[<- hs2];exact qK7 b r (qT6 x) W q.rb q.ri.said q.rn
 have HAL:Hid (∀W,Below w.heap.size w W->CP 73 #[.pointer (some ⟨g,o,none⟩),iv x.f,iv x.s] W fun d w'=>d=.returned (.bool false)/\Below W.heap.size W w'):=fun W hb=>by
  have q:=h.below hb;obtain⟨_,_,z1,z2,_⟩:=QJ5 q.c0;rw[<- hal];exact QW8 g o c gs x.f x.s W q.cl q.ca q.ci q.ag z1 (fun k y hy=>(qDV z2).2 k y hy)
 clear hs1 hs2 hal;obtain⟨x0,x1,x2,x3,x4⟩:=(h.below B0).xa;simp only[gG]at x0 x1 x2 x3 x4;have hxW:bx<W.heap.size:=by omega
 clear h A1 B0;go_enter func213,ntmps213;go_upto_region 1 with fail
 rw[<- hW];clear hW;go_region
 try rw[hzW]
 rw[<- hV];clear hV hzW x0 x1 x2 x3 x4 hxW;obtain⟨x0,x1,x2,x3,x4⟩:=HXA.out _ B1.out;simp only[gG]at x0 x1 x2 x3 x4;have hxV:bx<V.heap.size:=by omega
 have y0:=Y1.out 0 _ rfl;have y1:=Y1.out 1 _ rfl;have y2:=Y1.out 2 _ rfl;have y3:=Y1.out 3 _ rfl;have y4:=Y1.out 4 _ rfl;go_wp2_with fail
 refine (HSE.out _ B1.out).mono ?_;rintro d w2 ⟨rfl,hb2⟩;have X2:=qB4 (qJ2.below X1.out (by omega) hb2);have B2:Hid (Below w.heap.size w w2):=B1.out.trans (hb2.mono B1.out.size);have Y2:=qB4 (((QD0.hold Y1.out hVl).below hb2).out);have hl2:w.heap.size+1<w2.heap.size:=gD hVl hb2.size;clear x0 x1 x2 x3 x4 hxV y0 y1 y2 y3 y4;have y0:=Y2.out 0 _ rfl;have y1:=Y2.out 1 _ rfl;have y2:=Y2.out 2 _ rfl;have y3:=Y2.out 3 _ rfl;have y4:=Y2.out 4 _ rfl;go_wp2_with fail
 refine (HSD.out _ B2.out).mono ?_;rintro d w3 ⟨rfl,hb3⟩;have X3:=qB4 (qJ2.below X2.out (by omega) hb3);have B3:Hid (Below w.heap.size w w3):=B2.out.trans (hb3.mono B2.out.size);have hzl:w.heap.size<w3.heap.size:=by have:=hb3.size;omega
 clear y0 y1 y2 y3 y4 Y2;obtain⟨x0,x1,x2,x3,x4⟩:=HXA.out _ B3.out;simp only[gG]at x0 x1 x2 x3 x4;have hxV3:bx<w3.heap.size:=by omega
 go_upto_region 4 with fail
 refine gL (S:=fun w'=>(∀b o,b<w3.heap.size->w'.cell? ⟨b,o,none⟩=w3.cell? ⟨b,o,none⟩)/\Below w3.heap.size w3 w') (by kernel_rfl) (qA8 _) (fun hHeld=>?_);refine Zk.go [0,1,2,3,4,5,6,7,8] ?_
 iterate 9
  refine Zk.st (v:=?_) rfl ?_ ?_;rotate_left 1
  .intro w hSw;(try dsimp only at hSw);go_simp;try (with_reducible rfl)
  try simp only[Act.put,zA,zB,zC,zD,zE,zF]
 refine Zk.fin ?_;refine Zk.rd (i:=9) rfl (fun K hK=>?_);go_simp;refine (HAL.out _ (B3.out.trans (hHeld.2.mono B3.out.size))).mono ?_;rintro d w4 ⟨rfl,hb4⟩;have hS:=qA0 hHeld hb4;refine hK.out _ _ hS (fun hHeld=>?_);clear hK K;try simp only[Act.put,zA,zB,zC,zD,zE,zF]
 refine Zk.go [10] ?_;refine Zk.st (v:=?_) rfl ?_ ?_;rotate_left 1
 .intro w hSw;(try dsimp only at hSw);go_simp;try (with_reducible rfl)
 try simp only[Act.put,zA,zB,zC,zD,zE,zF]
 refine Zk.fin ?_;refine gZ (by kernel_rfl) ?_ _;have X4:=qB4 (qJ2.below X3.out (by omega) hS.2);have B4:Hid (Below w.heap.size w w4):=B3.out.trans (hS.2.mono B3.out.size);have hs4:=hS.2.size;clear hHeld hS hb4 x0 x1 x2 x3 x4 hxV3;have hzl':w.heap.size<w4.heap.size:=by omega
 clear hzl;have hzl:=hzl';have z0:=X4.out.1 0 _ rfl;have z1:=X4.out.1 1 _ rfl;have zf0:=X4.out.2 0;have zf1:=X4.out.2 1;go_wp2_with fail
 refine gQ (v:=.agg #[iv 8,.slice none 0 0]) (by simp[results,results213,go_sem,z0,z1,hzl]) rfl ⟨none,0,rfl,jB _ _ _ _,?_⟩;exact (B4.out.setCell (gB _) _).setCell (gB _) _
theorem qDL(b:Nat)(r:qD2)(g o:Nat)(c:qA5)(gs:List GrI)(bx:Nat)(x:StI)(w:World)(h:IsA w b r g o c gs bx x)(hs1:qV1 r.ss x.e=false)(hs2:qC4 r.ss (qT6 x)=false)(hal:alW (qA3 c.fs) gs x.f x.s=true):
  qH7 213 #[.pointer (some ⟨b,0,none⟩),.pointer (some ⟨g,o,none⟩),.pointer (some ⟨bx,0,none⟩)] (qE3 r.ls c.cs x.e x.f x.s) (qL4 r.ls c.cs x.e x.f x.s) w:=by
 unfold qH7;have HA:Hid (∀W,Below w.heap.size w W->IsA W b r g o c gs bx x):=fun W hb=>h.below hb
 have hbl:b<w.heap.size:=h.rb.lt;have hgl:g<w.heap.size:=h.ca.lt;have hxl:bx<w.heap.size:=zL w _ h.xa.1;obtain⟨W,hW⟩:∃W,W=w.alloc (.cells #[iv 0,.slice none 0 0] 272):=⟨_,rfl⟩;obtain⟨V,hV⟩:∃V,V=(W.alloc (.cells #[iv 2,iv x.e,iv x.f,iv x.s,iv 0] 50)).drew:=⟨_,rfl⟩;have hzW:W.heap.size=w.heap.size+1:=by rw[hW];simp
 have B0:Below w.heap.size w W:=by rw[hW];exact zN
 have A1:Below W.heap.size W V:=by rw[hV];exact (zN).drew
 have B1:Hid (Below w.heap.size w V):=B0.trans (A1.mono (by omega))
 have X1:Hid (qJ2 w.heap.size [iv 0,.slice none 0 0] V):=by
  refine qJ2.below (W:=W) ?_ (by omega) A1;rw[hW];exact qI5 w _ _
 have Y1:Hid (QD0 (w.heap.size+1) [iv 2,iv x.e,iv x.f,iv x.s,iv 0] V):=by
  have e:w.heap.size+1=W.heap.size:=hzW.symm;rw[hV,e];exact (qG3 W _ _).out
 have hVl:w.heap.size+1<V.heap.size:=by rw[hV];simp;omega
 have HXA:Hid (∀W,Below w.heap.size w W->qM9 W bx 0 x):=fun W hb=>(h.below hb).xa
 have HSE:Hid (∀W,Below w.heap.size w W->CP 235 #[.pointer (some ⟨b,0,none⟩),iv x.e] W fun d w'=>d=.returned (.bool false)/\Below W.heap.size W w'):=fun W hb=>by
  have q:=h.below hb;rw[<- hs1];exact QC7 b r x.e W q.rb q.ri.said q.rn
 have HSD:Hid (∀W,Below w.heap.size w W->CP 101 #[.pointer (some ⟨b,0,none⟩),.agg #[iv 2,iv x.e,iv x.f,iv x.s,iv 0]] W fun d w'=>d=.returned (.bool false)/\Below W.heap.size W w'):=fun W hb=>by
  have q:=h.below hb;rw[<- hs2];exact qK7 b r (qT6 x) W q.rb q.ri.said q.rn
 have HAL:Hid (∀W,Below w.heap.size w W->CP 73 #[.pointer (some ⟨g,o,none⟩),iv x.f,iv x.s] W fun d w'=>d=.returned (.bool true)/\Below W.heap.size W w'):=fun W hb=>by
  have q:=h.below hb;obtain⟨_,_,z1,z2,_⟩:=QJ5 q.c0;rw[<- hal];exact QW8 g o c gs x.f x.s W q.cl q.ca q.ci q.ag z1 (fun k y hy=>(qDV z2).2 k y hy)
 have hnc:qE5 c.cs x.e x.f x.s=0:=by
  obtain⟨_,⟨e0,e1⟩,_,⟨f0,f1⟩,⟨s0,s1⟩,hfs,_⟩:=qH1 h.x0;obtain⟨hf,hs,_⟩:=hfs (by have:=h.x1;omega);refine qHu (QJ5 h.c0).2.2.2.2 ?_ ?_ ?_
  .simp[inR];omega
  .simp[inR];omega
  .simp[inR];omega
 have hxs:=qH1 h.x0;obtain⟨n0,n1,n2,n3⟩:=QP1 hnc;obtain⟨u1,u2⟩:=qAC hnc;have hcm:c.cs.length=c.cn:=h.ci.classes.1;have hc4:c.cn<=4:=by rw[<- hcm];exact (qGc n0).1
 obtain⟨Y,hY⟩:∃Y,qB6 c.cs x.e x.f x.s c.cs.length=Y:=⟨_,rfl⟩;have hYl:Y.length<=100:=by rw[<- hY];have:=qW0 c.cs x.e x.f x.s c.cs.length;omega
 obtain⟨k,hk⟩:∃k,qE3 r.ls c.cs x.e x.f x.s=k:=⟨_,rfl⟩;obtain⟨L,hL⟩:∃L,qL4 r.ls c.cs x.e x.f x.s=L:=⟨_,rfl⟩;have hk':qI9 r.ls Y=k:=by rw[<- hk,<- hY];unfold qE3;rw[gK h.lk,gK hnc]
 have hL':tkL r.ls Y=L:=by rw[<- hL,<- hY];unfold qL4;rw[gK ⟨h.lk,hnc⟩]
 rw[hY]at u1 u2
 have HND:Hid (∀W,Below w.heap.size w W->CP 237 #[.slice c.ca c.cn c.cc,iv x.e,iv x.f,iv x.s] W fun q w'=>∃g' cc,q=.returned (.slice (some ⟨g',0,none⟩) Y.length cc)/\qB2 w' W.heap.size (.slice (some ⟨g',0,none⟩) Y.length cc) Y/\Below W.heap.size W w'):=fun W hb=>by
  have q:=qIO c.ca c.cn c.cc c.cs x.e x.f x.s W (h.below hb).ci.classes (qGc n0).2 hc4 (by have:=(qEX n2);omega) (by have:=(qEX n2);omega) (by have:=(qEX n3);omega) (by have:=(qEX n3);omega);rw[<- hcm,hY,hcm]at q;exact q
 have HTK:Hid (∀W (g' cc:Nat),Below w.heap.size w W->qJ9 W (some ⟨g',0,none⟩) Y.length Y->qH7 236 #[.slice r.la r.ln r.lc,.slice (some ⟨g',0,none⟩) Y.length cc] k L W):=fun W g' cc hb hy=>by
  have q:=h.below hb;have ok:=QJ0 h.lk;rw[<- hk',<- hL'];exact qGG r.la r.ln r.lc _ _ cc r.ls Y W (by have:=q.ri.locks.1;have:=ok.1;omega) hYl q.ri.locks q.nl q.sm hy ok.2.1 ok.2.2 u1 u2
 have HRB:Hid (∀W,Below w.heap.size w W->qJ5 W b r/\qH4 W g o c):=fun W hb=>⟨(h.below hb).rb,(h.below hb).ca⟩
 rw[hk,hL];clear hk hL hk' hL' hY hnc n0 n1 n2 n3 u1 u2 hcm hxs;clear hs1 hs2 hal;obtain⟨x0,x1,x2,x3,x4⟩:=(h.below B0).xa;simp only[gG]at x0 x1 x2 x3 x4;have hxW:bx<W.heap.size:=by omega
 clear h A1 B0;go_enter func213,ntmps213;go_upto_region 1 with fail
 rw[<- hW];clear hW;go_region
 try rw[hzW]
 rw[<- hV];clear hV hzW x0 x1 x2 x3 x4 hxW;obtain⟨x0,x1,x2,x3,x4⟩:=HXA.out _ B1.out;simp only[gG]at x0 x1 x2 x3 x4;have hxV:bx<V.heap.size:=by omega
 have y0:=Y1.out 0 _ rfl;have y1:=Y1.out 1 _ rfl;have y2:=Y1.out 2 _ rfl;have y3:=Y1.out 3 _ rfl;have y4:=Y1.out 4 _ rfl;go_wp2_with fail
 refine (HSE.out _ B1.out).mono ?_;rintro d w2 ⟨rfl,hb2⟩;have X2:=qB4 (qJ2.below X1.out (by omega) hb2);have B2:Hid (Below w.heap.size w w2):=B1.out.trans (hb2.mono B1.out.size);have Y2:=qB4 (((QD0.hold Y1.out hVl).below hb2).out);have hl2:w.heap.size+1<w2.heap.size:=gD hVl hb2.size;clear x0 x1 x2 x3 x4 hxV y0 y1 y2 y3 y4;have y0:=Y2.out 0 _ rfl;have y1:=Y2.out 1 _ rfl;have y2:=Y2.out 2 _ rfl;have y3:=Y2.out 3 _ rfl;have y4:=Y2.out 4 _ rfl;go_wp2_with fail
 refine (HSD.out _ B2.out).mono ?_;rintro d w3 ⟨rfl,hb3⟩;have X3:=qB4 (qJ2.below X2.out (by omega) hb3);have B3:Hid (Below w.heap.size w w3):=B2.out.trans (hb3.mono B2.out.size);have hzl:w.heap.size<w3.heap.size:=by have:=hb3.size;omega
 clear y0 y1 y2 y3 y4 Y2;obtain⟨x0,x1,x2,x3,x4⟩:=HXA.out _ B3.out;simp only[gG]at x0 x1 x2 x3 x4;have hxV3:bx<w3.heap.size:=by omega
 go_upto_region 4 with fail
 refine gL (S:=fun w'=>(∀b o,b<w3.heap.size->w'.cell? ⟨b,o,none⟩=w3.cell? ⟨b,o,none⟩)/\Below w3.heap.size w3 w') (by kernel_rfl) (qA8 _) (fun hHeld=>?_);refine Zk.go [0,1,2,3,4,5,6,7,8] ?_
 iterate 9
  refine Zk.st (v:=?_) rfl ?_ ?_;rotate_left 1
  .intro w hSw;(try dsimp only at hSw);go_simp;try (with_reducible rfl)
  try simp only[Act.put,zA,zB,zC,zD,zE,zF]
 refine Zk.fin ?_;refine Zk.rd (i:=9) rfl (fun K hK=>?_);go_simp;refine (HAL.out _ (B3.out.trans (hHeld.2.mono B3.out.size))).mono ?_;rintro d w4 ⟨rfl,hb4⟩;have hS:=qA0 hHeld hb4;refine hK.out _ _ hS (fun hHeld=>?_);clear hK K;try simp only[Act.put,zA,zB,zC,zD,zE,zF]
 refine Zk.go [10] ?_;refine Zk.st (v:=?_) rfl ?_ ?_;rotate_left 1
 .intro w hSw;(try dsimp only at hSw);go_simp;try (with_reducible rfl)
 try simp only[Act.put,zA,zB,zC,zD,zE,zF]
 refine Zk.fin ?_;refine gZ (by kernel_rfl) ?_ _;have X4:=qB4 (qJ2.below X3.out (by omega) hS.2);have B4:Hid (Below w.heap.size w w4):=B3.out.trans (hS.2.mono B3.out.size);have hs4:=hS.2.size;clear hHeld hS hb4 x0 x1 x2 x3 x4 hxV3;obtain⟨x0,x1,x2,x3,x4⟩:=HXA.out _ B4.out;simp only[gG]at x0 x1 x2 x3 x4;obtain⟨⟨r0,r1,r2,r3⟩,v0,v1,v2,v3,v4⟩:=HRB.out _ B4.out;have hbx4:bx<w4.heap.size:=by omega
 have hbb4:b<w4.heap.size:=by omega
 have hgg4:g<w4.heap.size:=by omega
 go_upto_region 6 with fail
 refine gL (S:=fun w'=>(∀b' o',b'<w.heap.size->w'.cell? ⟨b',o',none⟩=w4.cell? ⟨b',o',none⟩)/\Below w.heap.size w4 w') (by kernel_rfl) (⟨fun b' o' hb'=>rfl,(gC _ _).drew⟩) (fun hHeld=>?_);refine Zk.go [0,1,2,3,4,5,6,7,8,9,10,11,12,13,14,15,16,17,18,19] ?_
 iterate 20
  refine Zk.st (v:=?_) rfl ?_ ?_;rotate_left 1
  .intro w hSw;(try dsimp only at hSw);go_simp;try (with_reducible rfl)
  try simp only[Act.put,zA,zB,zC,zD,zE,zF]
 refine Zk.fin ?_;refine Zk.rd (i:=20) rfl (fun K hK=>?_);go_simp;refine (HND.out _ (B4.out.trans hHeld.2)).mono ?_;rintro d w5 ⟨g5,c5,rfl,ho5,hb5⟩;have hS:=kpM hHeld hb5 (by omega);have P5:Hid (qJ9 w5 (some ⟨g5,0,none⟩) Y.length Y):=LkV.isIn rfl ho5.view;have X5:=qB4 (qJ2.below (qJ2.below X4.out (by omega) (gC _ _).drew) (by simp;omega) hb5);have hs5:=hb5.size;clear ho5 hb5;refine hK.out _ _ hS (fun hHeld=>?_);clear hK K;try simp only[Act.put,zA,zB,zC,zD,zE,zF]
 refine Zk.rd (i:=21) rfl (fun K hK=>?_);go_simp;have hq:=HTK.out _ g5 c5 (B4.out.trans hHeld.2) P5.out;unfold qH7 at hq;refine hq.mono ?_;clear hq;rintro d w6 ⟨la',lc',rfl,ho6,hb6⟩;have hS:=kpM hHeld hb6 (by omega);have X6:=qJ2.below X5.out (by simp at hs5;omega) hb6;have O6:=qB4 ho6;have hs6:=hb6.size;have z0:=X6.1 0 _ rfl;have z1:=X6.1 1 _ rfl;have zf0:=X6.2 0;have zf1:=X6.2 1;have hz6:w.heap.size<w6.heap.size:=by simp at hs5;omega
 have hz5:w.heap.size<w5.heap.size:=by simp at hs5;omega
 have HX6:=qB4 X6;clear ho6 X6;refine hK.out _ _ hS (fun hHeld=>?_);clear hK K;try simp only[Act.put,zA,zB,zC,zD,zE,zF]
 refine Zk.rd (i:=22) rfl (fun K hK=>?_);go_simp;have hS:=kpS (kpS hHeld (o:=0) (iv k)) (o:=1) (.slice la' L.length lc');refine hK.out _ _ hS (fun hHeld=>?_);clear hK K;try simp only[Act.put,zA,zB,zC,zD,zE,zF]
 refine gZ (by kernel_rfl) ?_ _;go_wp2_with fail
 refine gQ (v:=.agg #[iv k,.slice la' L.length lc']) (by simp[results,results213,go_sem,z0,z1,hz6]) rfl ⟨la',lc',rfl,qB0 (qA4 O6.out (fun g' e=>?_)) (by omega),B4.out.trans hHeld.2⟩;obtain⟨cur,hcc,hgg⟩:=qD8 O6.out e;rw[zS (by show g'≠w.heap.size;omega),zS (by show g'≠w.heap.size;omega)]
structure EV (w:World) (r:qD2) (x:StI) (W:World):Prop where
 rb:qJ5 W w.heap.size r
 xa:qM9 W (w.heap.size+1) 0 x
 rs:qJ2 (w.heap.size+2) [.int .i64 0,.int .i64 0,.int .i64 0,.slice none 0 0,.slice none 0 0] W
 lt:w.heap.size+2<W.heap.size
 bl:Below w.heap.size w W
theorem EV.below{w:World}{r:qD2}{x:StI}{W W':World}(h:EV w r x W)(hb:Below W.heap.size W W'):EV w r x W' :=
 ⟨h.rb.below hb,h.xa.below hb (by have:=h.lt;omega),qJ2.below h.rs h.lt hb,gD h.lt hb.size,h.bl.trans (hb.mono h.bl.size)⟩
theorem EV.new(w:World)(r:qD2)(x:StI):EV w r x (((w.alloc (.cells #[iv r.i,iv r.u,.slice r.sa r.sn r.sc,.slice r.la r.ln r.lc] 115)).alloc (.cells #[iv x.k,iv x.e,iv x.f,iv x.s,iv x.n] 50)).alloc (.cells #[iv 0,iv 0,iv 0,.slice none 0 0,.slice none 0 0] 231)):=by
 obtain⟨A,hA⟩:∃A,A=w.alloc (.cells #[iv r.i,iv r.u,.slice r.sa r.sn r.sc,.slice r.la r.ln r.lc] 115):=⟨_,rfl⟩;obtain⟨B,hB⟩:∃B,B=A.alloc (.cells #[iv x.k,iv x.e,iv x.f,iv x.s,iv x.n] 50):=⟨_,rfl⟩;have sA:A.heap.size=w.heap.size+1:=by rw[hA];simp
 have sB:B.heap.size=w.heap.size+2:=by rw[hB];simp;omega
 have b1:Below A.heap.size A B:=by rw[hB];exact zN
 rw[<- hA,<- hB];have b2:Below B.heap.size B (B.alloc (.cells #[iv 0,iv 0,iv 0,.slice none 0 0,.slice none 0 0] 231)):=zN;have r0:qJ5 A w.heap.size r:=by rw[hA];exact qJ5.new w r _
 have x0:qM9 B (w.heap.size+1) 0 x:=by rw[hB,<- sA];exact qM9.new A x _
 refine⟨(r0.below b1).below b2,x0.below b2 (by omega),?_,by simp;omega,?_⟩
 .rw[<- sB];exact qI5 B _ _
 .rw[hB,hA];exact ((zN).alloc (by simp) _).alloc (by simp;omega) _
structure OX (w:World) (r:qD2) (x:StI) (q gs sc:Nat) (la:Option Addr) (lc:Nat) (ls:List LkI) (W:World):Prop where
 ev:EV w r x W
 ob:W.heap[q]?=some (.cells #[.int .i64 r.i,.int .i64 r.u,.slice (some ⟨gs,0,none⟩) r.sn sc,.slice la ls.length lc] 115 (0,0))
 so:qF0 W (w.heap.size+3) (.slice (some ⟨gs,0,none⟩) r.sn sc) r.ss
 lo:qB2 W (w.heap.size+3) (.slice la ls.length lc) ls
 ql:w.heap.size+2<q
theorem OX.qlt{w:World}{r:qD2}{x:StI}{q gs sc:Nat}{la:Option Addr}{lc:Nat}{ls:List LkI}{W:World}(h:OX w r x q gs sc la lc ls W):q<W.heap.size:=(gN.1 h.ob).1
theorem OX.below{w:World}{r:qD2}{x:StI}{q gs sc:Nat}{la:Option Addr}{lc:Nat}{ls:List LkI}{W W':World}(h:OX w r x q gs sc la lc ls W)(hb:Below W.heap.size W W'):OX w r x q gs sc la lc ls W' :=
 ⟨h.ev.below hb,(hb.block q h.qlt).trans h.ob,h.so.below hb,h.lo.below hb,h.ql⟩
theorem OX.lock{w:World}{r:qD2}{x:StI}{q gs sc:Nat}{la:Option Addr}{lc:Nat}{ls:List LkI}{W:World}(h:OX w r x q gs sc la lc ls W){la':Option Addr}{lc':Nat}{ls':List LkI}(hl:qB2 W (w.heap.size+3) (.slice la' ls'.length lc') ls'):OX w r x q gs sc la' lc' ls' (W.setCell ⟨q,3,none⟩ (.slice la' ls'.length lc')):=by
 have ql:=h.ql;have e:=h.ev;have k:∀g,g≠q->(W.setCell ⟨q,3,none⟩ (.slice la' ls'.length lc')).heap[g]?=W.heap[g]? := fun g hg=>kE _ _ _ _ hg
 refine⟨⟨?_,?_,e.rs.other (by show q≠_;omega) _,by simpa using e.lt,e.bl.setCell (by show w.heap.size<=q;omega) _⟩,qQ3 h.ob,qA4 h.so (fun g e=>?_),qA4 hl (fun g e=>?_),h.ql⟩
 .obtain⟨a0,a1,a2,a3⟩:=e.rb;have c:=fun o=>jO (w:=W) (w':=W.setCell ⟨q,3,none⟩ (.slice la' ls'.length lc')) (a:=⟨w.heap.size,o,none⟩) (k w.heap.size (by omega))
  exact⟨(c 0).trans a0,(c 1).trans a1,(c 2).trans a2,(c 3).trans a3⟩
 .obtain⟨a0,a1,a2,a3,a4⟩:=e.xa;have c:=fun o=>jO (w:=W) (w':=W.setCell ⟨q,3,none⟩ (.slice la' ls'.length lc')) (a:=⟨w.heap.size+1,o,none⟩) (k (w.heap.size+1) (by omega))
  exact⟨(c _).trans a0,(c _).trans a1,(c _).trans a2,(c _).trans a3,(c _).trans a4⟩
 .obtain⟨cur,hc,_⟩:=qE0 h.so e;exact k g (qL7 hc h.ob (by decide))
 .obtain⟨cur,hc,_⟩:=qD8 hl e;exact k g (qL7 hc h.ob (by decide))
theorem OX.said{w:World}{r:qD2}{x:StI}{q gs sc:Nat}{la:Option Addr}{lc:Nat}{ls:List LkI}{W w':World}(h:OX w r x q gs sc la lc ls W){v:Value}(ho:qF0 w' (w.heap.size+3) v (r.ss++[x]))(hg:W.grownBy w' (some gs)):
  qJ2 (w.heap.size+2) [iv 0,iv 0,iv 0,.slice none 0 0,.slice none 0 0] w'/\Below w.heap.size w w'/\w'.heap[q]?=some (.cells #[iv r.i,iv r.u,.slice (some ⟨gs,0,none⟩) r.sn sc,.slice la ls.length lc] 115 (0,0))/\qB2 w' (w.heap.size+3) (.slice la ls.length lc) ls:=by
 obtain⟨cur,hc,hgs⟩:=qE0 h.so (g:=gs) rfl;have hq:gs≠q:=qL7 hc h.ob (by decide);refine⟨qX1 h.ev.rs h.ev.lt hg (by omega),h.ev.bl.grown hg (jF h.ev.bl.size (gB _)) (fun k e=>by cases e;omega),(hg.block q h.qlt (by intro e;cases e;exact hq rfl)).trans h.ob,qA4 h.lo (fun g e=>?_)⟩;obtain⟨cur2,hc2,_⟩:=qD8 h.lo e;exact hg.block g (gN.1 hc2).1 (by intro e2;cases e2;exact qL7 hc2 hc (by decide) rfl)
theorem QL6(W:World)(x:StI)(t:TypeId):qL2 (W.alloc (.cells #[iv x.k,iv x.e,iv x.f,iv x.s,iv x.n] t)) (some ⟨W.heap.size,0,none⟩) 1 [x] :=
 ⟨rfl,fun _=>⟨_,0,rfl,fun k y e=>by
  match k,e with
  | 0,e=>cases e;exact qM9.new W x t⟩⟩
def qGl(r:qD2)(k:Int)(S:List StI)(L:List LkI)(w:World)(d:Ending)(w':World):Prop :=
 Below w.heap.size w w'/\(k≠0->d=.returned (.agg #[iv k,iv 0,iv 0,.slice none 0 0,.slice none 0 0]))/\(k=0->∃(sa:Option Addr) (sc:Nat) (la:Option Addr) (lc:Nat),d=.returned (.agg #[iv 0,iv r.i,iv r.u,.slice sa S.length sc,.slice la L.length lc])/\qF0 w' w.heap.size (.slice sa S.length sc) S/\qB2 w' w.heap.size (.slice la L.length lc) L)
