/- Contracts. -/
import Derived.Test.YtdghpccmdnnenaaGreatDoorPx35
import Derived.Test.YtdghpccmdnnenaaGreatDoorPx24
namespace Go.Proofs.YtdghpccmdnnenaaGreatDoor
set_option maxRecDepth 100000
set_option maxHeartbeats 8000000
open Go.RowKit Go.Proofs.Tryz
set_option linter.unusedVariables false
set_option linter.unusedSimpArgs false
theorem qP6(W:World)(o:Obj):(W.alloc o).heap[W.heap.size]?=some o:=by
 show (W.heap.push o)[W.heap.size]?=_
 simp
theorem qDD(E:qH3)(r:qD2)(a:Option Addr)(m cap:Nat)(cs:List qA5)(x:StI)(w:World)(hr:qE7 w r)(hN:qK9 r)(hsm:∀p,r.la=some p->∃b0 o0,p=⟨b0,o0,none⟩/\b0<w.heap.size)(hc:qA7 w a m cs)(hEC:qN0 E cs)(hm:0<m)(hm8:m<=8)(hRp:RpS E r.ss r.ls)(k:Int)(hst:qB5 x=k)(hk0:k≠0):
  CP 181 #[.agg #[iv r.i,iv r.u,.slice r.sa r.sn r.sc,.slice r.la r.ln r.lc],.slice a m cap,.agg #[iv x.k,iv x.e,iv x.f,iv x.s,iv x.n]] w fun d w'=>qGl r k [] [] w d w':=by
 have hsl:r.ss.length=r.sn:=hr.said.1;have hll:r.ls.length=r.ln:=hr.locks.1;have hs40:r.sn<=40:=by have:=hRp.len;omega
 have hl200:r.ln<=200:=by have:=(QJ0 hRp.lk).1;omega
 have hs40':(r.sn:Int)<=40:=by omega
 have HR:Hid (∀W,Below w.heap.size w W->qE7 W r/\qA7 W a m cs/\(∀p,r.la=some p->∃b0 o0,p=⟨b0,o0,none⟩/\b0<W.heap.size)):=fun W hb=>⟨hr.below hb,hc.below hb,fun p e=>by obtain⟨b0,o0,q,hl⟩:=hsm p e;exact⟨b0,o0,q,gD hl hb.size⟩⟩
 have HSL:Hid (r.ss.length=r.sn/\r.ls.length=r.ln):=⟨hsl,hll⟩;have HN:=hJJ hN;have HEC:=hJJ hEC;have HRP:=hJJ hRp;have HF:Hid (∀W,qM9 W (w.heap.size+1) 0 x->CP 62 #[.pointer (some ⟨w.heap.size+1,0,none⟩)] W fun e w'=>e=.returned (iv k)/\W=w'):=fun W q=>by rw[<- hst];exact qK1 _ _ x W q
 obtain⟨V,hV⟩:∃V,V=((w.alloc (.cells #[iv r.i,iv r.u,.slice r.sa r.sn r.sc,.slice r.la r.ln r.lc] 115)).alloc (.cells #[iv x.k,iv x.e,iv x.f,iv x.s,iv x.n] 50)).alloc (.cells #[iv 0,iv 0,iv 0,.slice none 0 0,.slice none 0 0] 231):=⟨_,rfl⟩;have V0:Hid (EV w r x V):=by show EV w r x V;rw[hV];exact EV.new w r x
 have kb:(k != 0)=true:=by simp[hk0]
 clear hr hN hsm hc hEC hRp hsl hll hst;go_enter func181,ntmps181;go_upto_region 1 with fail
 rw[<- hV];clear hV;go_wp2_with fail
 refine (HF.out _ V0.out.xa).mono ?_;rintro d w1 ⟨rfl,rfl⟩;have z0:=V0.out.rs.1 0 _ rfl;have z1:=V0.out.rs.1 1 _ rfl;have z2:=V0.out.rs.1 2 _ rfl;have z3:=V0.out.rs.1 3 _ rfl;have z4:=V0.out.rs.1 4 _ rfl;have f0:=V0.out.rs.2 0;have f1:=V0.out.rs.2 1;have f2:=V0.out.rs.2 2;have f3:=V0.out.rs.2 3;have f4:=V0.out.rs.2 4;have hzl:=V0.out.lt;go_wp2_with fail
 refine gQ (v:=.agg #[iv k,iv 0,iv 0,.slice none 0 0,.slice none 0 0]) (by simp[results,results181,go_sem,z0,z1,z2,z3,z4,hzl]) rfl ?_;exact⟨(((((V0.out.bl.setCell (by show w.heap.size<=w.heap.size+2;omega) _).setCell (by show w.heap.size<=w.heap.size+2;omega) _).setCell (by show w.heap.size<=w.heap.size+2;omega) _).setCell (by show w.heap.size<=w.heap.size+2;omega) _).setCell (by show w.heap.size<=w.heap.size+2;omega) _),fun _=>rfl,fun q=>absurd q (by first | assumption | decide)⟩
theorem qGB(E:qH3)(r:qD2)(a:Option Addr)(m cap:Nat)(cs:List qA5)(x:StI)(w:World)(hr:qE7 w r)(hN:qK9 r)(hsm:∀p,r.la=some p->∃b0 o0,p=⟨b0,o0,none⟩/\b0<w.heap.size)(hc:qA7 w a m cs)(hEC:qN0 E cs)(hm:0<m)(hm8:m<=8)(hRp:RpS E r.ss r.ls)(hst:qB5 x=0)(hsx:qC4 r.ss x=true):
  CP 181 #[.agg #[iv r.i,iv r.u,.slice r.sa r.sn r.sc,.slice r.la r.ln r.lc],.slice a m cap,.agg #[iv x.k,iv x.e,iv x.f,iv x.s,iv x.n]] w fun d w'=>qGl r 0 r.ss r.ls w d w':=by
 have hsl:r.ss.length=r.sn:=hr.said.1;have hll:r.ls.length=r.ln:=hr.locks.1;have hs40:r.sn<=40:=by have:=hRp.len;omega
 have hl200:r.ln<=200:=by have:=(QJ0 hRp.lk).1;omega
 have hs40':(r.sn:Int)<=40:=by omega
 have HR:Hid (∀W,Below w.heap.size w W->qE7 W r/\qA7 W a m cs/\(∀p,r.la=some p->∃b0 o0,p=⟨b0,o0,none⟩/\b0<W.heap.size)):=fun W hb=>⟨hr.below hb,hc.below hb,fun p e=>by obtain⟨b0,o0,q,hl⟩:=hsm p e;exact⟨b0,o0,q,gD hl hb.size⟩⟩
 have HSL:Hid (r.ss.length=r.sn/\r.ls.length=r.ln):=⟨hsl,hll⟩;have HN:=hJJ hN;have HEC:=hJJ hEC;have HRP:=hJJ hRp;have HF:Hid (∀W,qM9 W (w.heap.size+1) 0 x->CP 62 #[.pointer (some ⟨w.heap.size+1,0,none⟩)] W fun e w'=>e=.returned (iv 0)/\W=w'):=fun W q=>by rw[<- hst];exact qK1 _ _ x W q
 obtain⟨V,hV⟩:∃V,V=((w.alloc (.cells #[iv r.i,iv r.u,.slice r.sa r.sn r.sc,.slice r.la r.ln r.lc] 115)).alloc (.cells #[iv x.k,iv x.e,iv x.f,iv x.s,iv x.n] 50)).alloc (.cells #[iv 0,iv 0,iv 0,.slice none 0 0,.slice none 0 0] 231):=⟨_,rfl⟩;have V0:Hid (EV w r x V):=by show EV w r x V;rw[hV];exact EV.new w r x
 have HSD:Hid (∀W,EV w r x W->CP 101 #[.pointer (some ⟨w.heap.size,0,none⟩),.agg #[iv x.k,iv x.e,iv x.f,iv x.s,iv x.n]] W fun d w'=>d=.returned (.bool true)/\Below W.heap.size W w'):=fun W q=>by rw[<- hsx];exact qK7 _ r x W q.rb (HR.out _ q.bl).1.said (by omega)
 clear hsx;clear hr hN hsm hc hEC hRp hsl hll hst;go_enter func181,ntmps181;go_upto_region 1 with fail
 rw[<- hV];clear hV;go_wp2_with fail
 refine (HF.out _ V0.out.xa).mono ?_;rintro d w1 ⟨rfl,rfl⟩;have a0:=V0.out.rb.1;have a1:=V0.out.rb.2.1;have a2:=V0.out.rb.2.2.1;have a3:=V0.out.rb.2.2.2;have hvl:w.heap.size<V.heap.size:=by have:=V0.out.lt;omega
 have HCP:=qU4 r V (HR.out _ V0.out.bl).1 HN.out (by omega) (by omega);go_wp2_with fail
 refine HCP.mono ?_;clear HCP;rintro d w2 ⟨gs,sc,gl,lc,rfl,ho1,ho2,hb2⟩;obtain⟨Y,hY⟩:∃Y,Y=w2.alloc (.cells #[iv r.i,iv r.u,.slice (some ⟨gs,0,none⟩) r.sn sc,.slice (some ⟨gl,0,none⟩) r.ln lc] 115):=⟨_,rfl⟩;have AY:Below w2.heap.size w2 Y:=by rw[hY];exact zN
 have hvl3:=V0.out.lt;have hs2:=hb2.size
 have O1:Hid (OX w r x w2.heap.size gs sc (some ⟨gl,0,none⟩) lc r.ls Y):=by
  refine⟨(V0.out.below hb2).below AY,?_,qC9 (ho1.below AY) (by omega),?_,by omega⟩
  .rw[hY,HSL.out.2];exact qP6 w2 _
  .rw[HSL.out.2];exact qB0 (ho2.below AY) (by omega)
 have hq2:w.heap.size+2<w2.heap.size:=by omega
 clear a0 a1 a2 a3 hvl hvl3 hs2 ho1 ho2 hb2 AY V0;go_upto_region 5 with fail
 rw[<- hY];clear hY;generalize w2.heap.size=q at O1 hq2 ⊢
 obtain⟨x0,x1,x2,x3,x4⟩:=O1.out.ev.xa;simp only[gG]at x0 x1 x2 x3 x4;have hxl:w.heap.size+1<_:=gS O1.out.ev.lt;go_wp2_with fail
 refine (HSD.out _ O1.out.ev).mono ?_;rintro d w3 ⟨rfl,hb3⟩;have O3:=qB4 (O1.out.below hb3);clear hb3 O1;clear x0 x1 x2 x3 x4 hxl;have o0:=qA9 O3.out.ob 0;have o1:=qA9 O3.out.ob 1;have o2:=qA9 O3.out.ob 2;have o3:=qA9 O3.out.ob 3;simp at o0 o1 o2 o3;have hql:=O3.out.qlt;have z0:=O3.out.ev.rs.1 0 _ rfl;have z1:=O3.out.ev.rs.1 1 _ rfl;have z2:=O3.out.ev.rs.1 2 _ rfl;have z3:=O3.out.ev.rs.1 3 _ rfl;have z4:=O3.out.ev.rs.1 4 _ rfl;have f0:=O3.out.ev.rs.2 0;have f1:=O3.out.ev.rs.2 1;have f2:=O3.out.ev.rs.2 2;have f3:=O3.out.ev.rs.2 3;have f4:=O3.out.ev.rs.2 4;have hzl:=O3.out.ev.lt;have hqn:w.heap.size+2≠q:=by omega
 go_wp2_with fail
 refine gQ (v:=.agg #[iv 0,iv r.i,iv r.u,.slice (some ⟨gs,0,none⟩) r.sn sc,.slice (some ⟨gl,0,none⟩) r.ls.length lc]) (by simp[results,results181,go_sem,z0,z1,z2,z3,z4,hzl]) rfl ?_;refine⟨(((((O3.out.ev.bl.setCell (by show w.heap.size<=w.heap.size+2;omega) _).setCell (by show w.heap.size<=w.heap.size+2;omega) _).setCell (by show w.heap.size<=w.heap.size+2;omega) _).setCell (by show w.heap.size<=w.heap.size+2;omega) _).setCell (by show w.heap.size<=w.heap.size+2;omega) _),fun q=>absurd rfl q,fun _=>?_⟩;rw[HSL.out.1];refine⟨some ⟨gs,0,none⟩,sc,some ⟨gl,0,none⟩,lc,rfl,qC9 (qA4 O3.out.so (fun g e=>?_)) (by omega),qB0 (qA4 O3.out.lo (fun g e=>?_)) (by omega)⟩
 .obtain⟨cur,hcc,hgg⟩:=qE0 O3.out.so e;rw[zS (by show g≠w.heap.size+2;omega),zS (by show g≠w.heap.size+2;omega),zS (by show g≠w.heap.size+2;omega),zS (by show g≠w.heap.size+2;omega),zS (by show g≠w.heap.size+2;omega)]
 .obtain⟨cur,hcc,hgg⟩:=qD8 O3.out.lo e;rw[zS (by show g≠w.heap.size+2;omega),zS (by show g≠w.heap.size+2;omega),zS (by show g≠w.heap.size+2;omega),zS (by show g≠w.heap.size+2;omega),zS (by show g≠w.heap.size+2;omega)]
theorem qGC(E:qH3)(r:qD2)(a:Option Addr)(m cap:Nat)(cs:List qA5)(x:StI)(w:World)(hr:qE7 w r)(hN:qK9 r)(hsm:∀p,r.la=some p->∃b0 o0,p=⟨b0,o0,none⟩/\b0<w.heap.size)(hc:qA7 w a m cs)(hEC:qN0 E cs)(hm:0<m)(hm8:m<=8)(hRp:RpS E r.ss r.ls)(hst:qB5 x=0)(hsx:qC4 r.ss x=false)(hneg:qB7 E r.ss x.e<0):
  CP 181 #[.agg #[iv r.i,iv r.u,.slice r.sa r.sn r.sc,.slice r.la r.ln r.lc],.slice a m cap,.agg #[iv x.k,iv x.e,iv x.f,iv x.s,iv x.n]] w fun d w'=>qGl r 4 [] [] w d w':=by
 have hsl:r.ss.length=r.sn:=hr.said.1;have hll:r.ls.length=r.ln:=hr.locks.1;have hs40:r.sn<=40:=by have:=hRp.len;omega
 have hl200:r.ln<=200:=by have:=(QJ0 hRp.lk).1;omega
 have hs40':(r.sn:Int)<=40:=by omega
 have HR:Hid (∀W,Below w.heap.size w W->qE7 W r/\qA7 W a m cs/\(∀p,r.la=some p->∃b0 o0,p=⟨b0,o0,none⟩/\b0<W.heap.size)):=fun W hb=>⟨hr.below hb,hc.below hb,fun p e=>by obtain⟨b0,o0,q,hl⟩:=hsm p e;exact⟨b0,o0,q,gD hl hb.size⟩⟩
 have HSL:Hid (r.ss.length=r.sn/\r.ls.length=r.ln):=⟨hsl,hll⟩;have HN:=hJJ hN;have HEC:=hJJ hEC;have HRP:=hJJ hRp;have HF:Hid (∀W,qM9 W (w.heap.size+1) 0 x->CP 62 #[.pointer (some ⟨w.heap.size+1,0,none⟩)] W fun e w'=>e=.returned (iv 0)/\W=w'):=fun W q=>by rw[<- hst];exact qK1 _ _ x W q
 obtain⟨V,hV⟩:∃V,V=((w.alloc (.cells #[iv r.i,iv r.u,.slice r.sa r.sn r.sc,.slice r.la r.ln r.lc] 115)).alloc (.cells #[iv x.k,iv x.e,iv x.f,iv x.s,iv x.n] 50)).alloc (.cells #[iv 0,iv 0,iv 0,.slice none 0 0,.slice none 0 0] 231):=⟨_,rfl⟩;have V0:Hid (EV w r x V):=by show EV w r x V;rw[hV];exact EV.new w r x
 obtain⟨⟨hk1,hk2⟩,⟨he1,he2⟩,⟨hn1,hn2⟩,_⟩:=qH1 hst;have HSD:Hid (∀W,EV w r x W->CP 101 #[.pointer (some ⟨w.heap.size,0,none⟩),.agg #[iv x.k,iv x.e,iv x.f,iv x.s,iv x.n]] W fun d w'=>d=.returned (.bool false)/\Below W.heap.size W w'):=fun W q=>by rw[<- hsx];exact qK7 _ r x W q.rb (HR.out _ q.bl).1.said (by omega)
 have HOF:Hid (∀W,EV w r x W->CP 212 #[.pointer (some ⟨w.heap.size,0,none⟩),.slice a m cap,iv x.e] W fun d w'=>d=.returned (iv (qB7 E r.ss x.e))/\Below W.heap.size W w'):=fun W q=>QQ3 E _ r a m cap cs x.e W HEC.out.es q.rb (HR.out _ q.bl).1.said (by omega) (HR.out _ q.bl).2.1 hm hm8 ⟨he1,he2⟩
 clear hsx;clear hr hN hsm hc hEC hRp hsl hll hst;go_enter func181,ntmps181;go_upto_region 1 with fail
 rw[<- hV];clear hV;go_wp2_with fail
 refine (HF.out _ V0.out.xa).mono ?_;rintro d w1 ⟨rfl,rfl⟩;have a0:=V0.out.rb.1;have a1:=V0.out.rb.2.1;have a2:=V0.out.rb.2.2.1;have a3:=V0.out.rb.2.2.2;have hvl:w.heap.size<V.heap.size:=by have:=V0.out.lt;omega
 have HCP:=qU4 r V (HR.out _ V0.out.bl).1 HN.out (by omega) (by omega);go_wp2_with fail
 refine HCP.mono ?_;clear HCP;rintro d w2 ⟨gs,sc,gl,lc,rfl,ho1,ho2,hb2⟩;obtain⟨Y,hY⟩:∃Y,Y=w2.alloc (.cells #[iv r.i,iv r.u,.slice (some ⟨gs,0,none⟩) r.sn sc,.slice (some ⟨gl,0,none⟩) r.ln lc] 115):=⟨_,rfl⟩;have AY:Below w2.heap.size w2 Y:=by rw[hY];exact zN
 have hvl3:=V0.out.lt;have hs2:=hb2.size
 have O1:Hid (OX w r x w2.heap.size gs sc (some ⟨gl,0,none⟩) lc r.ls Y):=by
  refine⟨(V0.out.below hb2).below AY,?_,qC9 (ho1.below AY) (by omega),?_,by omega⟩
  .rw[hY,HSL.out.2];exact qP6 w2 _
  .rw[HSL.out.2];exact qB0 (ho2.below AY) (by omega)
 have hq2:w.heap.size+2<w2.heap.size:=by omega
 clear a0 a1 a2 a3 hvl hvl3 hs2 ho1 ho2 hb2 AY V0;go_upto_region 5 with fail
 rw[<- hY];clear hY;generalize w2.heap.size=q at O1 hq2 ⊢
 obtain⟨x0,x1,x2,x3,x4⟩:=O1.out.ev.xa;simp only[gG]at x0 x1 x2 x3 x4;have hxl:w.heap.size+1<_:=gS O1.out.ev.lt;go_wp2_with fail
 refine (HSD.out _ O1.out.ev).mono ?_;rintro d w3 ⟨rfl,hb3⟩;have O3:=qB4 (O1.out.below hb3);clear hb3 O1;clear x0 x1 x2 x3 x4 hxl;obtain⟨x0,x1,x2,x3,x4⟩:=O3.out.ev.xa;simp only[gG]at x0 x1 x2 x3 x4;have hxl:w.heap.size+1<_:=gS O3.out.ev.lt;go_wp2_with fail
 refine (HOF.out _ O3.out.ev).mono ?_;rintro d w4 ⟨rfl,hb4⟩;have O4:=qB4 (O3.out.below hb4);clear hb4 O3;clear x0 x1 x2 x3 x4 hxl;have z0:=O4.out.ev.rs.1 0 _ rfl;have z1:=O4.out.ev.rs.1 1 _ rfl;have z2:=O4.out.ev.rs.1 2 _ rfl;have z3:=O4.out.ev.rs.1 3 _ rfl;have z4:=O4.out.ev.rs.1 4 _ rfl;have f0:=O4.out.ev.rs.2 0;have f1:=O4.out.ev.rs.2 1;have f2:=O4.out.ev.rs.2 2;have f3:=O4.out.ev.rs.2 3;have f4:=O4.out.ev.rs.2 4;have hzl:=O4.out.ev.lt;go_wp2_with fail
 refine gQ (v:=.agg #[iv 4,iv 0,iv 0,.slice none 0 0,.slice none 0 0]) (by simp[results,results181,go_sem,z0,z1,z2,z3,z4,hzl]) rfl ?_;exact⟨(((((O4.out.ev.bl.setCell (by show w.heap.size<=w.heap.size+2;omega) _).setCell (by show w.heap.size<=w.heap.size+2;omega) _).setCell (by show w.heap.size<=w.heap.size+2;omega) _).setCell (by show w.heap.size<=w.heap.size+2;omega) _).setCell (by show w.heap.size<=w.heap.size+2;omega) _),fun _=>rfl,fun q=>absurd q (by first | assumption | decide)⟩
theorem qGE(E:qH3)(r:qD2)(a:Option Addr)(m cap:Nat)(cs:List qA5)(x:StI)(w:World)(hr:qE7 w r)(hN:qK9 r)(hsm:∀p,r.la=some p->∃b0 o0,p=⟨b0,o0,none⟩/\b0<w.heap.size)(hc:qA7 w a m cs)(hEC:qN0 E cs)(hm:0<m)(hm8:m<=8)(hRp:RpS E r.ss r.ls)(hst:qB5 x=0)(hsx:qC4 r.ss x=false)(hp0:0<=qB7 E r.ss x.e)(h40:40<=r.sn):
  CP 181 #[.agg #[iv r.i,iv r.u,.slice r.sa r.sn r.sc,.slice r.la r.ln r.lc],.slice a m cap,.agg #[iv x.k,iv x.e,iv x.f,iv x.s,iv x.n]] w fun d w'=>qGl r 2 [] [] w d w':=by
 have hsl:r.ss.length=r.sn:=hr.said.1;have hll:r.ls.length=r.ln:=hr.locks.1;have hs40:r.sn<=40:=by have:=hRp.len;omega
 have hl200:r.ln<=200:=by have:=(QJ0 hRp.lk).1;omega
 have hs40':(r.sn:Int)<=40:=by omega
 have HR:Hid (∀W,Below w.heap.size w W->qE7 W r/\qA7 W a m cs/\(∀p,r.la=some p->∃b0 o0,p=⟨b0,o0,none⟩/\b0<W.heap.size)):=fun W hb=>⟨hr.below hb,hc.below hb,fun p e=>by obtain⟨b0,o0,q,hl⟩:=hsm p e;exact⟨b0,o0,q,gD hl hb.size⟩⟩
 have HSL:Hid (r.ss.length=r.sn/\r.ls.length=r.ln):=⟨hsl,hll⟩;have HN:=hJJ hN;have HEC:=hJJ hEC;have HRP:=hJJ hRp;have HF:Hid (∀W,qM9 W (w.heap.size+1) 0 x->CP 62 #[.pointer (some ⟨w.heap.size+1,0,none⟩)] W fun e w'=>e=.returned (iv 0)/\W=w'):=fun W q=>by rw[<- hst];exact qK1 _ _ x W q
 obtain⟨V,hV⟩:∃V,V=((w.alloc (.cells #[iv r.i,iv r.u,.slice r.sa r.sn r.sc,.slice r.la r.ln r.lc] 115)).alloc (.cells #[iv x.k,iv x.e,iv x.f,iv x.s,iv x.n] 50)).alloc (.cells #[iv 0,iv 0,iv 0,.slice none 0 0,.slice none 0 0] 231):=⟨_,rfl⟩;have V0:Hid (EV w r x V):=by show EV w r x V;rw[hV];exact EV.new w r x
 obtain⟨⟨hk1,hk2⟩,⟨he1,he2⟩,⟨hn1,hn2⟩,_⟩:=qH1 hst;have HSD:Hid (∀W,EV w r x W->CP 101 #[.pointer (some ⟨w.heap.size,0,none⟩),.agg #[iv x.k,iv x.e,iv x.f,iv x.s,iv x.n]] W fun d w'=>d=.returned (.bool false)/\Below W.heap.size W w'):=fun W q=>by rw[<- hsx];exact qK7 _ r x W q.rb (HR.out _ q.bl).1.said (by omega)
 have HOF:Hid (∀W,EV w r x W->CP 212 #[.pointer (some ⟨w.heap.size,0,none⟩),.slice a m cap,iv x.e] W fun d w'=>d=.returned (iv (qB7 E r.ss x.e))/\Below W.heap.size W w'):=fun W q=>QQ3 E _ r a m cap cs x.e W HEC.out.es q.rb (HR.out _ q.bl).1.said (by omega) (HR.out _ q.bl).2.1 hm hm8 ⟨he1,he2⟩
 have h40':(40:Int)<=(r.sn:Int):=by omega
 clear hsx;clear hr hN hsm hc hEC hRp hsl hll hst;go_enter func181,ntmps181;go_upto_region 1 with fail
 rw[<- hV];clear hV;go_wp2_with fail
 refine (HF.out _ V0.out.xa).mono ?_;rintro d w1 ⟨rfl,rfl⟩;have a0:=V0.out.rb.1;have a1:=V0.out.rb.2.1;have a2:=V0.out.rb.2.2.1;have a3:=V0.out.rb.2.2.2;have hvl:w.heap.size<V.heap.size:=by have:=V0.out.lt;omega
 have HCP:=qU4 r V (HR.out _ V0.out.bl).1 HN.out (by omega) (by omega);go_wp2_with fail
 refine HCP.mono ?_;clear HCP;rintro d w2 ⟨gs,sc,gl,lc,rfl,ho1,ho2,hb2⟩;obtain⟨Y,hY⟩:∃Y,Y=w2.alloc (.cells #[iv r.i,iv r.u,.slice (some ⟨gs,0,none⟩) r.sn sc,.slice (some ⟨gl,0,none⟩) r.ln lc] 115):=⟨_,rfl⟩;have AY:Below w2.heap.size w2 Y:=by rw[hY];exact zN
 have hvl3:=V0.out.lt;have hs2:=hb2.size
 have O1:Hid (OX w r x w2.heap.size gs sc (some ⟨gl,0,none⟩) lc r.ls Y):=by
  refine⟨(V0.out.below hb2).below AY,?_,qC9 (ho1.below AY) (by omega),?_,by omega⟩
  .rw[hY,HSL.out.2];exact qP6 w2 _
  .rw[HSL.out.2];exact qB0 (ho2.below AY) (by omega)
 have hq2:w.heap.size+2<w2.heap.size:=by omega
 clear a0 a1 a2 a3 hvl hvl3 hs2 ho1 ho2 hb2 AY V0;go_upto_region 5 with fail
 rw[<- hY];clear hY;generalize w2.heap.size=q at O1 hq2 ⊢
 obtain⟨x0,x1,x2,x3,x4⟩:=O1.out.ev.xa;simp only[gG]at x0 x1 x2 x3 x4;have hxl:w.heap.size+1<_:=gS O1.out.ev.lt;go_wp2_with fail
 refine (HSD.out _ O1.out.ev).mono ?_;rintro d w3 ⟨rfl,hb3⟩;have O3:=qB4 (O1.out.below hb3);clear hb3 O1;clear x0 x1 x2 x3 x4 hxl;obtain⟨x0,x1,x2,x3,x4⟩:=O3.out.ev.xa;simp only[gG]at x0 x1 x2 x3 x4;have hxl:w.heap.size+1<_:=gS O3.out.ev.lt;go_wp2_with fail
 refine (HOF.out _ O3.out.ev).mono ?_;rintro d w4 ⟨rfl,hb4⟩;have O4:=qB4 (O3.out.below hb4);clear hb4 O3;clear x0 x1 x2 x3 x4 hxl;have a2:=O4.out.ev.rb.2.2.1;have hal:w.heap.size<w4.heap.size:=by have:=O4.out.ev.lt;omega
 obtain⟨x0,x1,x2,x3,x4⟩:=O4.out.ev.xa;simp only[gG]at x0 x1 x2 x3 x4;have hxl:w.heap.size+1<_:=gS O4.out.ev.lt;have z0:=O4.out.ev.rs.1 0 _ rfl;have z1:=O4.out.ev.rs.1 1 _ rfl;have z2:=O4.out.ev.rs.1 2 _ rfl;have z3:=O4.out.ev.rs.1 3 _ rfl;have z4:=O4.out.ev.rs.1 4 _ rfl;have f0:=O4.out.ev.rs.2 0;have f1:=O4.out.ev.rs.2 1;have f2:=O4.out.ev.rs.2 2;have f3:=O4.out.ev.rs.2 3;have f4:=O4.out.ev.rs.2 4;have hzl:=O4.out.ev.lt;go_wp2_with fail
 refine gQ (v:=.agg #[iv 2,iv 0,iv 0,.slice none 0 0,.slice none 0 0]) (by simp[results,results181,go_sem,z0,z1,z2,z3,z4,hzl]) rfl ?_;exact⟨(((((O4.out.ev.bl.setCell (by show w.heap.size<=w.heap.size+2;omega) _).setCell (by show w.heap.size<=w.heap.size+2;omega) _).setCell (by show w.heap.size<=w.heap.size+2;omega) _).setCell (by show w.heap.size<=w.heap.size+2;omega) _).setCell (by show w.heap.size<=w.heap.size+2;omega) _),fun _=>rfl,fun q=>absurd q (by first | assumption | decide)⟩
theorem qBU(E:qH3)(r:qD2)(a:Option Addr)(m cap:Nat)(cs:List qA5)(x:StI)(w:World)(hr:qE7 w r)(hN:qK9 r)(hsm:∀p,r.la=some p->∃b0 o0,p=⟨b0,o0,none⟩/\b0<w.heap.size)(hc:qA7 w a m cs)(hEC:qN0 E cs)(hm:0<m)(hm8:m<=8)(hRp:RpS E r.ss r.ls)(hst:qB5 x=0)(hsx:qC4 r.ss x=false)(hp0:0<=qB7 E r.ss x.e)(h40:r.sn<40)(hk2':x.k=2)(S:List StI)(hS:r.ss++[x]=S):
  CP 181 #[.agg #[iv r.i,iv r.u,.slice r.sa r.sn r.sc,.slice r.la r.ln r.lc],.slice a m cap,.agg #[iv x.k,iv x.e,iv x.f,iv x.s,iv x.n]] w fun d w'=>qGl r 0 S r.ls w d w':=by
 have hsl:r.ss.length=r.sn:=hr.said.1;have hll:r.ls.length=r.ln:=hr.locks.1;have hs40:r.sn<=40:=by have:=hRp.len;omega
 have hl200:r.ln<=200:=by have:=(QJ0 hRp.lk).1;omega
 have hs40':(r.sn:Int)<=40:=by omega
 have HR:Hid (∀W,Below w.heap.size w W->qE7 W r/\qA7 W a m cs/\(∀p,r.la=some p->∃b0 o0,p=⟨b0,o0,none⟩/\b0<W.heap.size)):=fun W hb=>⟨hr.below hb,hc.below hb,fun p e=>by obtain⟨b0,o0,q,hl⟩:=hsm p e;exact⟨b0,o0,q,gD hl hb.size⟩⟩
 have HSL:Hid (r.ss.length=r.sn/\r.ls.length=r.ln):=⟨hsl,hll⟩;have HN:=hJJ hN;have HEC:=hJJ hEC;have HRP:=hJJ hRp;have HF:Hid (∀W,qM9 W (w.heap.size+1) 0 x->CP 62 #[.pointer (some ⟨w.heap.size+1,0,none⟩)] W fun e w'=>e=.returned (iv 0)/\W=w'):=fun W q=>by rw[<- hst];exact qK1 _ _ x W q
 obtain⟨V,hV⟩:∃V,V=((w.alloc (.cells #[iv r.i,iv r.u,.slice r.sa r.sn r.sc,.slice r.la r.ln r.lc] 115)).alloc (.cells #[iv x.k,iv x.e,iv x.f,iv x.s,iv x.n] 50)).alloc (.cells #[iv 0,iv 0,iv 0,.slice none 0 0,.slice none 0 0] 231):=⟨_,rfl⟩;have V0:Hid (EV w r x V):=by show EV w r x V;rw[hV];exact EV.new w r x
 obtain⟨⟨hk1,hk2⟩,⟨he1,he2⟩,⟨hn1,hn2⟩,_⟩:=qH1 hst;have HSD:Hid (∀W,EV w r x W->CP 101 #[.pointer (some ⟨w.heap.size,0,none⟩),.agg #[iv x.k,iv x.e,iv x.f,iv x.s,iv x.n]] W fun d w'=>d=.returned (.bool false)/\Below W.heap.size W w'):=fun W q=>by rw[<- hsx];exact qK7 _ r x W q.rb (HR.out _ q.bl).1.said (by omega)
 have HOF:Hid (∀W,EV w r x W->CP 212 #[.pointer (some ⟨w.heap.size,0,none⟩),.slice a m cap,iv x.e] W fun d w'=>d=.returned (iv (qB7 E r.ss x.e))/\Below W.heap.size W w'):=fun W q=>QQ3 E _ r a m cap cs x.e W HEC.out.es q.rb (HR.out _ q.bl).1.said (by omega) (HR.out _ q.bl).2.1 hm hm8 ⟨he1,he2⟩
 have h40':(r.sn:Int)<40:=by omega
 have k1:(x.k==1)=false:=by simp[hk2']
 have k3:(x.k==3)=false:=by simp[hk2']
 have k4:(x.k==4)=false:=by simp[hk2']
 clear hsx hk2';have HS:=hJJ hS;clear hS;obtain⟨i0,hi,hz0,hz1,hz2⟩:=jT Tryz.info50;clear hr hN hsm hc hEC hRp hsl hll hst;go_enter func181,ntmps181;go_upto_region 1 with fail
 rw[<- hV];clear hV;go_wp2_with fail
 refine (HF.out _ V0.out.xa).mono ?_;rintro d w1 ⟨rfl,rfl⟩;have a0:=V0.out.rb.1;have a1:=V0.out.rb.2.1;have a2:=V0.out.rb.2.2.1;have a3:=V0.out.rb.2.2.2;have hvl:w.heap.size<V.heap.size:=by have:=V0.out.lt;omega
 have HCP:=qU4 r V (HR.out _ V0.out.bl).1 HN.out (by omega) (by omega);go_wp2_with fail
 refine HCP.mono ?_;clear HCP;rintro d w2 ⟨gs,sc,gl,lc,rfl,ho1,ho2,hb2⟩;obtain⟨Y,hY⟩:∃Y,Y=w2.alloc (.cells #[iv r.i,iv r.u,.slice (some ⟨gs,0,none⟩) r.sn sc,.slice (some ⟨gl,0,none⟩) r.ln lc] 115):=⟨_,rfl⟩;have AY:Below w2.heap.size w2 Y:=by rw[hY];exact zN
 have hvl3:=V0.out.lt;have hs2:=hb2.size
 have O1:Hid (OX w r x w2.heap.size gs sc (some ⟨gl,0,none⟩) lc r.ls Y):=by
  refine⟨(V0.out.below hb2).below AY,?_,qC9 (ho1.below AY) (by omega),?_,by omega⟩
  .rw[hY,HSL.out.2];exact qP6 w2 _
  .rw[HSL.out.2];exact qB0 (ho2.below AY) (by omega)
 have hq2:w.heap.size+2<w2.heap.size:=by omega
 clear a0 a1 a2 a3 hvl hvl3 hs2 ho1 ho2 hb2 AY V0;go_upto_region 5 with fail
 rw[<- hY];clear hY;generalize w2.heap.size=q at O1 hq2 ⊢
 obtain⟨x0,x1,x2,x3,x4⟩:=O1.out.ev.xa;simp only[gG]at x0 x1 x2 x3 x4;have hxl:w.heap.size+1<_:=gS O1.out.ev.lt;go_wp2_with fail
 refine (HSD.out _ O1.out.ev).mono ?_;rintro d w3 ⟨rfl,hb3⟩;have O3:=qB4 (O1.out.below hb3);clear hb3 O1;clear x0 x1 x2 x3 x4 hxl;obtain⟨x0,x1,x2,x3,x4⟩:=O3.out.ev.xa;simp only[gG]at x0 x1 x2 x3 x4;have hxl:w.heap.size+1<_:=gS O3.out.ev.lt;go_wp2_with fail
 refine (HOF.out _ O3.out.ev).mono ?_;rintro d w4 ⟨rfl,hb4⟩;have O4:=qB4 (O3.out.below hb4);clear hb4 O3;clear x0 x1 x2 x3 x4 hxl;have a2:=O4.out.ev.rb.2.2.1;have hal:w.heap.size<w4.heap.size:=by have:=O4.out.ev.lt;omega
 obtain⟨U,hU⟩:∃U,U=w4.alloc (.cells #[iv x.k,iv x.e,iv x.f,iv x.s,iv x.n] 50):=⟨_,rfl⟩;have AU:Below w4.heap.size w4 U:=by rw[hU];exact zN
 have OU:=qB4 (O4.out.below AU)
 have RU:Hid (U.ownsRow (w.heap.size+3) 50 5 (.slice (some ⟨gs,0,none⟩) r.sn sc) r.sn (qD4 r.ss)):=by
  have q:=OU.out.so;unfold qF0 at q;rw[HSL.out.1]at q;exact q
 have PU:Hid (qL2 U (some ⟨w4.heap.size,0,none⟩) 1 [x]):=by show qL2 _ _ _ _;rw[hU];exact QL6 w4 x _
 have hUs:w.heap.size+3<=U.heap.size:=by have:=OU.out.ev.lt;omega
 obtain⟨x0,x1,x2,x3,x4⟩:=O4.out.ev.xa;simp only[gG]at x0 x1 x2 x3 x4;have hxl:w.heap.size+1<_:=gS O4.out.ev.lt;have o2:=qA9 O4.out.ob 2;simp at o2;have hql:=O4.out.qlt;have hxl2:w.heap.size+1<w4.heap.size:=hxl;go_upto_region 23 with fail
 go_wp2_with (first | (at_builtin;rw[<- hU];refine qS3 rfl _ _ 38 rfl (w.heap.size+3) 50 i0 (.agg #[iv 0,iv 0,iv 0,iv 0,iv 0]) 5 40 underlying38 hi hz0 hz1 hz2 rfl (by decide) (.slice (some ⟨gs,0,none⟩) r.sn sc) r.sn (qD4 r.ss) rfl RU.out (by simp) (some ⟨w4.heap.size,0,none⟩) 1 1 (qD4 [x]) rfl (fun e=>by cases e) rfl (fun p e=>by cases e;exact QA8 PU.out) (qO5 _) (by unfold maxLen;omega) (by omega) hUs ?_) | fail)
 intro v6 w6 hown6 hgrow6 hnil6
 have E6:qF0 w6 (w.heap.size+3) v6 S:=by
  rw[<- HS.out];show World.ownsRow _ _ 50 5 _ (r.ss++[x]).length (qD4 (r.ss++[x]))
  rw[qN7,jD,HSL.out.1];exact hown6
 obtain⟨g6,cap6,hv6⟩:=E6.shape hnil6;subst hv6;have hgU:U.grownBy w6 (some gs):=by first | exact hgrow6 | (rw[hU];exact hgrow6)
 obtain⟨Z6,B6,K6,L6⟩:=OU.out.said (by rw[HS.out];exact E6) hgU;obtain⟨w7,hw7⟩:∃w7,w7=w6.setCell ⟨q,2,none⟩ (.slice (some ⟨g6,0,none⟩) S.length cap6):=⟨_,rfl⟩;have K7:w7.heap[q]?=some (.cells #[iv r.i,iv r.u,.slice (some ⟨g6,0,none⟩) S.length cap6,.slice (some ⟨gl,0,none⟩) r.ls.length lc] 115 (0,0)):=by rw[hw7];exact qQ3 K6
 have Z7:qJ2 (w.heap.size+2) [iv 0,iv 0,iv 0,.slice none 0 0,.slice none 0 0] w7:=by rw[hw7];exact Z6.other (by show q≠_;omega) _
 have B7:Hid (Below w.heap.size w w7):=by show Below _ _ _;rw[hw7];exact B6.setCell (by show w.heap.size<=q;omega) _
 have E7:Hid (qF0 w7 (w.heap.size+3) (.slice (some ⟨g6,0,none⟩) S.length cap6) S):=by
  show qF0 _ _ _ _
  rw[hw7];exact qA4 E6 (fun g e=>by obtain⟨cur,hcc,_⟩:=qE0 E6 e;exact zS (qL7 hcc K6 (by decide)))
 have L7:Hid (qB2 w7 (w.heap.size+3) (.slice (some ⟨gl,0,none⟩) r.ls.length lc) r.ls):=by
  show qB2 _ _ _ _
  rw[hw7];exact qA4 L6 (fun g e=>by obtain⟨cur,hcc,_⟩:=qD8 L6 e;exact zS (qL7 hcc K6 (by decide)))
 have k2:=qA9 K6 2;simp at k2;have kf2:=QB4 K6 2;have hq6:=(gN.1 K6).1;clear hown6 hgrow6 hnil6 hgU E6 Z6 B6 L6 x0 x1 x2 x3 x4 hxl hxl2 o2 hql RU PU AU OU hU O4;go_upto_region 24 with fail
 rw[<- hw7];clear hw7 k2 kf2 hq6;have o0:=qA9 K7 0;have o1:=qA9 K7 1;have o2:=qA9 K7 2;have o3:=qA9 K7 3;simp at o0 o1 o2 o3;have hql:=(gN.1 K7).1;have z0:=Z7.1 0 _ rfl;have z1:=Z7.1 1 _ rfl;have z2:=Z7.1 2 _ rfl;have z3:=Z7.1 3 _ rfl;have z4:=Z7.1 4 _ rfl;have f0:=Z7.2 0;have f1:=Z7.2 1;have f2:=Z7.2 2;have f3:=Z7.2 3;have f4:=Z7.2 4;have hzl:w.heap.size+2<w7.heap.size:=by omega
 have hqn:w.heap.size+2≠q:=by omega
 clear K7 Z7 K6;go_wp2_with fail
 refine gQ (v:=.agg #[iv 0,iv r.i,iv r.u,.slice (some ⟨g6,0,none⟩) S.length cap6,.slice (some ⟨gl,0,none⟩) r.ls.length lc]) (by simp[results,results181,go_sem,z0,z1,z2,z3,z4,hzl]) rfl ?_;refine⟨(((((B7.out.setCell (by show w.heap.size<=w.heap.size+2;omega) _).setCell (by show w.heap.size<=w.heap.size+2;omega) _).setCell (by show w.heap.size<=w.heap.size+2;omega) _).setCell (by show w.heap.size<=w.heap.size+2;omega) _).setCell (by show w.heap.size<=w.heap.size+2;omega) _),fun q=>absurd rfl q,fun _=>?_⟩;refine⟨some ⟨g6,0,none⟩,cap6,(some ⟨gl,0,none⟩),lc,rfl,qC9 (qA4 E7.out (fun g e=>?_)) (by omega),qB0 (qA4 L7.out (fun g e=>?_)) (by omega)⟩
 .obtain⟨cur,hcc,hgg⟩:=qE0 E7.out e;rw[zS (by show g≠w.heap.size+2;omega),zS (by show g≠w.heap.size+2;omega),zS (by show g≠w.heap.size+2;omega),zS (by show g≠w.heap.size+2;omega),zS (by show g≠w.heap.size+2;omega)]
 .obtain⟨cur,hcc,hgg⟩:=qD8 L7.out e;rw[zS (by show g≠w.heap.size+2;omega),zS (by show g≠w.heap.size+2;omega),zS (by show g≠w.heap.size+2;omega),zS (by show g≠w.heap.size+2;omega),zS (by show g≠w.heap.size+2;omega)]
theorem qGD(E:qH3)(r:qD2)(a:Option Addr)(m cap:Nat)(cs:List qA5)(x:StI)(w:World)(hr:qE7 w r)(hN:qK9 r)(hsm:∀p,r.la=some p->∃b0 o0,p=⟨b0,o0,none⟩/\b0<w.heap.size)(hc:qA7 w a m cs)(hEC:qN0 E cs)(hm:0<m)(hm8:m<=8)(hRp:RpS E r.ss r.ls)(hst:qB5 x=0)(hsx:qC4 r.ss x=false)(hp0:0<=qB7 E r.ss x.e)(h40:r.sn<40)(hk3:x.k=3)(k:Int)(hk:qC7 E r.ss x=k)(S:List StI)(hS:r.ss++[x]=S):
  CP 181 #[.agg #[iv r.i,iv r.u,.slice r.sa r.sn r.sc,.slice r.la r.ln r.lc],.slice a m cap,.agg #[iv x.k,iv x.e,iv x.f,iv x.s,iv x.n]] w fun d w'=>qGl r k S r.ls w d w':=by
 have hsl:r.ss.length=r.sn:=hr.said.1;have hll:r.ls.length=r.ln:=hr.locks.1;have hs40:r.sn<=40:=by have:=hRp.len;omega
 have hl200:r.ln<=200:=by have:=(QJ0 hRp.lk).1;omega
 have hs40':(r.sn:Int)<=40:=by omega
 have HR:Hid (∀W,Below w.heap.size w W->qE7 W r/\qA7 W a m cs/\(∀p,r.la=some p->∃b0 o0,p=⟨b0,o0,none⟩/\b0<W.heap.size)):=fun W hb=>⟨hr.below hb,hc.below hb,fun p e=>by obtain⟨b0,o0,q,hl⟩:=hsm p e;exact⟨b0,o0,q,gD hl hb.size⟩⟩
 have HSL:Hid (r.ss.length=r.sn/\r.ls.length=r.ln):=⟨hsl,hll⟩;have HN:=hJJ hN;have HEC:=hJJ hEC;have HRP:=hJJ hRp;have HF:Hid (∀W,qM9 W (w.heap.size+1) 0 x->CP 62 #[.pointer (some ⟨w.heap.size+1,0,none⟩)] W fun e w'=>e=.returned (iv 0)/\W=w'):=fun W q=>by rw[<- hst];exact qK1 _ _ x W q
 obtain⟨V,hV⟩:∃V,V=((w.alloc (.cells #[iv r.i,iv r.u,.slice r.sa r.sn r.sc,.slice r.la r.ln r.lc] 115)).alloc (.cells #[iv x.k,iv x.e,iv x.f,iv x.s,iv x.n] 50)).alloc (.cells #[iv 0,iv 0,iv 0,.slice none 0 0,.slice none 0 0] 231):=⟨_,rfl⟩;have V0:Hid (EV w r x V):=by show EV w r x V;rw[hV];exact EV.new w r x
 obtain⟨⟨hk1,hk2⟩,⟨he1,he2⟩,⟨hn1,hn2⟩,_⟩:=qH1 hst;have HSD:Hid (∀W,EV w r x W->CP 101 #[.pointer (some ⟨w.heap.size,0,none⟩),.agg #[iv x.k,iv x.e,iv x.f,iv x.s,iv x.n]] W fun d w'=>d=.returned (.bool false)/\Below W.heap.size W w'):=fun W q=>by rw[<- hsx];exact qK7 _ r x W q.rb (HR.out _ q.bl).1.said (by omega)
 have HOF:Hid (∀W,EV w r x W->CP 212 #[.pointer (some ⟨w.heap.size,0,none⟩),.slice a m cap,iv x.e] W fun d w'=>d=.returned (iv (qB7 E r.ss x.e))/\Below W.heap.size W w'):=fun W q=>QQ3 E _ r a m cap cs x.e W HEC.out.es q.rb (HR.out _ q.bl).1.said (by omega) (HR.out _ q.bl).2.1 hm hm8 ⟨he1,he2⟩
 have h40':(r.sn:Int)<40:=by omega
 have k1:(x.k==1)=false:=by simp[hk3]
 have k3:(x.k==3)=true:=by simp[hk3]
 clear hk3;have HNX:Hid (∀W,EV w r x W->CP 214 #[.pointer (some ⟨w.heap.size,0,none⟩),.slice a m cap,.pointer (some ⟨w.heap.size+1,0,none⟩)] W fun d w'=>d=.returned (iv k)/\Below W.heap.size W w'):=fun W q=>by rw[<- hk];exact qEg E _ r a m cap cs _ x W HEC.out.es q.rb (HR.out _ q.bl).1.said (by omega) (HR.out _ q.bl).2.1 hm8 q.xa ⟨he1,he2⟩ ⟨hn1,hn2⟩
 clear hsx hk;have HS:=hJJ hS;clear hS;obtain⟨i0,hi,hz0,hz1,hz2⟩:=jT Tryz.info50;clear hr hN hsm hc hEC hRp hsl hll hst;go_enter func181,ntmps181;go_upto_region 1 with fail
 rw[<- hV];clear hV;go_wp2_with fail
 refine (HF.out _ V0.out.xa).mono ?_;rintro d w1 ⟨rfl,rfl⟩;have a0:=V0.out.rb.1;have a1:=V0.out.rb.2.1;have a2:=V0.out.rb.2.2.1;have a3:=V0.out.rb.2.2.2;have hvl:w.heap.size<V.heap.size:=by have:=V0.out.lt;omega
 have HCP:=qU4 r V (HR.out _ V0.out.bl).1 HN.out (by omega) (by omega);go_wp2_with fail
 refine HCP.mono ?_;clear HCP;rintro d w2 ⟨gs,sc,gl,lc,rfl,ho1,ho2,hb2⟩;obtain⟨Y,hY⟩:∃Y,Y=w2.alloc (.cells #[iv r.i,iv r.u,.slice (some ⟨gs,0,none⟩) r.sn sc,.slice (some ⟨gl,0,none⟩) r.ln lc] 115):=⟨_,rfl⟩;have AY:Below w2.heap.size w2 Y:=by rw[hY];exact zN
 have hvl3:=V0.out.lt;have hs2:=hb2.size
 have O1:Hid (OX w r x w2.heap.size gs sc (some ⟨gl,0,none⟩) lc r.ls Y):=by
  refine⟨(V0.out.below hb2).below AY,?_,qC9 (ho1.below AY) (by omega),?_,by omega⟩
  .rw[hY,HSL.out.2];exact qP6 w2 _
  .rw[HSL.out.2];exact qB0 (ho2.below AY) (by omega)
 have hq2:w.heap.size+2<w2.heap.size:=by omega
 clear a0 a1 a2 a3 hvl hvl3 hs2 ho1 ho2 hb2 AY V0;go_upto_region 5 with fail
 rw[<- hY];clear hY;generalize w2.heap.size=q at O1 hq2 ⊢
 obtain⟨x0,x1,x2,x3,x4⟩:=O1.out.ev.xa;simp only[gG]at x0 x1 x2 x3 x4;have hxl:w.heap.size+1<_:=gS O1.out.ev.lt;go_wp2_with fail
 refine (HSD.out _ O1.out.ev).mono ?_;rintro d w3 ⟨rfl,hb3⟩;have O3:=qB4 (O1.out.below hb3);clear hb3 O1;clear x0 x1 x2 x3 x4 hxl;obtain⟨x0,x1,x2,x3,x4⟩:=O3.out.ev.xa;simp only[gG]at x0 x1 x2 x3 x4;have hxl:w.heap.size+1<_:=gS O3.out.ev.lt;go_wp2_with fail
 refine (HOF.out _ O3.out.ev).mono ?_;rintro d w4 ⟨rfl,hb4⟩;have O4:=qB4 (O3.out.below hb4);clear hb4 O3;clear x0 x1 x2 x3 x4 hxl;have a2:=O4.out.ev.rb.2.2.1;have hal:w.heap.size<w4.heap.size:=by have:=O4.out.ev.lt;omega
 obtain⟨x0,x1,x2,x3,x4⟩:=O4.out.ev.xa;simp only[gG]at x0 x1 x2 x3 x4;have hxl:w.heap.size+1<_:=gS O4.out.ev.lt;go_wp2_with fail
 refine (HNX.out _ O4.out.ev).mono ?_;rintro d w5 ⟨rfl,hb5⟩;have O5:=qB4 (O4.out.below hb5);clear hb5 a2 hal O4;clear x0 x1 x2 x3 x4 hxl;by_cases hk0:k=0
 .subst hk0;obtain⟨U,hU⟩:∃U,U=w5.alloc (.cells #[iv x.k,iv x.e,iv x.f,iv x.s,iv x.n] 50):=⟨_,rfl⟩;have AU:Below w5.heap.size w5 U:=by rw[hU];exact zN
  have OU:=qB4 (O5.out.below AU)
  have RU:Hid (U.ownsRow (w.heap.size+3) 50 5 (.slice (some ⟨gs,0,none⟩) r.sn sc) r.sn (qD4 r.ss)):=by
   have q:=OU.out.so;unfold qF0 at q;rw[HSL.out.1]at q;exact q
  have PU:Hid (qL2 U (some ⟨w5.heap.size,0,none⟩) 1 [x]):=by show qL2 _ _ _ _;rw[hU];exact QL6 w5 x _
  have hUs:w.heap.size+3<=U.heap.size:=by have:=OU.out.ev.lt;omega
  obtain⟨x0,x1,x2,x3,x4⟩:=O5.out.ev.xa;simp only[gG]at x0 x1 x2 x3 x4;have hxl:w.heap.size+1<_:=gS O5.out.ev.lt;have o2:=qA9 O5.out.ob 2;simp at o2;have hql:=O5.out.qlt;have hxl2:w.heap.size+1<w5.heap.size:=hxl;go_upto_region 23 with fail
  go_wp2_with (first | (at_builtin;rw[<- hU];refine qS3 rfl _ _ 38 rfl (w.heap.size+3) 50 i0 (.agg #[iv 0,iv 0,iv 0,iv 0,iv 0]) 5 40 underlying38 hi hz0 hz1 hz2 rfl (by decide) (.slice (some ⟨gs,0,none⟩) r.sn sc) r.sn (qD4 r.ss) rfl RU.out (by simp) (some ⟨w5.heap.size,0,none⟩) 1 1 (qD4 [x]) rfl (fun e=>by cases e) rfl (fun p e=>by cases e;exact QA8 PU.out) (qO5 _) (by unfold maxLen;omega) (by omega) hUs ?_) | fail)
  intro v6 w6 hown6 hgrow6 hnil6
  have E6:qF0 w6 (w.heap.size+3) v6 S:=by
   rw[<- HS.out];show World.ownsRow _ _ 50 5 _ (r.ss++[x]).length (qD4 (r.ss++[x]))
   rw[qN7,jD,HSL.out.1];exact hown6
  obtain⟨g6,cap6,hv6⟩:=E6.shape hnil6;subst hv6;have hgU:U.grownBy w6 (some gs):=by first | exact hgrow6 | (rw[hU];exact hgrow6)
  obtain⟨Z6,B6,K6,L6⟩:=OU.out.said (by rw[HS.out];exact E6) hgU;obtain⟨w7,hw7⟩:∃w7,w7=w6.setCell ⟨q,2,none⟩ (.slice (some ⟨g6,0,none⟩) S.length cap6):=⟨_,rfl⟩;have K7:w7.heap[q]?=some (.cells #[iv r.i,iv r.u,.slice (some ⟨g6,0,none⟩) S.length cap6,.slice (some ⟨gl,0,none⟩) r.ls.length lc] 115 (0,0)):=by rw[hw7];exact qQ3 K6
  have Z7:qJ2 (w.heap.size+2) [iv 0,iv 0,iv 0,.slice none 0 0,.slice none 0 0] w7:=by rw[hw7];exact Z6.other (by show q≠_;omega) _
  have B7:Hid (Below w.heap.size w w7):=by show Below _ _ _;rw[hw7];exact B6.setCell (by show w.heap.size<=q;omega) _
  have E7:Hid (qF0 w7 (w.heap.size+3) (.slice (some ⟨g6,0,none⟩) S.length cap6) S):=by
   show qF0 _ _ _ _
   rw[hw7];exact qA4 E6 (fun g e=>by obtain⟨cur,hcc,_⟩:=qE0 E6 e;exact zS (qL7 hcc K6 (by decide)))
  have L7:Hid (qB2 w7 (w.heap.size+3) (.slice (some ⟨gl,0,none⟩) r.ls.length lc) r.ls):=by
   show qB2 _ _ _ _
   rw[hw7];exact qA4 L6 (fun g e=>by obtain⟨cur,hcc,_⟩:=qD8 L6 e;exact zS (qL7 hcc K6 (by decide)))
  have k2:=qA9 K6 2;simp at k2;have kf2:=QB4 K6 2;have hq6:=(gN.1 K6).1;clear hown6 hgrow6 hnil6 hgU E6 Z6 B6 L6 x0 x1 x2 x3 x4 hxl hxl2 o2 hql RU PU AU OU hU O5;go_upto_region 24 with fail
  rw[<- hw7];clear hw7 k2 kf2 hq6;have o0:=qA9 K7 0;have o1:=qA9 K7 1;have o2:=qA9 K7 2;have o3:=qA9 K7 3;simp at o0 o1 o2 o3;have hql:=(gN.1 K7).1;have z0:=Z7.1 0 _ rfl;have z1:=Z7.1 1 _ rfl;have z2:=Z7.1 2 _ rfl;have z3:=Z7.1 3 _ rfl;have z4:=Z7.1 4 _ rfl;have f0:=Z7.2 0;have f1:=Z7.2 1;have f2:=Z7.2 2;have f3:=Z7.2 3;have f4:=Z7.2 4;have hzl:w.heap.size+2<w7.heap.size:=by omega
  have hqn:w.heap.size+2≠q:=by omega
  clear K7 Z7 K6;go_wp2_with fail
  refine gQ (v:=.agg #[iv 0,iv r.i,iv r.u,.slice (some ⟨g6,0,none⟩) S.length cap6,.slice (some ⟨gl,0,none⟩) r.ls.length lc]) (by simp[results,results181,go_sem,z0,z1,z2,z3,z4,hzl]) rfl ?_;refine⟨(((((B7.out.setCell (by show w.heap.size<=w.heap.size+2;omega) _).setCell (by show w.heap.size<=w.heap.size+2;omega) _).setCell (by show w.heap.size<=w.heap.size+2;omega) _).setCell (by show w.heap.size<=w.heap.size+2;omega) _).setCell (by show w.heap.size<=w.heap.size+2;omega) _),fun q=>absurd rfl q,fun _=>?_⟩;refine⟨some ⟨g6,0,none⟩,cap6,(some ⟨gl,0,none⟩),lc,rfl,qC9 (qA4 E7.out (fun g e=>?_)) (by omega),qB0 (qA4 L7.out (fun g e=>?_)) (by omega)⟩
  .obtain⟨cur,hcc,hgg⟩:=qE0 E7.out e;rw[zS (by show g≠w.heap.size+2;omega),zS (by show g≠w.heap.size+2;omega),zS (by show g≠w.heap.size+2;omega),zS (by show g≠w.heap.size+2;omega),zS (by show g≠w.heap.size+2;omega)]
  .obtain⟨cur,hcc,hgg⟩:=qD8 L7.out e;rw[zS (by show g≠w.heap.size+2;omega),zS (by show g≠w.heap.size+2;omega),zS (by show g≠w.heap.size+2;omega),zS (by show g≠w.heap.size+2;omega),zS (by show g≠w.heap.size+2;omega)]
 .have kb:(k != 0)=true:=by simp[hk0]
  have z0:=O5.out.ev.rs.1 0 _ rfl;have z1:=O5.out.ev.rs.1 1 _ rfl;have z2:=O5.out.ev.rs.1 2 _ rfl;have z3:=O5.out.ev.rs.1 3 _ rfl;have z4:=O5.out.ev.rs.1 4 _ rfl;have f0:=O5.out.ev.rs.2 0;have f1:=O5.out.ev.rs.2 1;have f2:=O5.out.ev.rs.2 2;have f3:=O5.out.ev.rs.2 3;have f4:=O5.out.ev.rs.2 4;have hzl:=O5.out.ev.lt;go_wp2_with fail
  refine gQ (v:=.agg #[iv k,iv 0,iv 0,.slice none 0 0,.slice none 0 0]) (by simp[results,results181,go_sem,z0,z1,z2,z3,z4,hzl]) rfl ?_;exact⟨(((((O5.out.ev.bl.setCell (by show w.heap.size<=w.heap.size+2;omega) _).setCell (by show w.heap.size<=w.heap.size+2;omega) _).setCell (by show w.heap.size<=w.heap.size+2;omega) _).setCell (by show w.heap.size<=w.heap.size+2;omega) _).setCell (by show w.heap.size<=w.heap.size+2;omega) _),fun _=>rfl,fun q=>absurd q (by first | assumption | decide)⟩
theorem qGA(E:qH3)(r:qD2)(a:Option Addr)(m cap:Nat)(cs:List qA5)(x:StI)(w:World)(hr:qE7 w r)(hN:qK9 r)(hsm:∀p,r.la=some p->∃b0 o0,p=⟨b0,o0,none⟩/\b0<w.heap.size)(hc:qA7 w a m cs)(hEC:qN0 E cs)(hm:0<m)(hm8:m<=8)(hRp:RpS E r.ss r.ls)(hst:qB5 x=0)(hsx:qC4 r.ss x=false)(hp0:0<=qB7 E r.ss x.e)(h40:r.sn<40)(hk4:x.k=4)(k:Int)(hk:qC7 E r.ss x=k)(S:List StI)(hS:r.ss++[x]=S):
  CP 181 #[.agg #[iv r.i,iv r.u,.slice r.sa r.sn r.sc,.slice r.la r.ln r.lc],.slice a m cap,.agg #[iv x.k,iv x.e,iv x.f,iv x.s,iv x.n]] w fun d w'=>qGl r k S r.ls w d w':=by
 have hsl:r.ss.length=r.sn:=hr.said.1;have hll:r.ls.length=r.ln:=hr.locks.1;have hs40:r.sn<=40:=by have:=hRp.len;omega
 have hl200:r.ln<=200:=by have:=(QJ0 hRp.lk).1;omega
 have hs40':(r.sn:Int)<=40:=by omega
 have HR:Hid (∀W,Below w.heap.size w W->qE7 W r/\qA7 W a m cs/\(∀p,r.la=some p->∃b0 o0,p=⟨b0,o0,none⟩/\b0<W.heap.size)):=fun W hb=>⟨hr.below hb,hc.below hb,fun p e=>by obtain⟨b0,o0,q,hl⟩:=hsm p e;exact⟨b0,o0,q,gD hl hb.size⟩⟩
 have HSL:Hid (r.ss.length=r.sn/\r.ls.length=r.ln):=⟨hsl,hll⟩;have HN:=hJJ hN;have HEC:=hJJ hEC;have HRP:=hJJ hRp;have HF:Hid (∀W,qM9 W (w.heap.size+1) 0 x->CP 62 #[.pointer (some ⟨w.heap.size+1,0,none⟩)] W fun e w'=>e=.returned (iv 0)/\W=w'):=fun W q=>by rw[<- hst];exact qK1 _ _ x W q
 obtain⟨V,hV⟩:∃V,V=((w.alloc (.cells #[iv r.i,iv r.u,.slice r.sa r.sn r.sc,.slice r.la r.ln r.lc] 115)).alloc (.cells #[iv x.k,iv x.e,iv x.f,iv x.s,iv x.n] 50)).alloc (.cells #[iv 0,iv 0,iv 0,.slice none 0 0,.slice none 0 0] 231):=⟨_,rfl⟩;have V0:Hid (EV w r x V):=by show EV w r x V;rw[hV];exact EV.new w r x
 obtain⟨⟨hk1,hk2⟩,⟨he1,he2⟩,⟨hn1,hn2⟩,_⟩:=qH1 hst;have HSD:Hid (∀W,EV w r x W->CP 101 #[.pointer (some ⟨w.heap.size,0,none⟩),.agg #[iv x.k,iv x.e,iv x.f,iv x.s,iv x.n]] W fun d w'=>d=.returned (.bool false)/\Below W.heap.size W w'):=fun W q=>by rw[<- hsx];exact qK7 _ r x W q.rb (HR.out _ q.bl).1.said (by omega)
 have HOF:Hid (∀W,EV w r x W->CP 212 #[.pointer (some ⟨w.heap.size,0,none⟩),.slice a m cap,iv x.e] W fun d w'=>d=.returned (iv (qB7 E r.ss x.e))/\Below W.heap.size W w'):=fun W q=>QQ3 E _ r a m cap cs x.e W HEC.out.es q.rb (HR.out _ q.bl).1.said (by omega) (HR.out _ q.bl).2.1 hm hm8 ⟨he1,he2⟩
 have h40':(r.sn:Int)<40:=by omega
 have k1:(x.k==1)=false:=by simp[hk4]
 have k3:(x.k==3)=false:=by simp[hk4]
 have k4:(x.k==4)=true:=by simp[hk4]
 clear hk4;have HNX:Hid (∀W,EV w r x W->CP 214 #[.pointer (some ⟨w.heap.size,0,none⟩),.slice a m cap,.pointer (some ⟨w.heap.size+1,0,none⟩)] W fun d w'=>d=.returned (iv k)/\Below W.heap.size W w'):=fun W q=>by rw[<- hk];exact qEg E _ r a m cap cs _ x W HEC.out.es q.rb (HR.out _ q.bl).1.said (by omega) (HR.out _ q.bl).2.1 hm8 q.xa ⟨he1,he2⟩ ⟨hn1,hn2⟩
 clear hsx hk;have HS:=hJJ hS;clear hS;obtain⟨i0,hi,hz0,hz1,hz2⟩:=jT Tryz.info50;clear hr hN hsm hc hEC hRp hsl hll hst;go_enter func181,ntmps181;go_upto_region 1 with fail
 rw[<- hV];clear hV;go_wp2_with fail
 refine (HF.out _ V0.out.xa).mono ?_;rintro d w1 ⟨rfl,rfl⟩;have a0:=V0.out.rb.1;have a1:=V0.out.rb.2.1;have a2:=V0.out.rb.2.2.1;have a3:=V0.out.rb.2.2.2;have hvl:w.heap.size<V.heap.size:=by have:=V0.out.lt;omega
 have HCP:=qU4 r V (HR.out _ V0.out.bl).1 HN.out (by omega) (by omega);go_wp2_with fail
 refine HCP.mono ?_;clear HCP;rintro d w2 ⟨gs,sc,gl,lc,rfl,ho1,ho2,hb2⟩;obtain⟨Y,hY⟩:∃Y,Y=w2.alloc (.cells #[iv r.i,iv r.u,.slice (some ⟨gs,0,none⟩) r.sn sc,.slice (some ⟨gl,0,none⟩) r.ln lc] 115):=⟨_,rfl⟩;have AY:Below w2.heap.size w2 Y:=by rw[hY];exact zN
 have hvl3:=V0.out.lt;have hs2:=hb2.size
 have O1:Hid (OX w r x w2.heap.size gs sc (some ⟨gl,0,none⟩) lc r.ls Y):=by
  refine⟨(V0.out.below hb2).below AY,?_,qC9 (ho1.below AY) (by omega),?_,by omega⟩
  .rw[hY,HSL.out.2];exact qP6 w2 _
  .rw[HSL.out.2];exact qB0 (ho2.below AY) (by omega)
 have hq2:w.heap.size+2<w2.heap.size:=by omega
 clear a0 a1 a2 a3 hvl hvl3 hs2 ho1 ho2 hb2 AY V0;go_upto_region 5 with fail
 rw[<- hY];clear hY;generalize w2.heap.size=q at O1 hq2 ⊢
 obtain⟨x0,x1,x2,x3,x4⟩:=O1.out.ev.xa;simp only[gG]at x0 x1 x2 x3 x4;have hxl:w.heap.size+1<_:=gS O1.out.ev.lt;go_wp2_with fail
 refine (HSD.out _ O1.out.ev).mono ?_;rintro d w3 ⟨rfl,hb3⟩;have O3:=qB4 (O1.out.below hb3);clear hb3 O1;clear x0 x1 x2 x3 x4 hxl;obtain⟨x0,x1,x2,x3,x4⟩:=O3.out.ev.xa;simp only[gG]at x0 x1 x2 x3 x4;have hxl:w.heap.size+1<_:=gS O3.out.ev.lt;go_wp2_with fail
 refine (HOF.out _ O3.out.ev).mono ?_;rintro d w4 ⟨rfl,hb4⟩;have O4:=qB4 (O3.out.below hb4);clear hb4 O3;clear x0 x1 x2 x3 x4 hxl;have a2:=O4.out.ev.rb.2.2.1;have hal:w.heap.size<w4.heap.size:=by have:=O4.out.ev.lt;omega
 obtain⟨x0,x1,x2,x3,x4⟩:=O4.out.ev.xa;simp only[gG]at x0 x1 x2 x3 x4;have hxl:w.heap.size+1<_:=gS O4.out.ev.lt;go_wp2_with fail
 refine (HNX.out _ O4.out.ev).mono ?_;rintro d w5 ⟨rfl,hb5⟩;have O5:=qB4 (O4.out.below hb5);clear hb5 a2 hal O4;clear x0 x1 x2 x3 x4 hxl;by_cases hk0:k=0
 .subst hk0;obtain⟨U,hU⟩:∃U,U=w5.alloc (.cells #[iv x.k,iv x.e,iv x.f,iv x.s,iv x.n] 50):=⟨_,rfl⟩;have AU:Below w5.heap.size w5 U:=by rw[hU];exact zN
  have OU:=qB4 (O5.out.below AU)
  have RU:Hid (U.ownsRow (w.heap.size+3) 50 5 (.slice (some ⟨gs,0,none⟩) r.sn sc) r.sn (qD4 r.ss)):=by
   have q:=OU.out.so;unfold qF0 at q;rw[HSL.out.1]at q;exact q
  have PU:Hid (qL2 U (some ⟨w5.heap.size,0,none⟩) 1 [x]):=by show qL2 _ _ _ _;rw[hU];exact QL6 w5 x _
  have hUs:w.heap.size+3<=U.heap.size:=by have:=OU.out.ev.lt;omega
  obtain⟨x0,x1,x2,x3,x4⟩:=O5.out.ev.xa;simp only[gG]at x0 x1 x2 x3 x4;have hxl:w.heap.size+1<_:=gS O5.out.ev.lt;have o2:=qA9 O5.out.ob 2;simp at o2;have hql:=O5.out.qlt;have hxl2:w.heap.size+1<w5.heap.size:=hxl;go_upto_region 23 with fail
  go_wp2_with (first | (at_builtin;rw[<- hU];refine qS3 rfl _ _ 38 rfl (w.heap.size+3) 50 i0 (.agg #[iv 0,iv 0,iv 0,iv 0,iv 0]) 5 40 underlying38 hi hz0 hz1 hz2 rfl (by decide) (.slice (some ⟨gs,0,none⟩) r.sn sc) r.sn (qD4 r.ss) rfl RU.out (by simp) (some ⟨w5.heap.size,0,none⟩) 1 1 (qD4 [x]) rfl (fun e=>by cases e) rfl (fun p e=>by cases e;exact QA8 PU.out) (qO5 _) (by unfold maxLen;omega) (by omega) hUs ?_) | fail)
  intro v6 w6 hown6 hgrow6 hnil6
  have E6:qF0 w6 (w.heap.size+3) v6 S:=by
   rw[<- HS.out];show World.ownsRow _ _ 50 5 _ (r.ss++[x]).length (qD4 (r.ss++[x]))
   rw[qN7,jD,HSL.out.1];exact hown6
  obtain⟨g6,cap6,hv6⟩:=E6.shape hnil6;subst hv6;have hgU:U.grownBy w6 (some gs):=by first | exact hgrow6 | (rw[hU];exact hgrow6)
  obtain⟨Z6,B6,K6,L6⟩:=OU.out.said (by rw[HS.out];exact E6) hgU;obtain⟨w7,hw7⟩:∃w7,w7=w6.setCell ⟨q,2,none⟩ (.slice (some ⟨g6,0,none⟩) S.length cap6):=⟨_,rfl⟩;have K7:w7.heap[q]?=some (.cells #[iv r.i,iv r.u,.slice (some ⟨g6,0,none⟩) S.length cap6,.slice (some ⟨gl,0,none⟩) r.ls.length lc] 115 (0,0)):=by rw[hw7];exact qQ3 K6
  have Z7:qJ2 (w.heap.size+2) [iv 0,iv 0,iv 0,.slice none 0 0,.slice none 0 0] w7:=by rw[hw7];exact Z6.other (by show q≠_;omega) _
  have B7:Hid (Below w.heap.size w w7):=by show Below _ _ _;rw[hw7];exact B6.setCell (by show w.heap.size<=q;omega) _
  have E7:Hid (qF0 w7 (w.heap.size+3) (.slice (some ⟨g6,0,none⟩) S.length cap6) S):=by
   show qF0 _ _ _ _
   rw[hw7];exact qA4 E6 (fun g e=>by obtain⟨cur,hcc,_⟩:=qE0 E6 e;exact zS (qL7 hcc K6 (by decide)))
  have L7:Hid (qB2 w7 (w.heap.size+3) (.slice (some ⟨gl,0,none⟩) r.ls.length lc) r.ls):=by
   show qB2 _ _ _ _
   rw[hw7];exact qA4 L6 (fun g e=>by obtain⟨cur,hcc,_⟩:=qD8 L6 e;exact zS (qL7 hcc K6 (by decide)))
  have k2:=qA9 K6 2;simp at k2;have kf2:=QB4 K6 2;have hq6:=(gN.1 K6).1;clear hown6 hgrow6 hnil6 hgU E6 Z6 B6 L6 x0 x1 x2 x3 x4 hxl hxl2 o2 hql RU PU AU OU hU O5;go_upto_region 24 with fail
  rw[<- hw7];clear hw7 k2 kf2 hq6;have o0:=qA9 K7 0;have o1:=qA9 K7 1;have o2:=qA9 K7 2;have o3:=qA9 K7 3;simp at o0 o1 o2 o3;have hql:=(gN.1 K7).1;have z0:=Z7.1 0 _ rfl;have z1:=Z7.1 1 _ rfl;have z2:=Z7.1 2 _ rfl;have z3:=Z7.1 3 _ rfl;have z4:=Z7.1 4 _ rfl;have f0:=Z7.2 0;have f1:=Z7.2 1;have f2:=Z7.2 2;have f3:=Z7.2 3;have f4:=Z7.2 4;have hzl:w.heap.size+2<w7.heap.size:=by omega
  have hqn:w.heap.size+2≠q:=by omega
  clear K7 Z7 K6;go_wp2_with fail
  refine gQ (v:=.agg #[iv 0,iv r.i,iv r.u,.slice (some ⟨g6,0,none⟩) S.length cap6,.slice (some ⟨gl,0,none⟩) r.ls.length lc]) (by simp[results,results181,go_sem,z0,z1,z2,z3,z4,hzl]) rfl ?_;refine⟨(((((B7.out.setCell (by show w.heap.size<=w.heap.size+2;omega) _).setCell (by show w.heap.size<=w.heap.size+2;omega) _).setCell (by show w.heap.size<=w.heap.size+2;omega) _).setCell (by show w.heap.size<=w.heap.size+2;omega) _).setCell (by show w.heap.size<=w.heap.size+2;omega) _),fun q=>absurd rfl q,fun _=>?_⟩;refine⟨some ⟨g6,0,none⟩,cap6,(some ⟨gl,0,none⟩),lc,rfl,qC9 (qA4 E7.out (fun g e=>?_)) (by omega),qB0 (qA4 L7.out (fun g e=>?_)) (by omega)⟩
  .obtain⟨cur,hcc,hgg⟩:=qE0 E7.out e;rw[zS (by show g≠w.heap.size+2;omega),zS (by show g≠w.heap.size+2;omega),zS (by show g≠w.heap.size+2;omega),zS (by show g≠w.heap.size+2;omega),zS (by show g≠w.heap.size+2;omega)]
  .obtain⟨cur,hcc,hgg⟩:=qD8 L7.out e;rw[zS (by show g≠w.heap.size+2;omega),zS (by show g≠w.heap.size+2;omega),zS (by show g≠w.heap.size+2;omega),zS (by show g≠w.heap.size+2;omega),zS (by show g≠w.heap.size+2;omega)]
 .have kb:(k != 0)=true:=by simp[hk0]
  have z0:=O5.out.ev.rs.1 0 _ rfl;have z1:=O5.out.ev.rs.1 1 _ rfl;have z2:=O5.out.ev.rs.1 2 _ rfl;have z3:=O5.out.ev.rs.1 3 _ rfl;have z4:=O5.out.ev.rs.1 4 _ rfl;have f0:=O5.out.ev.rs.2 0;have f1:=O5.out.ev.rs.2 1;have f2:=O5.out.ev.rs.2 2;have f3:=O5.out.ev.rs.2 3;have f4:=O5.out.ev.rs.2 4;have hzl:=O5.out.ev.lt;go_wp2_with fail
  refine gQ (v:=.agg #[iv k,iv 0,iv 0,.slice none 0 0,.slice none 0 0]) (by simp[results,results181,go_sem,z0,z1,z2,z3,z4,hzl]) rfl ?_;exact⟨(((((O5.out.ev.bl.setCell (by show w.heap.size<=w.heap.size+2;omega) _).setCell (by show w.heap.size<=w.heap.size+2;omega) _).setCell (by show w.heap.size<=w.heap.size+2;omega) _).setCell (by show w.heap.size<=w.heap.size+2;omega) _).setCell (by show w.heap.size<=w.heap.size+2;omega) _),fun _=>rfl,fun q=>absurd q (by first | assumption | decide)⟩
theorem QQ4(E:qH3)(r:qD2)(a:Option Addr)(m cap:Nat)(cs:List qA5)(x:StI)(w:World)(hr:qE7 w r)(hN:qK9 r)(hsm:∀p,r.la=some p->∃b0 o0,p=⟨b0,o0,none⟩/\b0<w.heap.size)(hc:qA7 w a m cs)(hEC:qN0 E cs)(hm:0<m)(hm8:m<=8)(hRp:RpS E r.ss r.ls)(hst:qB5 x=0)(hsx:qC4 r.ss x=false)(p:Nat)(hp:qB7 E r.ss x.e=(p:Int))(h40:r.sn<40)(hk1':x.k=1)(c:qA5)(hpc:cs[p]?=some c)(gs:List GrI)(hg:QM8 c.zs gs)(k:Int)(L:List LkI)(hI:∀(b bx g o:Nat) (W:World),IsA W b r g o c gs bx x->qH7 213 #[.pointer (some ⟨b,0,none⟩),.pointer (some ⟨g,o,none⟩),.pointer (some ⟨bx,0,none⟩)] k L W)(hk0:k≠0):
  CP 181 #[.agg #[iv r.i,iv r.u,.slice r.sa r.sn r.sc,.slice r.la r.ln r.lc],.slice a m cap,.agg #[iv x.k,iv x.e,iv x.f,iv x.s,iv x.n]] w fun d w'=>qGl r k [] [] w d w':=by
 have hsl:r.ss.length=r.sn:=hr.said.1;have hll:r.ls.length=r.ln:=hr.locks.1;have hs40:r.sn<=40:=by have:=hRp.len;omega
 have hl200:r.ln<=200:=by have:=(QJ0 hRp.lk).1;omega
 have hs40':(r.sn:Int)<=40:=by omega
 have HR:Hid (∀W,Below w.heap.size w W->qE7 W r/\qA7 W a m cs/\(∀p,r.la=some p->∃b0 o0,p=⟨b0,o0,none⟩/\b0<W.heap.size)):=fun W hb=>⟨hr.below hb,hc.below hb,fun p e=>by obtain⟨b0,o0,q,hl⟩:=hsm p e;exact⟨b0,o0,q,gD hl hb.size⟩⟩
 have HSL:Hid (r.ss.length=r.sn/\r.ls.length=r.ln):=⟨hsl,hll⟩;have HN:=hJJ hN;have HEC:=hJJ hEC;have HRP:=hJJ hRp;have HF:Hid (∀W,qM9 W (w.heap.size+1) 0 x->CP 62 #[.pointer (some ⟨w.heap.size+1,0,none⟩)] W fun e w'=>e=.returned (iv 0)/\W=w'):=fun W q=>by rw[<- hst];exact qK1 _ _ x W q
 obtain⟨V,hV⟩:∃V,V=((w.alloc (.cells #[iv r.i,iv r.u,.slice r.sa r.sn r.sc,.slice r.la r.ln r.lc] 115)).alloc (.cells #[iv x.k,iv x.e,iv x.f,iv x.s,iv x.n] 50)).alloc (.cells #[iv 0,iv 0,iv 0,.slice none 0 0,.slice none 0 0] 231):=⟨_,rfl⟩;have V0:Hid (EV w r x V):=by show EV w r x V;rw[hV];exact EV.new w r x
 obtain⟨⟨hk1,hk2⟩,⟨he1,he2⟩,⟨hn1,hn2⟩,_⟩:=qH1 hst;have HX0:=hJJ hst;have HX1:=hJJ hk1';have HSD:Hid (∀W,EV w r x W->CP 101 #[.pointer (some ⟨w.heap.size,0,none⟩),.agg #[iv x.k,iv x.e,iv x.f,iv x.s,iv x.n]] W fun d w'=>d=.returned (.bool false)/\Below W.heap.size W w'):=fun W q=>by rw[<- hsx];exact qK7 _ r x W q.rb (HR.out _ q.bl).1.said (by omega)
 have h40':(r.sn:Int)<40:=by omega
 have hpl:p<m:=by
  have:=(gY.1 hpc).1;have:=hc.len;omega
 have hpl':(p:Int)<(m:Int):=by omega
 have hp0':¬ ((p:Int)<0):=by omega
 obtain⟨g,off,c',rfl,hc',_,_⟩:=hc.at hpl
 obtain rfl:c=c':=gJ (hpc.symm.trans hc')
 have HIS:Hid (∀W,EV w r x W->qH7 213 #[.pointer (some ⟨w.heap.size,0,none⟩),.pointer (some ⟨g,off+p*5,none⟩),.pointer (some ⟨w.heap.size+1,0,none⟩)] k L W):=fun W q=>by
  obtain⟨hr1,hc1,hs1⟩:=HR.out _ q.bl;obtain⟨⟨d1,_,_,d4⟩,_⟩:=HEC.out.cf _ c hpc;obtain⟨g',off',c'',e',hc'',hat',hci'⟩:=hc1.at hpl
  cases e';obtain rfl:c=c'':=gJ (hpc.symm.trans hc'');exact hI _ _ _ _ W ⟨q.rb,hr1,by omega,HN.out.l,hs1,HRP.out.lk,hat',hci',d1,d4,hg,q.xa,HX0.out,HX1.out⟩
 unfold qH7 at HIS;have k1:(x.k==1)=true:=by simp[hk1']
 have HOF:Hid (∀W,EV w r x W->CP 212 #[.pointer (some ⟨w.heap.size,0,none⟩),.slice (some ⟨g,off,none⟩) m cap,iv x.e] W fun d w'=>d=.returned (iv (p:Int))/\Below W.heap.size W w'):=fun W q=>by rw[<- hp];exact QQ3 E _ r _ m cap cs x.e W HEC.out.es q.rb (HR.out _ q.bl).1.said (by omega) (HR.out _ q.bl).2.1 hm hm8 ⟨he1,he2⟩
 have kb:(k != 0)=true:=by simp[hk0]
 clear hsx hI hpc hc' hk1' hp;clear hr hN hsm hc hEC hRp hsl hll hst;go_enter func181,ntmps181;go_upto_region 1 with fail
 rw[<- hV];clear hV;go_wp2_with fail
 refine (HF.out _ V0.out.xa).mono ?_;rintro d w1 ⟨rfl,rfl⟩;have a0:=V0.out.rb.1;have a1:=V0.out.rb.2.1;have a2:=V0.out.rb.2.2.1;have a3:=V0.out.rb.2.2.2;have hvl:w.heap.size<V.heap.size:=by have:=V0.out.lt;omega
 have HCP:=qU4 r V (HR.out _ V0.out.bl).1 HN.out (by omega) (by omega);go_wp2_with fail
 refine HCP.mono ?_;clear HCP;rintro d w2 ⟨gs_,sc,gl,lc,rfl,ho1,ho2,hb2⟩;obtain⟨Y,hY⟩:∃Y,Y=w2.alloc (.cells #[iv r.i,iv r.u,.slice (some ⟨gs_,0,none⟩) r.sn sc,.slice (some ⟨gl,0,none⟩) r.ln lc] 115):=⟨_,rfl⟩;have AY:Below w2.heap.size w2 Y:=by rw[hY];exact zN
 have hvl3:=V0.out.lt;have hs2:=hb2.size
 have O1:Hid (OX w r x w2.heap.size gs_ sc (some ⟨gl,0,none⟩) lc r.ls Y):=by
  refine⟨(V0.out.below hb2).below AY,?_,qC9 (ho1.below AY) (by omega),?_,by omega⟩
  .rw[hY,HSL.out.2];exact qP6 w2 _
  .rw[HSL.out.2];exact qB0 (ho2.below AY) (by omega)
 have hq2:w.heap.size+2<w2.heap.size:=by omega
 clear a0 a1 a2 a3 hvl hvl3 hs2 ho1 ho2 hb2 AY V0;go_upto_region 5 with fail
 rw[<- hY];clear hY;generalize w2.heap.size=q at O1 hq2 ⊢
 obtain⟨x0,x1,x2,x3,x4⟩:=O1.out.ev.xa;simp only[gG]at x0 x1 x2 x3 x4;have hxl:w.heap.size+1<_:=gS O1.out.ev.lt;go_wp2_with fail
 refine (HSD.out _ O1.out.ev).mono ?_;rintro d w3 ⟨rfl,hb3⟩;have O3:=qB4 (O1.out.below hb3);clear hb3 O1;clear x0 x1 x2 x3 x4 hxl;obtain⟨x0,x1,x2,x3,x4⟩:=O3.out.ev.xa;simp only[gG]at x0 x1 x2 x3 x4;have hxl:w.heap.size+1<_:=gS O3.out.ev.lt;go_wp2_with fail
 refine (HOF.out _ O3.out.ev).mono ?_;rintro d w4 ⟨rfl,hb4⟩;have O4:=qB4 (O3.out.below hb4);clear hb4 O3;clear x0 x1 x2 x3 x4 hxl;have a2:=O4.out.ev.rb.2.2.1;have hal:w.heap.size<w4.heap.size:=by have:=O4.out.ev.lt;omega
 obtain⟨x0,x1,x2,x3,x4⟩:=O4.out.ev.xa;simp only[gG]at x0 x1 x2 x3 x4;have hxl:w.heap.size+1<_:=gS O4.out.ev.lt;go_wp2_with fail
 refine (HIS.out _ O4.out.ev).mono ?_;rintro d w5 ⟨la',lc',rfl,ho5,hb5⟩;obtain⟨T,hT⟩:∃T,T=w5.alloc (.cells #[iv k,.slice la' L.length lc'] 272):=⟨_,rfl⟩;have AT:Below w5.heap.size w5 T:=by rw[hT];exact zN
 have O5:=qB4 ((O4.out.below hb5).below AT);have XT:Hid (QD0 w5.heap.size [iv k,.slice la' L.length lc'] T/\w5.heap.size<T.heap.size):=by rw[hT];exact⟨(qG3 w5 _ _).out,by simp⟩
 have LT:Hid (qB2 T (w.heap.size+3) (.slice la' L.length lc') L):=qB0 (ho5.below AT) (by have:=O4.out.ev.lt;omega);clear hb5 ho5 AT a2 hal O4;clear x0 x1 x2 x3 x4 hxl;go_upto_region 15 with fail
 rw[<- hT];clear hT;generalize w5.heap.size=q5 at XT ⊢
 have t0:=XT.out.1 0 _ rfl;have t1:=XT.out.1 1 _ rfl;have htl:=XT.out.2;have z0:=O5.out.ev.rs.1 0 _ rfl;have z1:=O5.out.ev.rs.1 1 _ rfl;have z2:=O5.out.ev.rs.1 2 _ rfl;have z3:=O5.out.ev.rs.1 3 _ rfl;have z4:=O5.out.ev.rs.1 4 _ rfl;have f0:=O5.out.ev.rs.2 0;have f1:=O5.out.ev.rs.2 1;have f2:=O5.out.ev.rs.2 2;have f3:=O5.out.ev.rs.2 3;have f4:=O5.out.ev.rs.2 4;have hzl:=O5.out.ev.lt;go_wp2_with fail
 refine gQ (v:=.agg #[iv k,iv 0,iv 0,.slice none 0 0,.slice none 0 0]) (by simp[results,results181,go_sem,z0,z1,z2,z3,z4,hzl]) rfl ?_;exact⟨(((((O5.out.ev.bl.setCell (by show w.heap.size<=w.heap.size+2;omega) _).setCell (by show w.heap.size<=w.heap.size+2;omega) _).setCell (by show w.heap.size<=w.heap.size+2;omega) _).setCell (by show w.heap.size<=w.heap.size+2;omega) _).setCell (by show w.heap.size<=w.heap.size+2;omega) _),fun _=>rfl,fun q=>absurd q (by first | assumption | decide)⟩
theorem QT7(E:qH3)(r:qD2)(a:Option Addr)(m cap:Nat)(cs:List qA5)(x:StI)(w:World)(hr:qE7 w r)(hN:qK9 r)(hsm:∀p,r.la=some p->∃b0 o0,p=⟨b0,o0,none⟩/\b0<w.heap.size)(hc:qA7 w a m cs)(hEC:qN0 E cs)(hm:0<m)(hm8:m<=8)(hRp:RpS E r.ss r.ls)(hst:qB5 x=0)(hsx:qC4 r.ss x=false)(p:Nat)(hp:qB7 E r.ss x.e=(p:Int))(h40:r.sn<40)(hk1':x.k=1)(c:qA5)(hpc:cs[p]?=some c)(gs:List GrI)(hg:QM8 c.zs gs)(k:Int)(L:List LkI)(hI:∀(b bx g o:Nat) (W:World),IsA W b r g o c gs bx x->qH7 213 #[.pointer (some ⟨b,0,none⟩),.pointer (some ⟨g,o,none⟩),.pointer (some ⟨bx,0,none⟩)] k L W)(hk0:k=0)(S:List StI)(hS:r.ss++[x]=S):
  CP 181 #[.agg #[iv r.i,iv r.u,.slice r.sa r.sn r.sc,.slice r.la r.ln r.lc],.slice a m cap,.agg #[iv x.k,iv x.e,iv x.f,iv x.s,iv x.n]] w fun d w'=>qGl r 0 S L w d w':=by
 have hsl:r.ss.length=r.sn:=hr.said.1;have hll:r.ls.length=r.ln:=hr.locks.1;have hs40:r.sn<=40:=by have:=hRp.len;omega
 have hl200:r.ln<=200:=by have:=(QJ0 hRp.lk).1;omega
 have hs40':(r.sn:Int)<=40:=by omega
 have HR:Hid (∀W,Below w.heap.size w W->qE7 W r/\qA7 W a m cs/\(∀p,r.la=some p->∃b0 o0,p=⟨b0,o0,none⟩/\b0<W.heap.size)):=fun W hb=>⟨hr.below hb,hc.below hb,fun p e=>by obtain⟨b0,o0,q,hl⟩:=hsm p e;exact⟨b0,o0,q,gD hl hb.size⟩⟩
 have HSL:Hid (r.ss.length=r.sn/\r.ls.length=r.ln):=⟨hsl,hll⟩;have HN:=hJJ hN;have HEC:=hJJ hEC;have HRP:=hJJ hRp;have HF:Hid (∀W,qM9 W (w.heap.size+1) 0 x->CP 62 #[.pointer (some ⟨w.heap.size+1,0,none⟩)] W fun e w'=>e=.returned (iv 0)/\W=w'):=fun W q=>by rw[<- hst];exact qK1 _ _ x W q
 obtain⟨V,hV⟩:∃V,V=((w.alloc (.cells #[iv r.i,iv r.u,.slice r.sa r.sn r.sc,.slice r.la r.ln r.lc] 115)).alloc (.cells #[iv x.k,iv x.e,iv x.f,iv x.s,iv x.n] 50)).alloc (.cells #[iv 0,iv 0,iv 0,.slice none 0 0,.slice none 0 0] 231):=⟨_,rfl⟩;have V0:Hid (EV w r x V):=by show EV w r x V;rw[hV];exact EV.new w r x
 obtain⟨⟨hk1,hk2⟩,⟨he1,he2⟩,⟨hn1,hn2⟩,_⟩:=qH1 hst;have HX0:=hJJ hst;have HX1:=hJJ hk1';have HSD:Hid (∀W,EV w r x W->CP 101 #[.pointer (some ⟨w.heap.size,0,none⟩),.agg #[iv x.k,iv x.e,iv x.f,iv x.s,iv x.n]] W fun d w'=>d=.returned (.bool false)/\Below W.heap.size W w'):=fun W q=>by rw[<- hsx];exact qK7 _ r x W q.rb (HR.out _ q.bl).1.said (by omega)
 have h40':(r.sn:Int)<40:=by omega
 have hpl:p<m:=by
  have:=(gY.1 hpc).1;have:=hc.len;omega
 have hpl':(p:Int)<(m:Int):=by omega
 have hp0':¬ ((p:Int)<0):=by omega
 obtain⟨g,off,c',rfl,hc',_,_⟩:=hc.at hpl
 obtain rfl:c=c':=gJ (hpc.symm.trans hc')
 have HIS:Hid (∀W,EV w r x W->qH7 213 #[.pointer (some ⟨w.heap.size,0,none⟩),.pointer (some ⟨g,off+p*5,none⟩),.pointer (some ⟨w.heap.size+1,0,none⟩)] k L W):=fun W q=>by
  obtain⟨hr1,hc1,hs1⟩:=HR.out _ q.bl;obtain⟨⟨d1,_,_,d4⟩,_⟩:=HEC.out.cf _ c hpc;obtain⟨g',off',c'',e',hc'',hat',hci'⟩:=hc1.at hpl
  cases e';obtain rfl:c=c'':=gJ (hpc.symm.trans hc'');exact hI _ _ _ _ W ⟨q.rb,hr1,by omega,HN.out.l,hs1,HRP.out.lk,hat',hci',d1,d4,hg,q.xa,HX0.out,HX1.out⟩
 unfold qH7 at HIS;have k1:(x.k==1)=true:=by simp[hk1']
 have HOF:Hid (∀W,EV w r x W->CP 212 #[.pointer (some ⟨w.heap.size,0,none⟩),.slice (some ⟨g,off,none⟩) m cap,iv x.e] W fun d w'=>d=.returned (iv (p:Int))/\Below W.heap.size W w'):=fun W q=>by rw[<- hp];exact QQ3 E _ r _ m cap cs x.e W HEC.out.es q.rb (HR.out _ q.bl).1.said (by omega) (HR.out _ q.bl).2.1 hm hm8 ⟨he1,he2⟩
 clear hsx hI hpc hc' hk1' hp;subst hk0;have HS:=hJJ hS;clear hS;obtain⟨i0,hi,hz0,hz1,hz2⟩:=jT Tryz.info50;clear hr hN hsm hc hEC hRp hsl hll hst;go_enter func181,ntmps181;go_upto_region 1 with fail
 rw[<- hV];clear hV;go_wp2_with fail
 refine (HF.out _ V0.out.xa).mono ?_;rintro d w1 ⟨rfl,rfl⟩;have a0:=V0.out.rb.1;have a1:=V0.out.rb.2.1;have a2:=V0.out.rb.2.2.1;have a3:=V0.out.rb.2.2.2;have hvl:w.heap.size<V.heap.size:=by have:=V0.out.lt;omega
 have HCP:=qU4 r V (HR.out _ V0.out.bl).1 HN.out (by omega) (by omega);go_wp2_with fail
 refine HCP.mono ?_;clear HCP;rintro d w2 ⟨gs_,sc,gl,lc,rfl,ho1,ho2,hb2⟩;obtain⟨Y,hY⟩:∃Y,Y=w2.alloc (.cells #[iv r.i,iv r.u,.slice (some ⟨gs_,0,none⟩) r.sn sc,.slice (some ⟨gl,0,none⟩) r.ln lc] 115):=⟨_,rfl⟩;have AY:Below w2.heap.size w2 Y:=by rw[hY];exact zN
 have hvl3:=V0.out.lt;have hs2:=hb2.size
 have O1:Hid (OX w r x w2.heap.size gs_ sc (some ⟨gl,0,none⟩) lc r.ls Y):=by
  refine⟨(V0.out.below hb2).below AY,?_,qC9 (ho1.below AY) (by omega),?_,by omega⟩
  .rw[hY,HSL.out.2];exact qP6 w2 _
  .rw[HSL.out.2];exact qB0 (ho2.below AY) (by omega)
 have hq2:w.heap.size+2<w2.heap.size:=by omega
 clear a0 a1 a2 a3 hvl hvl3 hs2 ho1 ho2 hb2 AY V0;go_upto_region 5 with fail
 rw[<- hY];clear hY;generalize w2.heap.size=q at O1 hq2 ⊢
 obtain⟨x0,x1,x2,x3,x4⟩:=O1.out.ev.xa;simp only[gG]at x0 x1 x2 x3 x4;have hxl:w.heap.size+1<_:=gS O1.out.ev.lt;go_wp2_with fail
 refine (HSD.out _ O1.out.ev).mono ?_;rintro d w3 ⟨rfl,hb3⟩;have O3:=qB4 (O1.out.below hb3);clear hb3 O1;clear x0 x1 x2 x3 x4 hxl;obtain⟨x0,x1,x2,x3,x4⟩:=O3.out.ev.xa;simp only[gG]at x0 x1 x2 x3 x4;have hxl:w.heap.size+1<_:=gS O3.out.ev.lt;go_wp2_with fail
 refine (HOF.out _ O3.out.ev).mono ?_;rintro d w4 ⟨rfl,hb4⟩;have O4:=qB4 (O3.out.below hb4);clear hb4 O3;clear x0 x1 x2 x3 x4 hxl;have a2:=O4.out.ev.rb.2.2.1;have hal:w.heap.size<w4.heap.size:=by have:=O4.out.ev.lt;omega
 obtain⟨x0,x1,x2,x3,x4⟩:=O4.out.ev.xa;simp only[gG]at x0 x1 x2 x3 x4;have hxl:w.heap.size+1<_:=gS O4.out.ev.lt;go_wp2_with fail
 refine (HIS.out _ O4.out.ev).mono ?_;rintro d w5 ⟨la',lc',rfl,ho5,hb5⟩;obtain⟨T,hT⟩:∃T,T=w5.alloc (.cells #[iv 0,.slice la' L.length lc'] 272):=⟨_,rfl⟩;have AT:Below w5.heap.size w5 T:=by rw[hT];exact zN
 have O5:=qB4 ((O4.out.below hb5).below AT);have XT:Hid (QD0 w5.heap.size [iv 0,.slice la' L.length lc'] T/\w5.heap.size<T.heap.size):=by rw[hT];exact⟨(qG3 w5 _ _).out,by simp⟩
 have LT:Hid (qB2 T (w.heap.size+3) (.slice la' L.length lc') L):=qB0 (ho5.below AT) (by have:=O4.out.ev.lt;omega);clear hb5 ho5 AT a2 hal O4;clear x0 x1 x2 x3 x4 hxl;go_upto_region 15 with fail
 rw[<- hT];clear hT;generalize w5.heap.size=q5 at XT ⊢
 have t0:=XT.out.1 0 _ rfl;have t1:=XT.out.1 1 _ rfl;have htl:=XT.out.2;have o3:=qA9 O5.out.ob 3;simp at o3;have of3:=QB4 O5.out.ob 3;have hql:=O5.out.qlt;obtain⟨T2,hT2⟩:∃T2,T2=T.setCell ⟨q,3,none⟩ (.slice la' L.length lc'):=⟨_,rfl⟩;have O6:Hid (OX w r x q gs_ sc la' lc' L T2):=by show OX _ _ _ _ _ _ _ _ _ _;rw[hT2];exact O5.out.lock LT.out
 go_upto_region 23 with fail
 rw[<- hT2];clear hT2 o3 of3 hql t0 t1 htl XT LT O5;obtain⟨U,hU⟩:∃U,U=T2.alloc (.cells #[iv x.k,iv x.e,iv x.f,iv x.s,iv x.n] 50):=⟨_,rfl⟩;have AU:Below T2.heap.size T2 U:=by rw[hU];exact zN
 have OU:=qB4 (O6.out.below AU)
 have RU:Hid (U.ownsRow (w.heap.size+3) 50 5 (.slice (some ⟨gs_,0,none⟩) r.sn sc) r.sn (qD4 r.ss)):=by
  have q:=OU.out.so;unfold qF0 at q;rw[HSL.out.1]at q;exact q
 have PU:Hid (qL2 U (some ⟨T2.heap.size,0,none⟩) 1 [x]):=by show qL2 _ _ _ _;rw[hU];exact QL6 T2 x _
 have hUs:w.heap.size+3<=U.heap.size:=by have:=OU.out.ev.lt;omega
 obtain⟨x0,x1,x2,x3,x4⟩:=O6.out.ev.xa;simp only[gG]at x0 x1 x2 x3 x4;have hxl:w.heap.size+1<_:=gS O6.out.ev.lt;have o2:=qA9 O6.out.ob 2;simp at o2;have hql:=O6.out.qlt;have hxl2:w.heap.size+1<T2.heap.size:=hxl;go_wp2_with (first | (at_builtin;rw[<- hU];refine qS3 rfl _ _ 38 rfl (w.heap.size+3) 50 i0 (.agg #[iv 0,iv 0,iv 0,iv 0,iv 0]) 5 40 underlying38 hi hz0 hz1 hz2 rfl (by decide) (.slice (some ⟨gs_,0,none⟩) r.sn sc) r.sn (qD4 r.ss) rfl RU.out (by simp) (some ⟨T2.heap.size,0,none⟩) 1 1 (qD4 [x]) rfl (fun e=>by cases e) rfl (fun p e=>by cases e;exact QA8 PU.out) (qO5 _) (by unfold maxLen;omega) (by omega) hUs ?_) | fail)
 intro v6 w6 hown6 hgrow6 hnil6
 have E6:qF0 w6 (w.heap.size+3) v6 S:=by
  rw[<- HS.out];show World.ownsRow _ _ 50 5 _ (r.ss++[x]).length (qD4 (r.ss++[x]))
  rw[qN7,jD,HSL.out.1];exact hown6
 obtain⟨g6,cap6,hv6⟩:=E6.shape hnil6;subst hv6;have hgU:U.grownBy w6 (some gs_):=by first | exact hgrow6 | (rw[hU];exact hgrow6)
 obtain⟨Z6,B6,K6,L6⟩:=OU.out.said (by rw[HS.out];exact E6) hgU;obtain⟨w7,hw7⟩:∃w7,w7=w6.setCell ⟨q,2,none⟩ (.slice (some ⟨g6,0,none⟩) S.length cap6):=⟨_,rfl⟩;have K7:w7.heap[q]?=some (.cells #[iv r.i,iv r.u,.slice (some ⟨g6,0,none⟩) S.length cap6,.slice la' L.length lc'] 115 (0,0)):=by rw[hw7];exact qQ3 K6
 have Z7:qJ2 (w.heap.size+2) [iv 0,iv 0,iv 0,.slice none 0 0,.slice none 0 0] w7:=by rw[hw7];exact Z6.other (by show q≠_;omega) _
 have B7:Hid (Below w.heap.size w w7):=by show Below _ _ _;rw[hw7];exact B6.setCell (by show w.heap.size<=q;omega) _
 have E7:Hid (qF0 w7 (w.heap.size+3) (.slice (some ⟨g6,0,none⟩) S.length cap6) S):=by
  show qF0 _ _ _ _
  rw[hw7];exact qA4 E6 (fun g e=>by obtain⟨cur,hcc,_⟩:=qE0 E6 e;exact zS (qL7 hcc K6 (by decide)))
 have L7:Hid (qB2 w7 (w.heap.size+3) (.slice la' L.length lc') L):=by
  show qB2 _ _ _ _
  rw[hw7];exact qA4 L6 (fun g e=>by obtain⟨cur,hcc,_⟩:=qD8 L6 e;exact zS (qL7 hcc K6 (by decide)))
 have k2:=qA9 K6 2;simp at k2;have kf2:=QB4 K6 2;have hq6:=(gN.1 K6).1;clear hown6 hgrow6 hnil6 hgU E6 Z6 B6 L6 x0 x1 x2 x3 x4 hxl hxl2 o2 hql RU PU AU OU hU O6;go_upto_region 24 with fail
 rw[<- hw7];clear hw7 k2 kf2 hq6;have o0:=qA9 K7 0;have o1:=qA9 K7 1;have o2:=qA9 K7 2;have o3:=qA9 K7 3;simp at o0 o1 o2 o3;have hql:=(gN.1 K7).1;have z0:=Z7.1 0 _ rfl;have z1:=Z7.1 1 _ rfl;have z2:=Z7.1 2 _ rfl;have z3:=Z7.1 3 _ rfl;have z4:=Z7.1 4 _ rfl;have f0:=Z7.2 0;have f1:=Z7.2 1;have f2:=Z7.2 2;have f3:=Z7.2 3;have f4:=Z7.2 4;have hzl:w.heap.size+2<w7.heap.size:=by omega
 have hqn:w.heap.size+2≠q:=by omega
 clear K7 Z7 K6;go_wp2_with fail
 refine gQ (v:=.agg #[iv 0,iv r.i,iv r.u,.slice (some ⟨g6,0,none⟩) S.length cap6,.slice la' L.length lc']) (by simp[results,results181,go_sem,z0,z1,z2,z3,z4,hzl]) rfl ?_;refine⟨(((((B7.out.setCell (by show w.heap.size<=w.heap.size+2;omega) _).setCell (by show w.heap.size<=w.heap.size+2;omega) _).setCell (by show w.heap.size<=w.heap.size+2;omega) _).setCell (by show w.heap.size<=w.heap.size+2;omega) _).setCell (by show w.heap.size<=w.heap.size+2;omega) _),fun q=>absurd rfl q,fun _=>?_⟩;refine⟨some ⟨g6,0,none⟩,cap6,la',lc',rfl,qC9 (qA4 E7.out (fun g e=>?_)) (by omega),qB0 (qA4 L7.out (fun g e=>?_)) (by omega)⟩
 .obtain⟨cur,hcc,hgg⟩:=qE0 E7.out e;rw[zS (by show g≠w.heap.size+2;omega),zS (by show g≠w.heap.size+2;omega),zS (by show g≠w.heap.size+2;omega),zS (by show g≠w.heap.size+2;omega),zS (by show g≠w.heap.size+2;omega)]
 .obtain⟨cur,hcc,hgg⟩:=qD8 L7.out e;rw[zS (by show g≠w.heap.size+2;omega),zS (by show g≠w.heap.size+2;omega),zS (by show g≠w.heap.size+2;omega),zS (by show g≠w.heap.size+2;omega),zS (by show g≠w.heap.size+2;omega)]
theorem QM6{r:qD2}{k:Int}{S S':List StI}{L L':List LkI}{w:World}{d:Ending}{w':World}(h:qGl r k S L w d w')(hk:k≠0):qGl r k S' L' w d w':=⟨h.1,h.2.1,fun q=>absurd q hk⟩
theorem qBT(E:qH3)(r:qD2)(a:Option Addr)(m cap:Nat)(cs:List qA5)(x:StI)(w:World)(hr:qE7 w r)(hN:qK9 r)(hsm:∀p,r.la=some p->∃b0 o0,p=⟨b0,o0,none⟩/\b0<w.heap.size)(hc:qA7 w a m cs)(hEC:qN0 E cs)(hm:0<m)(hm8:m<=8)(hRp:RpS E r.ss r.ls):
  CP 181 #[.agg #[iv r.i,iv r.u,.slice r.sa r.sn r.sc,.slice r.la r.ln r.lc],.slice a m cap,.agg #[iv x.k,iv x.e,iv x.f,iv x.s,iv x.n]] w fun d w'=>qGl r (qF3 E r.ss r.ls x) (QB3 r.ss x) (qU7 E r.ss r.ls x) w d w':=by
 have hsl:r.ss.length=r.sn:=hr.said.1;by_cases hst:qB5 x=0
 .cases hsx:qC4 r.ss x
  .have eC:qF3 E r.ss r.ls x=qF6 E r.ss r.ls x:=by unfold qF3;rw[gK hst,hsx,gI (by decide)]
   have eS:QB3 r.ss x=r.ss++[x]:=by unfold QB3;rw[hsx,gI (by decide)]
   have eL:qU7 E r.ss r.ls x=qE4 E r.ss r.ls x:=by unfold qU7;rw[hsx,gI (by decide)]
   rw[eC,eS,eL];have hml:cs.length=m:=hc.len;have hel:E.es.length=m:=by rw[hEC.es,kD,hml]
   obtain⟨⟨hk1,hk2⟩,_⟩:=qH1 hst;rcases qEk hRp (by omega) x.e with hkn | ⟨hp0,hpl⟩
   .have hneg:qB7 E r.ss x.e<0:=by omega
    have e:qF6 E r.ss r.ls x=4:=by unfold qF6;rw[gK hneg]
    rw[e];exact (qGC E r a m cap cs x w hr hN hsm hc hEC hm hm8 hRp hst hsx hneg).mono fun d w' h=>QM6 h (by decide)
   .have hneg:¬ qB7 E r.ss x.e<0:=by omega
    by_cases h40:40<=r.ss.length
    .have e:qF6 E r.ss r.ls x=2:=by unfold qF6;rw[gI hneg,gK h40]
     rw[e];exact (qGE E r a m cap cs x w hr hN hsm hc hEC hm hm8 hRp hst hsx hp0 (by omega)).mono fun d w' h=>QM6 h (by decide)
    .by_cases k1:x.k=1
     .obtain⟨p,hp⟩:=gP hp0;obtain⟨c,hpc⟩:∃c,cs[p]?=some c:=⟨_,gA (by omega)⟩;obtain⟨_,gs,hg,hal,hcl⟩:=hEC.cf _ c hpc
      have hnk:qF6 E r.ss r.ls x=qH5 E r.ss r.ls p x:=by
       unfold qF6;rw[gI hneg,gI h40,gK k1,hp];rfl
      have hnl:qE4 E r.ss r.ls x=qL4 r.ls c.cs x.e x.f x.s:=by
       unfold qE4;rw[gK k1,hp];show qL4 r.ls (E.cl p) x.e x.f x.s=_
       rw[hcl]
      have go:∀(k:Int) (L:List LkI),qH5 E r.ss r.ls p x=k->(k=0->qL4 r.ls c.cs x.e x.f x.s=L)->(∀(b bx g o:Nat) (W:World),IsA W b r g o c gs bx x->qH7 213 #[.pointer (some ⟨b,0,none⟩),.pointer (some ⟨g,o,none⟩),.pointer (some ⟨bx,0,none⟩)] k L W)->CP 181 #[.agg #[iv r.i,iv r.u,.slice r.sa r.sn r.sc,.slice r.la r.ln r.lc],.slice a m cap,.agg #[iv x.k,iv x.e,iv x.f,iv x.s,iv x.n]] w fun d w'=>qGl r (qF6 E r.ss r.ls x) (r.ss++[x]) (qE4 E r.ss r.ls x) w d w':=fun k L hk hL hI=>by
       rw[hnk,hk];by_cases hk0:k=0
       .rw[hnl,hL hk0,hk0];exact QT7 E r a m cap cs x w hr hN hsm hc hEC hm hm8 hRp hst hsx p hp (by omega) k1 c hpc gs hg k L hI hk0 _ rfl
       .exact (QQ4 E r a m cap cs x w hr hN hsm hc hEC hm hm8 hRp hst hsx p hp (by omega) k1 c hpc gs hg k L hI hk0).mono fun d w' h=>QM6 h hk0
      cases h1:qV1 r.ss x.e
      .cases h2:qC4 r.ss (qT6 x)
       .cases hw:alW (qA3 c.fs) gs x.f x.s
        .refine go 8 [] ?_ (fun q=>by cases q) (fun b bx g o W q=>qGK b r g o c gs bx x W q h1 h2 hw);unfold qH5;rw[h1,h2,gI (by decide),hal,hw,gK rfl]
        .refine go _ _ ?_ (fun _=>rfl) (fun b bx g o W q=>qDL b r g o c gs bx x W q h1 h2 hw);unfold qH5;rw[h1,h2,gI (by decide),hal,hw,gI (by decide),hcl]
       .refine go 9 [] ?_ (fun q=>by cases q) (fun b bx g o W q=>qDN b r g o c gs bx x W q h1 h2);unfold qH5;rw[h1,h2,gK (by decide)]
      .refine go 9 [] ?_ (fun q=>by cases q) (fun b bx g o W q=>qDM b r g o c gs bx x W q h1);unfold qH5;rw[h1,Bool.true_or,gK rfl]
     .have hnl:qE4 E r.ss r.ls x=r.ls:=by
       unfold qE4;rw[gI k1]
      rw[hnl];by_cases k2:x.k=2
      .have e:qF6 E r.ss r.ls x=0:=by unfold qF6;rw[gI hneg,gI h40,gI k1,gK k2]
       rw[e];exact qBU E r a m cap cs x w hr hN hsm hc hEC hm hm8 hRp hst hsx hp0 (by omega) k2 _ rfl
      .have e:qF6 E r.ss r.ls x=qC7 E r.ss x:=by unfold qF6;rw[gI hneg,gI h40,gI k1,gI k2]
       rw[e];by_cases k3:x.k=3
       .exact qGD E r a m cap cs x w hr hN hsm hc hEC hm hm8 hRp hst hsx hp0 (by omega) k3 _ rfl _ rfl
       .exact qGA E r a m cap cs x w hr hN hsm hc hEC hm hm8 hRp hst hsx hp0 (by omega) (by omega) _ rfl _ rfl
  .have eC:qF3 E r.ss r.ls x=0:=by unfold qF3;rw[gK hst,gK hsx]
   have eS:QB3 r.ss x=r.ss:=by unfold QB3;rw[gK hsx]
   have eL:qU7 E r.ss r.ls x=r.ls:=by unfold qU7;rw[gK hsx]
   rw[eC,eS,eL];exact qGB E r a m cap cs x w hr hN hsm hc hEC hm hm8 hRp hst hsx
 .have eC:qF3 E r.ss r.ls x=qB5 x:=by unfold qF3;rw[gI hst]
  rw[eC];exact (qDD E r a m cap cs x w hr hN hsm hc hEC hm hm8 hRp _ rfl hst).mono fun d w' h=>QM6 h hst
structure PL (w:World) (i:Int) (sa:Option Addr) (sc:Nat) (la:Option Addr) (lc:Nat) (ss:List StI) (ls:List LkI) (W:World):Prop where
 rs:qJ2 w.heap.size [.int .i64 0,.int .i64 0,.slice none 0 0,.slice none 0 0] W
 ab:W.heap[w.heap.size+1]?=some (.cells #[.int .i64 i,.int .i64 0,.slice sa ss.length sc,.slice la ls.length lc] 115 (0,0))
 so:qF0 W (w.heap.size+2) (.slice sa ss.length sc) ss
 lo:qB2 W (w.heap.size+2) (.slice la ls.length lc) ls
 bl:Below w.heap.size w W
theorem PL.lt{w:World}{i:Int}{sa:Option Addr}{sc:Nat}{la:Option Addr}{lc:Nat}{ss:List StI}{ls:List LkI}{W:World}(h:PL w i sa sc la lc ss ls W):w.heap.size+1<W.heap.size:=(gN.1 h.ab).1
theorem PL.below{w:World}{i:Int}{sa:Option Addr}{sc:Nat}{la:Option Addr}{lc:Nat}{ss:List StI}{ls:List LkI}{W W':World}(h:PL w i sa sc la lc ss ls W)(hb:Below W.heap.size W W'):PL w i sa sc la lc ss ls W' :=
 ⟨qJ2.below h.rs (gS h.lt) hb,(hb.block _ h.lt).trans h.ab,h.so.below hb,h.lo.below hb,h.bl.trans (hb.mono h.bl.size)⟩
theorem PL.other{w:World}{i:Int}{sa:Option Addr}{sc:Nat}{la:Option Addr}{lc:Nat}{ss:List StI}{ls:List LkI}{W:World}(h:PL w i sa sc la lc ss ls W){p:Addr}(h0:w.heap.size+1<p.block)(h1:∀g,(Value.slice sa ss.length sc).ownBlock=some g->g≠p.block)(h2:∀g,(Value.slice la ls.length lc).ownBlock=some g->g≠p.block)(v:Value):PL w i sa sc la lc ss ls (W.setCell p v) :=
 ⟨h.rs.other (by omega) v,(zS (by omega)).trans h.ab,qA4 h.so (fun g e=>zS (h1 g e)),qA4 h.lo (fun g e=>zS (h2 g e)),h.bl.setCell (by omega) v⟩
theorem PL.rows{w:World}{i:Int}{sa:Option Addr}{sc:Nat}{la:Option Addr}{lc:Nat}{ss:List StI}{ls:List LkI}{W:World}(h:PL w i sa sc la lc ss ls W):(∀g,(Value.slice sa ss.length sc).ownBlock=some g->g<W.heap.size)/\(∀g,(Value.slice la ls.length lc).ownBlock=some g->g<W.heap.size) :=
 ⟨fun g e=>by obtain⟨cur,hc,_⟩:=qE0 h.so e;exact (gN.1 hc).1,fun g e=>by obtain⟨cur,hc,_⟩:=qD8 h.lo e;exact (gN.1 hc).1⟩
def plR(i:Int)(sa:Option Addr)(sc:Nat)(la:Option Addr)(lc:Nat)(ss:List StI)(ls:List LkI):qD2:=⟨i,0,sa,ss.length,sc,ss,la,ls.length,lc,ls⟩
theorem PL.rep{w:World}{i:Int}{sa:Option Addr}{sc:Nat}{la:Option Addr}{lc:Nat}{ss:List StI}{ls:List LkI}{W:World}(h:PL w i sa sc la lc ss ls W):qE7 W (plR i sa sc la lc ss ls)/\qK9 (plR i sa sc la lc ss ls)/\(∀p,la=some p->∃b0 o0,p=⟨b0,o0,none⟩/\b0<W.heap.size)/\qJ5 W (w.heap.size+1) (plR i sa sc la lc ss ls):=by
 refine⟨⟨StV.isIn rfl h.so.view,LkV.isIn rfl h.lo.view⟩,⟨fun e=>?_,fun e=>?_⟩,fun p e=>?_,⟨qA9 h.ab 0,qA9 h.ab 1,qA9 h.ab 2,qA9 h.ab 3⟩⟩
 .rcases h.so.form with⟨q,_⟩ | ⟨g,c,q,_⟩
  .injection q with q1 q2 q3
   exact⟨q2,q3⟩
  .have : sa=some ⟨g,0,none⟩:=by injection q
   rw[show sa=none from e]at this;cases this
 .rcases h.lo.form with⟨q,_⟩ | ⟨g,c,q,_⟩
  .injection q with q1 q2 q3
   exact⟨q2,q3⟩
  .have : la=some ⟨g,0,none⟩:=by injection q
   rw[show la=none from e]at this;cases this
 .rcases h.lo.form with⟨q,_⟩ | ⟨g,c,q,_,hg,_⟩
  .have : la=none:=by injection q
   rw[e]at this;cases this
  .have : la=some ⟨g,0,none⟩:=by injection q
   rw[e]at this;cases this;exact⟨g,0,rfl,hg⟩
theorem PL.renew{w:World}{i:Int}{sa:Option Addr}{sc:Nat}{la:Option Addr}{lc:Nat}{ss:List StI}{ls:List LkI}{W:World}(h:PL w i sa sc la lc ss ls W){sa':Option Addr}{sc':Nat}{la':Option Addr}{lc':Nat}{S:List StI}{L:List LkI}(ho1:qF0 W (w.heap.size+2) (.slice sa' S.length sc') S)(ho2:qB2 W (w.heap.size+2) (.slice la' L.length lc') L):
  PL w i sa' sc' la' lc' S L ((((W.setCell ⟨w.heap.size+1,0,none⟩ (iv i)).setCell ⟨w.heap.size+1,1,none⟩ (iv 0)).setCell ⟨w.heap.size+1,2,none⟩ (.slice sa' S.length sc')).setCell ⟨w.heap.size+1,3,none⟩ (.slice la' L.length lc')):=by
 have ne:∀g,w.heap.size+2<=g->g≠w.heap.size+1:=fun g hg=>by omega
 have nb:(⟨w.heap.size+1,0,none⟩:Addr).block≠w.heap.size:=by show w.heap.size+1≠w.heap.size;omega
 refine⟨(((h.rs.other nb _).other (p:=⟨w.heap.size+1,1,none⟩) nb _).other (p:=⟨w.heap.size+1,2,none⟩) nb _).other (p:=⟨w.heap.size+1,3,none⟩) nb _,qQ3 (qQ3 (qQ3 (qQ3 h.ab))),qA4 ho1 (fun g e=>?_),qA4 ho2 (fun g e=>?_),(((h.bl.setCell (kF _) _).setCell (kF _) _).setCell (kF _) _).setCell (kF _) _⟩
 .obtain⟨cur,hcc,hgg⟩:=qE0 ho1 e;rw[zS (ne g hgg),zS (ne g hgg),zS (ne g hgg),zS (ne g hgg)]
 .obtain⟨cur,hcc,hgg⟩:=qD8 ho2 e;rw[zS (ne g hgg),zS (ne g hgg),zS (ne g hgg),zS (ne g hgg)]
theorem qKr{q:Nat}{x0 x1 x2 x3 x4:Value}{X:World}(h:qJ2 q [x0,x1,x2,x3,x4] X)(y0 y1 y2 y3 y4:Value):qJ2 q [y0,y1,y2,y3,y4] (((((X.setCell ⟨q,0,none⟩ y0).setCell ⟨q,1,none⟩ y1).setCell ⟨q,2,none⟩ y2).setCell ⟨q,3,none⟩ y3).setCell ⟨q,4,none⟩ y4) :=
 ((((h.put 0 (by simp) y0).put 1 (by simp) y1).put 2 (by simp) y2).put 3 (by simp) y3).put 4 (by simp) y4
def PC(w:World)(i:Int)(sa:Option Addr)(sc:Nat)(la:Option Addr)(lc:Nat)(ss:List StI)(ls:List LkI)(e:Int)(S:List StI)(L:List LkI)(s:Value)(W:World):Prop:=∃q:Nat,s=.pointer (some ⟨q,0,none⟩)/\PL w i sa sc la lc ss ls W/\q<W.heap.size/\w.heap.size+1<q/\∃j1 sa' n1 sc' la' n2 lc',QD0 q [iv e,iv j1,iv 0,.slice sa' n1 sc',.slice la' n2 lc'] W/\(e≠0\/(j1=i/\n1=S.length/\n2=L.length/\qF0 W (w.heap.size+2) (.slice sa' n1 sc') S/\qB2 W (w.heap.size+2) (.slice la' n2 lc') L))
def qPH(i:Int)(xs:List StI)(n:Nat)(o:Option (List LkI))(w:World)(d:Ending)(w':World):Prop :=
 Below w.heap.size w w'/\(∀ls,o=some ls->∃(sa:Option Addr) (sc:Nat) (la:Option Addr) (lc:Nat),d=.returned (.tuple #[.agg #[iv i,iv 0,.slice sa n sc,.slice la ls.length lc],.bool true])/\qF0 w' (w.heap.size+1) (.slice sa n sc) xs/\qB2 w' (w.heap.size+1) (.slice la ls.length lc) ls)/\(o=none->∃(sa:Option Addr) (sn sc:Nat) (la:Option Addr) (ln lc:Nat),d=.returned (.tuple #[.agg #[iv i,iv 0,.slice sa sn sc,.slice la ln lc],.bool false]))
theorem qAG(E:qH3)(i:Int)(a:Option Addr)(m cap:Nat)(cs:List qA5)(ta:Option Addr)(n tc:Nat)(xs:List StI)(w:World)(hEC:qN0 E cs)(hc:qA7 w a m cs)(hm:0<m)(hm8:m<=8)(h:qL2 w ta n xs)(hn:n<=1048576):
  CP 133 #[iv i,.slice a m cap,.slice ta n tc] w fun d w'=>qPH i xs n (qF5 E xs n) w d w':=by
 have HEC:=hJJ hEC;have HC:Hid (∀W,Below w.heap.size w W->qA7 W a m cs/\qL2 W ta n xs):=fun W hb=>⟨hc.below hb,h.below hb⟩
 have hn':(n:Int)<=1048576:=by omega
 have HXL:=hJJ h.1;obtain⟨V,hV⟩:∃V,V=(w.alloc (.cells #[iv 0,iv 0,.slice none 0 0,.slice none 0 0] 115)).alloc (.cells #[iv i,iv 0,.slice none 0 0,.slice none 0 0] 115):=⟨_,rfl⟩
 have L0:Hid (PL w i none 0 none 0 [] [] V):=by
  show PL _ _ _ _ _ _ _ _ _
  rw[hV];refine⟨qJ2.below (qI5 w _ _) (by simp) (zN),?_,jB _ _ _ _,jB _ _ _ _,(zN).alloc (by simp) _⟩;have e:w.heap.size+1=(w.alloc (.cells #[iv 0,iv 0,.slice none 0 0,.slice none 0 0] 115)).heap.size:=by simp
  have q:=qEv (w.alloc (.cells #[iv 0,iv 0,.slice none 0 0,.slice none 0 0] 115)) (.cells #[iv i,iv 0,.slice none 0 0,.slice none 0 0] 115);rw[<- e]at q;exact q
 clear hEC hc h;go_enter func133,ntmps133;go_upto_region 2 with fail
 rw[<- hV];clear hV;go_wp2_with fail
 go_loopw [9] (fun j wr=>∃(k:Nat) (ls:List LkI) (sa:Option Addr) (sc:Nat) (la:Option Addr) (lc:Nat),k<=n/\j=iv (k:Int)/\Hid (qF5 E xs k=some ls)/\Hid (PL w i sa sc la lc (xs.take k) ls wr)) (fun j _=>n-(intOf j).toNat)
 case atStart=>exact⟨0,[],none,0,none,0,gH _,rfl,rfl,L0⟩
 case round =>
  clear L0;obtain⟨k,ls,sa,sc,la,lc,hk,rfl,HPL,P4⟩:=hrel;by_cases hlt:k<n
  .have hlt':(k:Int)<(n:Int):=by omega
   obtain⟨b,off,x,ea,hx,hat,hbl⟩:=(HC.out _ P4.out.bl).2.at hlt
   subst ea;have HXK:=hJJ hx;have HTK:Hid ((xs.take k).length=k):=by show _=_;rw[kI];have:=HXL.out;omega
   obtain⟨ss,hss⟩:∃ss,xs.take k=ss:=⟨_,rfl⟩;have HSS:=hJJ hss;have hRp:RpS E ss ls:=by rw[<- hss];exact QO6 k ls (by have:=HXL.out;omega) HPL.out
   rw[hss]at P4;obtain⟨t,ht⟩:∃t,qC4 ss x=t:=⟨_,rfl⟩;have HT:=hJJ ht;have HRP:=hJJ hRp
   have HSD:Hid (CP 101 #[.pointer (some ⟨w.heap.size+1,0,none⟩),.agg #[iv x.k,iv x.e,iv x.f,iv x.s,iv x.n]] wr fun d w'=>d=.returned (.bool t)/\Below wr.heap.size wr w'):=by
    show Calls _ _ _ _ _
    rw[<- ht];exact qK7 _ (plR i sa sc la lc ss ls) x wr P4.out.rep.2.2.2 P4.out.rep.1.said (by show ss.length<=1048576;have:=hRp.len;omega)
   obtain⟨h0,h1,h2,h3,h4⟩:=hat;clear hss ht hRp hx;go_wp2_with fail
   refine HSD.out.mono ?_;rintro d w5 ⟨rfl,hb5⟩;have P5:=qB4 (P4.out.below hb5);have hat5:qM9 w5 b (off+k*5) x:=qM9.below ⟨h0,h1,h2,h3,h4⟩ hb5 hbl;have hbl5:b<w5.heap.size:=gD hbl hb5.size;clear HSD h0 h1 h2 h3 h4 hbl hb5 P4;cases t
   .obtain⟨e,he⟩:∃e,qF3 E ss ls x=e:=⟨_,rfl⟩;have HE:=hJJ he;obtain⟨S,hS0⟩:∃S,ss++[x]=S:=⟨_,rfl⟩;have HS0:=hJJ hS0;obtain⟨L,hL0⟩:∃L,qE4 E ss ls x=L:=⟨_,rfl⟩;have HL0:=hJJ hL0
    have HEN:Hid (∀W,PL w i sa sc la lc ss ls W->CP 181 #[.agg #[iv i,iv 0,.slice sa ss.length sc,.slice la ls.length lc],.slice a m cap,.agg #[iv x.k,iv x.e,iv x.f,iv x.s,iv x.n]] W fun d w'=>∃(j1:Int) (sa':Option Addr) (n1 sc':Nat) (la':Option Addr) (n2 lc':Nat),d=.returned (.agg #[iv e,iv j1,iv 0,.slice sa' n1 sc',.slice la' n2 lc'])/\Below W.heap.size W w'/\(e≠0\/(j1=i/\n1=S.length/\n2=L.length/\qF0 w' W.heap.size (.slice sa' n1 sc') S/\qB2 w' W.heap.size (.slice la' n2 lc') L))):=fun W q=>by
     have eS:QB3 ss x=S:=by unfold QB3;rw[HT.out,gI (by decide)];exact hS0
     have eL:qU7 E ss ls x=L:=by unfold qU7;rw[HT.out,gI (by decide)];exact hL0
     have c:=qBT E (plR i sa sc la lc ss ls) a m cap cs x W q.rep.1 q.rep.2.1 q.rep.2.2.1 (HC.out _ q.bl).1 HEC.out hm hm8 HRP.out;have eC':qF3 E (plR i sa sc la lc ss ls).ss (plR i sa sc la lc ss ls).ls x=e:=he;have eS':QB3 (plR i sa sc la lc ss ls).ss x=S:=eS;have eL':qU7 E (plR i sa sc la lc ss ls).ss (plR i sa sc la lc ss ls).ls x=L:=eL;rw[eC',eS',eL']at c;refine Calls.mono c ?_;rintro d w' ⟨g1,g2,g3⟩;by_cases e0:e=0
     .obtain⟨sa',sc',la',lc',gd,go1,go2⟩:=g3 e0;exact⟨i,sa',S.length,sc',la',L.length,lc',by rw[gd,e0];rfl,g1,.inr ⟨rfl,rfl,rfl,go1,go2⟩⟩
     .exact⟨0,none,0,0,none,0,0,g2 e0,g1,.inl e0⟩
    clear he hS0 hL0;go_upto_region 7 with fail
    obtain⟨h0,h1,h2,h3,h4⟩:=hat5;have o0:=qA9 P5.out.ab 0;have o1:=qA9 P5.out.ab 1;have o2:=qA9 P5.out.ab 2;have o3:=qA9 P5.out.ab 3;simp only[List.getElem?_toArray,List.getElem?_cons_zero,List.getElem?_cons_succ]at o0 o1 o2 o3;have hol:=P5.out.lt;go_cut [10] from 25 to 31 (fun s W=>PC w i sa sc la lc ss ls e S L s W)
    case first =>
     refine gL (S:=fun w'=>(∀b o,b<w5.heap.size->w'.cell? ⟨b,o,none⟩=w5.cell? ⟨b,o,none⟩)/\Below w5.heap.size w5 w') (by kernel_rfl) (qA8 _) (fun hHeld=>?_);refine Zk.go [0,1,2,3,4,5] ?_
     iterate 6
      refine Zk.st (v:=?_) rfl ?_ ?_;rotate_left 1
      .intro w hSw;(try dsimp only at hSw);go_simp;try (with_reducible rfl)
      try simp only[Act.put,zA,zB,zC,zD,zE,zF]
     refine Zk.fin ?_;refine wpAnyH_ready (rs:=[6,7]) (by kernel_rfl) (by simp) ?_;refine kC rfl (fun K hK=>?_) (kC rfl (fun K hK=>?_) mB)
     .go_simp;refine (HEN.out _ (P5.out.below hHeld.2)).mono ?_;rintro d w2 ⟨j1,sa',n1,sc',la',n2,lc',rfl,hb2,hR⟩;have hS:=qA0 hHeld hb2;have hs2:=hb2.size;have hs2':w5.heap.size<=w2.heap.size:=hs2;have hS2:=qB4 hS.2;refine hK.out _ _ hS (fun hHeld=>?_);clear hK K;try simp only[Act.put,zA,zB,zC,zD,zE,zF]
      refine Zk.rd (i:=7) rfl (fun K hK=>?_);go_simp;have hS:=kpN (hHeld.2.alloc hHeld.2.size (.cells #[iv 0,iv 0,iv 0,.slice none 0 0,.slice none 0 0] 231));refine hK.out _ _ hS (fun hHeld=>?_);clear hK K;try simp only[Act.put,zA,zB,zC,zD,zE,zF]
      refine Zk.rd (i:=8) rfl (fun K hK=>?_);go_simp;have hS:=kpN (hS2.out.alloc hS2.out.size (.cells #[iv e,iv j1,iv 0,.slice sa' n1 sc',.slice la' n2 lc'] 231));refine hK.out _ _ hS (fun hHeld=>?_);clear hK K;try simp only[Act.put,zA,zB,zC,zD,zE,zF]
      refine gZ (by kernel_rfl) ?_ _;go_wp2_with fail
      go_meet
      have ha1:w.heap.size+1<w2.heap.size:=by have:=P5.out.lt;omega
      have AA:Below w2.heap.size w2 (w2.alloc (.cells #[iv e,iv j1,iv 0,.slice sa' n1 sc',.slice la' n2 lc'] 231)):=zN;have hPa:PL w i sa sc la lc ss ls (w2.alloc (.cells #[iv e,iv j1,iv 0,.slice sa' n1 sc',.slice la' n2 lc'] 231)):=(P5.out.below hS2.out).below AA;have hB:QD0 w2.heap.size [iv e,iv j1,iv 0,.slice sa' n1 sc',.slice la' n2 lc'] (w2.alloc (.cells #[iv e,iv j1,iv 0,.slice sa' n1 sc',.slice la' n2 lc'] 231)):=(qG3 w2 _ _).out;have hlt2:=P5.out.lt;refine⟨w2.heap.size,rfl,hPa,by simp,ha1,j1,sa',n1,sc',la',n2,lc',hB,hR.imp id (fun q=>⟨q.1,q.2.1,q.2.2.1,(qC9 q.2.2.2.1 (by show w.heap.size+2<=w5.heap.size;omega)).below AA,(qB0 q.2.2.2.2 (by show w.heap.size+2<=w5.heap.size;omega)).below AA⟩)⟩
     .go_simp;have hS:=kpN (hHeld.2.alloc hHeld.2.size (.cells #[iv 0,iv 0,iv 0,.slice none 0 0,.slice none 0 0] 231));refine hK.out _ _ hS (fun hHeld=>?_);clear hK K;try simp only[Act.put,zA,zB,zC,zD,zE,zF]
      refine Zk.rd (i:=6) rfl (fun K hK=>?_);go_simp;refine (HEN.out _ (P5.out.below hHeld.2)).mono ?_;rintro d w2 ⟨j1,sa',n1,sc',la',n2,lc',rfl,hb2,hR⟩;have hS:=qA0 hHeld hb2;have hs2:=hb2.size;have hs2':w5.heap.size+1<=w2.heap.size:=by simpa using hs2
      have XQ:qJ2 w5.heap.size [iv 0,iv 0,iv 0,.slice none 0 0,.slice none 0 0] w2:=qJ2.below (qI5 w5.drew _ _) (by simp) hb2;have hS2:=qB4 hS.2;have z0:=XQ.1 0 _ rfl;have z1:=XQ.1 1 _ rfl;have z2:=XQ.1 2 _ rfl;have z3:=XQ.1 3 _ rfl;have z4:=XQ.1 4 _ rfl;have f0:=XQ.2 0;have f1:=XQ.2 1;have f2:=XQ.2 2;have f3:=XQ.2 3;have f4:=XQ.2 4;have hql:w5.heap.size<w2.heap.size:=hs2';refine hK.out _ _ hS (fun hHeld=>?_);clear hK K;try simp only[Act.put,zA,zB,zC,zD,zE,zF]
      refine Zk.rd (i:=8) rfl (fun K hK=>?_);go_simp;have hS:=kpN (((((hHeld.2.setCell (p:=⟨w5.heap.size,0,none⟩) (gB _) (iv e)).setCell (p:=⟨w5.heap.size,1,none⟩) (gB _) (iv j1)).setCell (p:=⟨w5.heap.size,2,none⟩) (gB _) (iv 0)).setCell (p:=⟨w5.heap.size,3,none⟩) (gB _) (.slice sa' n1 sc')).setCell (p:=⟨w5.heap.size,4,none⟩) (gB _) (.slice la' n2 lc'));refine hK.out _ _ hS (fun hHeld=>?_);clear hK K;try simp only[Act.put,zA,zB,zC,zD,zE,zF]
      refine gZ (by kernel_rfl) ?_ _;go_wp2_with fail
      go_meet
      have ha1:w.heap.size+1<w5.heap.size:=by have:=P5.out.lt;omega
      have ha2:∀g,(Value.slice sa ss.length sc).ownBlock=some g->g≠w5.heap.size:=fun g e=>by have:=P5.out.rows.1 g e;omega
      have ha3:∀g,(Value.slice la ls.length lc).ownBlock=some g->g≠w5.heap.size:=fun g e=>by have:=P5.out.rows.2 g e;omega
      have hPa:=P5.out.below hS2.out;refine⟨w5.heap.size,rfl,(((((hPa.other (p:=⟨w5.heap.size,0,none⟩) ha1 ha2 ha3 (iv e)).other (p:=⟨w5.heap.size,1,none⟩) ha1 ha2 ha3 (iv j1)).other (p:=⟨w5.heap.size,2,none⟩) ha1 ha2 ha3 (iv 0)).other (p:=⟨w5.heap.size,3,none⟩) ha1 ha2 ha3 (.slice sa' n1 sc')).other (p:=⟨w5.heap.size,4,none⟩) ha1 ha2 ha3 (.slice la' n2 lc')),by simpa using hql,ha1,j1,sa',n1,sc',la',n2,lc',(qKr XQ _ _ _ _ _).1,hR.imp id (fun q=>⟨q.1,q.2.1,q.2.2.1,?_,?_⟩)⟩
      .refine qA4 (qC9 q.2.2.2.1 (by have:=P5.out.lt;simp;omega)) (fun g' e'=>?_);obtain⟨cur,hcc,hgg⟩:=qE0 q.2.2.2.1 e';have hgl:w5.heap.size<g':=by simp at hgg;omega
       rw[zS (by show g'≠w5.heap.size;omega),zS (by show g'≠w5.heap.size;omega),zS (by show g'≠w5.heap.size;omega),zS (by show g'≠w5.heap.size;omega),zS (by show g'≠w5.heap.size;omega)]
      .refine qA4 (qB0 q.2.2.2.2 (by have:=P5.out.lt;simp;omega)) (fun g' e'=>?_);obtain⟨cur,hcc,hgg⟩:=qD8 q.2.2.2.2 e';have hgl:w5.heap.size<g':=by simp at hgg;omega
       rw[zS (by show g'≠w5.heap.size;omega),zS (by show g'≠w5.heap.size;omega),zS (by show g'≠w5.heap.size;omega),zS (by show g'≠w5.heap.size;omega),zS (by show g'≠w5.heap.size;omega)]
    obtain⟨q,rfl,hP,hql,hqn,j1,sa',n1,sc',la',n2,lc',hB,hR⟩:=hcut;have P6:=qB4 hP;have r0:=hB 0 _ rfl;have r1:=hB 1 _ rfl;have r2:=hB 2 _ rfl;have r3:=hB 3 _ rfl;have r4:=hB 4 _ rfl;clear hP hB P5 h0 h1 h2 h3 h4 hbl5 o0 o1 o2 o3 hol HEN;have o0:=qA9 P6.out.ab 0;have o1:=qA9 P6.out.ab 1;have o2:=qA9 P6.out.ab 2;have o3:=qA9 P6.out.ab 3;simp only[List.getElem?_toArray,List.getElem?_cons_zero,List.getElem?_cons_succ]at o0 o1 o2 o3;have hol:=P6.out.lt;have hol0:=gS P6.out.lt;have hon:w.heap.size≠w.heap.size+1:=by omega
    have z0:=P6.out.rs.1 0 _ rfl;have z1:=P6.out.rs.1 1 _ rfl;have z2:=P6.out.rs.1 2 _ rfl;have z3:=P6.out.rs.1 3 _ rfl;have f0:=P6.out.rs.2 0;have f1:=P6.out.rs.2 1;have f2:=P6.out.rs.2 2;have f3:=P6.out.rs.2 3;by_cases e0:e=0
    .obtain⟨hj,hn1,hn2,ho1,ho2⟩:=hR.resolve_left (fun q=>q e0);subst hj hn1 hn2
     have hpm:qF5 E xs (k+1)=some L:=by
      rw[<- HL0.out,<- HSS.out];exact qBM HPL.out HXK.out (by rw[HSS.out,HE.out,e0]) (by rw[HSS.out];exact HT.out)
     have hts:xs.take (k+1)=S:=by
      rw[List.take_add_one,HXK.out,HSS.out];exact HS0.out
     have P7:Hid (PL w j1 sa' sc' la' lc' S L _):=P6.out.renew ho1 ho2;have HPM:=qB4 hpm;have HTS:=qB4 hts;have g0:=QB4 P6.out.ab 0;have g1:=QB4 P6.out.ab 1;have g2:=QB4 P6.out.ab 2;have g3:=QB4 P6.out.ab 3;have hqne:w.heap.size+1≠q:=by omega
     subst e0;clear hpm hts ho1 ho2 hR;go_wp2_with fail
     exact⟨⟨k+1,L,sa',sc',la',lc',by omega,by go_num,HPM,by show PL _ _ _ _ _ _ _ _ _;rw[HTS.out];exact P7.out⟩,by simp[intOf];omega⟩
    .have eb:(e != 0)=true:=by simp[e0]
     have hpn:qF5 E xs n=none:=QC3 (QL8 HPL.out HXK.out (.inl (by rw[HSS.out,HE.out];exact e0))) (by omega);have HPN:=qB4 hpn;clear hpn hR;go_wp2_with fail
     refine gQ (v:=.tuple #[.agg #[iv i,iv 0,.slice sa ss.length sc,.slice la ls.length lc],.bool false]) (by simp[results,results133,go_sem,z0,z1,z2,z3,hol0]) rfl ?_;refine⟨((((P6.out.bl.setCell (gB _) _).setCell (gB _) _).setCell (gB _) _).setCell (gB _) _),fun q hq=>?_,fun _=>⟨_,_,_,_,_,_,rfl⟩⟩;rw[HPN.out]at hq;cases hq
   .have hpn:qF5 E xs n=none:=QC3 (QL8 HPL.out HXK.out (.inr (by rw[HSS.out];exact HT.out))) (by omega);have HPN:=qB4 hpn;clear hpn;have o0:=qA9 P5.out.ab 0;have o1:=qA9 P5.out.ab 1;have o2:=qA9 P5.out.ab 2;have o3:=qA9 P5.out.ab 3;simp only[List.getElem?_toArray,List.getElem?_cons_zero,List.getElem?_cons_succ]at o0 o1 o2 o3;have hol:=P5.out.lt;have hol0:=gS P5.out.lt;have hon:w.heap.size≠w.heap.size+1:=by omega
    have z0:=P5.out.rs.1 0 _ rfl;have z1:=P5.out.rs.1 1 _ rfl;have z2:=P5.out.rs.1 2 _ rfl;have z3:=P5.out.rs.1 3 _ rfl;have f0:=P5.out.rs.2 0;have f1:=P5.out.rs.2 1;have f2:=P5.out.rs.2 2;have f3:=P5.out.rs.2 3;go_wp2_with fail
    refine gQ (v:=.tuple #[.agg #[iv i,iv 0,.slice sa ss.length sc,.slice la ls.length lc],.bool false]) (by simp[results,results133,go_sem,z0,z1,z2,z3,hol0]) rfl ?_;refine⟨((((P5.out.bl.setCell (gB _) _).setCell (gB _) _).setCell (gB _) _).setCell (gB _) _),fun q hq=>?_,fun _=>⟨_,_,_,_,_,_,rfl⟩⟩;rw[HPN.out]at hq;cases hq
  .have hkn:k=n:=by omega
   subst hkn;have htk:xs.take k=xs:=by rw[<- HXL.out];exact kQ
   rw[htk]at P4;have HXX:Hid (xs.length=k):=HXL;have o0:=qA9 P4.out.ab 0;have o1:=qA9 P4.out.ab 1;have o2:=qA9 P4.out.ab 2;have o3:=qA9 P4.out.ab 3;simp only[List.getElem?_toArray,List.getElem?_cons_zero,List.getElem?_cons_succ]at o0 o1 o2 o3;have hol:=P4.out.lt;have hol0:=gS P4.out.lt;have hon:w.heap.size≠w.heap.size+1:=by omega
   have z0:=P4.out.rs.1 0 _ rfl;have z1:=P4.out.rs.1 1 _ rfl;have z2:=P4.out.rs.1 2 _ rfl;have z3:=P4.out.rs.1 3 _ rfl;have f0:=P4.out.rs.2 0;have f1:=P4.out.rs.2 1;have f2:=P4.out.rs.2 2;have f3:=P4.out.rs.2 3;go_wp2_with fail
   refine gQ (v:=.tuple #[.agg #[iv i,iv 0,.slice sa xs.length sc,.slice la ls.length lc],.bool true]) (by simp[results,results133,go_sem,z0,z1,z2,z3,hol0]) rfl ?_;refine⟨((((P4.out.bl.setCell (gB _) _).setCell (gB _) _).setCell (gB _) _).setCell (gB _) _),fun q hq=>?_,fun hq=>?_⟩
   .rw[HPL.out]at hq;cases hq;rw[<- HXX.out];refine⟨sa,sc,la,lc,rfl,qC9 (qA4 P4.out.so (fun g e=>?_)) (by omega),qB0 (qA4 P4.out.lo (fun g e=>?_)) (by omega)⟩
    .obtain⟨cur,hcc,hgg⟩:=qE0 P4.out.so e;rw[zS (by show g≠w.heap.size;omega),zS (by show g≠w.heap.size;omega),zS (by show g≠w.heap.size;omega),zS (by show g≠w.heap.size;omega)]
    .obtain⟨cur,hcc,hgg⟩:=qD8 P4.out.lo e;rw[zS (by show g≠w.heap.size;omega),zS (by show g≠w.heap.size;omega),zS (by show g≠w.heap.size;omega),zS (by show g≠w.heap.size;omega)]
   .rw[HPL.out]at hq;cases hq
