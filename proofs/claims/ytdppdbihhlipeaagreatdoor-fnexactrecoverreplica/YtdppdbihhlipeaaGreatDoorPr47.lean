/- Contracts. -/
import Derived.Test.YtdppdbihhlipeaaGreatDoorPr44
namespace Go.Proofs.YtdppdbihhlipeaaGreatDoor
set_option maxRecDepth 100000
set_option maxHeartbeats 8000000
open Go.RowKit
set_option linter.unusedVariables false
set_option linter.unusedSimpArgs false

theorem qP2 (W:World) (o:Obj):(W.alloc o).heap[W.heap.size]? = some o:=by
 show (W.heap.push o)[W.heap.size]? = _
 simp
theorem qCH (E:qH1) (r:qL4) (a:Option Addr) (m cap:Nat) (cs:List qA4) (x:StI) (w:World) (hr:qG1 w r) (hN:qJ7 r) (hsm:∀ p,r.la=some p->∃ b0 o0,p=⟨b0,o0,none⟩/\b0 < w.heap.size) (hc:qA6 w a m cs) (hEC:qN7 E cs) (hm:0 < m) (hm8:m<=8) (hRp:RpS E r.ss r.ls) (k:Int) (hst:qB5 x=k) (hk0:k≠0) :
  Calls Tryz.prog 46 #[.agg #[.int .i64 r.i,.int .i64 r.u,.slice r.sa r.sn r.sc,.slice r.la r.ln r.lc],.slice a m cap,.agg #[.int .i64 x.k,.int .i64 x.e,.int .i64 x.f,.int .i64 x.s,.int .i64 x.n]] w fun d w'=>qFV r k [] [] w d w':=by
 have hsl:r.ss.length=r.sn:=hr.said.1;have hll:r.ls.length=r.ln:=hr.locks.1;have hs40:r.sn<=40:=by have:=hRp.len;omega
 have hl200:r.ln<=200:=by have:=(QF7 hRp.lk).1;omega
 have hs40':(r.sn:Int)<=40:=by omega
 have HR:Hid (∀ W,Below w.heap.size w W->qG1 W r/\qA6 W a m cs/\(∀ p,r.la=some p->∃ b0 o0,p=⟨b0,o0,none⟩/\b0 < W.heap.size)):=fun W hb=>⟨hr.below hb,hc.below hb,fun p e=>by obtain ⟨b0,o0,q,hl⟩:=hsm p e;exact ⟨b0,o0,q,Nat.lt_of_lt_of_le hl hb.size⟩⟩
 have HSL:Hid (r.ss.length=r.sn/\r.ls.length=r.ln):=⟨hsl,hll⟩;have HN:Hid (qJ7 r):=hN;have HEC:Hid (qN7 E cs):=hEC;have HRP:Hid (RpS E r.ss r.ls):=hRp;have HF:Hid (∀ W,qL3 W (w.heap.size+1) 0 x->Calls Tryz.prog 59 #[.pointer (some ⟨w.heap.size+1,0,none⟩)] W fun e w'=>e = .returned (.int .i64 k)/\W=w'):=fun W q=>by rw [<- hst];exact qJ4 _ _ x W q
 obtain ⟨V,hV⟩:∃ V,V=((w.alloc (.cells #[.int .i64 r.i,.int .i64 r.u,.slice r.sa r.sn r.sc,.slice r.la r.ln r.lc] 36)).alloc (.cells #[.int .i64 x.k,.int .i64 x.e,.int .i64 x.f,.int .i64 x.s,.int .i64 x.n] 85)).alloc (.cells #[.int .i64 0,.int .i64 0,.int .i64 0,.slice none 0 0,.slice none 0 0] 48):=⟨_,rfl⟩;have V0:Hid (EV w r x V):=by show EV w r x V;rw [hV];exact EV.new w r x
 have kb:(k != 0)=true:=by simp [hk0]
 clear hr hN hsm hc hEC hRp hsl hll hst;go_enter Tryz.func46,Tryz.ntmps46;go_upto_region 1 with fail
 rw [<- hV];clear hV;go_wp2_with fail
 refine (HF.out _ V0.out.xa).mono ?_;rintro d w1 ⟨rfl,rfl⟩;have z0:=V0.out.rs.1 0 _ rfl;have z1:=V0.out.rs.1 1 _ rfl;have z2:=V0.out.rs.1 2 _ rfl;have z3:=V0.out.rs.1 3 _ rfl;have z4:=V0.out.rs.1 4 _ rfl;have f0:=V0.out.rs.2 0;have f1:=V0.out.rs.2 1;have f2:=V0.out.rs.2 2;have f3:=V0.out.rs.2 3;have f4:=V0.out.rs.2 4;have hzl:=V0.out.lt;go_wp2_with fail
 refine bodyPost_ret (v:=.agg #[.int .i64 k,.int .i64 0,.int .i64 0,.slice none 0 0,.slice none 0 0]) (by simp [results,Tryz.results46,go_sem,z0,z1,z2,z3,z4,hzl]) rfl ?_;exact ⟨(((((V0.out.bl.setCell (by show w.heap.size<=w.heap.size+2;omega) _).setCell (by show w.heap.size<=w.heap.size+2;omega) _).setCell (by show w.heap.size<=w.heap.size+2;omega) _).setCell (by show w.heap.size<=w.heap.size+2;omega) _).setCell (by show w.heap.size<=w.heap.size+2;omega) _),fun _=>rfl,fun q=>absurd q (by first | assumption | decide)⟩
theorem qEr (E:qH1) (r:qL4) (a:Option Addr) (m cap:Nat) (cs:List qA4) (x:StI) (w:World) (hr:qG1 w r) (hN:qJ7 r) (hsm:∀ p,r.la=some p->∃ b0 o0,p=⟨b0,o0,none⟩/\b0 < w.heap.size) (hc:qA6 w a m cs) (hEC:qN7 E cs) (hm:0 < m) (hm8:m<=8) (hRp:RpS E r.ss r.ls) (hst:qB5 x=0) (hsx:qD9 r.ss x=true) :
  Calls Tryz.prog 46 #[.agg #[.int .i64 r.i,.int .i64 r.u,.slice r.sa r.sn r.sc,.slice r.la r.ln r.lc],.slice a m cap,.agg #[.int .i64 x.k,.int .i64 x.e,.int .i64 x.f,.int .i64 x.s,.int .i64 x.n]] w fun d w'=>qFV r 0 r.ss r.ls w d w':=by
 have hsl:r.ss.length=r.sn:=hr.said.1;have hll:r.ls.length=r.ln:=hr.locks.1;have hs40:r.sn<=40:=by have:=hRp.len;omega
 have hl200:r.ln<=200:=by have:=(QF7 hRp.lk).1;omega
 have hs40':(r.sn:Int)<=40:=by omega
 have HR:Hid (∀ W,Below w.heap.size w W->qG1 W r/\qA6 W a m cs/\(∀ p,r.la=some p->∃ b0 o0,p=⟨b0,o0,none⟩/\b0 < W.heap.size)):=fun W hb=>⟨hr.below hb,hc.below hb,fun p e=>by obtain ⟨b0,o0,q,hl⟩:=hsm p e;exact ⟨b0,o0,q,Nat.lt_of_lt_of_le hl hb.size⟩⟩
 have HSL:Hid (r.ss.length=r.sn/\r.ls.length=r.ln):=⟨hsl,hll⟩;have HN:Hid (qJ7 r):=hN;have HEC:Hid (qN7 E cs):=hEC;have HRP:Hid (RpS E r.ss r.ls):=hRp;have HF:Hid (∀ W,qL3 W (w.heap.size+1) 0 x->Calls Tryz.prog 59 #[.pointer (some ⟨w.heap.size+1,0,none⟩)] W fun e w'=>e = .returned (.int .i64 0)/\W=w'):=fun W q=>by rw [<- hst];exact qJ4 _ _ x W q
 obtain ⟨V,hV⟩:∃ V,V=((w.alloc (.cells #[.int .i64 r.i,.int .i64 r.u,.slice r.sa r.sn r.sc,.slice r.la r.ln r.lc] 36)).alloc (.cells #[.int .i64 x.k,.int .i64 x.e,.int .i64 x.f,.int .i64 x.s,.int .i64 x.n] 85)).alloc (.cells #[.int .i64 0,.int .i64 0,.int .i64 0,.slice none 0 0,.slice none 0 0] 48):=⟨_,rfl⟩;have V0:Hid (EV w r x V):=by show EV w r x V;rw [hV];exact EV.new w r x
 have HSD:Hid (∀ W,EV w r x W->Calls Tryz.prog 47 #[.pointer (some ⟨w.heap.size,0,none⟩),.agg #[.int .i64 x.k,.int .i64 x.e,.int .i64 x.f,.int .i64 x.s,.int .i64 x.n]] W fun d w'=>d = .returned (.bool true)/\Below W.heap.size W w'):=fun W q=>by rw [<- hsx];exact qK3 _ r x W q.rb (HR.out _ q.bl).1.said (by omega)
 clear hsx;clear hr hN hsm hc hEC hRp hsl hll hst;go_enter Tryz.func46,Tryz.ntmps46;go_upto_region 1 with fail
 rw [<- hV];clear hV;go_wp2_with fail
 refine (HF.out _ V0.out.xa).mono ?_;rintro d w1 ⟨rfl,rfl⟩;have a0:=V0.out.rb.1;have a1:=V0.out.rb.2.1;have a2:=V0.out.rb.2.2.1;have a3:=V0.out.rb.2.2.2;have hvl:w.heap.size < V.heap.size:=by have:=V0.out.lt;omega
 have HCP:=qT0 r V (HR.out _ V0.out.bl).1 HN.out (by omega) (by omega);go_wp2_with fail
 refine HCP.mono ?_;clear HCP;rintro d w2 ⟨gs,sc,gl,lc,rfl,ho1,ho2,hb2⟩;obtain ⟨Y,hY⟩:∃ Y,Y=w2.alloc (.cells #[.int .i64 r.i,.int .i64 r.u,.slice (some ⟨gs,0,none⟩) r.sn sc,.slice (some ⟨gl,0,none⟩) r.ln lc] 36):=⟨_,rfl⟩;have AY:Below w2.heap.size w2 Y:=by rw [hY];exact zN
 have hvl3:=V0.out.lt;have hs2:=hb2.size
 have O1:Hid (OX w r x w2.heap.size gs sc (some ⟨gl,0,none⟩) lc r.ls Y):=by
  refine ⟨(V0.out.below hb2).below AY,?_,qC0 (ho1.below AY) (by omega),?_,by omega⟩
  ·rw [hY,HSL.out.2];exact qP2 w2 _
  ·rw [HSL.out.2];exact qB0 (ho2.below AY) (by omega)
 have hq2:w.heap.size+2 < w2.heap.size:=by omega
 clear a0 a1 a2 a3 hvl hvl3 hs2 ho1 ho2 hb2 AY V0;go_upto_region 5 with fail
 rw [<- hY];clear hY;generalize w2.heap.size=q at O1 hq2 ⊢
 obtain ⟨x0,x1,x2,x3,x4⟩:=O1.out.ev.xa;simp only [Nat.zero_add] at x0 x1 x2 x3 x4;have hxl:w.heap.size+1 < _:=Nat.lt_of_succ_lt O1.out.ev.lt;go_wp2_with fail
 refine (HSD.out _ O1.out.ev).mono ?_;rintro d w3 ⟨rfl,hb3⟩;have O3:=qD7 (O1.out.below hb3);clear hb3 O1;clear x0 x1 x2 x3 x4 hxl;have o0:=qA1 O3.out.ob 0;have o1:=qA1 O3.out.ob 1;have o2:=qA1 O3.out.ob 2;have o3:=qA1 O3.out.ob 3;simp at o0 o1 o2 o3;have hql:=O3.out.qlt;have z0:=O3.out.ev.rs.1 0 _ rfl;have z1:=O3.out.ev.rs.1 1 _ rfl;have z2:=O3.out.ev.rs.1 2 _ rfl;have z3:=O3.out.ev.rs.1 3 _ rfl;have z4:=O3.out.ev.rs.1 4 _ rfl;have f0:=O3.out.ev.rs.2 0;have f1:=O3.out.ev.rs.2 1;have f2:=O3.out.ev.rs.2 2;have f3:=O3.out.ev.rs.2 3;have f4:=O3.out.ev.rs.2 4;have hzl:=O3.out.ev.lt;have hqn:w.heap.size+2≠q:=by omega
 go_wp2_with fail
 refine bodyPost_ret (v:=.agg #[.int .i64 0,.int .i64 r.i,.int .i64 r.u,.slice (some ⟨gs,0,none⟩) r.sn sc,.slice (some ⟨gl,0,none⟩) r.ls.length lc]) (by simp [results,Tryz.results46,go_sem,z0,z1,z2,z3,z4,hzl]) rfl ?_;refine ⟨(((((O3.out.ev.bl.setCell (by show w.heap.size<=w.heap.size+2;omega) _).setCell (by show w.heap.size<=w.heap.size+2;omega) _).setCell (by show w.heap.size<=w.heap.size+2;omega) _).setCell (by show w.heap.size<=w.heap.size+2;omega) _).setCell (by show w.heap.size<=w.heap.size+2;omega) _),fun q=>absurd rfl q,fun _=>?_⟩;rw [HSL.out.1];refine ⟨some ⟨gs,0,none⟩,sc,some ⟨gl,0,none⟩,lc,rfl,qC0 (qA0 O3.out.so (fun g e=>?_)) (by omega),qB0 (qA0 O3.out.lo (fun g e=>?_)) (by omega)⟩
 ·obtain ⟨cur,hcc,hgg⟩:=qC5 O3.out.so e;rw [zS (by show g≠w.heap.size+2;omega),zS (by show g≠w.heap.size+2;omega),zS (by show g≠w.heap.size+2;omega),zS (by show g≠w.heap.size+2;omega),zS (by show g≠w.heap.size+2;omega)]
 ·obtain ⟨cur,hcc,hgg⟩:=qC6 O3.out.lo e;rw [zS (by show g≠w.heap.size+2;omega),zS (by show g≠w.heap.size+2;omega),zS (by show g≠w.heap.size+2;omega),zS (by show g≠w.heap.size+2;omega),zS (by show g≠w.heap.size+2;omega)]
theorem qEs (E:qH1) (r:qL4) (a:Option Addr) (m cap:Nat) (cs:List qA4) (x:StI) (w:World) (hr:qG1 w r) (hN:qJ7 r) (hsm:∀ p,r.la=some p->∃ b0 o0,p=⟨b0,o0,none⟩/\b0 < w.heap.size) (hc:qA6 w a m cs) (hEC:qN7 E cs) (hm:0 < m) (hm8:m<=8) (hRp:RpS E r.ss r.ls) (hst:qB5 x=0) (hsx:qD9 r.ss x=false) (hneg:qB6 E r.ss x.e < 0) :
  Calls Tryz.prog 46 #[.agg #[.int .i64 r.i,.int .i64 r.u,.slice r.sa r.sn r.sc,.slice r.la r.ln r.lc],.slice a m cap,.agg #[.int .i64 x.k,.int .i64 x.e,.int .i64 x.f,.int .i64 x.s,.int .i64 x.n]] w fun d w'=>qFV r 4 [] [] w d w':=by
 have hsl:r.ss.length=r.sn:=hr.said.1;have hll:r.ls.length=r.ln:=hr.locks.1;have hs40:r.sn<=40:=by have:=hRp.len;omega
 have hl200:r.ln<=200:=by have:=(QF7 hRp.lk).1;omega
 have hs40':(r.sn:Int)<=40:=by omega
 have HR:Hid (∀ W,Below w.heap.size w W->qG1 W r/\qA6 W a m cs/\(∀ p,r.la=some p->∃ b0 o0,p=⟨b0,o0,none⟩/\b0 < W.heap.size)):=fun W hb=>⟨hr.below hb,hc.below hb,fun p e=>by obtain ⟨b0,o0,q,hl⟩:=hsm p e;exact ⟨b0,o0,q,Nat.lt_of_lt_of_le hl hb.size⟩⟩
 have HSL:Hid (r.ss.length=r.sn/\r.ls.length=r.ln):=⟨hsl,hll⟩;have HN:Hid (qJ7 r):=hN;have HEC:Hid (qN7 E cs):=hEC;have HRP:Hid (RpS E r.ss r.ls):=hRp;have HF:Hid (∀ W,qL3 W (w.heap.size+1) 0 x->Calls Tryz.prog 59 #[.pointer (some ⟨w.heap.size+1,0,none⟩)] W fun e w'=>e = .returned (.int .i64 0)/\W=w'):=fun W q=>by rw [<- hst];exact qJ4 _ _ x W q
 obtain ⟨V,hV⟩:∃ V,V=((w.alloc (.cells #[.int .i64 r.i,.int .i64 r.u,.slice r.sa r.sn r.sc,.slice r.la r.ln r.lc] 36)).alloc (.cells #[.int .i64 x.k,.int .i64 x.e,.int .i64 x.f,.int .i64 x.s,.int .i64 x.n] 85)).alloc (.cells #[.int .i64 0,.int .i64 0,.int .i64 0,.slice none 0 0,.slice none 0 0] 48):=⟨_,rfl⟩;have V0:Hid (EV w r x V):=by show EV w r x V;rw [hV];exact EV.new w r x
 obtain ⟨⟨hk1,hk2⟩,⟨he1,he2⟩,⟨hn1,hn2⟩,_⟩:=qH8 hst;have HSD:Hid (∀ W,EV w r x W->Calls Tryz.prog 47 #[.pointer (some ⟨w.heap.size,0,none⟩),.agg #[.int .i64 x.k,.int .i64 x.e,.int .i64 x.f,.int .i64 x.s,.int .i64 x.n]] W fun d w'=>d = .returned (.bool false)/\Below W.heap.size W w'):=fun W q=>by rw [<- hsx];exact qK3 _ r x W q.rb (HR.out _ q.bl).1.said (by omega)
 have HOF:Hid (∀ W,EV w r x W->Calls Tryz.prog 75 #[.pointer (some ⟨w.heap.size,0,none⟩),.slice a m cap,.int .i64 x.e] W fun d w'=>d = .returned (.int .i64 (qB6 E r.ss x.e))/\Below W.heap.size W w'):=fun W q=>QN8 E _ r a m cap cs x.e W HEC.out.es q.rb (HR.out _ q.bl).1.said (by omega) (HR.out _ q.bl).2.1 hm hm8 ⟨he1,he2⟩
 clear hsx;clear hr hN hsm hc hEC hRp hsl hll hst;go_enter Tryz.func46,Tryz.ntmps46;go_upto_region 1 with fail
 rw [<- hV];clear hV;go_wp2_with fail
 refine (HF.out _ V0.out.xa).mono ?_;rintro d w1 ⟨rfl,rfl⟩;have a0:=V0.out.rb.1;have a1:=V0.out.rb.2.1;have a2:=V0.out.rb.2.2.1;have a3:=V0.out.rb.2.2.2;have hvl:w.heap.size < V.heap.size:=by have:=V0.out.lt;omega
 have HCP:=qT0 r V (HR.out _ V0.out.bl).1 HN.out (by omega) (by omega);go_wp2_with fail
 refine HCP.mono ?_;clear HCP;rintro d w2 ⟨gs,sc,gl,lc,rfl,ho1,ho2,hb2⟩;obtain ⟨Y,hY⟩:∃ Y,Y=w2.alloc (.cells #[.int .i64 r.i,.int .i64 r.u,.slice (some ⟨gs,0,none⟩) r.sn sc,.slice (some ⟨gl,0,none⟩) r.ln lc] 36):=⟨_,rfl⟩;have AY:Below w2.heap.size w2 Y:=by rw [hY];exact zN
 have hvl3:=V0.out.lt;have hs2:=hb2.size
 have O1:Hid (OX w r x w2.heap.size gs sc (some ⟨gl,0,none⟩) lc r.ls Y):=by
  refine ⟨(V0.out.below hb2).below AY,?_,qC0 (ho1.below AY) (by omega),?_,by omega⟩
  ·rw [hY,HSL.out.2];exact qP2 w2 _
  ·rw [HSL.out.2];exact qB0 (ho2.below AY) (by omega)
 have hq2:w.heap.size+2 < w2.heap.size:=by omega
 clear a0 a1 a2 a3 hvl hvl3 hs2 ho1 ho2 hb2 AY V0;go_upto_region 5 with fail
 rw [<- hY];clear hY;generalize w2.heap.size=q at O1 hq2 ⊢
 obtain ⟨x0,x1,x2,x3,x4⟩:=O1.out.ev.xa;simp only [Nat.zero_add] at x0 x1 x2 x3 x4;have hxl:w.heap.size+1 < _:=Nat.lt_of_succ_lt O1.out.ev.lt;go_wp2_with fail
 refine (HSD.out _ O1.out.ev).mono ?_;rintro d w3 ⟨rfl,hb3⟩;have O3:=qD7 (O1.out.below hb3);clear hb3 O1;clear x0 x1 x2 x3 x4 hxl;obtain ⟨x0,x1,x2,x3,x4⟩:=O3.out.ev.xa;simp only [Nat.zero_add] at x0 x1 x2 x3 x4;have hxl:w.heap.size+1 < _:=Nat.lt_of_succ_lt O3.out.ev.lt;go_wp2_with fail
 refine (HOF.out _ O3.out.ev).mono ?_;rintro d w4 ⟨rfl,hb4⟩;have O4:=qD7 (O3.out.below hb4);clear hb4 O3;clear x0 x1 x2 x3 x4 hxl;have z0:=O4.out.ev.rs.1 0 _ rfl;have z1:=O4.out.ev.rs.1 1 _ rfl;have z2:=O4.out.ev.rs.1 2 _ rfl;have z3:=O4.out.ev.rs.1 3 _ rfl;have z4:=O4.out.ev.rs.1 4 _ rfl;have f0:=O4.out.ev.rs.2 0;have f1:=O4.out.ev.rs.2 1;have f2:=O4.out.ev.rs.2 2;have f3:=O4.out.ev.rs.2 3;have f4:=O4.out.ev.rs.2 4;have hzl:=O4.out.ev.lt;go_wp2_with fail
 refine bodyPost_ret (v:=.agg #[.int .i64 4,.int .i64 0,.int .i64 0,.slice none 0 0,.slice none 0 0]) (by simp [results,Tryz.results46,go_sem,z0,z1,z2,z3,z4,hzl]) rfl ?_;exact ⟨(((((O4.out.ev.bl.setCell (by show w.heap.size<=w.heap.size+2;omega) _).setCell (by show w.heap.size<=w.heap.size+2;omega) _).setCell (by show w.heap.size<=w.heap.size+2;omega) _).setCell (by show w.heap.size<=w.heap.size+2;omega) _).setCell (by show w.heap.size<=w.heap.size+2;omega) _),fun _=>rfl,fun q=>absurd q (by first | assumption | decide)⟩
theorem qEu (E:qH1) (r:qL4) (a:Option Addr) (m cap:Nat) (cs:List qA4) (x:StI) (w:World) (hr:qG1 w r) (hN:qJ7 r) (hsm:∀ p,r.la=some p->∃ b0 o0,p=⟨b0,o0,none⟩/\b0 < w.heap.size) (hc:qA6 w a m cs) (hEC:qN7 E cs) (hm:0 < m) (hm8:m<=8) (hRp:RpS E r.ss r.ls) (hst:qB5 x=0) (hsx:qD9 r.ss x=false) (hp0:0<=qB6 E r.ss x.e) (h40:40<=r.sn) :
  Calls Tryz.prog 46 #[.agg #[.int .i64 r.i,.int .i64 r.u,.slice r.sa r.sn r.sc,.slice r.la r.ln r.lc],.slice a m cap,.agg #[.int .i64 x.k,.int .i64 x.e,.int .i64 x.f,.int .i64 x.s,.int .i64 x.n]] w fun d w'=>qFV r 2 [] [] w d w':=by
 have hsl:r.ss.length=r.sn:=hr.said.1;have hll:r.ls.length=r.ln:=hr.locks.1;have hs40:r.sn<=40:=by have:=hRp.len;omega
 have hl200:r.ln<=200:=by have:=(QF7 hRp.lk).1;omega
 have hs40':(r.sn:Int)<=40:=by omega
 have HR:Hid (∀ W,Below w.heap.size w W->qG1 W r/\qA6 W a m cs/\(∀ p,r.la=some p->∃ b0 o0,p=⟨b0,o0,none⟩/\b0 < W.heap.size)):=fun W hb=>⟨hr.below hb,hc.below hb,fun p e=>by obtain ⟨b0,o0,q,hl⟩:=hsm p e;exact ⟨b0,o0,q,Nat.lt_of_lt_of_le hl hb.size⟩⟩
 have HSL:Hid (r.ss.length=r.sn/\r.ls.length=r.ln):=⟨hsl,hll⟩;have HN:Hid (qJ7 r):=hN;have HEC:Hid (qN7 E cs):=hEC;have HRP:Hid (RpS E r.ss r.ls):=hRp;have HF:Hid (∀ W,qL3 W (w.heap.size+1) 0 x->Calls Tryz.prog 59 #[.pointer (some ⟨w.heap.size+1,0,none⟩)] W fun e w'=>e = .returned (.int .i64 0)/\W=w'):=fun W q=>by rw [<- hst];exact qJ4 _ _ x W q
 obtain ⟨V,hV⟩:∃ V,V=((w.alloc (.cells #[.int .i64 r.i,.int .i64 r.u,.slice r.sa r.sn r.sc,.slice r.la r.ln r.lc] 36)).alloc (.cells #[.int .i64 x.k,.int .i64 x.e,.int .i64 x.f,.int .i64 x.s,.int .i64 x.n] 85)).alloc (.cells #[.int .i64 0,.int .i64 0,.int .i64 0,.slice none 0 0,.slice none 0 0] 48):=⟨_,rfl⟩;have V0:Hid (EV w r x V):=by show EV w r x V;rw [hV];exact EV.new w r x
 obtain ⟨⟨hk1,hk2⟩,⟨he1,he2⟩,⟨hn1,hn2⟩,_⟩:=qH8 hst;have HSD:Hid (∀ W,EV w r x W->Calls Tryz.prog 47 #[.pointer (some ⟨w.heap.size,0,none⟩),.agg #[.int .i64 x.k,.int .i64 x.e,.int .i64 x.f,.int .i64 x.s,.int .i64 x.n]] W fun d w'=>d = .returned (.bool false)/\Below W.heap.size W w'):=fun W q=>by rw [<- hsx];exact qK3 _ r x W q.rb (HR.out _ q.bl).1.said (by omega)
 have HOF:Hid (∀ W,EV w r x W->Calls Tryz.prog 75 #[.pointer (some ⟨w.heap.size,0,none⟩),.slice a m cap,.int .i64 x.e] W fun d w'=>d = .returned (.int .i64 (qB6 E r.ss x.e))/\Below W.heap.size W w'):=fun W q=>QN8 E _ r a m cap cs x.e W HEC.out.es q.rb (HR.out _ q.bl).1.said (by omega) (HR.out _ q.bl).2.1 hm hm8 ⟨he1,he2⟩
 have h40':(40:Int)<=(r.sn:Int):=by omega
 clear hsx;clear hr hN hsm hc hEC hRp hsl hll hst;go_enter Tryz.func46,Tryz.ntmps46;go_upto_region 1 with fail
 rw [<- hV];clear hV;go_wp2_with fail
 refine (HF.out _ V0.out.xa).mono ?_;rintro d w1 ⟨rfl,rfl⟩;have a0:=V0.out.rb.1;have a1:=V0.out.rb.2.1;have a2:=V0.out.rb.2.2.1;have a3:=V0.out.rb.2.2.2;have hvl:w.heap.size < V.heap.size:=by have:=V0.out.lt;omega
 have HCP:=qT0 r V (HR.out _ V0.out.bl).1 HN.out (by omega) (by omega);go_wp2_with fail
 refine HCP.mono ?_;clear HCP;rintro d w2 ⟨gs,sc,gl,lc,rfl,ho1,ho2,hb2⟩;obtain ⟨Y,hY⟩:∃ Y,Y=w2.alloc (.cells #[.int .i64 r.i,.int .i64 r.u,.slice (some ⟨gs,0,none⟩) r.sn sc,.slice (some ⟨gl,0,none⟩) r.ln lc] 36):=⟨_,rfl⟩;have AY:Below w2.heap.size w2 Y:=by rw [hY];exact zN
 have hvl3:=V0.out.lt;have hs2:=hb2.size
 have O1:Hid (OX w r x w2.heap.size gs sc (some ⟨gl,0,none⟩) lc r.ls Y):=by
  refine ⟨(V0.out.below hb2).below AY,?_,qC0 (ho1.below AY) (by omega),?_,by omega⟩
  ·rw [hY,HSL.out.2];exact qP2 w2 _
  ·rw [HSL.out.2];exact qB0 (ho2.below AY) (by omega)
 have hq2:w.heap.size+2 < w2.heap.size:=by omega
 clear a0 a1 a2 a3 hvl hvl3 hs2 ho1 ho2 hb2 AY V0;go_upto_region 5 with fail
 rw [<- hY];clear hY;generalize w2.heap.size=q at O1 hq2 ⊢
 obtain ⟨x0,x1,x2,x3,x4⟩:=O1.out.ev.xa;simp only [Nat.zero_add] at x0 x1 x2 x3 x4;have hxl:w.heap.size+1 < _:=Nat.lt_of_succ_lt O1.out.ev.lt;go_wp2_with fail
 refine (HSD.out _ O1.out.ev).mono ?_;rintro d w3 ⟨rfl,hb3⟩;have O3:=qD7 (O1.out.below hb3);clear hb3 O1;clear x0 x1 x2 x3 x4 hxl;obtain ⟨x0,x1,x2,x3,x4⟩:=O3.out.ev.xa;simp only [Nat.zero_add] at x0 x1 x2 x3 x4;have hxl:w.heap.size+1 < _:=Nat.lt_of_succ_lt O3.out.ev.lt;go_wp2_with fail
 refine (HOF.out _ O3.out.ev).mono ?_;rintro d w4 ⟨rfl,hb4⟩;have O4:=qD7 (O3.out.below hb4);clear hb4 O3;clear x0 x1 x2 x3 x4 hxl;have a2:=O4.out.ev.rb.2.2.1;have hal:w.heap.size < w4.heap.size:=by have:=O4.out.ev.lt;omega
 obtain ⟨x0,x1,x2,x3,x4⟩:=O4.out.ev.xa;simp only [Nat.zero_add] at x0 x1 x2 x3 x4;have hxl:w.heap.size+1 < _:=Nat.lt_of_succ_lt O4.out.ev.lt;have z0:=O4.out.ev.rs.1 0 _ rfl;have z1:=O4.out.ev.rs.1 1 _ rfl;have z2:=O4.out.ev.rs.1 2 _ rfl;have z3:=O4.out.ev.rs.1 3 _ rfl;have z4:=O4.out.ev.rs.1 4 _ rfl;have f0:=O4.out.ev.rs.2 0;have f1:=O4.out.ev.rs.2 1;have f2:=O4.out.ev.rs.2 2;have f3:=O4.out.ev.rs.2 3;have f4:=O4.out.ev.rs.2 4;have hzl:=O4.out.ev.lt;go_wp2_with fail
 refine bodyPost_ret (v:=.agg #[.int .i64 2,.int .i64 0,.int .i64 0,.slice none 0 0,.slice none 0 0]) (by simp [results,Tryz.results46,go_sem,z0,z1,z2,z3,z4,hzl]) rfl ?_;exact ⟨(((((O4.out.ev.bl.setCell (by show w.heap.size<=w.heap.size+2;omega) _).setCell (by show w.heap.size<=w.heap.size+2;omega) _).setCell (by show w.heap.size<=w.heap.size+2;omega) _).setCell (by show w.heap.size<=w.heap.size+2;omega) _).setCell (by show w.heap.size<=w.heap.size+2;omega) _),fun _=>rfl,fun q=>absurd q (by first | assumption | decide)⟩
theorem qAX (E:qH1) (r:qL4) (a:Option Addr) (m cap:Nat) (cs:List qA4) (x:StI) (w:World) (hr:qG1 w r) (hN:qJ7 r) (hsm:∀ p,r.la=some p->∃ b0 o0,p=⟨b0,o0,none⟩/\b0 < w.heap.size) (hc:qA6 w a m cs) (hEC:qN7 E cs) (hm:0 < m) (hm8:m<=8) (hRp:RpS E r.ss r.ls) (hst:qB5 x=0) (hsx:qD9 r.ss x=false) (hp0:0<=qB6 E r.ss x.e) (h40:r.sn < 40) (hk2':x.k=2) (S:List StI) (hS:r.ss++[x]=S) :
  Calls Tryz.prog 46 #[.agg #[.int .i64 r.i,.int .i64 r.u,.slice r.sa r.sn r.sc,.slice r.la r.ln r.lc],.slice a m cap,.agg #[.int .i64 x.k,.int .i64 x.e,.int .i64 x.f,.int .i64 x.s,.int .i64 x.n]] w fun d w'=>qFV r 0 S r.ls w d w':=by
 have hsl:r.ss.length=r.sn:=hr.said.1;have hll:r.ls.length=r.ln:=hr.locks.1;have hs40:r.sn<=40:=by have:=hRp.len;omega
 have hl200:r.ln<=200:=by have:=(QF7 hRp.lk).1;omega
 have hs40':(r.sn:Int)<=40:=by omega
 have HR:Hid (∀ W,Below w.heap.size w W->qG1 W r/\qA6 W a m cs/\(∀ p,r.la=some p->∃ b0 o0,p=⟨b0,o0,none⟩/\b0 < W.heap.size)):=fun W hb=>⟨hr.below hb,hc.below hb,fun p e=>by obtain ⟨b0,o0,q,hl⟩:=hsm p e;exact ⟨b0,o0,q,Nat.lt_of_lt_of_le hl hb.size⟩⟩
 have HSL:Hid (r.ss.length=r.sn/\r.ls.length=r.ln):=⟨hsl,hll⟩;have HN:Hid (qJ7 r):=hN;have HEC:Hid (qN7 E cs):=hEC;have HRP:Hid (RpS E r.ss r.ls):=hRp;have HF:Hid (∀ W,qL3 W (w.heap.size+1) 0 x->Calls Tryz.prog 59 #[.pointer (some ⟨w.heap.size+1,0,none⟩)] W fun e w'=>e = .returned (.int .i64 0)/\W=w'):=fun W q=>by rw [<- hst];exact qJ4 _ _ x W q
 obtain ⟨V,hV⟩:∃ V,V=((w.alloc (.cells #[.int .i64 r.i,.int .i64 r.u,.slice r.sa r.sn r.sc,.slice r.la r.ln r.lc] 36)).alloc (.cells #[.int .i64 x.k,.int .i64 x.e,.int .i64 x.f,.int .i64 x.s,.int .i64 x.n] 85)).alloc (.cells #[.int .i64 0,.int .i64 0,.int .i64 0,.slice none 0 0,.slice none 0 0] 48):=⟨_,rfl⟩;have V0:Hid (EV w r x V):=by show EV w r x V;rw [hV];exact EV.new w r x
 obtain ⟨⟨hk1,hk2⟩,⟨he1,he2⟩,⟨hn1,hn2⟩,_⟩:=qH8 hst;have HSD:Hid (∀ W,EV w r x W->Calls Tryz.prog 47 #[.pointer (some ⟨w.heap.size,0,none⟩),.agg #[.int .i64 x.k,.int .i64 x.e,.int .i64 x.f,.int .i64 x.s,.int .i64 x.n]] W fun d w'=>d = .returned (.bool false)/\Below W.heap.size W w'):=fun W q=>by rw [<- hsx];exact qK3 _ r x W q.rb (HR.out _ q.bl).1.said (by omega)
 have HOF:Hid (∀ W,EV w r x W->Calls Tryz.prog 75 #[.pointer (some ⟨w.heap.size,0,none⟩),.slice a m cap,.int .i64 x.e] W fun d w'=>d = .returned (.int .i64 (qB6 E r.ss x.e))/\Below W.heap.size W w'):=fun W q=>QN8 E _ r a m cap cs x.e W HEC.out.es q.rb (HR.out _ q.bl).1.said (by omega) (HR.out _ q.bl).2.1 hm hm8 ⟨he1,he2⟩
 have h40':(r.sn:Int) < 40:=by omega
 have k1:(x.k==1)=false:=by simp [hk2']
 have k3:(x.k==3)=false:=by simp [hk2']
 have k4:(x.k==4)=false:=by simp [hk2']
 clear hsx hk2';have HS:Hid (r.ss++[x]=S):=hS;clear hS;obtain ⟨i0,hi,hz0,hz1,hz2⟩:=info_parts Tryz.info85;clear hr hN hsm hc hEC hRp hsl hll hst;go_enter Tryz.func46,Tryz.ntmps46;go_upto_region 1 with fail
 rw [<- hV];clear hV;go_wp2_with fail
 refine (HF.out _ V0.out.xa).mono ?_;rintro d w1 ⟨rfl,rfl⟩;have a0:=V0.out.rb.1;have a1:=V0.out.rb.2.1;have a2:=V0.out.rb.2.2.1;have a3:=V0.out.rb.2.2.2;have hvl:w.heap.size < V.heap.size:=by have:=V0.out.lt;omega
 have HCP:=qT0 r V (HR.out _ V0.out.bl).1 HN.out (by omega) (by omega);go_wp2_with fail
 refine HCP.mono ?_;clear HCP;rintro d w2 ⟨gs,sc,gl,lc,rfl,ho1,ho2,hb2⟩;obtain ⟨Y,hY⟩:∃ Y,Y=w2.alloc (.cells #[.int .i64 r.i,.int .i64 r.u,.slice (some ⟨gs,0,none⟩) r.sn sc,.slice (some ⟨gl,0,none⟩) r.ln lc] 36):=⟨_,rfl⟩;have AY:Below w2.heap.size w2 Y:=by rw [hY];exact zN
 have hvl3:=V0.out.lt;have hs2:=hb2.size
 have O1:Hid (OX w r x w2.heap.size gs sc (some ⟨gl,0,none⟩) lc r.ls Y):=by
  refine ⟨(V0.out.below hb2).below AY,?_,qC0 (ho1.below AY) (by omega),?_,by omega⟩
  ·rw [hY,HSL.out.2];exact qP2 w2 _
  ·rw [HSL.out.2];exact qB0 (ho2.below AY) (by omega)
 have hq2:w.heap.size+2 < w2.heap.size:=by omega
 clear a0 a1 a2 a3 hvl hvl3 hs2 ho1 ho2 hb2 AY V0;go_upto_region 5 with fail
 rw [<- hY];clear hY;generalize w2.heap.size=q at O1 hq2 ⊢
 obtain ⟨x0,x1,x2,x3,x4⟩:=O1.out.ev.xa;simp only [Nat.zero_add] at x0 x1 x2 x3 x4;have hxl:w.heap.size+1 < _:=Nat.lt_of_succ_lt O1.out.ev.lt;go_wp2_with fail
 refine (HSD.out _ O1.out.ev).mono ?_;rintro d w3 ⟨rfl,hb3⟩;have O3:=qD7 (O1.out.below hb3);clear hb3 O1;clear x0 x1 x2 x3 x4 hxl;obtain ⟨x0,x1,x2,x3,x4⟩:=O3.out.ev.xa;simp only [Nat.zero_add] at x0 x1 x2 x3 x4;have hxl:w.heap.size+1 < _:=Nat.lt_of_succ_lt O3.out.ev.lt;go_wp2_with fail
 refine (HOF.out _ O3.out.ev).mono ?_;rintro d w4 ⟨rfl,hb4⟩;have O4:=qD7 (O3.out.below hb4);clear hb4 O3;clear x0 x1 x2 x3 x4 hxl;have a2:=O4.out.ev.rb.2.2.1;have hal:w.heap.size < w4.heap.size:=by have:=O4.out.ev.lt;omega
 obtain ⟨U,hU⟩:∃ U,U=w4.alloc (.cells #[.int .i64 x.k,.int .i64 x.e,.int .i64 x.f,.int .i64 x.s,.int .i64 x.n] 85):=⟨_,rfl⟩;have AU:Below w4.heap.size w4 U:=by rw [hU];exact zN
 have OU:=qD7 (O4.out.below AU)
 have RU:Hid (U.ownsRow (w.heap.size+3) 85 5 (.slice (some ⟨gs,0,none⟩) r.sn sc) r.sn (qC3 r.ss)):=by
  have q:=OU.out.so;unfold qB2 at q;rw [HSL.out.1] at q;exact q
 have PU:Hid (qN8 U (some ⟨w4.heap.size,0,none⟩) 1 [x]):=by show qN8 _ _ _ _;rw [hU];exact QI6 w4 x _
 have hUs:w.heap.size+3<=U.heap.size:=by have:=OU.out.ev.lt;omega
 obtain ⟨x0,x1,x2,x3,x4⟩:=O4.out.ev.xa;simp only [Nat.zero_add] at x0 x1 x2 x3 x4;have hxl:w.heap.size+1 < _:=Nat.lt_of_succ_lt O4.out.ev.lt;have o2:=qA1 O4.out.ob 2;simp at o2;have hql:=O4.out.qlt;have hxl2:w.heap.size+1 < w4.heap.size:=hxl;go_upto_region 23 with fail
 go_wp2_with (first | (at_builtin;rw [<- hU];refine qR4 rfl _ _ 33 rfl (w.heap.size+3) 85 i0 (.agg #[.int .i64 0,.int .i64 0,.int .i64 0,.int .i64 0,.int .i64 0]) 5 40 Tryz.underlying33 hi hz0 hz1 hz2 rfl (by decide) (.slice (some ⟨gs,0,none⟩) r.sn sc) r.sn (qC3 r.ss) rfl RU.out (by simp) (some ⟨w4.heap.size,0,none⟩) 1 1 (qC3 [x]) rfl (fun e=>by cases e) rfl (fun p e=>by cases e;exact qY6 PU.out) (qO3 _) (by unfold maxLen;omega) (by omega) hUs ?_) | fail)
 intro v6 w6 hown6 hgrow6 hnil6
 have E6:qB2 w6 (w.heap.size+3) v6 S:=by
  rw [<- HS.out];show World.ownsRow _ _ 85 5 _ (r.ss++[x]).length (qC3 (r.ss++[x]))
  rw [qK4,List.length_append,HSL.out.1];exact hown6
 obtain ⟨g6,cap6,hv6⟩:=E6.shape hnil6;subst hv6;have hgU:U.grownBy w6 (some gs):=by first | exact hgrow6 | (rw [hU];exact hgrow6)
 obtain ⟨Z6,B6,K6,L6⟩:=OU.out.said (by rw [HS.out];exact E6) hgU;obtain ⟨w7,hw7⟩:∃ w7,w7=w6.setCell ⟨q,2,none⟩ (.slice (some ⟨g6,0,none⟩) S.length cap6):=⟨_,rfl⟩;have K7:w7.heap[q]? = some (.cells #[.int .i64 r.i,.int .i64 r.u,.slice (some ⟨g6,0,none⟩) S.length cap6,.slice (some ⟨gl,0,none⟩) r.ls.length lc] 36 (0,0)):=by rw [hw7];exact qL1 K6
 have Z7:qH0 (w.heap.size+2) [.int .i64 0,.int .i64 0,.int .i64 0,.slice none 0 0,.slice none 0 0] w7:=by rw [hw7];exact Z6.other (by show q≠_;omega) _
 have B7:Hid (Below w.heap.size w w7):=by show Below _ _ _;rw [hw7];exact B6.setCell (by show w.heap.size<=q;omega) _
 have E7:Hid (qB2 w7 (w.heap.size+3) (.slice (some ⟨g6,0,none⟩) S.length cap6) S):=by
  show qB2 _ _ _ _
  rw [hw7];exact qA0 E6 (fun g e=>by obtain ⟨cur,hcc,_⟩:=qC5 E6 e;exact zS (qK7 hcc K6 (by decide)))
 have L7:Hid (qA7 w7 (w.heap.size+3) (.slice (some ⟨gl,0,none⟩) r.ls.length lc) r.ls):=by
  show qA7 _ _ _ _
  rw [hw7];exact qA0 L6 (fun g e=>by obtain ⟨cur,hcc,_⟩:=qC6 L6 e;exact zS (qK7 hcc K6 (by decide)))
 have k2:=qA1 K6 2;simp at k2;have kf2:=qL9 K6 2;have hq6:=(Array.getElem?_eq_some_iff.1 K6).1;clear hown6 hgrow6 hnil6 hgU E6 Z6 B6 L6 x0 x1 x2 x3 x4 hxl hxl2 o2 hql RU PU AU OU hU O4;go_upto_region 24 with fail
 rw [<- hw7];clear hw7 k2 kf2 hq6;have o0:=qA1 K7 0;have o1:=qA1 K7 1;have o2:=qA1 K7 2;have o3:=qA1 K7 3;simp at o0 o1 o2 o3;have hql:=(Array.getElem?_eq_some_iff.1 K7).1;have z0:=Z7.1 0 _ rfl;have z1:=Z7.1 1 _ rfl;have z2:=Z7.1 2 _ rfl;have z3:=Z7.1 3 _ rfl;have z4:=Z7.1 4 _ rfl;have f0:=Z7.2 0;have f1:=Z7.2 1;have f2:=Z7.2 2;have f3:=Z7.2 3;have f4:=Z7.2 4;have hzl:w.heap.size+2 < w7.heap.size:=by omega
 have hqn:w.heap.size+2≠q:=by omega
 clear K7 Z7 K6;go_wp2_with fail
 refine bodyPost_ret (v:=.agg #[.int .i64 0,.int .i64 r.i,.int .i64 r.u,.slice (some ⟨g6,0,none⟩) S.length cap6,.slice (some ⟨gl,0,none⟩) r.ls.length lc]) (by simp [results,Tryz.results46,go_sem,z0,z1,z2,z3,z4,hzl]) rfl ?_;refine ⟨(((((B7.out.setCell (by show w.heap.size<=w.heap.size+2;omega) _).setCell (by show w.heap.size<=w.heap.size+2;omega) _).setCell (by show w.heap.size<=w.heap.size+2;omega) _).setCell (by show w.heap.size<=w.heap.size+2;omega) _).setCell (by show w.heap.size<=w.heap.size+2;omega) _),fun q=>absurd rfl q,fun _=>?_⟩;refine ⟨some ⟨g6,0,none⟩,cap6,(some ⟨gl,0,none⟩),lc,rfl,qC0 (qA0 E7.out (fun g e=>?_)) (by omega),qB0 (qA0 L7.out (fun g e=>?_)) (by omega)⟩
 ·obtain ⟨cur,hcc,hgg⟩:=qC5 E7.out e;rw [zS (by show g≠w.heap.size+2;omega),zS (by show g≠w.heap.size+2;omega),zS (by show g≠w.heap.size+2;omega),zS (by show g≠w.heap.size+2;omega),zS (by show g≠w.heap.size+2;omega)]
 ·obtain ⟨cur,hcc,hgg⟩:=qC6 L7.out e;rw [zS (by show g≠w.heap.size+2;omega),zS (by show g≠w.heap.size+2;omega),zS (by show g≠w.heap.size+2;omega),zS (by show g≠w.heap.size+2;omega),zS (by show g≠w.heap.size+2;omega)]
theorem qEt (E:qH1) (r:qL4) (a:Option Addr) (m cap:Nat) (cs:List qA4) (x:StI) (w:World) (hr:qG1 w r) (hN:qJ7 r) (hsm:∀ p,r.la=some p->∃ b0 o0,p=⟨b0,o0,none⟩/\b0 < w.heap.size) (hc:qA6 w a m cs) (hEC:qN7 E cs) (hm:0 < m) (hm8:m<=8) (hRp:RpS E r.ss r.ls) (hst:qB5 x=0) (hsx:qD9 r.ss x=false) (hp0:0<=qB6 E r.ss x.e) (h40:r.sn < 40) (hk3:x.k=3) (k:Int) (hk:qD5 E r.ss x=k) (S:List StI) (hS:r.ss++[x]=S) :
  Calls Tryz.prog 46 #[.agg #[.int .i64 r.i,.int .i64 r.u,.slice r.sa r.sn r.sc,.slice r.la r.ln r.lc],.slice a m cap,.agg #[.int .i64 x.k,.int .i64 x.e,.int .i64 x.f,.int .i64 x.s,.int .i64 x.n]] w fun d w'=>qFV r k S r.ls w d w':=by
 have hsl:r.ss.length=r.sn:=hr.said.1;have hll:r.ls.length=r.ln:=hr.locks.1;have hs40:r.sn<=40:=by have:=hRp.len;omega
 have hl200:r.ln<=200:=by have:=(QF7 hRp.lk).1;omega
 have hs40':(r.sn:Int)<=40:=by omega
 have HR:Hid (∀ W,Below w.heap.size w W->qG1 W r/\qA6 W a m cs/\(∀ p,r.la=some p->∃ b0 o0,p=⟨b0,o0,none⟩/\b0 < W.heap.size)):=fun W hb=>⟨hr.below hb,hc.below hb,fun p e=>by obtain ⟨b0,o0,q,hl⟩:=hsm p e;exact ⟨b0,o0,q,Nat.lt_of_lt_of_le hl hb.size⟩⟩
 have HSL:Hid (r.ss.length=r.sn/\r.ls.length=r.ln):=⟨hsl,hll⟩;have HN:Hid (qJ7 r):=hN;have HEC:Hid (qN7 E cs):=hEC;have HRP:Hid (RpS E r.ss r.ls):=hRp;have HF:Hid (∀ W,qL3 W (w.heap.size+1) 0 x->Calls Tryz.prog 59 #[.pointer (some ⟨w.heap.size+1,0,none⟩)] W fun e w'=>e = .returned (.int .i64 0)/\W=w'):=fun W q=>by rw [<- hst];exact qJ4 _ _ x W q
 obtain ⟨V,hV⟩:∃ V,V=((w.alloc (.cells #[.int .i64 r.i,.int .i64 r.u,.slice r.sa r.sn r.sc,.slice r.la r.ln r.lc] 36)).alloc (.cells #[.int .i64 x.k,.int .i64 x.e,.int .i64 x.f,.int .i64 x.s,.int .i64 x.n] 85)).alloc (.cells #[.int .i64 0,.int .i64 0,.int .i64 0,.slice none 0 0,.slice none 0 0] 48):=⟨_,rfl⟩;have V0:Hid (EV w r x V):=by show EV w r x V;rw [hV];exact EV.new w r x
 obtain ⟨⟨hk1,hk2⟩,⟨he1,he2⟩,⟨hn1,hn2⟩,_⟩:=qH8 hst;have HSD:Hid (∀ W,EV w r x W->Calls Tryz.prog 47 #[.pointer (some ⟨w.heap.size,0,none⟩),.agg #[.int .i64 x.k,.int .i64 x.e,.int .i64 x.f,.int .i64 x.s,.int .i64 x.n]] W fun d w'=>d = .returned (.bool false)/\Below W.heap.size W w'):=fun W q=>by rw [<- hsx];exact qK3 _ r x W q.rb (HR.out _ q.bl).1.said (by omega)
 have HOF:Hid (∀ W,EV w r x W->Calls Tryz.prog 75 #[.pointer (some ⟨w.heap.size,0,none⟩),.slice a m cap,.int .i64 x.e] W fun d w'=>d = .returned (.int .i64 (qB6 E r.ss x.e))/\Below W.heap.size W w'):=fun W q=>QN8 E _ r a m cap cs x.e W HEC.out.es q.rb (HR.out _ q.bl).1.said (by omega) (HR.out _ q.bl).2.1 hm hm8 ⟨he1,he2⟩
 have h40':(r.sn:Int) < 40:=by omega
 have k1:(x.k==1)=false:=by simp [hk3]
 have k3:(x.k==3)=true:=by simp [hk3]
 clear hk3;have HNX:Hid (∀ W,EV w r x W->Calls Tryz.prog 77 #[.pointer (some ⟨w.heap.size,0,none⟩),.slice a m cap,.pointer (some ⟨w.heap.size+1,0,none⟩)] W fun d w'=>d = .returned (.int .i64 k)/\Below W.heap.size W w'):=fun W q=>by rw [<- hk];exact qDg E _ r a m cap cs _ x W HEC.out.es q.rb (HR.out _ q.bl).1.said (by omega) (HR.out _ q.bl).2.1 hm8 q.xa ⟨he1,he2⟩ ⟨hn1,hn2⟩
 clear hsx hk;have HS:Hid (r.ss++[x]=S):=hS;clear hS;obtain ⟨i0,hi,hz0,hz1,hz2⟩:=info_parts Tryz.info85;clear hr hN hsm hc hEC hRp hsl hll hst;go_enter Tryz.func46,Tryz.ntmps46;go_upto_region 1 with fail
 rw [<- hV];clear hV;go_wp2_with fail
 refine (HF.out _ V0.out.xa).mono ?_;rintro d w1 ⟨rfl,rfl⟩;have a0:=V0.out.rb.1;have a1:=V0.out.rb.2.1;have a2:=V0.out.rb.2.2.1;have a3:=V0.out.rb.2.2.2;have hvl:w.heap.size < V.heap.size:=by have:=V0.out.lt;omega
 have HCP:=qT0 r V (HR.out _ V0.out.bl).1 HN.out (by omega) (by omega);go_wp2_with fail
 refine HCP.mono ?_;clear HCP;rintro d w2 ⟨gs,sc,gl,lc,rfl,ho1,ho2,hb2⟩;obtain ⟨Y,hY⟩:∃ Y,Y=w2.alloc (.cells #[.int .i64 r.i,.int .i64 r.u,.slice (some ⟨gs,0,none⟩) r.sn sc,.slice (some ⟨gl,0,none⟩) r.ln lc] 36):=⟨_,rfl⟩;have AY:Below w2.heap.size w2 Y:=by rw [hY];exact zN
 have hvl3:=V0.out.lt;have hs2:=hb2.size
 have O1:Hid (OX w r x w2.heap.size gs sc (some ⟨gl,0,none⟩) lc r.ls Y):=by
  refine ⟨(V0.out.below hb2).below AY,?_,qC0 (ho1.below AY) (by omega),?_,by omega⟩
  ·rw [hY,HSL.out.2];exact qP2 w2 _
  ·rw [HSL.out.2];exact qB0 (ho2.below AY) (by omega)
 have hq2:w.heap.size+2 < w2.heap.size:=by omega
 clear a0 a1 a2 a3 hvl hvl3 hs2 ho1 ho2 hb2 AY V0;go_upto_region 5 with fail
 rw [<- hY];clear hY;generalize w2.heap.size=q at O1 hq2 ⊢
 obtain ⟨x0,x1,x2,x3,x4⟩:=O1.out.ev.xa;simp only [Nat.zero_add] at x0 x1 x2 x3 x4;have hxl:w.heap.size+1 < _:=Nat.lt_of_succ_lt O1.out.ev.lt;go_wp2_with fail
 refine (HSD.out _ O1.out.ev).mono ?_;rintro d w3 ⟨rfl,hb3⟩;have O3:=qD7 (O1.out.below hb3);clear hb3 O1;clear x0 x1 x2 x3 x4 hxl;obtain ⟨x0,x1,x2,x3,x4⟩:=O3.out.ev.xa;simp only [Nat.zero_add] at x0 x1 x2 x3 x4;have hxl:w.heap.size+1 < _:=Nat.lt_of_succ_lt O3.out.ev.lt;go_wp2_with fail
 refine (HOF.out _ O3.out.ev).mono ?_;rintro d w4 ⟨rfl,hb4⟩;have O4:=qD7 (O3.out.below hb4);clear hb4 O3;clear x0 x1 x2 x3 x4 hxl;have a2:=O4.out.ev.rb.2.2.1;have hal:w.heap.size < w4.heap.size:=by have:=O4.out.ev.lt;omega
 obtain ⟨x0,x1,x2,x3,x4⟩:=O4.out.ev.xa;simp only [Nat.zero_add] at x0 x1 x2 x3 x4;have hxl:w.heap.size+1 < _:=Nat.lt_of_succ_lt O4.out.ev.lt;go_wp2_with fail
 refine (HNX.out _ O4.out.ev).mono ?_;rintro d w5 ⟨rfl,hb5⟩;have O5:=qD7 (O4.out.below hb5);clear hb5 a2 hal O4;clear x0 x1 x2 x3 x4 hxl;by_cases hk0:k=0
 ·subst hk0;obtain ⟨U,hU⟩:∃ U,U=w5.alloc (.cells #[.int .i64 x.k,.int .i64 x.e,.int .i64 x.f,.int .i64 x.s,.int .i64 x.n] 85):=⟨_,rfl⟩;have AU:Below w5.heap.size w5 U:=by rw [hU];exact zN
  have OU:=qD7 (O5.out.below AU)
  have RU:Hid (U.ownsRow (w.heap.size+3) 85 5 (.slice (some ⟨gs,0,none⟩) r.sn sc) r.sn (qC3 r.ss)):=by
   have q:=OU.out.so;unfold qB2 at q;rw [HSL.out.1] at q;exact q
  have PU:Hid (qN8 U (some ⟨w5.heap.size,0,none⟩) 1 [x]):=by show qN8 _ _ _ _;rw [hU];exact QI6 w5 x _
  have hUs:w.heap.size+3<=U.heap.size:=by have:=OU.out.ev.lt;omega
  obtain ⟨x0,x1,x2,x3,x4⟩:=O5.out.ev.xa;simp only [Nat.zero_add] at x0 x1 x2 x3 x4;have hxl:w.heap.size+1 < _:=Nat.lt_of_succ_lt O5.out.ev.lt;have o2:=qA1 O5.out.ob 2;simp at o2;have hql:=O5.out.qlt;have hxl2:w.heap.size+1 < w5.heap.size:=hxl;go_upto_region 23 with fail
  go_wp2_with (first | (at_builtin;rw [<- hU];refine qR4 rfl _ _ 33 rfl (w.heap.size+3) 85 i0 (.agg #[.int .i64 0,.int .i64 0,.int .i64 0,.int .i64 0,.int .i64 0]) 5 40 Tryz.underlying33 hi hz0 hz1 hz2 rfl (by decide) (.slice (some ⟨gs,0,none⟩) r.sn sc) r.sn (qC3 r.ss) rfl RU.out (by simp) (some ⟨w5.heap.size,0,none⟩) 1 1 (qC3 [x]) rfl (fun e=>by cases e) rfl (fun p e=>by cases e;exact qY6 PU.out) (qO3 _) (by unfold maxLen;omega) (by omega) hUs ?_) | fail)
  intro v6 w6 hown6 hgrow6 hnil6
  have E6:qB2 w6 (w.heap.size+3) v6 S:=by
   rw [<- HS.out];show World.ownsRow _ _ 85 5 _ (r.ss++[x]).length (qC3 (r.ss++[x]))
   rw [qK4,List.length_append,HSL.out.1];exact hown6
  obtain ⟨g6,cap6,hv6⟩:=E6.shape hnil6;subst hv6;have hgU:U.grownBy w6 (some gs):=by first | exact hgrow6 | (rw [hU];exact hgrow6)
  obtain ⟨Z6,B6,K6,L6⟩:=OU.out.said (by rw [HS.out];exact E6) hgU;obtain ⟨w7,hw7⟩:∃ w7,w7=w6.setCell ⟨q,2,none⟩ (.slice (some ⟨g6,0,none⟩) S.length cap6):=⟨_,rfl⟩;have K7:w7.heap[q]? = some (.cells #[.int .i64 r.i,.int .i64 r.u,.slice (some ⟨g6,0,none⟩) S.length cap6,.slice (some ⟨gl,0,none⟩) r.ls.length lc] 36 (0,0)):=by rw [hw7];exact qL1 K6
  have Z7:qH0 (w.heap.size+2) [.int .i64 0,.int .i64 0,.int .i64 0,.slice none 0 0,.slice none 0 0] w7:=by rw [hw7];exact Z6.other (by show q≠_;omega) _
  have B7:Hid (Below w.heap.size w w7):=by show Below _ _ _;rw [hw7];exact B6.setCell (by show w.heap.size<=q;omega) _
  have E7:Hid (qB2 w7 (w.heap.size+3) (.slice (some ⟨g6,0,none⟩) S.length cap6) S):=by
   show qB2 _ _ _ _
   rw [hw7];exact qA0 E6 (fun g e=>by obtain ⟨cur,hcc,_⟩:=qC5 E6 e;exact zS (qK7 hcc K6 (by decide)))
  have L7:Hid (qA7 w7 (w.heap.size+3) (.slice (some ⟨gl,0,none⟩) r.ls.length lc) r.ls):=by
   show qA7 _ _ _ _
   rw [hw7];exact qA0 L6 (fun g e=>by obtain ⟨cur,hcc,_⟩:=qC6 L6 e;exact zS (qK7 hcc K6 (by decide)))
  have k2:=qA1 K6 2;simp at k2;have kf2:=qL9 K6 2;have hq6:=(Array.getElem?_eq_some_iff.1 K6).1;clear hown6 hgrow6 hnil6 hgU E6 Z6 B6 L6 x0 x1 x2 x3 x4 hxl hxl2 o2 hql RU PU AU OU hU O5;go_upto_region 24 with fail
  rw [<- hw7];clear hw7 k2 kf2 hq6;have o0:=qA1 K7 0;have o1:=qA1 K7 1;have o2:=qA1 K7 2;have o3:=qA1 K7 3;simp at o0 o1 o2 o3;have hql:=(Array.getElem?_eq_some_iff.1 K7).1;have z0:=Z7.1 0 _ rfl;have z1:=Z7.1 1 _ rfl;have z2:=Z7.1 2 _ rfl;have z3:=Z7.1 3 _ rfl;have z4:=Z7.1 4 _ rfl;have f0:=Z7.2 0;have f1:=Z7.2 1;have f2:=Z7.2 2;have f3:=Z7.2 3;have f4:=Z7.2 4;have hzl:w.heap.size+2 < w7.heap.size:=by omega
  have hqn:w.heap.size+2≠q:=by omega
  clear K7 Z7 K6;go_wp2_with fail
  refine bodyPost_ret (v:=.agg #[.int .i64 0,.int .i64 r.i,.int .i64 r.u,.slice (some ⟨g6,0,none⟩) S.length cap6,.slice (some ⟨gl,0,none⟩) r.ls.length lc]) (by simp [results,Tryz.results46,go_sem,z0,z1,z2,z3,z4,hzl]) rfl ?_;refine ⟨(((((B7.out.setCell (by show w.heap.size<=w.heap.size+2;omega) _).setCell (by show w.heap.size<=w.heap.size+2;omega) _).setCell (by show w.heap.size<=w.heap.size+2;omega) _).setCell (by show w.heap.size<=w.heap.size+2;omega) _).setCell (by show w.heap.size<=w.heap.size+2;omega) _),fun q=>absurd rfl q,fun _=>?_⟩;refine ⟨some ⟨g6,0,none⟩,cap6,(some ⟨gl,0,none⟩),lc,rfl,qC0 (qA0 E7.out (fun g e=>?_)) (by omega),qB0 (qA0 L7.out (fun g e=>?_)) (by omega)⟩
  ·obtain ⟨cur,hcc,hgg⟩:=qC5 E7.out e;rw [zS (by show g≠w.heap.size+2;omega),zS (by show g≠w.heap.size+2;omega),zS (by show g≠w.heap.size+2;omega),zS (by show g≠w.heap.size+2;omega),zS (by show g≠w.heap.size+2;omega)]
  ·obtain ⟨cur,hcc,hgg⟩:=qC6 L7.out e;rw [zS (by show g≠w.heap.size+2;omega),zS (by show g≠w.heap.size+2;omega),zS (by show g≠w.heap.size+2;omega),zS (by show g≠w.heap.size+2;omega),zS (by show g≠w.heap.size+2;omega)]
 ·have kb:(k != 0)=true:=by simp [hk0]
  have z0:=O5.out.ev.rs.1 0 _ rfl;have z1:=O5.out.ev.rs.1 1 _ rfl;have z2:=O5.out.ev.rs.1 2 _ rfl;have z3:=O5.out.ev.rs.1 3 _ rfl;have z4:=O5.out.ev.rs.1 4 _ rfl;have f0:=O5.out.ev.rs.2 0;have f1:=O5.out.ev.rs.2 1;have f2:=O5.out.ev.rs.2 2;have f3:=O5.out.ev.rs.2 3;have f4:=O5.out.ev.rs.2 4;have hzl:=O5.out.ev.lt;go_wp2_with fail
  refine bodyPost_ret (v:=.agg #[.int .i64 k,.int .i64 0,.int .i64 0,.slice none 0 0,.slice none 0 0]) (by simp [results,Tryz.results46,go_sem,z0,z1,z2,z3,z4,hzl]) rfl ?_;exact ⟨(((((O5.out.ev.bl.setCell (by show w.heap.size<=w.heap.size+2;omega) _).setCell (by show w.heap.size<=w.heap.size+2;omega) _).setCell (by show w.heap.size<=w.heap.size+2;omega) _).setCell (by show w.heap.size<=w.heap.size+2;omega) _).setCell (by show w.heap.size<=w.heap.size+2;omega) _),fun _=>rfl,fun q=>absurd q (by first | assumption | decide)⟩
theorem qEq (E:qH1) (r:qL4) (a:Option Addr) (m cap:Nat) (cs:List qA4) (x:StI) (w:World) (hr:qG1 w r) (hN:qJ7 r) (hsm:∀ p,r.la=some p->∃ b0 o0,p=⟨b0,o0,none⟩/\b0 < w.heap.size) (hc:qA6 w a m cs) (hEC:qN7 E cs) (hm:0 < m) (hm8:m<=8) (hRp:RpS E r.ss r.ls) (hst:qB5 x=0) (hsx:qD9 r.ss x=false) (hp0:0<=qB6 E r.ss x.e) (h40:r.sn < 40) (hk4:x.k=4) (k:Int) (hk:qD5 E r.ss x=k) (S:List StI) (hS:r.ss++[x]=S) :
  Calls Tryz.prog 46 #[.agg #[.int .i64 r.i,.int .i64 r.u,.slice r.sa r.sn r.sc,.slice r.la r.ln r.lc],.slice a m cap,.agg #[.int .i64 x.k,.int .i64 x.e,.int .i64 x.f,.int .i64 x.s,.int .i64 x.n]] w fun d w'=>qFV r k S r.ls w d w':=by
 have hsl:r.ss.length=r.sn:=hr.said.1;have hll:r.ls.length=r.ln:=hr.locks.1;have hs40:r.sn<=40:=by have:=hRp.len;omega
 have hl200:r.ln<=200:=by have:=(QF7 hRp.lk).1;omega
 have hs40':(r.sn:Int)<=40:=by omega
 have HR:Hid (∀ W,Below w.heap.size w W->qG1 W r/\qA6 W a m cs/\(∀ p,r.la=some p->∃ b0 o0,p=⟨b0,o0,none⟩/\b0 < W.heap.size)):=fun W hb=>⟨hr.below hb,hc.below hb,fun p e=>by obtain ⟨b0,o0,q,hl⟩:=hsm p e;exact ⟨b0,o0,q,Nat.lt_of_lt_of_le hl hb.size⟩⟩
 have HSL:Hid (r.ss.length=r.sn/\r.ls.length=r.ln):=⟨hsl,hll⟩;have HN:Hid (qJ7 r):=hN;have HEC:Hid (qN7 E cs):=hEC;have HRP:Hid (RpS E r.ss r.ls):=hRp;have HF:Hid (∀ W,qL3 W (w.heap.size+1) 0 x->Calls Tryz.prog 59 #[.pointer (some ⟨w.heap.size+1,0,none⟩)] W fun e w'=>e = .returned (.int .i64 0)/\W=w'):=fun W q=>by rw [<- hst];exact qJ4 _ _ x W q
 obtain ⟨V,hV⟩:∃ V,V=((w.alloc (.cells #[.int .i64 r.i,.int .i64 r.u,.slice r.sa r.sn r.sc,.slice r.la r.ln r.lc] 36)).alloc (.cells #[.int .i64 x.k,.int .i64 x.e,.int .i64 x.f,.int .i64 x.s,.int .i64 x.n] 85)).alloc (.cells #[.int .i64 0,.int .i64 0,.int .i64 0,.slice none 0 0,.slice none 0 0] 48):=⟨_,rfl⟩;have V0:Hid (EV w r x V):=by show EV w r x V;rw [hV];exact EV.new w r x
 obtain ⟨⟨hk1,hk2⟩,⟨he1,he2⟩,⟨hn1,hn2⟩,_⟩:=qH8 hst;have HSD:Hid (∀ W,EV w r x W->Calls Tryz.prog 47 #[.pointer (some ⟨w.heap.size,0,none⟩),.agg #[.int .i64 x.k,.int .i64 x.e,.int .i64 x.f,.int .i64 x.s,.int .i64 x.n]] W fun d w'=>d = .returned (.bool false)/\Below W.heap.size W w'):=fun W q=>by rw [<- hsx];exact qK3 _ r x W q.rb (HR.out _ q.bl).1.said (by omega)
 have HOF:Hid (∀ W,EV w r x W->Calls Tryz.prog 75 #[.pointer (some ⟨w.heap.size,0,none⟩),.slice a m cap,.int .i64 x.e] W fun d w'=>d = .returned (.int .i64 (qB6 E r.ss x.e))/\Below W.heap.size W w'):=fun W q=>QN8 E _ r a m cap cs x.e W HEC.out.es q.rb (HR.out _ q.bl).1.said (by omega) (HR.out _ q.bl).2.1 hm hm8 ⟨he1,he2⟩
 have h40':(r.sn:Int) < 40:=by omega
 have k1:(x.k==1)=false:=by simp [hk4]
 have k3:(x.k==3)=false:=by simp [hk4]
 have k4:(x.k==4)=true:=by simp [hk4]
 clear hk4;have HNX:Hid (∀ W,EV w r x W->Calls Tryz.prog 77 #[.pointer (some ⟨w.heap.size,0,none⟩),.slice a m cap,.pointer (some ⟨w.heap.size+1,0,none⟩)] W fun d w'=>d = .returned (.int .i64 k)/\Below W.heap.size W w'):=fun W q=>by rw [<- hk];exact qDg E _ r a m cap cs _ x W HEC.out.es q.rb (HR.out _ q.bl).1.said (by omega) (HR.out _ q.bl).2.1 hm8 q.xa ⟨he1,he2⟩ ⟨hn1,hn2⟩
 clear hsx hk;have HS:Hid (r.ss++[x]=S):=hS;clear hS;obtain ⟨i0,hi,hz0,hz1,hz2⟩:=info_parts Tryz.info85;clear hr hN hsm hc hEC hRp hsl hll hst;go_enter Tryz.func46,Tryz.ntmps46;go_upto_region 1 with fail
 rw [<- hV];clear hV;go_wp2_with fail
 refine (HF.out _ V0.out.xa).mono ?_;rintro d w1 ⟨rfl,rfl⟩;have a0:=V0.out.rb.1;have a1:=V0.out.rb.2.1;have a2:=V0.out.rb.2.2.1;have a3:=V0.out.rb.2.2.2;have hvl:w.heap.size < V.heap.size:=by have:=V0.out.lt;omega
 have HCP:=qT0 r V (HR.out _ V0.out.bl).1 HN.out (by omega) (by omega);go_wp2_with fail
 refine HCP.mono ?_;clear HCP;rintro d w2 ⟨gs,sc,gl,lc,rfl,ho1,ho2,hb2⟩;obtain ⟨Y,hY⟩:∃ Y,Y=w2.alloc (.cells #[.int .i64 r.i,.int .i64 r.u,.slice (some ⟨gs,0,none⟩) r.sn sc,.slice (some ⟨gl,0,none⟩) r.ln lc] 36):=⟨_,rfl⟩;have AY:Below w2.heap.size w2 Y:=by rw [hY];exact zN
 have hvl3:=V0.out.lt;have hs2:=hb2.size
 have O1:Hid (OX w r x w2.heap.size gs sc (some ⟨gl,0,none⟩) lc r.ls Y):=by
  refine ⟨(V0.out.below hb2).below AY,?_,qC0 (ho1.below AY) (by omega),?_,by omega⟩
  ·rw [hY,HSL.out.2];exact qP2 w2 _
  ·rw [HSL.out.2];exact qB0 (ho2.below AY) (by omega)
 have hq2:w.heap.size+2 < w2.heap.size:=by omega
 clear a0 a1 a2 a3 hvl hvl3 hs2 ho1 ho2 hb2 AY V0;go_upto_region 5 with fail
 rw [<- hY];clear hY;generalize w2.heap.size=q at O1 hq2 ⊢
 obtain ⟨x0,x1,x2,x3,x4⟩:=O1.out.ev.xa;simp only [Nat.zero_add] at x0 x1 x2 x3 x4;have hxl:w.heap.size+1 < _:=Nat.lt_of_succ_lt O1.out.ev.lt;go_wp2_with fail
 refine (HSD.out _ O1.out.ev).mono ?_;rintro d w3 ⟨rfl,hb3⟩;have O3:=qD7 (O1.out.below hb3);clear hb3 O1;clear x0 x1 x2 x3 x4 hxl;obtain ⟨x0,x1,x2,x3,x4⟩:=O3.out.ev.xa;simp only [Nat.zero_add] at x0 x1 x2 x3 x4;have hxl:w.heap.size+1 < _:=Nat.lt_of_succ_lt O3.out.ev.lt;go_wp2_with fail
 refine (HOF.out _ O3.out.ev).mono ?_;rintro d w4 ⟨rfl,hb4⟩;have O4:=qD7 (O3.out.below hb4);clear hb4 O3;clear x0 x1 x2 x3 x4 hxl;have a2:=O4.out.ev.rb.2.2.1;have hal:w.heap.size < w4.heap.size:=by have:=O4.out.ev.lt;omega
 obtain ⟨x0,x1,x2,x3,x4⟩:=O4.out.ev.xa;simp only [Nat.zero_add] at x0 x1 x2 x3 x4;have hxl:w.heap.size+1 < _:=Nat.lt_of_succ_lt O4.out.ev.lt;go_wp2_with fail
 refine (HNX.out _ O4.out.ev).mono ?_;rintro d w5 ⟨rfl,hb5⟩;have O5:=qD7 (O4.out.below hb5);clear hb5 a2 hal O4;clear x0 x1 x2 x3 x4 hxl;by_cases hk0:k=0
 ·subst hk0;obtain ⟨U,hU⟩:∃ U,U=w5.alloc (.cells #[.int .i64 x.k,.int .i64 x.e,.int .i64 x.f,.int .i64 x.s,.int .i64 x.n] 85):=⟨_,rfl⟩;have AU:Below w5.heap.size w5 U:=by rw [hU];exact zN
  have OU:=qD7 (O5.out.below AU)
  have RU:Hid (U.ownsRow (w.heap.size+3) 85 5 (.slice (some ⟨gs,0,none⟩) r.sn sc) r.sn (qC3 r.ss)):=by
   have q:=OU.out.so;unfold qB2 at q;rw [HSL.out.1] at q;exact q
  have PU:Hid (qN8 U (some ⟨w5.heap.size,0,none⟩) 1 [x]):=by show qN8 _ _ _ _;rw [hU];exact QI6 w5 x _
  have hUs:w.heap.size+3<=U.heap.size:=by have:=OU.out.ev.lt;omega
  obtain ⟨x0,x1,x2,x3,x4⟩:=O5.out.ev.xa;simp only [Nat.zero_add] at x0 x1 x2 x3 x4;have hxl:w.heap.size+1 < _:=Nat.lt_of_succ_lt O5.out.ev.lt;have o2:=qA1 O5.out.ob 2;simp at o2;have hql:=O5.out.qlt;have hxl2:w.heap.size+1 < w5.heap.size:=hxl;go_upto_region 23 with fail
  go_wp2_with (first | (at_builtin;rw [<- hU];refine qR4 rfl _ _ 33 rfl (w.heap.size+3) 85 i0 (.agg #[.int .i64 0,.int .i64 0,.int .i64 0,.int .i64 0,.int .i64 0]) 5 40 Tryz.underlying33 hi hz0 hz1 hz2 rfl (by decide) (.slice (some ⟨gs,0,none⟩) r.sn sc) r.sn (qC3 r.ss) rfl RU.out (by simp) (some ⟨w5.heap.size,0,none⟩) 1 1 (qC3 [x]) rfl (fun e=>by cases e) rfl (fun p e=>by cases e;exact qY6 PU.out) (qO3 _) (by unfold maxLen;omega) (by omega) hUs ?_) | fail)
  intro v6 w6 hown6 hgrow6 hnil6
  have E6:qB2 w6 (w.heap.size+3) v6 S:=by
   rw [<- HS.out];show World.ownsRow _ _ 85 5 _ (r.ss++[x]).length (qC3 (r.ss++[x]))
   rw [qK4,List.length_append,HSL.out.1];exact hown6
  obtain ⟨g6,cap6,hv6⟩:=E6.shape hnil6;subst hv6;have hgU:U.grownBy w6 (some gs):=by first | exact hgrow6 | (rw [hU];exact hgrow6)
  obtain ⟨Z6,B6,K6,L6⟩:=OU.out.said (by rw [HS.out];exact E6) hgU;obtain ⟨w7,hw7⟩:∃ w7,w7=w6.setCell ⟨q,2,none⟩ (.slice (some ⟨g6,0,none⟩) S.length cap6):=⟨_,rfl⟩;have K7:w7.heap[q]? = some (.cells #[.int .i64 r.i,.int .i64 r.u,.slice (some ⟨g6,0,none⟩) S.length cap6,.slice (some ⟨gl,0,none⟩) r.ls.length lc] 36 (0,0)):=by rw [hw7];exact qL1 K6
  have Z7:qH0 (w.heap.size+2) [.int .i64 0,.int .i64 0,.int .i64 0,.slice none 0 0,.slice none 0 0] w7:=by rw [hw7];exact Z6.other (by show q≠_;omega) _
  have B7:Hid (Below w.heap.size w w7):=by show Below _ _ _;rw [hw7];exact B6.setCell (by show w.heap.size<=q;omega) _
  have E7:Hid (qB2 w7 (w.heap.size+3) (.slice (some ⟨g6,0,none⟩) S.length cap6) S):=by
   show qB2 _ _ _ _
   rw [hw7];exact qA0 E6 (fun g e=>by obtain ⟨cur,hcc,_⟩:=qC5 E6 e;exact zS (qK7 hcc K6 (by decide)))
  have L7:Hid (qA7 w7 (w.heap.size+3) (.slice (some ⟨gl,0,none⟩) r.ls.length lc) r.ls):=by
   show qA7 _ _ _ _
   rw [hw7];exact qA0 L6 (fun g e=>by obtain ⟨cur,hcc,_⟩:=qC6 L6 e;exact zS (qK7 hcc K6 (by decide)))
  have k2:=qA1 K6 2;simp at k2;have kf2:=qL9 K6 2;have hq6:=(Array.getElem?_eq_some_iff.1 K6).1;clear hown6 hgrow6 hnil6 hgU E6 Z6 B6 L6 x0 x1 x2 x3 x4 hxl hxl2 o2 hql RU PU AU OU hU O5;go_upto_region 24 with fail
  rw [<- hw7];clear hw7 k2 kf2 hq6;have o0:=qA1 K7 0;have o1:=qA1 K7 1;have o2:=qA1 K7 2;have o3:=qA1 K7 3;simp at o0 o1 o2 o3;have hql:=(Array.getElem?_eq_some_iff.1 K7).1;have z0:=Z7.1 0 _ rfl;have z1:=Z7.1 1 _ rfl;have z2:=Z7.1 2 _ rfl;have z3:=Z7.1 3 _ rfl;have z4:=Z7.1 4 _ rfl;have f0:=Z7.2 0;have f1:=Z7.2 1;have f2:=Z7.2 2;have f3:=Z7.2 3;have f4:=Z7.2 4;have hzl:w.heap.size+2 < w7.heap.size:=by omega
  have hqn:w.heap.size+2≠q:=by omega
  clear K7 Z7 K6;go_wp2_with fail
  refine bodyPost_ret (v:=.agg #[.int .i64 0,.int .i64 r.i,.int .i64 r.u,.slice (some ⟨g6,0,none⟩) S.length cap6,.slice (some ⟨gl,0,none⟩) r.ls.length lc]) (by simp [results,Tryz.results46,go_sem,z0,z1,z2,z3,z4,hzl]) rfl ?_;refine ⟨(((((B7.out.setCell (by show w.heap.size<=w.heap.size+2;omega) _).setCell (by show w.heap.size<=w.heap.size+2;omega) _).setCell (by show w.heap.size<=w.heap.size+2;omega) _).setCell (by show w.heap.size<=w.heap.size+2;omega) _).setCell (by show w.heap.size<=w.heap.size+2;omega) _),fun q=>absurd rfl q,fun _=>?_⟩;refine ⟨some ⟨g6,0,none⟩,cap6,(some ⟨gl,0,none⟩),lc,rfl,qC0 (qA0 E7.out (fun g e=>?_)) (by omega),qB0 (qA0 L7.out (fun g e=>?_)) (by omega)⟩
  ·obtain ⟨cur,hcc,hgg⟩:=qC5 E7.out e;rw [zS (by show g≠w.heap.size+2;omega),zS (by show g≠w.heap.size+2;omega),zS (by show g≠w.heap.size+2;omega),zS (by show g≠w.heap.size+2;omega),zS (by show g≠w.heap.size+2;omega)]
  ·obtain ⟨cur,hcc,hgg⟩:=qC6 L7.out e;rw [zS (by show g≠w.heap.size+2;omega),zS (by show g≠w.heap.size+2;omega),zS (by show g≠w.heap.size+2;omega),zS (by show g≠w.heap.size+2;omega),zS (by show g≠w.heap.size+2;omega)]
 ·have kb:(k != 0)=true:=by simp [hk0]
  have z0:=O5.out.ev.rs.1 0 _ rfl;have z1:=O5.out.ev.rs.1 1 _ rfl;have z2:=O5.out.ev.rs.1 2 _ rfl;have z3:=O5.out.ev.rs.1 3 _ rfl;have z4:=O5.out.ev.rs.1 4 _ rfl;have f0:=O5.out.ev.rs.2 0;have f1:=O5.out.ev.rs.2 1;have f2:=O5.out.ev.rs.2 2;have f3:=O5.out.ev.rs.2 3;have f4:=O5.out.ev.rs.2 4;have hzl:=O5.out.ev.lt;go_wp2_with fail
  refine bodyPost_ret (v:=.agg #[.int .i64 k,.int .i64 0,.int .i64 0,.slice none 0 0,.slice none 0 0]) (by simp [results,Tryz.results46,go_sem,z0,z1,z2,z3,z4,hzl]) rfl ?_;exact ⟨(((((O5.out.ev.bl.setCell (by show w.heap.size<=w.heap.size+2;omega) _).setCell (by show w.heap.size<=w.heap.size+2;omega) _).setCell (by show w.heap.size<=w.heap.size+2;omega) _).setCell (by show w.heap.size<=w.heap.size+2;omega) _).setCell (by show w.heap.size<=w.heap.size+2;omega) _),fun _=>rfl,fun q=>absurd q (by first | assumption | decide)⟩
theorem QN9 (E:qH1) (r:qL4) (a:Option Addr) (m cap:Nat) (cs:List qA4) (x:StI) (w:World) (hr:qG1 w r) (hN:qJ7 r) (hsm:∀ p,r.la=some p->∃ b0 o0,p=⟨b0,o0,none⟩/\b0 < w.heap.size) (hc:qA6 w a m cs) (hEC:qN7 E cs) (hm:0 < m) (hm8:m<=8) (hRp:RpS E r.ss r.ls) (hst:qB5 x=0) (hsx:qD9 r.ss x=false) (p:Nat) (hp:qB6 E r.ss x.e=(p:Int)) (h40:r.sn < 40) (hk1':x.k=1) (c:qA4) (hpc:cs[p]? = some c) (gs:List GrI) (hg:QJ9 c.zs gs) (k:Int) (L:List LkI) (hI:∀ (b bx g o:Nat) (W:World),IsA W b r g o c gs bx x->qH6 76 #[.pointer (some ⟨b,0,none⟩),.pointer (some ⟨g,o,none⟩),.pointer (some ⟨bx,0,none⟩)] k L W) (hk0:k≠0) :
  Calls Tryz.prog 46 #[.agg #[.int .i64 r.i,.int .i64 r.u,.slice r.sa r.sn r.sc,.slice r.la r.ln r.lc],.slice a m cap,.agg #[.int .i64 x.k,.int .i64 x.e,.int .i64 x.f,.int .i64 x.s,.int .i64 x.n]] w fun d w'=>qFV r k [] [] w d w':=by
 have hsl:r.ss.length=r.sn:=hr.said.1;have hll:r.ls.length=r.ln:=hr.locks.1;have hs40:r.sn<=40:=by have:=hRp.len;omega
 have hl200:r.ln<=200:=by have:=(QF7 hRp.lk).1;omega
 have hs40':(r.sn:Int)<=40:=by omega
 have HR:Hid (∀ W,Below w.heap.size w W->qG1 W r/\qA6 W a m cs/\(∀ p,r.la=some p->∃ b0 o0,p=⟨b0,o0,none⟩/\b0 < W.heap.size)):=fun W hb=>⟨hr.below hb,hc.below hb,fun p e=>by obtain ⟨b0,o0,q,hl⟩:=hsm p e;exact ⟨b0,o0,q,Nat.lt_of_lt_of_le hl hb.size⟩⟩
 have HSL:Hid (r.ss.length=r.sn/\r.ls.length=r.ln):=⟨hsl,hll⟩;have HN:Hid (qJ7 r):=hN;have HEC:Hid (qN7 E cs):=hEC;have HRP:Hid (RpS E r.ss r.ls):=hRp;have HF:Hid (∀ W,qL3 W (w.heap.size+1) 0 x->Calls Tryz.prog 59 #[.pointer (some ⟨w.heap.size+1,0,none⟩)] W fun e w'=>e = .returned (.int .i64 0)/\W=w'):=fun W q=>by rw [<- hst];exact qJ4 _ _ x W q
 obtain ⟨V,hV⟩:∃ V,V=((w.alloc (.cells #[.int .i64 r.i,.int .i64 r.u,.slice r.sa r.sn r.sc,.slice r.la r.ln r.lc] 36)).alloc (.cells #[.int .i64 x.k,.int .i64 x.e,.int .i64 x.f,.int .i64 x.s,.int .i64 x.n] 85)).alloc (.cells #[.int .i64 0,.int .i64 0,.int .i64 0,.slice none 0 0,.slice none 0 0] 48):=⟨_,rfl⟩;have V0:Hid (EV w r x V):=by show EV w r x V;rw [hV];exact EV.new w r x
 obtain ⟨⟨hk1,hk2⟩,⟨he1,he2⟩,⟨hn1,hn2⟩,_⟩:=qH8 hst;have HX0:Hid (qB5 x=0):=hst;have HX1:Hid (x.k=1):=hk1';have HSD:Hid (∀ W,EV w r x W->Calls Tryz.prog 47 #[.pointer (some ⟨w.heap.size,0,none⟩),.agg #[.int .i64 x.k,.int .i64 x.e,.int .i64 x.f,.int .i64 x.s,.int .i64 x.n]] W fun d w'=>d = .returned (.bool false)/\Below W.heap.size W w'):=fun W q=>by rw [<- hsx];exact qK3 _ r x W q.rb (HR.out _ q.bl).1.said (by omega)
 have h40':(r.sn:Int) < 40:=by omega
 have hpl:p < m:=by
  have:=(List.getElem?_eq_some_iff.1 hpc).1;have:=hc.len;omega
 have hpl':(p:Int) < (m:Int):=by omega
 have hp0':¬ ((p:Int) < 0):=by omega
 obtain ⟨g,off,c',rfl,hc',_,_⟩:=hc.at hpl
 obtain rfl:c=c':=Option.some.inj (hpc.symm.trans hc')
 have HIS:Hid (∀ W,EV w r x W->qH6 76 #[.pointer (some ⟨w.heap.size,0,none⟩),.pointer (some ⟨g,off+p * 5,none⟩),.pointer (some ⟨w.heap.size+1,0,none⟩)] k L W):=fun W q=>by
  obtain ⟨hr1,hc1,hs1⟩:=HR.out _ q.bl;obtain ⟨⟨d1,_,_,d4⟩,_⟩:=HEC.out.cf _ c hpc;obtain ⟨g',off',c'',e',hc'',hat',hci'⟩:=hc1.at hpl
  cases e';obtain rfl:c=c'':=Option.some.inj (hpc.symm.trans hc'');exact hI _ _ _ _ W ⟨q.rb,hr1,by omega,HN.out.l,hs1,HRP.out.lk,hat',hci',d1,d4,hg,q.xa,HX0.out,HX1.out⟩
 unfold qH6 at HIS;have k1:(x.k==1)=true:=by simp [hk1']
 have HOF:Hid (∀ W,EV w r x W->Calls Tryz.prog 75 #[.pointer (some ⟨w.heap.size,0,none⟩),.slice (some ⟨g,off,none⟩) m cap,.int .i64 x.e] W fun d w'=>d = .returned (.int .i64 (p:Int))/\Below W.heap.size W w'):=fun W q=>by rw [<- hp];exact QN8 E _ r _ m cap cs x.e W HEC.out.es q.rb (HR.out _ q.bl).1.said (by omega) (HR.out _ q.bl).2.1 hm hm8 ⟨he1,he2⟩
 have kb:(k != 0)=true:=by simp [hk0]
 clear hsx hI hpc hc' hk1' hp;clear hr hN hsm hc hEC hRp hsl hll hst;go_enter Tryz.func46,Tryz.ntmps46;go_upto_region 1 with fail
 rw [<- hV];clear hV;go_wp2_with fail
 refine (HF.out _ V0.out.xa).mono ?_;rintro d w1 ⟨rfl,rfl⟩;have a0:=V0.out.rb.1;have a1:=V0.out.rb.2.1;have a2:=V0.out.rb.2.2.1;have a3:=V0.out.rb.2.2.2;have hvl:w.heap.size < V.heap.size:=by have:=V0.out.lt;omega
 have HCP:=qT0 r V (HR.out _ V0.out.bl).1 HN.out (by omega) (by omega);go_wp2_with fail
 refine HCP.mono ?_;clear HCP;rintro d w2 ⟨gs_,sc,gl,lc,rfl,ho1,ho2,hb2⟩;obtain ⟨Y,hY⟩:∃ Y,Y=w2.alloc (.cells #[.int .i64 r.i,.int .i64 r.u,.slice (some ⟨gs_,0,none⟩) r.sn sc,.slice (some ⟨gl,0,none⟩) r.ln lc] 36):=⟨_,rfl⟩;have AY:Below w2.heap.size w2 Y:=by rw [hY];exact zN
 have hvl3:=V0.out.lt;have hs2:=hb2.size
 have O1:Hid (OX w r x w2.heap.size gs_ sc (some ⟨gl,0,none⟩) lc r.ls Y):=by
  refine ⟨(V0.out.below hb2).below AY,?_,qC0 (ho1.below AY) (by omega),?_,by omega⟩
  ·rw [hY,HSL.out.2];exact qP2 w2 _
  ·rw [HSL.out.2];exact qB0 (ho2.below AY) (by omega)
 have hq2:w.heap.size+2 < w2.heap.size:=by omega
 clear a0 a1 a2 a3 hvl hvl3 hs2 ho1 ho2 hb2 AY V0;go_upto_region 5 with fail
 rw [<- hY];clear hY;generalize w2.heap.size=q at O1 hq2 ⊢
 obtain ⟨x0,x1,x2,x3,x4⟩:=O1.out.ev.xa;simp only [Nat.zero_add] at x0 x1 x2 x3 x4;have hxl:w.heap.size+1 < _:=Nat.lt_of_succ_lt O1.out.ev.lt;go_wp2_with fail
 refine (HSD.out _ O1.out.ev).mono ?_;rintro d w3 ⟨rfl,hb3⟩;have O3:=qD7 (O1.out.below hb3);clear hb3 O1;clear x0 x1 x2 x3 x4 hxl;obtain ⟨x0,x1,x2,x3,x4⟩:=O3.out.ev.xa;simp only [Nat.zero_add] at x0 x1 x2 x3 x4;have hxl:w.heap.size+1 < _:=Nat.lt_of_succ_lt O3.out.ev.lt;go_wp2_with fail
 refine (HOF.out _ O3.out.ev).mono ?_;rintro d w4 ⟨rfl,hb4⟩;have O4:=qD7 (O3.out.below hb4);clear hb4 O3;clear x0 x1 x2 x3 x4 hxl;have a2:=O4.out.ev.rb.2.2.1;have hal:w.heap.size < w4.heap.size:=by have:=O4.out.ev.lt;omega
 obtain ⟨x0,x1,x2,x3,x4⟩:=O4.out.ev.xa;simp only [Nat.zero_add] at x0 x1 x2 x3 x4;have hxl:w.heap.size+1 < _:=Nat.lt_of_succ_lt O4.out.ev.lt;go_wp2_with fail
 refine (HIS.out _ O4.out.ev).mono ?_;rintro d w5 ⟨la',lc',rfl,ho5,hb5⟩;obtain ⟨T,hT⟩:∃ T,T=w5.alloc (.cells #[.int .i64 k,.slice la' L.length lc'] 135):=⟨_,rfl⟩;have AT:Below w5.heap.size w5 T:=by rw [hT];exact zN
 have O5:=qD7 ((O4.out.below hb5).below AT);have XT:Hid (qV9 w5.heap.size [.int .i64 k,.slice la' L.length lc'] T/\w5.heap.size < T.heap.size):=by rw [hT];exact ⟨(qE6 w5 _ _).out,by simp⟩
 have LT:Hid (qA7 T (w.heap.size+3) (.slice la' L.length lc') L):=qB0 (ho5.below AT) (by have:=O4.out.ev.lt;omega);clear hb5 ho5 AT a2 hal O4;clear x0 x1 x2 x3 x4 hxl;go_upto_region 15 with fail
 rw [<- hT];clear hT;generalize w5.heap.size=q5 at XT ⊢
 have t0:=XT.out.1 0 _ rfl;have t1:=XT.out.1 1 _ rfl;have htl:=XT.out.2;have z0:=O5.out.ev.rs.1 0 _ rfl;have z1:=O5.out.ev.rs.1 1 _ rfl;have z2:=O5.out.ev.rs.1 2 _ rfl;have z3:=O5.out.ev.rs.1 3 _ rfl;have z4:=O5.out.ev.rs.1 4 _ rfl;have f0:=O5.out.ev.rs.2 0;have f1:=O5.out.ev.rs.2 1;have f2:=O5.out.ev.rs.2 2;have f3:=O5.out.ev.rs.2 3;have f4:=O5.out.ev.rs.2 4;have hzl:=O5.out.ev.lt;go_wp2_with fail
 refine bodyPost_ret (v:=.agg #[.int .i64 k,.int .i64 0,.int .i64 0,.slice none 0 0,.slice none 0 0]) (by simp [results,Tryz.results46,go_sem,z0,z1,z2,z3,z4,hzl]) rfl ?_;exact ⟨(((((O5.out.ev.bl.setCell (by show w.heap.size<=w.heap.size+2;omega) _).setCell (by show w.heap.size<=w.heap.size+2;omega) _).setCell (by show w.heap.size<=w.heap.size+2;omega) _).setCell (by show w.heap.size<=w.heap.size+2;omega) _).setCell (by show w.heap.size<=w.heap.size+2;omega) _),fun _=>rfl,fun q=>absurd q (by first | assumption | decide)⟩
theorem QR0 (E:qH1) (r:qL4) (a:Option Addr) (m cap:Nat) (cs:List qA4) (x:StI) (w:World) (hr:qG1 w r) (hN:qJ7 r) (hsm:∀ p,r.la=some p->∃ b0 o0,p=⟨b0,o0,none⟩/\b0 < w.heap.size) (hc:qA6 w a m cs) (hEC:qN7 E cs) (hm:0 < m) (hm8:m<=8) (hRp:RpS E r.ss r.ls) (hst:qB5 x=0) (hsx:qD9 r.ss x=false) (p:Nat) (hp:qB6 E r.ss x.e=(p:Int)) (h40:r.sn < 40) (hk1':x.k=1) (c:qA4) (hpc:cs[p]? = some c) (gs:List GrI) (hg:QJ9 c.zs gs) (k:Int) (L:List LkI) (hI:∀ (b bx g o:Nat) (W:World),IsA W b r g o c gs bx x->qH6 76 #[.pointer (some ⟨b,0,none⟩),.pointer (some ⟨g,o,none⟩),.pointer (some ⟨bx,0,none⟩)] k L W) (hk0:k=0) (S:List StI) (hS:r.ss++[x]=S) :
  Calls Tryz.prog 46 #[.agg #[.int .i64 r.i,.int .i64 r.u,.slice r.sa r.sn r.sc,.slice r.la r.ln r.lc],.slice a m cap,.agg #[.int .i64 x.k,.int .i64 x.e,.int .i64 x.f,.int .i64 x.s,.int .i64 x.n]] w fun d w'=>qFV r 0 S L w d w':=by
 have hsl:r.ss.length=r.sn:=hr.said.1;have hll:r.ls.length=r.ln:=hr.locks.1;have hs40:r.sn<=40:=by have:=hRp.len;omega
 have hl200:r.ln<=200:=by have:=(QF7 hRp.lk).1;omega
 have hs40':(r.sn:Int)<=40:=by omega
 have HR:Hid (∀ W,Below w.heap.size w W->qG1 W r/\qA6 W a m cs/\(∀ p,r.la=some p->∃ b0 o0,p=⟨b0,o0,none⟩/\b0 < W.heap.size)):=fun W hb=>⟨hr.below hb,hc.below hb,fun p e=>by obtain ⟨b0,o0,q,hl⟩:=hsm p e;exact ⟨b0,o0,q,Nat.lt_of_lt_of_le hl hb.size⟩⟩
 have HSL:Hid (r.ss.length=r.sn/\r.ls.length=r.ln):=⟨hsl,hll⟩;have HN:Hid (qJ7 r):=hN;have HEC:Hid (qN7 E cs):=hEC;have HRP:Hid (RpS E r.ss r.ls):=hRp;have HF:Hid (∀ W,qL3 W (w.heap.size+1) 0 x->Calls Tryz.prog 59 #[.pointer (some ⟨w.heap.size+1,0,none⟩)] W fun e w'=>e = .returned (.int .i64 0)/\W=w'):=fun W q=>by rw [<- hst];exact qJ4 _ _ x W q
 obtain ⟨V,hV⟩:∃ V,V=((w.alloc (.cells #[.int .i64 r.i,.int .i64 r.u,.slice r.sa r.sn r.sc,.slice r.la r.ln r.lc] 36)).alloc (.cells #[.int .i64 x.k,.int .i64 x.e,.int .i64 x.f,.int .i64 x.s,.int .i64 x.n] 85)).alloc (.cells #[.int .i64 0,.int .i64 0,.int .i64 0,.slice none 0 0,.slice none 0 0] 48):=⟨_,rfl⟩;have V0:Hid (EV w r x V):=by show EV w r x V;rw [hV];exact EV.new w r x
 obtain ⟨⟨hk1,hk2⟩,⟨he1,he2⟩,⟨hn1,hn2⟩,_⟩:=qH8 hst;have HX0:Hid (qB5 x=0):=hst;have HX1:Hid (x.k=1):=hk1';have HSD:Hid (∀ W,EV w r x W->Calls Tryz.prog 47 #[.pointer (some ⟨w.heap.size,0,none⟩),.agg #[.int .i64 x.k,.int .i64 x.e,.int .i64 x.f,.int .i64 x.s,.int .i64 x.n]] W fun d w'=>d = .returned (.bool false)/\Below W.heap.size W w'):=fun W q=>by rw [<- hsx];exact qK3 _ r x W q.rb (HR.out _ q.bl).1.said (by omega)
 have h40':(r.sn:Int) < 40:=by omega
 have hpl:p < m:=by
  have:=(List.getElem?_eq_some_iff.1 hpc).1;have:=hc.len;omega
 have hpl':(p:Int) < (m:Int):=by omega
 have hp0':¬ ((p:Int) < 0):=by omega
 obtain ⟨g,off,c',rfl,hc',_,_⟩:=hc.at hpl
 obtain rfl:c=c':=Option.some.inj (hpc.symm.trans hc')
 have HIS:Hid (∀ W,EV w r x W->qH6 76 #[.pointer (some ⟨w.heap.size,0,none⟩),.pointer (some ⟨g,off+p * 5,none⟩),.pointer (some ⟨w.heap.size+1,0,none⟩)] k L W):=fun W q=>by
  obtain ⟨hr1,hc1,hs1⟩:=HR.out _ q.bl;obtain ⟨⟨d1,_,_,d4⟩,_⟩:=HEC.out.cf _ c hpc;obtain ⟨g',off',c'',e',hc'',hat',hci'⟩:=hc1.at hpl
  cases e';obtain rfl:c=c'':=Option.some.inj (hpc.symm.trans hc'');exact hI _ _ _ _ W ⟨q.rb,hr1,by omega,HN.out.l,hs1,HRP.out.lk,hat',hci',d1,d4,hg,q.xa,HX0.out,HX1.out⟩
 unfold qH6 at HIS;have k1:(x.k==1)=true:=by simp [hk1']
 have HOF:Hid (∀ W,EV w r x W->Calls Tryz.prog 75 #[.pointer (some ⟨w.heap.size,0,none⟩),.slice (some ⟨g,off,none⟩) m cap,.int .i64 x.e] W fun d w'=>d = .returned (.int .i64 (p:Int))/\Below W.heap.size W w'):=fun W q=>by rw [<- hp];exact QN8 E _ r _ m cap cs x.e W HEC.out.es q.rb (HR.out _ q.bl).1.said (by omega) (HR.out _ q.bl).2.1 hm hm8 ⟨he1,he2⟩
 clear hsx hI hpc hc' hk1' hp;subst hk0;have HS:Hid (r.ss++[x]=S):=hS;clear hS;obtain ⟨i0,hi,hz0,hz1,hz2⟩:=info_parts Tryz.info85;clear hr hN hsm hc hEC hRp hsl hll hst;go_enter Tryz.func46,Tryz.ntmps46;go_upto_region 1 with fail
 rw [<- hV];clear hV;go_wp2_with fail
 refine (HF.out _ V0.out.xa).mono ?_;rintro d w1 ⟨rfl,rfl⟩;have a0:=V0.out.rb.1;have a1:=V0.out.rb.2.1;have a2:=V0.out.rb.2.2.1;have a3:=V0.out.rb.2.2.2;have hvl:w.heap.size < V.heap.size:=by have:=V0.out.lt;omega
 have HCP:=qT0 r V (HR.out _ V0.out.bl).1 HN.out (by omega) (by omega);go_wp2_with fail
 refine HCP.mono ?_;clear HCP;rintro d w2 ⟨gs_,sc,gl,lc,rfl,ho1,ho2,hb2⟩;obtain ⟨Y,hY⟩:∃ Y,Y=w2.alloc (.cells #[.int .i64 r.i,.int .i64 r.u,.slice (some ⟨gs_,0,none⟩) r.sn sc,.slice (some ⟨gl,0,none⟩) r.ln lc] 36):=⟨_,rfl⟩;have AY:Below w2.heap.size w2 Y:=by rw [hY];exact zN
 have hvl3:=V0.out.lt;have hs2:=hb2.size
 have O1:Hid (OX w r x w2.heap.size gs_ sc (some ⟨gl,0,none⟩) lc r.ls Y):=by
  refine ⟨(V0.out.below hb2).below AY,?_,qC0 (ho1.below AY) (by omega),?_,by omega⟩
  ·rw [hY,HSL.out.2];exact qP2 w2 _
  ·rw [HSL.out.2];exact qB0 (ho2.below AY) (by omega)
 have hq2:w.heap.size+2 < w2.heap.size:=by omega
 clear a0 a1 a2 a3 hvl hvl3 hs2 ho1 ho2 hb2 AY V0;go_upto_region 5 with fail
 rw [<- hY];clear hY;generalize w2.heap.size=q at O1 hq2 ⊢
 obtain ⟨x0,x1,x2,x3,x4⟩:=O1.out.ev.xa;simp only [Nat.zero_add] at x0 x1 x2 x3 x4;have hxl:w.heap.size+1 < _:=Nat.lt_of_succ_lt O1.out.ev.lt;go_wp2_with fail
 refine (HSD.out _ O1.out.ev).mono ?_;rintro d w3 ⟨rfl,hb3⟩;have O3:=qD7 (O1.out.below hb3);clear hb3 O1;clear x0 x1 x2 x3 x4 hxl;obtain ⟨x0,x1,x2,x3,x4⟩:=O3.out.ev.xa;simp only [Nat.zero_add] at x0 x1 x2 x3 x4;have hxl:w.heap.size+1 < _:=Nat.lt_of_succ_lt O3.out.ev.lt;go_wp2_with fail
 refine (HOF.out _ O3.out.ev).mono ?_;rintro d w4 ⟨rfl,hb4⟩;have O4:=qD7 (O3.out.below hb4);clear hb4 O3;clear x0 x1 x2 x3 x4 hxl;have a2:=O4.out.ev.rb.2.2.1;have hal:w.heap.size < w4.heap.size:=by have:=O4.out.ev.lt;omega
 obtain ⟨x0,x1,x2,x3,x4⟩:=O4.out.ev.xa;simp only [Nat.zero_add] at x0 x1 x2 x3 x4;have hxl:w.heap.size+1 < _:=Nat.lt_of_succ_lt O4.out.ev.lt;go_wp2_with fail
 refine (HIS.out _ O4.out.ev).mono ?_;rintro d w5 ⟨la',lc',rfl,ho5,hb5⟩;obtain ⟨T,hT⟩:∃ T,T=w5.alloc (.cells #[.int .i64 0,.slice la' L.length lc'] 135):=⟨_,rfl⟩;have AT:Below w5.heap.size w5 T:=by rw [hT];exact zN
 have O5:=qD7 ((O4.out.below hb5).below AT);have XT:Hid (qV9 w5.heap.size [.int .i64 0,.slice la' L.length lc'] T/\w5.heap.size < T.heap.size):=by rw [hT];exact ⟨(qE6 w5 _ _).out,by simp⟩
 have LT:Hid (qA7 T (w.heap.size+3) (.slice la' L.length lc') L):=qB0 (ho5.below AT) (by have:=O4.out.ev.lt;omega);clear hb5 ho5 AT a2 hal O4;clear x0 x1 x2 x3 x4 hxl;go_upto_region 15 with fail
 rw [<- hT];clear hT;generalize w5.heap.size=q5 at XT ⊢
 have t0:=XT.out.1 0 _ rfl;have t1:=XT.out.1 1 _ rfl;have htl:=XT.out.2;have o3:=qA1 O5.out.ob 3;simp at o3;have of3:=qL9 O5.out.ob 3;have hql:=O5.out.qlt;obtain ⟨T2,hT2⟩:∃ T2,T2=T.setCell ⟨q,3,none⟩ (.slice la' L.length lc'):=⟨_,rfl⟩;have O6:Hid (OX w r x q gs_ sc la' lc' L T2):=by show OX _ _ _ _ _ _ _ _ _ _;rw [hT2];exact O5.out.lock LT.out
 go_upto_region 23 with fail
 rw [<- hT2];clear hT2 o3 of3 hql t0 t1 htl XT LT O5;obtain ⟨U,hU⟩:∃ U,U=T2.alloc (.cells #[.int .i64 x.k,.int .i64 x.e,.int .i64 x.f,.int .i64 x.s,.int .i64 x.n] 85):=⟨_,rfl⟩;have AU:Below T2.heap.size T2 U:=by rw [hU];exact zN
 have OU:=qD7 (O6.out.below AU)
 have RU:Hid (U.ownsRow (w.heap.size+3) 85 5 (.slice (some ⟨gs_,0,none⟩) r.sn sc) r.sn (qC3 r.ss)):=by
  have q:=OU.out.so;unfold qB2 at q;rw [HSL.out.1] at q;exact q
 have PU:Hid (qN8 U (some ⟨T2.heap.size,0,none⟩) 1 [x]):=by show qN8 _ _ _ _;rw [hU];exact QI6 T2 x _
 have hUs:w.heap.size+3<=U.heap.size:=by have:=OU.out.ev.lt;omega
 obtain ⟨x0,x1,x2,x3,x4⟩:=O6.out.ev.xa;simp only [Nat.zero_add] at x0 x1 x2 x3 x4;have hxl:w.heap.size+1 < _:=Nat.lt_of_succ_lt O6.out.ev.lt;have o2:=qA1 O6.out.ob 2;simp at o2;have hql:=O6.out.qlt;have hxl2:w.heap.size+1 < T2.heap.size:=hxl;go_wp2_with (first | (at_builtin;rw [<- hU];refine qR4 rfl _ _ 33 rfl (w.heap.size+3) 85 i0 (.agg #[.int .i64 0,.int .i64 0,.int .i64 0,.int .i64 0,.int .i64 0]) 5 40 Tryz.underlying33 hi hz0 hz1 hz2 rfl (by decide) (.slice (some ⟨gs_,0,none⟩) r.sn sc) r.sn (qC3 r.ss) rfl RU.out (by simp) (some ⟨T2.heap.size,0,none⟩) 1 1 (qC3 [x]) rfl (fun e=>by cases e) rfl (fun p e=>by cases e;exact qY6 PU.out) (qO3 _) (by unfold maxLen;omega) (by omega) hUs ?_) | fail)
 intro v6 w6 hown6 hgrow6 hnil6
 have E6:qB2 w6 (w.heap.size+3) v6 S:=by
  rw [<- HS.out];show World.ownsRow _ _ 85 5 _ (r.ss++[x]).length (qC3 (r.ss++[x]))
  rw [qK4,List.length_append,HSL.out.1];exact hown6
 obtain ⟨g6,cap6,hv6⟩:=E6.shape hnil6;subst hv6;have hgU:U.grownBy w6 (some gs_):=by first | exact hgrow6 | (rw [hU];exact hgrow6)
 obtain ⟨Z6,B6,K6,L6⟩:=OU.out.said (by rw [HS.out];exact E6) hgU;obtain ⟨w7,hw7⟩:∃ w7,w7=w6.setCell ⟨q,2,none⟩ (.slice (some ⟨g6,0,none⟩) S.length cap6):=⟨_,rfl⟩;have K7:w7.heap[q]? = some (.cells #[.int .i64 r.i,.int .i64 r.u,.slice (some ⟨g6,0,none⟩) S.length cap6,.slice la' L.length lc'] 36 (0,0)):=by rw [hw7];exact qL1 K6
 have Z7:qH0 (w.heap.size+2) [.int .i64 0,.int .i64 0,.int .i64 0,.slice none 0 0,.slice none 0 0] w7:=by rw [hw7];exact Z6.other (by show q≠_;omega) _
 have B7:Hid (Below w.heap.size w w7):=by show Below _ _ _;rw [hw7];exact B6.setCell (by show w.heap.size<=q;omega) _
 have E7:Hid (qB2 w7 (w.heap.size+3) (.slice (some ⟨g6,0,none⟩) S.length cap6) S):=by
  show qB2 _ _ _ _
  rw [hw7];exact qA0 E6 (fun g e=>by obtain ⟨cur,hcc,_⟩:=qC5 E6 e;exact zS (qK7 hcc K6 (by decide)))
 have L7:Hid (qA7 w7 (w.heap.size+3) (.slice la' L.length lc') L):=by
  show qA7 _ _ _ _
  rw [hw7];exact qA0 L6 (fun g e=>by obtain ⟨cur,hcc,_⟩:=qC6 L6 e;exact zS (qK7 hcc K6 (by decide)))
 have k2:=qA1 K6 2;simp at k2;have kf2:=qL9 K6 2;have hq6:=(Array.getElem?_eq_some_iff.1 K6).1;clear hown6 hgrow6 hnil6 hgU E6 Z6 B6 L6 x0 x1 x2 x3 x4 hxl hxl2 o2 hql RU PU AU OU hU O6;go_upto_region 24 with fail
 rw [<- hw7];clear hw7 k2 kf2 hq6;have o0:=qA1 K7 0;have o1:=qA1 K7 1;have o2:=qA1 K7 2;have o3:=qA1 K7 3;simp at o0 o1 o2 o3;have hql:=(Array.getElem?_eq_some_iff.1 K7).1;have z0:=Z7.1 0 _ rfl;have z1:=Z7.1 1 _ rfl;have z2:=Z7.1 2 _ rfl;have z3:=Z7.1 3 _ rfl;have z4:=Z7.1 4 _ rfl;have f0:=Z7.2 0;have f1:=Z7.2 1;have f2:=Z7.2 2;have f3:=Z7.2 3;have f4:=Z7.2 4;have hzl:w.heap.size+2 < w7.heap.size:=by omega
 have hqn:w.heap.size+2≠q:=by omega
 clear K7 Z7 K6;go_wp2_with fail
 refine bodyPost_ret (v:=.agg #[.int .i64 0,.int .i64 r.i,.int .i64 r.u,.slice (some ⟨g6,0,none⟩) S.length cap6,.slice la' L.length lc']) (by simp [results,Tryz.results46,go_sem,z0,z1,z2,z3,z4,hzl]) rfl ?_;refine ⟨(((((B7.out.setCell (by show w.heap.size<=w.heap.size+2;omega) _).setCell (by show w.heap.size<=w.heap.size+2;omega) _).setCell (by show w.heap.size<=w.heap.size+2;omega) _).setCell (by show w.heap.size<=w.heap.size+2;omega) _).setCell (by show w.heap.size<=w.heap.size+2;omega) _),fun q=>absurd rfl q,fun _=>?_⟩;refine ⟨some ⟨g6,0,none⟩,cap6,la',lc',rfl,qC0 (qA0 E7.out (fun g e=>?_)) (by omega),qB0 (qA0 L7.out (fun g e=>?_)) (by omega)⟩
 ·obtain ⟨cur,hcc,hgg⟩:=qC5 E7.out e;rw [zS (by show g≠w.heap.size+2;omega),zS (by show g≠w.heap.size+2;omega),zS (by show g≠w.heap.size+2;omega),zS (by show g≠w.heap.size+2;omega),zS (by show g≠w.heap.size+2;omega)]
 ·obtain ⟨cur,hcc,hgg⟩:=qC6 L7.out e;rw [zS (by show g≠w.heap.size+2;omega),zS (by show g≠w.heap.size+2;omega),zS (by show g≠w.heap.size+2;omega),zS (by show g≠w.heap.size+2;omega),zS (by show g≠w.heap.size+2;omega)]

theorem QJ6 {r:qL4} {k:Int} {S S':List StI} {L L':List LkI} {w:World} {d:Ending} {w':World} (h:qFV r k S L w d w') (hk:k≠0):qFV r k S' L' w d w':=⟨h.1,h.2.1,fun q=>absurd q hk⟩
theorem QG9 (E:qH1) (r:qL4) (a:Option Addr) (m cap:Nat) (cs:List qA4) (x:StI) (w:World) (hr:qG1 w r) (hN:qJ7 r) (hsm:∀ p,r.la=some p->∃ b0 o0,p=⟨b0,o0,none⟩/\b0 < w.heap.size) (hc:qA6 w a m cs) (hEC:qN7 E cs) (hm:0 < m) (hm8:m<=8) (hRp:RpS E r.ss r.ls) :
  Calls Tryz.prog 46 #[.agg #[.int .i64 r.i,.int .i64 r.u,.slice r.sa r.sn r.sc,.slice r.la r.ln r.lc],.slice a m cap,.agg #[.int .i64 x.k,.int .i64 x.e,.int .i64 x.f,.int .i64 x.s,.int .i64 x.n]] w fun d w'=>qFV r (qE9 E r.ss r.ls x) (qO5 r.ss x) (qK5 E r.ss r.ls x) w d w':=by
 have hsl:r.ss.length=r.sn:=hr.said.1;by_cases hst:qB5 x=0
 ·cases hsx:qD9 r.ss x
  ·have eC:qE9 E r.ss r.ls x=qF7 E r.ss r.ls x:=by unfold qE9;rw [if_pos hst,hsx,if_neg (by decide)]
   have eS:qO5 r.ss x=r.ss++[x]:=by unfold qO5;rw [hsx,if_neg (by decide)]
   have eL:qK5 E r.ss r.ls x=qE1 E r.ss r.ls x:=by unfold qK5;rw [hsx,if_neg (by decide)]
   rw [eC,eS,eL];have hml:cs.length=m:=hc.len;have hel:E.es.length=m:=by rw [hEC.es,List.length_map,hml]
   obtain ⟨⟨hk1,hk2⟩,_⟩:=qH8 hst;rcases qDk hRp (by omega) x.e with hkn | ⟨hp0,hpl⟩
   ·have hneg:qB6 E r.ss x.e < 0:=by omega
    have e:qF7 E r.ss r.ls x=4:=by unfold qF7;rw [if_pos hneg]
    rw [e];exact (qEs E r a m cap cs x w hr hN hsm hc hEC hm hm8 hRp hst hsx hneg).mono fun d w' h=>QJ6 h (by decide)
   ·have hneg:¬ qB6 E r.ss x.e < 0:=by omega
    by_cases h40:40<=r.ss.length
    ·have e:qF7 E r.ss r.ls x=2:=by unfold qF7;rw [if_neg hneg,if_pos h40]
     rw [e];exact (qEu E r a m cap cs x w hr hN hsm hc hEC hm hm8 hRp hst hsx hp0 (by omega)).mono fun d w' h=>QJ6 h (by decide)
    ·by_cases k1:x.k=1
     ·obtain ⟨p,hp⟩:=Int.eq_ofNat_of_zero_le hp0;obtain ⟨c,hpc⟩:∃ c,cs[p]? = some c:=⟨_,List.getElem?_eq_getElem (by omega)⟩;obtain ⟨_,gs,hg,hal,hcl⟩:=hEC.cf _ c hpc
      have hnk:qF7 E r.ss r.ls x=qH4 E r.ss r.ls p x:=by
       unfold qF7;rw [if_neg hneg,if_neg h40,if_pos k1,hp];rfl
      have hnl:qE1 E r.ss r.ls x=qL5 r.ls c.cs x.e x.f x.s:=by
       unfold qE1;rw [if_pos k1,hp];show qL5 r.ls (E.cl p) x.e x.f x.s=_
       rw [hcl]
      have go:∀ (k:Int) (L:List LkI),qH4 E r.ss r.ls p x=k->(k=0->qL5 r.ls c.cs x.e x.f x.s=L)->(∀ (b bx g o:Nat) (W:World),IsA W b r g o c gs bx x->qH6 76 #[.pointer (some ⟨b,0,none⟩),.pointer (some ⟨g,o,none⟩),.pointer (some ⟨bx,0,none⟩)] k L W)->Calls Tryz.prog 46 #[.agg #[.int .i64 r.i,.int .i64 r.u,.slice r.sa r.sn r.sc,.slice r.la r.ln r.lc],.slice a m cap,.agg #[.int .i64 x.k,.int .i64 x.e,.int .i64 x.f,.int .i64 x.s,.int .i64 x.n]] w fun d w'=>qFV r (qF7 E r.ss r.ls x) (r.ss++[x]) (qE1 E r.ss r.ls x) w d w':=fun k L hk hL hI=>by
       rw [hnk,hk];by_cases hk0:k=0
       ·rw [hnl,hL hk0,hk0];exact QR0 E r a m cap cs x w hr hN hsm hc hEC hm hm8 hRp hst hsx p hp (by omega) k1 c hpc gs hg k L hI hk0 _ rfl
       ·exact (QN9 E r a m cap cs x w hr hN hsm hc hEC hm hm8 hRp hst hsx p hp (by omega) k1 c hpc gs hg k L hI hk0).mono fun d w' h=>QJ6 h hk0
      cases h1:qT8 r.ss x.e
      ·cases h2:qD9 r.ss (qS3 x)
       ·cases hw:alW (qA5 c.fs) gs x.f x.s
        ·refine go 8 [] ?_ (fun q=>by cases q) (fun b bx g o W q=>qEy b r g o c gs bx x W q h1 h2 hw);unfold qH4;rw [h1,h2,if_neg (by decide),hal,hw,if_pos rfl]
        ·refine go _ _ ?_ (fun _=>rfl) (fun b bx g o W q=>qCO b r g o c gs bx x W q h1 h2 hw);unfold qH4;rw [h1,h2,if_neg (by decide),hal,hw,if_neg (by decide),hcl]
       ·refine go 9 [] ?_ (fun q=>by cases q) (fun b bx g o W q=>qCQ b r g o c gs bx x W q h1 h2);unfold qH4;rw [h1,h2,if_pos (by decide)]
      ·refine go 9 [] ?_ (fun q=>by cases q) (fun b bx g o W q=>qCP b r g o c gs bx x W q h1);unfold qH4;rw [h1,Bool.true_or,if_pos rfl]
     ·have hnl:qE1 E r.ss r.ls x=r.ls:=by
       unfold qE1;rw [if_neg k1]
      rw [hnl];by_cases k2:x.k=2
      ·have e:qF7 E r.ss r.ls x=0:=by unfold qF7;rw [if_neg hneg,if_neg h40,if_neg k1,if_pos k2]
       rw [e];exact qAX E r a m cap cs x w hr hN hsm hc hEC hm hm8 hRp hst hsx hp0 (by omega) k2 _ rfl
      ·have e:qF7 E r.ss r.ls x=qD5 E r.ss x:=by unfold qF7;rw [if_neg hneg,if_neg h40,if_neg k1,if_neg k2]
       rw [e];by_cases k3:x.k=3
       ·exact qEt E r a m cap cs x w hr hN hsm hc hEC hm hm8 hRp hst hsx hp0 (by omega) k3 _ rfl _ rfl
       ·exact qEq E r a m cap cs x w hr hN hsm hc hEC hm hm8 hRp hst hsx hp0 (by omega) (by omega) _ rfl _ rfl
  ·have eC:qE9 E r.ss r.ls x=0:=by unfold qE9;rw [if_pos hst,if_pos hsx]
   have eS:qO5 r.ss x=r.ss:=by unfold qO5;rw [if_pos hsx]
   have eL:qK5 E r.ss r.ls x=r.ls:=by unfold qK5;rw [if_pos hsx]
   rw [eC,eS,eL];exact qEr E r a m cap cs x w hr hN hsm hc hEC hm hm8 hRp hst hsx
 ·have eC:qE9 E r.ss r.ls x=qB5 x:=by unfold qE9;rw [if_neg hst]
  rw [eC];exact (qCH E r a m cap cs x w hr hN hsm hc hEC hm hm8 hRp _ rfl hst).mono fun d w' h=>QJ6 h hst
