/- Contracts. -/
import Derived.Test.YtlhgjackapdmbaaGreatDoorPe44
import Derived.Test.YtlhgjackapdmbaaGreatDoorPe40
namespace Go.Proofs.YtlhgjackapdmbaaGreatDoor
set_option maxRecDepth 100000
set_option maxHeartbeats 8000000
open Go.RowKit
set_option linter.unusedVariables false
set_option linter.unusedSimpArgs false

theorem qP9 (W:World) (o:Obj):(W.alloc o).heap[W.heap.size]? = some o:=by
 show (W.heap.push o)[W.heap.size]? = _
 simp
theorem l8End_fault (E:qI1) (r:qH5) (a:Option Addr) (m cap:Nat) (cs:List qA5) (x:StI) (w:World) (hr:qE7 w r) (hN:qK0 r) (hsm:∀ p,r.la=some p→∃ b0 o0,p=⟨b0,o0,none⟩∧b0 < w.heap.size) (hc:qA7 w a m cs) (hEC:qO2 E cs) (hm:0 < m) (hm8:m≤8) (hRp:RpS E r.ss r.ls) (k:Int) (hst:qC3 x=k) (hk0:k≠0) :
  Calls Tryz.prog 49 #[.agg #[.int .i64 r.i,.int .i64 r.u,.slice r.sa r.sn r.sc,.slice r.la r.ln r.lc],.slice a m cap,.agg #[.int .i64 x.k,.int .i64 x.e,.int .i64 x.f,.int .i64 x.s,.int .i64 x.n]] w fun d w'=>EndS r k [] [] w d w':=by
 have hsl:r.ss.length=r.sn:=hr.said.1
 have hll:r.ls.length=r.ln:=hr.locks.1
 have hs40:r.sn≤40:=by have:=hRp.len;omega
 have hl200:r.ln≤200:=by have:=(QF5 hRp.lk).1;omega
 have hs40':(r.sn:Int)≤40:=by omega
 have HR:Hid (∀ W,Below w.heap.size w W→qE7 W r∧qA7 W a m cs∧(∀ p,r.la=some p→∃ b0 o0,p=⟨b0,o0,none⟩∧b0 < W.heap.size)):=fun W hb=>⟨hr.below hb,hc.below hb,fun p e=>by obtain ⟨b0,o0,q,hl⟩:=hsm p e;exact ⟨b0,o0,q,Nat.lt_of_lt_of_le hl hb.size⟩⟩
 have HSL:Hid (r.ss.length=r.sn∧r.ls.length=r.ln):=⟨hsl,hll⟩
 have HN:Hid (qK0 r):=hN
 have HEC:Hid (qO2 E cs):=hEC
 have HRP:Hid (RpS E r.ss r.ls):=hRp
 have HF:Hid (∀ W,qS7 W (w.heap.size+1) 0 x→Calls Tryz.prog 74 #[.pointer (some ⟨w.heap.size+1,0,none⟩)] W fun e w'=>e = .returned (.int .i64 k)∧W=w'):=fun W q=>by rw [← hst];exact qN5 _ _ x W q
 obtain ⟨V,hV⟩:∃ V,V=((w.alloc (.cells #[.int .i64 r.i,.int .i64 r.u,.slice r.sa r.sn r.sc,.slice r.la r.ln r.lc] 33)).alloc (.cells #[.int .i64 x.k,.int .i64 x.e,.int .i64 x.f,.int .i64 x.s,.int .i64 x.n] 43)).alloc (.cells #[.int .i64 0,.int .i64 0,.int .i64 0,.slice none 0 0,.slice none 0 0] 47):=⟨_,rfl⟩
 have V0:Hid (EV w r x V):=by show EV w r x V;rw [hV];exact EV.new w r x
 have kb:(k != 0)=true:=by simp [hk0]
 clear hr hN hsm hc hEC hRp hsl hll hst
 go_enter Tryz.func49,Tryz.ntmps49
 go_upto_region 1 with fail
 rw [← hV]
 clear hV
 go_wp2_with fail
 refine (HF.out _ V0.out.xa).mono ?_
 rintro d w1 ⟨rfl,rfl⟩
 have z0:=V0.out.rs.1 0 _ rfl
 have z1:=V0.out.rs.1 1 _ rfl
 have z2:=V0.out.rs.1 2 _ rfl
 have z3:=V0.out.rs.1 3 _ rfl
 have z4:=V0.out.rs.1 4 _ rfl
 have f0:=V0.out.rs.2 0
 have f1:=V0.out.rs.2 1
 have f2:=V0.out.rs.2 2
 have f3:=V0.out.rs.2 3
 have f4:=V0.out.rs.2 4
 have hzl:=V0.out.lt
 go_wp2_with fail
 refine bodyPost_ret (v:=.agg #[.int .i64 k,.int .i64 0,.int .i64 0,.slice none 0 0,.slice none 0 0]) (by simp [results,Tryz.results49,go_sem,z0,z1,z2,z3,z4,hzl]) rfl ?_
 exact ⟨(((((V0.out.bl.setCell (by show w.heap.size≤w.heap.size+2;omega) _).setCell (by show w.heap.size≤w.heap.size+2;omega) _).setCell (by show w.heap.size≤w.heap.size+2;omega) _).setCell (by show w.heap.size≤w.heap.size+2;omega) _).setCell (by show w.heap.size≤w.heap.size+2;omega) _),fun _=>rfl,fun q=>absurd q (by first | assumption | decide)⟩
theorem l8End_said (E:qI1) (r:qH5) (a:Option Addr) (m cap:Nat) (cs:List qA5) (x:StI) (w:World) (hr:qE7 w r) (hN:qK0 r) (hsm:∀ p,r.la=some p→∃ b0 o0,p=⟨b0,o0,none⟩∧b0 < w.heap.size) (hc:qA7 w a m cs) (hEC:qO2 E cs) (hm:0 < m) (hm8:m≤8) (hRp:RpS E r.ss r.ls) (hst:qC3 x=0) (hsx:qD8 r.ss x=true) :
  Calls Tryz.prog 49 #[.agg #[.int .i64 r.i,.int .i64 r.u,.slice r.sa r.sn r.sc,.slice r.la r.ln r.lc],.slice a m cap,.agg #[.int .i64 x.k,.int .i64 x.e,.int .i64 x.f,.int .i64 x.s,.int .i64 x.n]] w fun d w'=>EndS r 0 r.ss r.ls w d w':=by
 have hsl:r.ss.length=r.sn:=hr.said.1
 have hll:r.ls.length=r.ln:=hr.locks.1
 have hs40:r.sn≤40:=by have:=hRp.len;omega
 have hl200:r.ln≤200:=by have:=(QF5 hRp.lk).1;omega
 have hs40':(r.sn:Int)≤40:=by omega
 have HR:Hid (∀ W,Below w.heap.size w W→qE7 W r∧qA7 W a m cs∧(∀ p,r.la=some p→∃ b0 o0,p=⟨b0,o0,none⟩∧b0 < W.heap.size)):=fun W hb=>⟨hr.below hb,hc.below hb,fun p e=>by obtain ⟨b0,o0,q,hl⟩:=hsm p e;exact ⟨b0,o0,q,Nat.lt_of_lt_of_le hl hb.size⟩⟩
 have HSL:Hid (r.ss.length=r.sn∧r.ls.length=r.ln):=⟨hsl,hll⟩
 have HN:Hid (qK0 r):=hN
 have HEC:Hid (qO2 E cs):=hEC
 have HRP:Hid (RpS E r.ss r.ls):=hRp
 have HF:Hid (∀ W,qS7 W (w.heap.size+1) 0 x→Calls Tryz.prog 74 #[.pointer (some ⟨w.heap.size+1,0,none⟩)] W fun e w'=>e = .returned (.int .i64 0)∧W=w'):=fun W q=>by rw [← hst];exact qN5 _ _ x W q
 obtain ⟨V,hV⟩:∃ V,V=((w.alloc (.cells #[.int .i64 r.i,.int .i64 r.u,.slice r.sa r.sn r.sc,.slice r.la r.ln r.lc] 33)).alloc (.cells #[.int .i64 x.k,.int .i64 x.e,.int .i64 x.f,.int .i64 x.s,.int .i64 x.n] 43)).alloc (.cells #[.int .i64 0,.int .i64 0,.int .i64 0,.slice none 0 0,.slice none 0 0] 47):=⟨_,rfl⟩
 have V0:Hid (EV w r x V):=by show EV w r x V;rw [hV];exact EV.new w r x
 have HSD:Hid (∀ W,EV w r x W→Calls Tryz.prog 75 #[.pointer (some ⟨w.heap.size,0,none⟩),.agg #[.int .i64 x.k,.int .i64 x.e,.int .i64 x.f,.int .i64 x.s,.int .i64 x.n]] W fun d w'=>d = .returned (.bool true)∧Below W.heap.size W w'):=fun W q=>by rw [← hsx];exact qM1 _ r x W q.rb (HR.out _ q.bl).1.said (by omega)
 clear hsx
 clear hr hN hsm hc hEC hRp hsl hll hst
 go_enter Tryz.func49,Tryz.ntmps49
 go_upto_region 1 with fail
 rw [← hV]
 clear hV
 go_wp2_with fail
 refine (HF.out _ V0.out.xa).mono ?_
 rintro d w1 ⟨rfl,rfl⟩
 have a0:=V0.out.rb.1
 have a1:=V0.out.rb.2.1
 have a2:=V0.out.rb.2.2.1
 have a3:=V0.out.rb.2.2.2
 have hvl:w.heap.size < V.heap.size:=by have:=V0.out.lt;omega
 have HCP:=qT7 r V (HR.out _ V0.out.bl).1 HN.out (by omega) (by omega)
 go_wp2_with fail
 refine HCP.mono ?_
 clear HCP
 rintro d w2 ⟨gs,sc,gl,lc,rfl,ho1,ho2,hb2⟩
 obtain ⟨Y,hY⟩:∃ Y,Y=w2.alloc (.cells #[.int .i64 r.i,.int .i64 r.u,.slice (some ⟨gs,0,none⟩) r.sn sc,.slice (some ⟨gl,0,none⟩) r.ln lc] 33):=⟨_,rfl⟩
 have AY:Below w2.heap.size w2 Y:=by rw [hY];exact zN
 have hvl3:=V0.out.lt
 have hs2:=hb2.size
 have O1:Hid (OX w r x w2.heap.size gs sc (some ⟨gl,0,none⟩) lc r.ls Y):=by
  refine ⟨(V0.out.below hb2).below AY,?_,qC5 (ho1.below AY) (by omega),?_,by omega⟩
  ·rw [hY,HSL.out.2]
   exact qP9 w2 _
  ·rw [HSL.out.2]
   exact qA9 (ho2.below AY) (by omega)
 have hq2:w.heap.size+2 < w2.heap.size:=by omega
 clear a0 a1 a2 a3 hvl hvl3 hs2 ho1 ho2 hb2 AY V0
 go_upto_region 5 with fail
 rw [← hY]
 clear hY
 generalize w2.heap.size=q at O1 hq2 ⊢
 obtain ⟨x0,x1,x2,x3,x4⟩:=O1.out.ev.xa
 simp only [Nat.zero_add] at x0 x1 x2 x3 x4
 have hxl:w.heap.size+1 < _:=Nat.lt_of_succ_lt O1.out.ev.lt
 go_wp2_with fail
 refine (HSD.out _ O1.out.ev).mono ?_
 rintro d w3 ⟨rfl,hb3⟩
 have O3:=qC8 (O1.out.below hb3)
 clear hb3 O1
 clear x0 x1 x2 x3 x4 hxl
 have o0:=qB0 O3.out.ob 0
 have o1:=qB0 O3.out.ob 1
 have o2:=qB0 O3.out.ob 2
 have o3:=qB0 O3.out.ob 3
 simp at o0 o1 o2 o3
 have hql:=O3.out.qlt
 have z0:=O3.out.ev.rs.1 0 _ rfl
 have z1:=O3.out.ev.rs.1 1 _ rfl
 have z2:=O3.out.ev.rs.1 2 _ rfl
 have z3:=O3.out.ev.rs.1 3 _ rfl
 have z4:=O3.out.ev.rs.1 4 _ rfl
 have f0:=O3.out.ev.rs.2 0
 have f1:=O3.out.ev.rs.2 1
 have f2:=O3.out.ev.rs.2 2
 have f3:=O3.out.ev.rs.2 3
 have f4:=O3.out.ev.rs.2 4
 have hzl:=O3.out.ev.lt
 have hqn:w.heap.size+2≠q:=by omega
 go_wp2_with fail
 refine bodyPost_ret (v:=.agg #[.int .i64 0,.int .i64 r.i,.int .i64 r.u,.slice (some ⟨gs,0,none⟩) r.sn sc,.slice (some ⟨gl,0,none⟩) r.ls.length lc]) (by simp [results,Tryz.results49,go_sem,z0,z1,z2,z3,z4,hzl]) rfl ?_
 refine ⟨(((((O3.out.ev.bl.setCell (by show w.heap.size≤w.heap.size+2;omega) _).setCell (by show w.heap.size≤w.heap.size+2;omega) _).setCell (by show w.heap.size≤w.heap.size+2;omega) _).setCell (by show w.heap.size≤w.heap.size+2;omega) _).setCell (by show w.heap.size≤w.heap.size+2;omega) _),fun q=>absurd rfl q,fun _=>?_⟩
 rw [HSL.out.1]
 refine ⟨some ⟨gs,0,none⟩,sc,some ⟨gl,0,none⟩,lc,rfl,qC5 (qA2 O3.out.so (fun g e=>?_)) (by omega),qA9 (qA2 O3.out.lo (fun g e=>?_)) (by omega)⟩
 ·obtain ⟨cur,hcc,hgg⟩:=qD4 O3.out.so e
  rw [Below.heap_setCell _ _ _ _ (by show g≠w.heap.size+2;omega),Below.heap_setCell _ _ _ _ (by show g≠w.heap.size+2;omega),Below.heap_setCell _ _ _ _ (by show g≠w.heap.size+2;omega),Below.heap_setCell _ _ _ _ (by show g≠w.heap.size+2;omega),Below.heap_setCell _ _ _ _ (by show g≠w.heap.size+2;omega)]
 ·obtain ⟨cur,hcc,hgg⟩:=qD2 O3.out.lo e
  rw [Below.heap_setCell _ _ _ _ (by show g≠w.heap.size+2;omega),Below.heap_setCell _ _ _ _ (by show g≠w.heap.size+2;omega),Below.heap_setCell _ _ _ _ (by show g≠w.heap.size+2;omega),Below.heap_setCell _ _ _ _ (by show g≠w.heap.size+2;omega),Below.heap_setCell _ _ _ _ (by show g≠w.heap.size+2;omega)]
theorem l8End_none (E:qI1) (r:qH5) (a:Option Addr) (m cap:Nat) (cs:List qA5) (x:StI) (w:World) (hr:qE7 w r) (hN:qK0 r) (hsm:∀ p,r.la=some p→∃ b0 o0,p=⟨b0,o0,none⟩∧b0 < w.heap.size) (hc:qA7 w a m cs) (hEC:qO2 E cs) (hm:0 < m) (hm8:m≤8) (hRp:RpS E r.ss r.ls) (hst:qC3 x=0) (hsx:qD8 r.ss x=false) (hneg:qB5 E r.ss x.e < 0) :
  Calls Tryz.prog 49 #[.agg #[.int .i64 r.i,.int .i64 r.u,.slice r.sa r.sn r.sc,.slice r.la r.ln r.lc],.slice a m cap,.agg #[.int .i64 x.k,.int .i64 x.e,.int .i64 x.f,.int .i64 x.s,.int .i64 x.n]] w fun d w'=>EndS r 4 [] [] w d w':=by
 have hsl:r.ss.length=r.sn:=hr.said.1
 have hll:r.ls.length=r.ln:=hr.locks.1
 have hs40:r.sn≤40:=by have:=hRp.len;omega
 have hl200:r.ln≤200:=by have:=(QF5 hRp.lk).1;omega
 have hs40':(r.sn:Int)≤40:=by omega
 have HR:Hid (∀ W,Below w.heap.size w W→qE7 W r∧qA7 W a m cs∧(∀ p,r.la=some p→∃ b0 o0,p=⟨b0,o0,none⟩∧b0 < W.heap.size)):=fun W hb=>⟨hr.below hb,hc.below hb,fun p e=>by obtain ⟨b0,o0,q,hl⟩:=hsm p e;exact ⟨b0,o0,q,Nat.lt_of_lt_of_le hl hb.size⟩⟩
 have HSL:Hid (r.ss.length=r.sn∧r.ls.length=r.ln):=⟨hsl,hll⟩
 have HN:Hid (qK0 r):=hN
 have HEC:Hid (qO2 E cs):=hEC
 have HRP:Hid (RpS E r.ss r.ls):=hRp
 have HF:Hid (∀ W,qS7 W (w.heap.size+1) 0 x→Calls Tryz.prog 74 #[.pointer (some ⟨w.heap.size+1,0,none⟩)] W fun e w'=>e = .returned (.int .i64 0)∧W=w'):=fun W q=>by rw [← hst];exact qN5 _ _ x W q
 obtain ⟨V,hV⟩:∃ V,V=((w.alloc (.cells #[.int .i64 r.i,.int .i64 r.u,.slice r.sa r.sn r.sc,.slice r.la r.ln r.lc] 33)).alloc (.cells #[.int .i64 x.k,.int .i64 x.e,.int .i64 x.f,.int .i64 x.s,.int .i64 x.n] 43)).alloc (.cells #[.int .i64 0,.int .i64 0,.int .i64 0,.slice none 0 0,.slice none 0 0] 47):=⟨_,rfl⟩
 have V0:Hid (EV w r x V):=by show EV w r x V;rw [hV];exact EV.new w r x
 obtain ⟨⟨hk1,hk2⟩,⟨he1,he2⟩,⟨hn1,hn2⟩,_⟩:=qI2 hst
 have HSD:Hid (∀ W,EV w r x W→Calls Tryz.prog 75 #[.pointer (some ⟨w.heap.size,0,none⟩),.agg #[.int .i64 x.k,.int .i64 x.e,.int .i64 x.f,.int .i64 x.s,.int .i64 x.n]] W fun d w'=>d = .returned (.bool false)∧Below W.heap.size W w'):=fun W q=>by rw [← hsx];exact qM1 _ r x W q.rb (HR.out _ q.bl).1.said (by omega)
 have HOF:Hid (∀ W,EV w r x W→Calls Tryz.prog 76 #[.pointer (some ⟨w.heap.size,0,none⟩),.slice a m cap,.int .i64 x.e] W fun d w'=>d = .returned (.int .i64 (qB5 E r.ss x.e))∧Below W.heap.size W w'):=fun W q=>QM2 E _ r a m cap cs x.e W HEC.out.es q.rb (HR.out _ q.bl).1.said (by omega) (HR.out _ q.bl).2.1 hm hm8 ⟨he1,he2⟩
 clear hsx
 clear hr hN hsm hc hEC hRp hsl hll hst
 go_enter Tryz.func49,Tryz.ntmps49
 go_upto_region 1 with fail
 rw [← hV]
 clear hV
 go_wp2_with fail
 refine (HF.out _ V0.out.xa).mono ?_
 rintro d w1 ⟨rfl,rfl⟩
 have a0:=V0.out.rb.1
 have a1:=V0.out.rb.2.1
 have a2:=V0.out.rb.2.2.1
 have a3:=V0.out.rb.2.2.2
 have hvl:w.heap.size < V.heap.size:=by have:=V0.out.lt;omega
 have HCP:=qT7 r V (HR.out _ V0.out.bl).1 HN.out (by omega) (by omega)
 go_wp2_with fail
 refine HCP.mono ?_
 clear HCP
 rintro d w2 ⟨gs,sc,gl,lc,rfl,ho1,ho2,hb2⟩
 obtain ⟨Y,hY⟩:∃ Y,Y=w2.alloc (.cells #[.int .i64 r.i,.int .i64 r.u,.slice (some ⟨gs,0,none⟩) r.sn sc,.slice (some ⟨gl,0,none⟩) r.ln lc] 33):=⟨_,rfl⟩
 have AY:Below w2.heap.size w2 Y:=by rw [hY];exact zN
 have hvl3:=V0.out.lt
 have hs2:=hb2.size
 have O1:Hid (OX w r x w2.heap.size gs sc (some ⟨gl,0,none⟩) lc r.ls Y):=by
  refine ⟨(V0.out.below hb2).below AY,?_,qC5 (ho1.below AY) (by omega),?_,by omega⟩
  ·rw [hY,HSL.out.2]
   exact qP9 w2 _
  ·rw [HSL.out.2]
   exact qA9 (ho2.below AY) (by omega)
 have hq2:w.heap.size+2 < w2.heap.size:=by omega
 clear a0 a1 a2 a3 hvl hvl3 hs2 ho1 ho2 hb2 AY V0
 go_upto_region 5 with fail
 rw [← hY]
 clear hY
 generalize w2.heap.size=q at O1 hq2 ⊢
 obtain ⟨x0,x1,x2,x3,x4⟩:=O1.out.ev.xa
 simp only [Nat.zero_add] at x0 x1 x2 x3 x4
 have hxl:w.heap.size+1 < _:=Nat.lt_of_succ_lt O1.out.ev.lt
 go_wp2_with fail
 refine (HSD.out _ O1.out.ev).mono ?_
 rintro d w3 ⟨rfl,hb3⟩
 have O3:=qC8 (O1.out.below hb3)
 clear hb3 O1
 clear x0 x1 x2 x3 x4 hxl
 obtain ⟨x0,x1,x2,x3,x4⟩:=O3.out.ev.xa
 simp only [Nat.zero_add] at x0 x1 x2 x3 x4
 have hxl:w.heap.size+1 < _:=Nat.lt_of_succ_lt O3.out.ev.lt
 go_wp2_with fail
 refine (HOF.out _ O3.out.ev).mono ?_
 rintro d w4 ⟨rfl,hb4⟩
 have O4:=qC8 (O3.out.below hb4)
 clear hb4 O3
 clear x0 x1 x2 x3 x4 hxl
 have z0:=O4.out.ev.rs.1 0 _ rfl
 have z1:=O4.out.ev.rs.1 1 _ rfl
 have z2:=O4.out.ev.rs.1 2 _ rfl
 have z3:=O4.out.ev.rs.1 3 _ rfl
 have z4:=O4.out.ev.rs.1 4 _ rfl
 have f0:=O4.out.ev.rs.2 0
 have f1:=O4.out.ev.rs.2 1
 have f2:=O4.out.ev.rs.2 2
 have f3:=O4.out.ev.rs.2 3
 have f4:=O4.out.ev.rs.2 4
 have hzl:=O4.out.ev.lt
 go_wp2_with fail
 refine bodyPost_ret (v:=.agg #[.int .i64 4,.int .i64 0,.int .i64 0,.slice none 0 0,.slice none 0 0]) (by simp [results,Tryz.results49,go_sem,z0,z1,z2,z3,z4,hzl]) rfl ?_
 exact ⟨(((((O4.out.ev.bl.setCell (by show w.heap.size≤w.heap.size+2;omega) _).setCell (by show w.heap.size≤w.heap.size+2;omega) _).setCell (by show w.heap.size≤w.heap.size+2;omega) _).setCell (by show w.heap.size≤w.heap.size+2;omega) _).setCell (by show w.heap.size≤w.heap.size+2;omega) _),fun _=>rfl,fun q=>absurd q (by first | assumption | decide)⟩
theorem l8End_many (E:qI1) (r:qH5) (a:Option Addr) (m cap:Nat) (cs:List qA5) (x:StI) (w:World) (hr:qE7 w r) (hN:qK0 r) (hsm:∀ p,r.la=some p→∃ b0 o0,p=⟨b0,o0,none⟩∧b0 < w.heap.size) (hc:qA7 w a m cs) (hEC:qO2 E cs) (hm:0 < m) (hm8:m≤8) (hRp:RpS E r.ss r.ls) (hst:qC3 x=0) (hsx:qD8 r.ss x=false) (hp0:0≤qB5 E r.ss x.e) (h40:40≤r.sn) :
  Calls Tryz.prog 49 #[.agg #[.int .i64 r.i,.int .i64 r.u,.slice r.sa r.sn r.sc,.slice r.la r.ln r.lc],.slice a m cap,.agg #[.int .i64 x.k,.int .i64 x.e,.int .i64 x.f,.int .i64 x.s,.int .i64 x.n]] w fun d w'=>EndS r 2 [] [] w d w':=by
 have hsl:r.ss.length=r.sn:=hr.said.1
 have hll:r.ls.length=r.ln:=hr.locks.1
 have hs40:r.sn≤40:=by have:=hRp.len;omega
 have hl200:r.ln≤200:=by have:=(QF5 hRp.lk).1;omega
 have hs40':(r.sn:Int)≤40:=by omega
 have HR:Hid (∀ W,Below w.heap.size w W→qE7 W r∧qA7 W a m cs∧(∀ p,r.la=some p→∃ b0 o0,p=⟨b0,o0,none⟩∧b0 < W.heap.size)):=fun W hb=>⟨hr.below hb,hc.below hb,fun p e=>by obtain ⟨b0,o0,q,hl⟩:=hsm p e;exact ⟨b0,o0,q,Nat.lt_of_lt_of_le hl hb.size⟩⟩
 have HSL:Hid (r.ss.length=r.sn∧r.ls.length=r.ln):=⟨hsl,hll⟩
 have HN:Hid (qK0 r):=hN
 have HEC:Hid (qO2 E cs):=hEC
 have HRP:Hid (RpS E r.ss r.ls):=hRp
 have HF:Hid (∀ W,qS7 W (w.heap.size+1) 0 x→Calls Tryz.prog 74 #[.pointer (some ⟨w.heap.size+1,0,none⟩)] W fun e w'=>e = .returned (.int .i64 0)∧W=w'):=fun W q=>by rw [← hst];exact qN5 _ _ x W q
 obtain ⟨V,hV⟩:∃ V,V=((w.alloc (.cells #[.int .i64 r.i,.int .i64 r.u,.slice r.sa r.sn r.sc,.slice r.la r.ln r.lc] 33)).alloc (.cells #[.int .i64 x.k,.int .i64 x.e,.int .i64 x.f,.int .i64 x.s,.int .i64 x.n] 43)).alloc (.cells #[.int .i64 0,.int .i64 0,.int .i64 0,.slice none 0 0,.slice none 0 0] 47):=⟨_,rfl⟩
 have V0:Hid (EV w r x V):=by show EV w r x V;rw [hV];exact EV.new w r x
 obtain ⟨⟨hk1,hk2⟩,⟨he1,he2⟩,⟨hn1,hn2⟩,_⟩:=qI2 hst
 have HSD:Hid (∀ W,EV w r x W→Calls Tryz.prog 75 #[.pointer (some ⟨w.heap.size,0,none⟩),.agg #[.int .i64 x.k,.int .i64 x.e,.int .i64 x.f,.int .i64 x.s,.int .i64 x.n]] W fun d w'=>d = .returned (.bool false)∧Below W.heap.size W w'):=fun W q=>by rw [← hsx];exact qM1 _ r x W q.rb (HR.out _ q.bl).1.said (by omega)
 have HOF:Hid (∀ W,EV w r x W→Calls Tryz.prog 76 #[.pointer (some ⟨w.heap.size,0,none⟩),.slice a m cap,.int .i64 x.e] W fun d w'=>d = .returned (.int .i64 (qB5 E r.ss x.e))∧Below W.heap.size W w'):=fun W q=>QM2 E _ r a m cap cs x.e W HEC.out.es q.rb (HR.out _ q.bl).1.said (by omega) (HR.out _ q.bl).2.1 hm hm8 ⟨he1,he2⟩
 have h40':(40:Int)≤(r.sn:Int):=by omega
 clear hsx
 clear hr hN hsm hc hEC hRp hsl hll hst
 go_enter Tryz.func49,Tryz.ntmps49
 go_upto_region 1 with fail
 rw [← hV]
 clear hV
 go_wp2_with fail
 refine (HF.out _ V0.out.xa).mono ?_
 rintro d w1 ⟨rfl,rfl⟩
 have a0:=V0.out.rb.1
 have a1:=V0.out.rb.2.1
 have a2:=V0.out.rb.2.2.1
 have a3:=V0.out.rb.2.2.2
 have hvl:w.heap.size < V.heap.size:=by have:=V0.out.lt;omega
 have HCP:=qT7 r V (HR.out _ V0.out.bl).1 HN.out (by omega) (by omega)
 go_wp2_with fail
 refine HCP.mono ?_
 clear HCP
 rintro d w2 ⟨gs,sc,gl,lc,rfl,ho1,ho2,hb2⟩
 obtain ⟨Y,hY⟩:∃ Y,Y=w2.alloc (.cells #[.int .i64 r.i,.int .i64 r.u,.slice (some ⟨gs,0,none⟩) r.sn sc,.slice (some ⟨gl,0,none⟩) r.ln lc] 33):=⟨_,rfl⟩
 have AY:Below w2.heap.size w2 Y:=by rw [hY];exact zN
 have hvl3:=V0.out.lt
 have hs2:=hb2.size
 have O1:Hid (OX w r x w2.heap.size gs sc (some ⟨gl,0,none⟩) lc r.ls Y):=by
  refine ⟨(V0.out.below hb2).below AY,?_,qC5 (ho1.below AY) (by omega),?_,by omega⟩
  ·rw [hY,HSL.out.2]
   exact qP9 w2 _
  ·rw [HSL.out.2]
   exact qA9 (ho2.below AY) (by omega)
 have hq2:w.heap.size+2 < w2.heap.size:=by omega
 clear a0 a1 a2 a3 hvl hvl3 hs2 ho1 ho2 hb2 AY V0
 go_upto_region 5 with fail
 rw [← hY]
 clear hY
 generalize w2.heap.size=q at O1 hq2 ⊢
 obtain ⟨x0,x1,x2,x3,x4⟩:=O1.out.ev.xa
 simp only [Nat.zero_add] at x0 x1 x2 x3 x4
 have hxl:w.heap.size+1 < _:=Nat.lt_of_succ_lt O1.out.ev.lt
 go_wp2_with fail
 refine (HSD.out _ O1.out.ev).mono ?_
 rintro d w3 ⟨rfl,hb3⟩
 have O3:=qC8 (O1.out.below hb3)
 clear hb3 O1
 clear x0 x1 x2 x3 x4 hxl
 obtain ⟨x0,x1,x2,x3,x4⟩:=O3.out.ev.xa
 simp only [Nat.zero_add] at x0 x1 x2 x3 x4
 have hxl:w.heap.size+1 < _:=Nat.lt_of_succ_lt O3.out.ev.lt
 go_wp2_with fail
 refine (HOF.out _ O3.out.ev).mono ?_
 rintro d w4 ⟨rfl,hb4⟩
 have O4:=qC8 (O3.out.below hb4)
 clear hb4 O3
 clear x0 x1 x2 x3 x4 hxl
 have a2:=O4.out.ev.rb.2.2.1
 have hal:w.heap.size < w4.heap.size:=by have:=O4.out.ev.lt;omega
 obtain ⟨x0,x1,x2,x3,x4⟩:=O4.out.ev.xa
 simp only [Nat.zero_add] at x0 x1 x2 x3 x4
 have hxl:w.heap.size+1 < _:=Nat.lt_of_succ_lt O4.out.ev.lt
 have z0:=O4.out.ev.rs.1 0 _ rfl
 have z1:=O4.out.ev.rs.1 1 _ rfl
 have z2:=O4.out.ev.rs.1 2 _ rfl
 have z3:=O4.out.ev.rs.1 3 _ rfl
 have z4:=O4.out.ev.rs.1 4 _ rfl
 have f0:=O4.out.ev.rs.2 0
 have f1:=O4.out.ev.rs.2 1
 have f2:=O4.out.ev.rs.2 2
 have f3:=O4.out.ev.rs.2 3
 have f4:=O4.out.ev.rs.2 4
 have hzl:=O4.out.ev.lt
 go_wp2_with fail
 refine bodyPost_ret (v:=.agg #[.int .i64 2,.int .i64 0,.int .i64 0,.slice none 0 0,.slice none 0 0]) (by simp [results,Tryz.results49,go_sem,z0,z1,z2,z3,z4,hzl]) rfl ?_
 exact ⟨(((((O4.out.ev.bl.setCell (by show w.heap.size≤w.heap.size+2;omega) _).setCell (by show w.heap.size≤w.heap.size+2;omega) _).setCell (by show w.heap.size≤w.heap.size+2;omega) _).setCell (by show w.heap.size≤w.heap.size+2;omega) _).setCell (by show w.heap.size≤w.heap.size+2;omega) _),fun _=>rfl,fun q=>absurd q (by first | assumption | decide)⟩
theorem l8End_revoke (E:qI1) (r:qH5) (a:Option Addr) (m cap:Nat) (cs:List qA5) (x:StI) (w:World) (hr:qE7 w r) (hN:qK0 r) (hsm:∀ p,r.la=some p→∃ b0 o0,p=⟨b0,o0,none⟩∧b0 < w.heap.size) (hc:qA7 w a m cs) (hEC:qO2 E cs) (hm:0 < m) (hm8:m≤8) (hRp:RpS E r.ss r.ls) (hst:qC3 x=0) (hsx:qD8 r.ss x=false) (hp0:0≤qB5 E r.ss x.e) (h40:r.sn < 40) (hk2':x.k=2) (S:List StI) (hS:r.ss++[x]=S) :
  Calls Tryz.prog 49 #[.agg #[.int .i64 r.i,.int .i64 r.u,.slice r.sa r.sn r.sc,.slice r.la r.ln r.lc],.slice a m cap,.agg #[.int .i64 x.k,.int .i64 x.e,.int .i64 x.f,.int .i64 x.s,.int .i64 x.n]] w fun d w'=>EndS r 0 S r.ls w d w':=by
 have hsl:r.ss.length=r.sn:=hr.said.1
 have hll:r.ls.length=r.ln:=hr.locks.1
 have hs40:r.sn≤40:=by have:=hRp.len;omega
 have hl200:r.ln≤200:=by have:=(QF5 hRp.lk).1;omega
 have hs40':(r.sn:Int)≤40:=by omega
 have HR:Hid (∀ W,Below w.heap.size w W→qE7 W r∧qA7 W a m cs∧(∀ p,r.la=some p→∃ b0 o0,p=⟨b0,o0,none⟩∧b0 < W.heap.size)):=fun W hb=>⟨hr.below hb,hc.below hb,fun p e=>by obtain ⟨b0,o0,q,hl⟩:=hsm p e;exact ⟨b0,o0,q,Nat.lt_of_lt_of_le hl hb.size⟩⟩
 have HSL:Hid (r.ss.length=r.sn∧r.ls.length=r.ln):=⟨hsl,hll⟩
 have HN:Hid (qK0 r):=hN
 have HEC:Hid (qO2 E cs):=hEC
 have HRP:Hid (RpS E r.ss r.ls):=hRp
 have HF:Hid (∀ W,qS7 W (w.heap.size+1) 0 x→Calls Tryz.prog 74 #[.pointer (some ⟨w.heap.size+1,0,none⟩)] W fun e w'=>e = .returned (.int .i64 0)∧W=w'):=fun W q=>by rw [← hst];exact qN5 _ _ x W q
 obtain ⟨V,hV⟩:∃ V,V=((w.alloc (.cells #[.int .i64 r.i,.int .i64 r.u,.slice r.sa r.sn r.sc,.slice r.la r.ln r.lc] 33)).alloc (.cells #[.int .i64 x.k,.int .i64 x.e,.int .i64 x.f,.int .i64 x.s,.int .i64 x.n] 43)).alloc (.cells #[.int .i64 0,.int .i64 0,.int .i64 0,.slice none 0 0,.slice none 0 0] 47):=⟨_,rfl⟩
 have V0:Hid (EV w r x V):=by show EV w r x V;rw [hV];exact EV.new w r x
 obtain ⟨⟨hk1,hk2⟩,⟨he1,he2⟩,⟨hn1,hn2⟩,_⟩:=qI2 hst
 have HSD:Hid (∀ W,EV w r x W→Calls Tryz.prog 75 #[.pointer (some ⟨w.heap.size,0,none⟩),.agg #[.int .i64 x.k,.int .i64 x.e,.int .i64 x.f,.int .i64 x.s,.int .i64 x.n]] W fun d w'=>d = .returned (.bool false)∧Below W.heap.size W w'):=fun W q=>by rw [← hsx];exact qM1 _ r x W q.rb (HR.out _ q.bl).1.said (by omega)
 have HOF:Hid (∀ W,EV w r x W→Calls Tryz.prog 76 #[.pointer (some ⟨w.heap.size,0,none⟩),.slice a m cap,.int .i64 x.e] W fun d w'=>d = .returned (.int .i64 (qB5 E r.ss x.e))∧Below W.heap.size W w'):=fun W q=>QM2 E _ r a m cap cs x.e W HEC.out.es q.rb (HR.out _ q.bl).1.said (by omega) (HR.out _ q.bl).2.1 hm hm8 ⟨he1,he2⟩
 have h40':(r.sn:Int) < 40:=by omega
 have k1:(x.k==1)=false:=by simp [hk2']
 have k3:(x.k==3)=false:=by simp [hk2']
 have k4:(x.k==4)=false:=by simp [hk2']
 clear hsx hk2'
 have HS:Hid (r.ss++[x]=S):=hS
 clear hS
 obtain ⟨i0,hi,hz0,hz1,hz2⟩:=info_parts Tryz.info43
 clear hr hN hsm hc hEC hRp hsl hll hst
 go_enter Tryz.func49,Tryz.ntmps49
 go_upto_region 1 with fail
 rw [← hV]
 clear hV
 go_wp2_with fail
 refine (HF.out _ V0.out.xa).mono ?_
 rintro d w1 ⟨rfl,rfl⟩
 have a0:=V0.out.rb.1
 have a1:=V0.out.rb.2.1
 have a2:=V0.out.rb.2.2.1
 have a3:=V0.out.rb.2.2.2
 have hvl:w.heap.size < V.heap.size:=by have:=V0.out.lt;omega
 have HCP:=qT7 r V (HR.out _ V0.out.bl).1 HN.out (by omega) (by omega)
 go_wp2_with fail
 refine HCP.mono ?_
 clear HCP
 rintro d w2 ⟨gs,sc,gl,lc,rfl,ho1,ho2,hb2⟩
 obtain ⟨Y,hY⟩:∃ Y,Y=w2.alloc (.cells #[.int .i64 r.i,.int .i64 r.u,.slice (some ⟨gs,0,none⟩) r.sn sc,.slice (some ⟨gl,0,none⟩) r.ln lc] 33):=⟨_,rfl⟩
 have AY:Below w2.heap.size w2 Y:=by rw [hY];exact zN
 have hvl3:=V0.out.lt
 have hs2:=hb2.size
 have O1:Hid (OX w r x w2.heap.size gs sc (some ⟨gl,0,none⟩) lc r.ls Y):=by
  refine ⟨(V0.out.below hb2).below AY,?_,qC5 (ho1.below AY) (by omega),?_,by omega⟩
  ·rw [hY,HSL.out.2]
   exact qP9 w2 _
  ·rw [HSL.out.2]
   exact qA9 (ho2.below AY) (by omega)
 have hq2:w.heap.size+2 < w2.heap.size:=by omega
 clear a0 a1 a2 a3 hvl hvl3 hs2 ho1 ho2 hb2 AY V0
 go_upto_region 5 with fail
 rw [← hY]
 clear hY
 generalize w2.heap.size=q at O1 hq2 ⊢
 obtain ⟨x0,x1,x2,x3,x4⟩:=O1.out.ev.xa
 simp only [Nat.zero_add] at x0 x1 x2 x3 x4
 have hxl:w.heap.size+1 < _:=Nat.lt_of_succ_lt O1.out.ev.lt
 go_wp2_with fail
 refine (HSD.out _ O1.out.ev).mono ?_
 rintro d w3 ⟨rfl,hb3⟩
 have O3:=qC8 (O1.out.below hb3)
 clear hb3 O1
 clear x0 x1 x2 x3 x4 hxl
 obtain ⟨x0,x1,x2,x3,x4⟩:=O3.out.ev.xa
 simp only [Nat.zero_add] at x0 x1 x2 x3 x4
 have hxl:w.heap.size+1 < _:=Nat.lt_of_succ_lt O3.out.ev.lt
 go_wp2_with fail
 refine (HOF.out _ O3.out.ev).mono ?_
 rintro d w4 ⟨rfl,hb4⟩
 have O4:=qC8 (O3.out.below hb4)
 clear hb4 O3
 clear x0 x1 x2 x3 x4 hxl
 have a2:=O4.out.ev.rb.2.2.1
 have hal:w.heap.size < w4.heap.size:=by have:=O4.out.ev.lt;omega
 obtain ⟨U,hU⟩:∃ U,U=w4.alloc (.cells #[.int .i64 x.k,.int .i64 x.e,.int .i64 x.f,.int .i64 x.s,.int .i64 x.n] 43):=⟨_,rfl⟩
 have AU:Below w4.heap.size w4 U:=by rw [hU];exact zN
 have OU:=qC8 (O4.out.below AU)
 have RU:Hid (U.ownsRow (w.heap.size+3) 43 5 (.slice (some ⟨gs,0,none⟩) r.sn sc) r.sn (qC4 r.ss)):=by
  have q:=OU.out.so
  unfold qB1 at q
  rw [HSL.out.1] at q
  exact q
 have PU:Hid (qM5 U (some ⟨w4.heap.size,0,none⟩) 1 [x]):=by show qM5 _ _ _ _;rw [hU];exact QH7 w4 x _
 have hUs:w.heap.size+3≤U.heap.size:=by have:=OU.out.ev.lt;omega
 obtain ⟨x0,x1,x2,x3,x4⟩:=O4.out.ev.xa
 simp only [Nat.zero_add] at x0 x1 x2 x3 x4
 have hxl:w.heap.size+1 < _:=Nat.lt_of_succ_lt O4.out.ev.lt
 have o2:=qB0 O4.out.ob 2
 simp at o2
 have hql:=O4.out.qlt
 have hxl2:w.heap.size+1 < w4.heap.size:=hxl
 go_upto_region 23 with fail
 go_wp2_with (first | (at_builtin;rw [← hU];refine qS0 rfl _ _ 30 rfl (w.heap.size+3) 43 i0 (.agg #[.int .i64 0,.int .i64 0,.int .i64 0,.int .i64 0,.int .i64 0]) 5 40 Tryz.underlying30 hi hz0 hz1 hz2 rfl (by decide) (.slice (some ⟨gs,0,none⟩) r.sn sc) r.sn (qC4 r.ss) rfl RU.out (by simp) (some ⟨w4.heap.size,0,none⟩) 1 1 (qC4 [x]) rfl (fun e=>by cases e) rfl (fun p e=>by cases e;exact qY7 PU.out) (qP0 _) (by unfold maxLen;omega) (by omega) hUs ?_) | fail)
 intro v6 w6 hown6 hgrow6 hnil6
 have E6:qB1 w6 (w.heap.size+3) v6 S:=by
  rw [← HS.out]
  show World.ownsRow _ _ 43 5 _ (r.ss++[x]).length (qC4 (r.ss++[x]))
  rw [qN7,List.length_append,HSL.out.1]
  exact hown6
 obtain ⟨g6,cap6,hv6⟩:=E6.shape hnil6
 subst hv6
 have hgU:U.grownBy w6 (some gs):=by first | exact hgrow6 | (rw [hU];exact hgrow6)
 obtain ⟨Z6,B6,K6,L6⟩:=OU.out.said (by rw [HS.out];exact E6) hgU
 obtain ⟨w7,hw7⟩:∃ w7,w7=w6.setCell ⟨q,2,none⟩ (.slice (some ⟨g6,0,none⟩) S.length cap6):=⟨_,rfl⟩
 have K7:w7.heap[q]? = some (.cells #[.int .i64 r.i,.int .i64 r.u,.slice (some ⟨g6,0,none⟩) S.length cap6,.slice (some ⟨gl,0,none⟩) r.ls.length lc] 33 (0,0)):=by rw [hw7];exact qQ3 K6
 have Z7:qG2 (w.heap.size+2) [.int .i64 0,.int .i64 0,.int .i64 0,.slice none 0 0,.slice none 0 0] w7:=by rw [hw7];exact Z6.other (by show q≠_;omega) _
 have B7:Hid (Below w.heap.size w w7):=by show Below _ _ _;rw [hw7];exact B6.setCell (by show w.heap.size≤q;omega) _
 have E7:Hid (qB1 w7 (w.heap.size+3) (.slice (some ⟨g6,0,none⟩) S.length cap6) S):=by
  show qB1 _ _ _ _
  rw [hw7]
  exact qA2 E6 (fun g e=>by obtain ⟨cur,hcc,_⟩:=qD4 E6 e;exact Below.heap_setCell _ _ _ _ (qL0 hcc K6 (by decide)))
 have L7:Hid (qA4 w7 (w.heap.size+3) (.slice (some ⟨gl,0,none⟩) r.ls.length lc) r.ls):=by
  show qA4 _ _ _ _
  rw [hw7]
  exact qA2 L6 (fun g e=>by obtain ⟨cur,hcc,_⟩:=qD2 L6 e;exact Below.heap_setCell _ _ _ _ (qL0 hcc K6 (by decide)))
 have k2:=qB0 K6 2
 simp at k2
 have kf2:=qZ2 K6 2
 have hq6:=(Array.getElem?_eq_some_iff.1 K6).1
 clear hown6 hgrow6 hnil6 hgU E6 Z6 B6 L6 x0 x1 x2 x3 x4 hxl hxl2 o2 hql RU PU AU OU hU O4
 go_upto_region 24 with fail
 rw [← hw7]
 clear hw7 k2 kf2 hq6
 have o0:=qB0 K7 0
 have o1:=qB0 K7 1
 have o2:=qB0 K7 2
 have o3:=qB0 K7 3
 simp at o0 o1 o2 o3
 have hql:=(Array.getElem?_eq_some_iff.1 K7).1
 have z0:=Z7.1 0 _ rfl
 have z1:=Z7.1 1 _ rfl
 have z2:=Z7.1 2 _ rfl
 have z3:=Z7.1 3 _ rfl
 have z4:=Z7.1 4 _ rfl
 have f0:=Z7.2 0
 have f1:=Z7.2 1
 have f2:=Z7.2 2
 have f3:=Z7.2 3
 have f4:=Z7.2 4
 have hzl:w.heap.size+2 < w7.heap.size:=by omega
 have hqn:w.heap.size+2≠q:=by omega
 clear K7 Z7 K6
 go_wp2_with fail
 refine bodyPost_ret (v:=.agg #[.int .i64 0,.int .i64 r.i,.int .i64 r.u,.slice (some ⟨g6,0,none⟩) S.length cap6,.slice (some ⟨gl,0,none⟩) r.ls.length lc]) (by simp [results,Tryz.results49,go_sem,z0,z1,z2,z3,z4,hzl]) rfl ?_
 refine ⟨(((((B7.out.setCell (by show w.heap.size≤w.heap.size+2;omega) _).setCell (by show w.heap.size≤w.heap.size+2;omega) _).setCell (by show w.heap.size≤w.heap.size+2;omega) _).setCell (by show w.heap.size≤w.heap.size+2;omega) _).setCell (by show w.heap.size≤w.heap.size+2;omega) _),fun q=>absurd rfl q,fun _=>?_⟩
 refine ⟨some ⟨g6,0,none⟩,cap6,(some ⟨gl,0,none⟩),lc,rfl,qC5 (qA2 E7.out (fun g e=>?_)) (by omega),qA9 (qA2 L7.out (fun g e=>?_)) (by omega)⟩
 ·obtain ⟨cur,hcc,hgg⟩:=qD4 E7.out e
  rw [Below.heap_setCell _ _ _ _ (by show g≠w.heap.size+2;omega),Below.heap_setCell _ _ _ _ (by show g≠w.heap.size+2;omega),Below.heap_setCell _ _ _ _ (by show g≠w.heap.size+2;omega),Below.heap_setCell _ _ _ _ (by show g≠w.heap.size+2;omega),Below.heap_setCell _ _ _ _ (by show g≠w.heap.size+2;omega)]
 ·obtain ⟨cur,hcc,hgg⟩:=qD2 L7.out e
  rw [Below.heap_setCell _ _ _ _ (by show g≠w.heap.size+2;omega),Below.heap_setCell _ _ _ _ (by show g≠w.heap.size+2;omega),Below.heap_setCell _ _ _ _ (by show g≠w.heap.size+2;omega),Below.heap_setCell _ _ _ _ (by show g≠w.heap.size+2;omega),Below.heap_setCell _ _ _ _ (by show g≠w.heap.size+2;omega)]
theorem l8End_next (E:qI1) (r:qH5) (a:Option Addr) (m cap:Nat) (cs:List qA5) (x:StI) (w:World) (hr:qE7 w r) (hN:qK0 r) (hsm:∀ p,r.la=some p→∃ b0 o0,p=⟨b0,o0,none⟩∧b0 < w.heap.size) (hc:qA7 w a m cs) (hEC:qO2 E cs) (hm:0 < m) (hm8:m≤8) (hRp:RpS E r.ss r.ls) (hst:qC3 x=0) (hsx:qD8 r.ss x=false) (hp0:0≤qB5 E r.ss x.e) (h40:r.sn < 40) (hk3:x.k=3) (k:Int) (hk:qD1 E r.ss x=k) (S:List StI) (hS:r.ss++[x]=S) :
  Calls Tryz.prog 49 #[.agg #[.int .i64 r.i,.int .i64 r.u,.slice r.sa r.sn r.sc,.slice r.la r.ln r.lc],.slice a m cap,.agg #[.int .i64 x.k,.int .i64 x.e,.int .i64 x.f,.int .i64 x.s,.int .i64 x.n]] w fun d w'=>EndS r k S r.ls w d w':=by
 have hsl:r.ss.length=r.sn:=hr.said.1
 have hll:r.ls.length=r.ln:=hr.locks.1
 have hs40:r.sn≤40:=by have:=hRp.len;omega
 have hl200:r.ln≤200:=by have:=(QF5 hRp.lk).1;omega
 have hs40':(r.sn:Int)≤40:=by omega
 have HR:Hid (∀ W,Below w.heap.size w W→qE7 W r∧qA7 W a m cs∧(∀ p,r.la=some p→∃ b0 o0,p=⟨b0,o0,none⟩∧b0 < W.heap.size)):=fun W hb=>⟨hr.below hb,hc.below hb,fun p e=>by obtain ⟨b0,o0,q,hl⟩:=hsm p e;exact ⟨b0,o0,q,Nat.lt_of_lt_of_le hl hb.size⟩⟩
 have HSL:Hid (r.ss.length=r.sn∧r.ls.length=r.ln):=⟨hsl,hll⟩
 have HN:Hid (qK0 r):=hN
 have HEC:Hid (qO2 E cs):=hEC
 have HRP:Hid (RpS E r.ss r.ls):=hRp
 have HF:Hid (∀ W,qS7 W (w.heap.size+1) 0 x→Calls Tryz.prog 74 #[.pointer (some ⟨w.heap.size+1,0,none⟩)] W fun e w'=>e = .returned (.int .i64 0)∧W=w'):=fun W q=>by rw [← hst];exact qN5 _ _ x W q
 obtain ⟨V,hV⟩:∃ V,V=((w.alloc (.cells #[.int .i64 r.i,.int .i64 r.u,.slice r.sa r.sn r.sc,.slice r.la r.ln r.lc] 33)).alloc (.cells #[.int .i64 x.k,.int .i64 x.e,.int .i64 x.f,.int .i64 x.s,.int .i64 x.n] 43)).alloc (.cells #[.int .i64 0,.int .i64 0,.int .i64 0,.slice none 0 0,.slice none 0 0] 47):=⟨_,rfl⟩
 have V0:Hid (EV w r x V):=by show EV w r x V;rw [hV];exact EV.new w r x
 obtain ⟨⟨hk1,hk2⟩,⟨he1,he2⟩,⟨hn1,hn2⟩,_⟩:=qI2 hst
 have HSD:Hid (∀ W,EV w r x W→Calls Tryz.prog 75 #[.pointer (some ⟨w.heap.size,0,none⟩),.agg #[.int .i64 x.k,.int .i64 x.e,.int .i64 x.f,.int .i64 x.s,.int .i64 x.n]] W fun d w'=>d = .returned (.bool false)∧Below W.heap.size W w'):=fun W q=>by rw [← hsx];exact qM1 _ r x W q.rb (HR.out _ q.bl).1.said (by omega)
 have HOF:Hid (∀ W,EV w r x W→Calls Tryz.prog 76 #[.pointer (some ⟨w.heap.size,0,none⟩),.slice a m cap,.int .i64 x.e] W fun d w'=>d = .returned (.int .i64 (qB5 E r.ss x.e))∧Below W.heap.size W w'):=fun W q=>QM2 E _ r a m cap cs x.e W HEC.out.es q.rb (HR.out _ q.bl).1.said (by omega) (HR.out _ q.bl).2.1 hm hm8 ⟨he1,he2⟩
 have h40':(r.sn:Int) < 40:=by omega
 have k1:(x.k==1)=false:=by simp [hk3]
 have k3:(x.k==3)=true:=by simp [hk3]
 clear hk3
 have HNX:Hid (∀ W,EV w r x W→Calls Tryz.prog 78 #[.pointer (some ⟨w.heap.size,0,none⟩),.slice a m cap,.pointer (some ⟨w.heap.size+1,0,none⟩)] W fun d w'=>d = .returned (.int .i64 k)∧Below W.heap.size W w'):=fun W q=>by rw [← hk];exact l8Next_c E _ r a m cap cs _ x W HEC.out.es q.rb (HR.out _ q.bl).1.said (by omega) (HR.out _ q.bl).2.1 hm8 q.xa ⟨he1,he2⟩ ⟨hn1,hn2⟩
 clear hsx hk
 have HS:Hid (r.ss++[x]=S):=hS
 clear hS
 obtain ⟨i0,hi,hz0,hz1,hz2⟩:=info_parts Tryz.info43
 clear hr hN hsm hc hEC hRp hsl hll hst
 go_enter Tryz.func49,Tryz.ntmps49
 go_upto_region 1 with fail
 rw [← hV]
 clear hV
 go_wp2_with fail
 refine (HF.out _ V0.out.xa).mono ?_
 rintro d w1 ⟨rfl,rfl⟩
 have a0:=V0.out.rb.1
 have a1:=V0.out.rb.2.1
 have a2:=V0.out.rb.2.2.1
 have a3:=V0.out.rb.2.2.2
 have hvl:w.heap.size < V.heap.size:=by have:=V0.out.lt;omega
 have HCP:=qT7 r V (HR.out _ V0.out.bl).1 HN.out (by omega) (by omega)
 go_wp2_with fail
 refine HCP.mono ?_
 clear HCP
 rintro d w2 ⟨gs,sc,gl,lc,rfl,ho1,ho2,hb2⟩
 obtain ⟨Y,hY⟩:∃ Y,Y=w2.alloc (.cells #[.int .i64 r.i,.int .i64 r.u,.slice (some ⟨gs,0,none⟩) r.sn sc,.slice (some ⟨gl,0,none⟩) r.ln lc] 33):=⟨_,rfl⟩
 have AY:Below w2.heap.size w2 Y:=by rw [hY];exact zN
 have hvl3:=V0.out.lt
 have hs2:=hb2.size
 have O1:Hid (OX w r x w2.heap.size gs sc (some ⟨gl,0,none⟩) lc r.ls Y):=by
  refine ⟨(V0.out.below hb2).below AY,?_,qC5 (ho1.below AY) (by omega),?_,by omega⟩
  ·rw [hY,HSL.out.2]
   exact qP9 w2 _
  ·rw [HSL.out.2]
   exact qA9 (ho2.below AY) (by omega)
 have hq2:w.heap.size+2 < w2.heap.size:=by omega
 clear a0 a1 a2 a3 hvl hvl3 hs2 ho1 ho2 hb2 AY V0
 go_upto_region 5 with fail
 rw [← hY]
 clear hY
 generalize w2.heap.size=q at O1 hq2 ⊢
 obtain ⟨x0,x1,x2,x3,x4⟩:=O1.out.ev.xa
 simp only [Nat.zero_add] at x0 x1 x2 x3 x4
 have hxl:w.heap.size+1 < _:=Nat.lt_of_succ_lt O1.out.ev.lt
 go_wp2_with fail
 refine (HSD.out _ O1.out.ev).mono ?_
 rintro d w3 ⟨rfl,hb3⟩
 have O3:=qC8 (O1.out.below hb3)
 clear hb3 O1
 clear x0 x1 x2 x3 x4 hxl
 obtain ⟨x0,x1,x2,x3,x4⟩:=O3.out.ev.xa
 simp only [Nat.zero_add] at x0 x1 x2 x3 x4
 have hxl:w.heap.size+1 < _:=Nat.lt_of_succ_lt O3.out.ev.lt
 go_wp2_with fail
 refine (HOF.out _ O3.out.ev).mono ?_
 rintro d w4 ⟨rfl,hb4⟩
 have O4:=qC8 (O3.out.below hb4)
 clear hb4 O3
 clear x0 x1 x2 x3 x4 hxl
 have a2:=O4.out.ev.rb.2.2.1
 have hal:w.heap.size < w4.heap.size:=by have:=O4.out.ev.lt;omega
 obtain ⟨x0,x1,x2,x3,x4⟩:=O4.out.ev.xa
 simp only [Nat.zero_add] at x0 x1 x2 x3 x4
 have hxl:w.heap.size+1 < _:=Nat.lt_of_succ_lt O4.out.ev.lt
 go_wp2_with fail
 refine (HNX.out _ O4.out.ev).mono ?_
 rintro d w5 ⟨rfl,hb5⟩
 have O5:=qC8 (O4.out.below hb5)
 clear hb5 a2 hal O4
 clear x0 x1 x2 x3 x4 hxl
 by_cases hk0:k=0
 ·subst hk0
  obtain ⟨U,hU⟩:∃ U,U=w5.alloc (.cells #[.int .i64 x.k,.int .i64 x.e,.int .i64 x.f,.int .i64 x.s,.int .i64 x.n] 43):=⟨_,rfl⟩
  have AU:Below w5.heap.size w5 U:=by rw [hU];exact zN
  have OU:=qC8 (O5.out.below AU)
  have RU:Hid (U.ownsRow (w.heap.size+3) 43 5 (.slice (some ⟨gs,0,none⟩) r.sn sc) r.sn (qC4 r.ss)):=by
   have q:=OU.out.so
   unfold qB1 at q
   rw [HSL.out.1] at q
   exact q
  have PU:Hid (qM5 U (some ⟨w5.heap.size,0,none⟩) 1 [x]):=by show qM5 _ _ _ _;rw [hU];exact QH7 w5 x _
  have hUs:w.heap.size+3≤U.heap.size:=by have:=OU.out.ev.lt;omega
  obtain ⟨x0,x1,x2,x3,x4⟩:=O5.out.ev.xa
  simp only [Nat.zero_add] at x0 x1 x2 x3 x4
  have hxl:w.heap.size+1 < _:=Nat.lt_of_succ_lt O5.out.ev.lt
  have o2:=qB0 O5.out.ob 2
  simp at o2
  have hql:=O5.out.qlt
  have hxl2:w.heap.size+1 < w5.heap.size:=hxl
  go_upto_region 23 with fail
  go_wp2_with (first | (at_builtin;rw [← hU];refine qS0 rfl _ _ 30 rfl (w.heap.size+3) 43 i0 (.agg #[.int .i64 0,.int .i64 0,.int .i64 0,.int .i64 0,.int .i64 0]) 5 40 Tryz.underlying30 hi hz0 hz1 hz2 rfl (by decide) (.slice (some ⟨gs,0,none⟩) r.sn sc) r.sn (qC4 r.ss) rfl RU.out (by simp) (some ⟨w5.heap.size,0,none⟩) 1 1 (qC4 [x]) rfl (fun e=>by cases e) rfl (fun p e=>by cases e;exact qY7 PU.out) (qP0 _) (by unfold maxLen;omega) (by omega) hUs ?_) | fail)
  intro v6 w6 hown6 hgrow6 hnil6
  have E6:qB1 w6 (w.heap.size+3) v6 S:=by
   rw [← HS.out]
   show World.ownsRow _ _ 43 5 _ (r.ss++[x]).length (qC4 (r.ss++[x]))
   rw [qN7,List.length_append,HSL.out.1]
   exact hown6
  obtain ⟨g6,cap6,hv6⟩:=E6.shape hnil6
  subst hv6
  have hgU:U.grownBy w6 (some gs):=by first | exact hgrow6 | (rw [hU];exact hgrow6)
  obtain ⟨Z6,B6,K6,L6⟩:=OU.out.said (by rw [HS.out];exact E6) hgU
  obtain ⟨w7,hw7⟩:∃ w7,w7=w6.setCell ⟨q,2,none⟩ (.slice (some ⟨g6,0,none⟩) S.length cap6):=⟨_,rfl⟩
  have K7:w7.heap[q]? = some (.cells #[.int .i64 r.i,.int .i64 r.u,.slice (some ⟨g6,0,none⟩) S.length cap6,.slice (some ⟨gl,0,none⟩) r.ls.length lc] 33 (0,0)):=by rw [hw7];exact qQ3 K6
  have Z7:qG2 (w.heap.size+2) [.int .i64 0,.int .i64 0,.int .i64 0,.slice none 0 0,.slice none 0 0] w7:=by rw [hw7];exact Z6.other (by show q≠_;omega) _
  have B7:Hid (Below w.heap.size w w7):=by show Below _ _ _;rw [hw7];exact B6.setCell (by show w.heap.size≤q;omega) _
  have E7:Hid (qB1 w7 (w.heap.size+3) (.slice (some ⟨g6,0,none⟩) S.length cap6) S):=by
   show qB1 _ _ _ _
   rw [hw7]
   exact qA2 E6 (fun g e=>by obtain ⟨cur,hcc,_⟩:=qD4 E6 e;exact Below.heap_setCell _ _ _ _ (qL0 hcc K6 (by decide)))
  have L7:Hid (qA4 w7 (w.heap.size+3) (.slice (some ⟨gl,0,none⟩) r.ls.length lc) r.ls):=by
   show qA4 _ _ _ _
   rw [hw7]
   exact qA2 L6 (fun g e=>by obtain ⟨cur,hcc,_⟩:=qD2 L6 e;exact Below.heap_setCell _ _ _ _ (qL0 hcc K6 (by decide)))
  have k2:=qB0 K6 2
  simp at k2
  have kf2:=qZ2 K6 2
  have hq6:=(Array.getElem?_eq_some_iff.1 K6).1
  clear hown6 hgrow6 hnil6 hgU E6 Z6 B6 L6 x0 x1 x2 x3 x4 hxl hxl2 o2 hql RU PU AU OU hU O5
  go_upto_region 24 with fail
  rw [← hw7]
  clear hw7 k2 kf2 hq6
  have o0:=qB0 K7 0
  have o1:=qB0 K7 1
  have o2:=qB0 K7 2
  have o3:=qB0 K7 3
  simp at o0 o1 o2 o3
  have hql:=(Array.getElem?_eq_some_iff.1 K7).1
  have z0:=Z7.1 0 _ rfl
  have z1:=Z7.1 1 _ rfl
  have z2:=Z7.1 2 _ rfl
  have z3:=Z7.1 3 _ rfl
  have z4:=Z7.1 4 _ rfl
  have f0:=Z7.2 0
  have f1:=Z7.2 1
  have f2:=Z7.2 2
  have f3:=Z7.2 3
  have f4:=Z7.2 4
  have hzl:w.heap.size+2 < w7.heap.size:=by omega
  have hqn:w.heap.size+2≠q:=by omega
  clear K7 Z7 K6
  go_wp2_with fail
  refine bodyPost_ret (v:=.agg #[.int .i64 0,.int .i64 r.i,.int .i64 r.u,.slice (some ⟨g6,0,none⟩) S.length cap6,.slice (some ⟨gl,0,none⟩) r.ls.length lc]) (by simp [results,Tryz.results49,go_sem,z0,z1,z2,z3,z4,hzl]) rfl ?_
  refine ⟨(((((B7.out.setCell (by show w.heap.size≤w.heap.size+2;omega) _).setCell (by show w.heap.size≤w.heap.size+2;omega) _).setCell (by show w.heap.size≤w.heap.size+2;omega) _).setCell (by show w.heap.size≤w.heap.size+2;omega) _).setCell (by show w.heap.size≤w.heap.size+2;omega) _),fun q=>absurd rfl q,fun _=>?_⟩
  refine ⟨some ⟨g6,0,none⟩,cap6,(some ⟨gl,0,none⟩),lc,rfl,qC5 (qA2 E7.out (fun g e=>?_)) (by omega),qA9 (qA2 L7.out (fun g e=>?_)) (by omega)⟩
  ·obtain ⟨cur,hcc,hgg⟩:=qD4 E7.out e
   rw [Below.heap_setCell _ _ _ _ (by show g≠w.heap.size+2;omega),Below.heap_setCell _ _ _ _ (by show g≠w.heap.size+2;omega),Below.heap_setCell _ _ _ _ (by show g≠w.heap.size+2;omega),Below.heap_setCell _ _ _ _ (by show g≠w.heap.size+2;omega),Below.heap_setCell _ _ _ _ (by show g≠w.heap.size+2;omega)]
  ·obtain ⟨cur,hcc,hgg⟩:=qD2 L7.out e
   rw [Below.heap_setCell _ _ _ _ (by show g≠w.heap.size+2;omega),Below.heap_setCell _ _ _ _ (by show g≠w.heap.size+2;omega),Below.heap_setCell _ _ _ _ (by show g≠w.heap.size+2;omega),Below.heap_setCell _ _ _ _ (by show g≠w.heap.size+2;omega),Below.heap_setCell _ _ _ _ (by show g≠w.heap.size+2;omega)]
 ·have kb:(k != 0)=true:=by simp [hk0]
  have z0:=O5.out.ev.rs.1 0 _ rfl
  have z1:=O5.out.ev.rs.1 1 _ rfl
  have z2:=O5.out.ev.rs.1 2 _ rfl
  have z3:=O5.out.ev.rs.1 3 _ rfl
  have z4:=O5.out.ev.rs.1 4 _ rfl
  have f0:=O5.out.ev.rs.2 0
  have f1:=O5.out.ev.rs.2 1
  have f2:=O5.out.ev.rs.2 2
  have f3:=O5.out.ev.rs.2 3
  have f4:=O5.out.ev.rs.2 4
  have hzl:=O5.out.ev.lt
  go_wp2_with fail
  refine bodyPost_ret (v:=.agg #[.int .i64 k,.int .i64 0,.int .i64 0,.slice none 0 0,.slice none 0 0]) (by simp [results,Tryz.results49,go_sem,z0,z1,z2,z3,z4,hzl]) rfl ?_
  exact ⟨(((((O5.out.ev.bl.setCell (by show w.heap.size≤w.heap.size+2;omega) _).setCell (by show w.heap.size≤w.heap.size+2;omega) _).setCell (by show w.heap.size≤w.heap.size+2;omega) _).setCell (by show w.heap.size≤w.heap.size+2;omega) _).setCell (by show w.heap.size≤w.heap.size+2;omega) _),fun _=>rfl,fun q=>absurd q (by first | assumption | decide)⟩
theorem l8End_take (E:qI1) (r:qH5) (a:Option Addr) (m cap:Nat) (cs:List qA5) (x:StI) (w:World) (hr:qE7 w r) (hN:qK0 r) (hsm:∀ p,r.la=some p→∃ b0 o0,p=⟨b0,o0,none⟩∧b0 < w.heap.size) (hc:qA7 w a m cs) (hEC:qO2 E cs) (hm:0 < m) (hm8:m≤8) (hRp:RpS E r.ss r.ls) (hst:qC3 x=0) (hsx:qD8 r.ss x=false) (hp0:0≤qB5 E r.ss x.e) (h40:r.sn < 40) (hk4:x.k=4) (k:Int) (hk:qD1 E r.ss x=k) (S:List StI) (hS:r.ss++[x]=S) :
  Calls Tryz.prog 49 #[.agg #[.int .i64 r.i,.int .i64 r.u,.slice r.sa r.sn r.sc,.slice r.la r.ln r.lc],.slice a m cap,.agg #[.int .i64 x.k,.int .i64 x.e,.int .i64 x.f,.int .i64 x.s,.int .i64 x.n]] w fun d w'=>EndS r k S r.ls w d w':=by
 have hsl:r.ss.length=r.sn:=hr.said.1
 have hll:r.ls.length=r.ln:=hr.locks.1
 have hs40:r.sn≤40:=by have:=hRp.len;omega
 have hl200:r.ln≤200:=by have:=(QF5 hRp.lk).1;omega
 have hs40':(r.sn:Int)≤40:=by omega
 have HR:Hid (∀ W,Below w.heap.size w W→qE7 W r∧qA7 W a m cs∧(∀ p,r.la=some p→∃ b0 o0,p=⟨b0,o0,none⟩∧b0 < W.heap.size)):=fun W hb=>⟨hr.below hb,hc.below hb,fun p e=>by obtain ⟨b0,o0,q,hl⟩:=hsm p e;exact ⟨b0,o0,q,Nat.lt_of_lt_of_le hl hb.size⟩⟩
 have HSL:Hid (r.ss.length=r.sn∧r.ls.length=r.ln):=⟨hsl,hll⟩
 have HN:Hid (qK0 r):=hN
 have HEC:Hid (qO2 E cs):=hEC
 have HRP:Hid (RpS E r.ss r.ls):=hRp
 have HF:Hid (∀ W,qS7 W (w.heap.size+1) 0 x→Calls Tryz.prog 74 #[.pointer (some ⟨w.heap.size+1,0,none⟩)] W fun e w'=>e = .returned (.int .i64 0)∧W=w'):=fun W q=>by rw [← hst];exact qN5 _ _ x W q
 obtain ⟨V,hV⟩:∃ V,V=((w.alloc (.cells #[.int .i64 r.i,.int .i64 r.u,.slice r.sa r.sn r.sc,.slice r.la r.ln r.lc] 33)).alloc (.cells #[.int .i64 x.k,.int .i64 x.e,.int .i64 x.f,.int .i64 x.s,.int .i64 x.n] 43)).alloc (.cells #[.int .i64 0,.int .i64 0,.int .i64 0,.slice none 0 0,.slice none 0 0] 47):=⟨_,rfl⟩
 have V0:Hid (EV w r x V):=by show EV w r x V;rw [hV];exact EV.new w r x
 obtain ⟨⟨hk1,hk2⟩,⟨he1,he2⟩,⟨hn1,hn2⟩,_⟩:=qI2 hst
 have HSD:Hid (∀ W,EV w r x W→Calls Tryz.prog 75 #[.pointer (some ⟨w.heap.size,0,none⟩),.agg #[.int .i64 x.k,.int .i64 x.e,.int .i64 x.f,.int .i64 x.s,.int .i64 x.n]] W fun d w'=>d = .returned (.bool false)∧Below W.heap.size W w'):=fun W q=>by rw [← hsx];exact qM1 _ r x W q.rb (HR.out _ q.bl).1.said (by omega)
 have HOF:Hid (∀ W,EV w r x W→Calls Tryz.prog 76 #[.pointer (some ⟨w.heap.size,0,none⟩),.slice a m cap,.int .i64 x.e] W fun d w'=>d = .returned (.int .i64 (qB5 E r.ss x.e))∧Below W.heap.size W w'):=fun W q=>QM2 E _ r a m cap cs x.e W HEC.out.es q.rb (HR.out _ q.bl).1.said (by omega) (HR.out _ q.bl).2.1 hm hm8 ⟨he1,he2⟩
 have h40':(r.sn:Int) < 40:=by omega
 have k1:(x.k==1)=false:=by simp [hk4]
 have k3:(x.k==3)=false:=by simp [hk4]
 have k4:(x.k==4)=true:=by simp [hk4]
 clear hk4
 have HNX:Hid (∀ W,EV w r x W→Calls Tryz.prog 78 #[.pointer (some ⟨w.heap.size,0,none⟩),.slice a m cap,.pointer (some ⟨w.heap.size+1,0,none⟩)] W fun d w'=>d = .returned (.int .i64 k)∧Below W.heap.size W w'):=fun W q=>by rw [← hk];exact l8Next_c E _ r a m cap cs _ x W HEC.out.es q.rb (HR.out _ q.bl).1.said (by omega) (HR.out _ q.bl).2.1 hm8 q.xa ⟨he1,he2⟩ ⟨hn1,hn2⟩
 clear hsx hk
 have HS:Hid (r.ss++[x]=S):=hS
 clear hS
 obtain ⟨i0,hi,hz0,hz1,hz2⟩:=info_parts Tryz.info43
 clear hr hN hsm hc hEC hRp hsl hll hst
 go_enter Tryz.func49,Tryz.ntmps49
 go_upto_region 1 with fail
 rw [← hV]
 clear hV
 go_wp2_with fail
 refine (HF.out _ V0.out.xa).mono ?_
 rintro d w1 ⟨rfl,rfl⟩
 have a0:=V0.out.rb.1
 have a1:=V0.out.rb.2.1
 have a2:=V0.out.rb.2.2.1
 have a3:=V0.out.rb.2.2.2
 have hvl:w.heap.size < V.heap.size:=by have:=V0.out.lt;omega
 have HCP:=qT7 r V (HR.out _ V0.out.bl).1 HN.out (by omega) (by omega)
 go_wp2_with fail
 refine HCP.mono ?_
 clear HCP
 rintro d w2 ⟨gs,sc,gl,lc,rfl,ho1,ho2,hb2⟩
 obtain ⟨Y,hY⟩:∃ Y,Y=w2.alloc (.cells #[.int .i64 r.i,.int .i64 r.u,.slice (some ⟨gs,0,none⟩) r.sn sc,.slice (some ⟨gl,0,none⟩) r.ln lc] 33):=⟨_,rfl⟩
 have AY:Below w2.heap.size w2 Y:=by rw [hY];exact zN
 have hvl3:=V0.out.lt
 have hs2:=hb2.size
 have O1:Hid (OX w r x w2.heap.size gs sc (some ⟨gl,0,none⟩) lc r.ls Y):=by
  refine ⟨(V0.out.below hb2).below AY,?_,qC5 (ho1.below AY) (by omega),?_,by omega⟩
  ·rw [hY,HSL.out.2]
   exact qP9 w2 _
  ·rw [HSL.out.2]
   exact qA9 (ho2.below AY) (by omega)
 have hq2:w.heap.size+2 < w2.heap.size:=by omega
 clear a0 a1 a2 a3 hvl hvl3 hs2 ho1 ho2 hb2 AY V0
 go_upto_region 5 with fail
 rw [← hY]
 clear hY
 generalize w2.heap.size=q at O1 hq2 ⊢
 obtain ⟨x0,x1,x2,x3,x4⟩:=O1.out.ev.xa
 simp only [Nat.zero_add] at x0 x1 x2 x3 x4
 have hxl:w.heap.size+1 < _:=Nat.lt_of_succ_lt O1.out.ev.lt
 go_wp2_with fail
 refine (HSD.out _ O1.out.ev).mono ?_
 rintro d w3 ⟨rfl,hb3⟩
 have O3:=qC8 (O1.out.below hb3)
 clear hb3 O1
 clear x0 x1 x2 x3 x4 hxl
 obtain ⟨x0,x1,x2,x3,x4⟩:=O3.out.ev.xa
 simp only [Nat.zero_add] at x0 x1 x2 x3 x4
 have hxl:w.heap.size+1 < _:=Nat.lt_of_succ_lt O3.out.ev.lt
 go_wp2_with fail
 refine (HOF.out _ O3.out.ev).mono ?_
 rintro d w4 ⟨rfl,hb4⟩
 have O4:=qC8 (O3.out.below hb4)
 clear hb4 O3
 clear x0 x1 x2 x3 x4 hxl
 have a2:=O4.out.ev.rb.2.2.1
 have hal:w.heap.size < w4.heap.size:=by have:=O4.out.ev.lt;omega
 obtain ⟨x0,x1,x2,x3,x4⟩:=O4.out.ev.xa
 simp only [Nat.zero_add] at x0 x1 x2 x3 x4
 have hxl:w.heap.size+1 < _:=Nat.lt_of_succ_lt O4.out.ev.lt
 go_wp2_with fail
 refine (HNX.out _ O4.out.ev).mono ?_
 rintro d w5 ⟨rfl,hb5⟩
 have O5:=qC8 (O4.out.below hb5)
 clear hb5 a2 hal O4
 clear x0 x1 x2 x3 x4 hxl
 by_cases hk0:k=0
 ·subst hk0
  obtain ⟨U,hU⟩:∃ U,U=w5.alloc (.cells #[.int .i64 x.k,.int .i64 x.e,.int .i64 x.f,.int .i64 x.s,.int .i64 x.n] 43):=⟨_,rfl⟩
  have AU:Below w5.heap.size w5 U:=by rw [hU];exact zN
  have OU:=qC8 (O5.out.below AU)
  have RU:Hid (U.ownsRow (w.heap.size+3) 43 5 (.slice (some ⟨gs,0,none⟩) r.sn sc) r.sn (qC4 r.ss)):=by
   have q:=OU.out.so
   unfold qB1 at q
   rw [HSL.out.1] at q
   exact q
  have PU:Hid (qM5 U (some ⟨w5.heap.size,0,none⟩) 1 [x]):=by show qM5 _ _ _ _;rw [hU];exact QH7 w5 x _
  have hUs:w.heap.size+3≤U.heap.size:=by have:=OU.out.ev.lt;omega
  obtain ⟨x0,x1,x2,x3,x4⟩:=O5.out.ev.xa
  simp only [Nat.zero_add] at x0 x1 x2 x3 x4
  have hxl:w.heap.size+1 < _:=Nat.lt_of_succ_lt O5.out.ev.lt
  have o2:=qB0 O5.out.ob 2
  simp at o2
  have hql:=O5.out.qlt
  have hxl2:w.heap.size+1 < w5.heap.size:=hxl
  go_upto_region 23 with fail
  go_wp2_with (first | (at_builtin;rw [← hU];refine qS0 rfl _ _ 30 rfl (w.heap.size+3) 43 i0 (.agg #[.int .i64 0,.int .i64 0,.int .i64 0,.int .i64 0,.int .i64 0]) 5 40 Tryz.underlying30 hi hz0 hz1 hz2 rfl (by decide) (.slice (some ⟨gs,0,none⟩) r.sn sc) r.sn (qC4 r.ss) rfl RU.out (by simp) (some ⟨w5.heap.size,0,none⟩) 1 1 (qC4 [x]) rfl (fun e=>by cases e) rfl (fun p e=>by cases e;exact qY7 PU.out) (qP0 _) (by unfold maxLen;omega) (by omega) hUs ?_) | fail)
  intro v6 w6 hown6 hgrow6 hnil6
  have E6:qB1 w6 (w.heap.size+3) v6 S:=by
   rw [← HS.out]
   show World.ownsRow _ _ 43 5 _ (r.ss++[x]).length (qC4 (r.ss++[x]))
   rw [qN7,List.length_append,HSL.out.1]
   exact hown6
  obtain ⟨g6,cap6,hv6⟩:=E6.shape hnil6
  subst hv6
  have hgU:U.grownBy w6 (some gs):=by first | exact hgrow6 | (rw [hU];exact hgrow6)
  obtain ⟨Z6,B6,K6,L6⟩:=OU.out.said (by rw [HS.out];exact E6) hgU
  obtain ⟨w7,hw7⟩:∃ w7,w7=w6.setCell ⟨q,2,none⟩ (.slice (some ⟨g6,0,none⟩) S.length cap6):=⟨_,rfl⟩
  have K7:w7.heap[q]? = some (.cells #[.int .i64 r.i,.int .i64 r.u,.slice (some ⟨g6,0,none⟩) S.length cap6,.slice (some ⟨gl,0,none⟩) r.ls.length lc] 33 (0,0)):=by rw [hw7];exact qQ3 K6
  have Z7:qG2 (w.heap.size+2) [.int .i64 0,.int .i64 0,.int .i64 0,.slice none 0 0,.slice none 0 0] w7:=by rw [hw7];exact Z6.other (by show q≠_;omega) _
  have B7:Hid (Below w.heap.size w w7):=by show Below _ _ _;rw [hw7];exact B6.setCell (by show w.heap.size≤q;omega) _
  have E7:Hid (qB1 w7 (w.heap.size+3) (.slice (some ⟨g6,0,none⟩) S.length cap6) S):=by
   show qB1 _ _ _ _
   rw [hw7]
   exact qA2 E6 (fun g e=>by obtain ⟨cur,hcc,_⟩:=qD4 E6 e;exact Below.heap_setCell _ _ _ _ (qL0 hcc K6 (by decide)))
  have L7:Hid (qA4 w7 (w.heap.size+3) (.slice (some ⟨gl,0,none⟩) r.ls.length lc) r.ls):=by
   show qA4 _ _ _ _
   rw [hw7]
   exact qA2 L6 (fun g e=>by obtain ⟨cur,hcc,_⟩:=qD2 L6 e;exact Below.heap_setCell _ _ _ _ (qL0 hcc K6 (by decide)))
  have k2:=qB0 K6 2
  simp at k2
  have kf2:=qZ2 K6 2
  have hq6:=(Array.getElem?_eq_some_iff.1 K6).1
  clear hown6 hgrow6 hnil6 hgU E6 Z6 B6 L6 x0 x1 x2 x3 x4 hxl hxl2 o2 hql RU PU AU OU hU O5
  go_upto_region 24 with fail
  rw [← hw7]
  clear hw7 k2 kf2 hq6
  have o0:=qB0 K7 0
  have o1:=qB0 K7 1
  have o2:=qB0 K7 2
  have o3:=qB0 K7 3
  simp at o0 o1 o2 o3
  have hql:=(Array.getElem?_eq_some_iff.1 K7).1
  have z0:=Z7.1 0 _ rfl
  have z1:=Z7.1 1 _ rfl
  have z2:=Z7.1 2 _ rfl
  have z3:=Z7.1 3 _ rfl
  have z4:=Z7.1 4 _ rfl
  have f0:=Z7.2 0
  have f1:=Z7.2 1
  have f2:=Z7.2 2
  have f3:=Z7.2 3
  have f4:=Z7.2 4
  have hzl:w.heap.size+2 < w7.heap.size:=by omega
  have hqn:w.heap.size+2≠q:=by omega
  clear K7 Z7 K6
  go_wp2_with fail
  refine bodyPost_ret (v:=.agg #[.int .i64 0,.int .i64 r.i,.int .i64 r.u,.slice (some ⟨g6,0,none⟩) S.length cap6,.slice (some ⟨gl,0,none⟩) r.ls.length lc]) (by simp [results,Tryz.results49,go_sem,z0,z1,z2,z3,z4,hzl]) rfl ?_
  refine ⟨(((((B7.out.setCell (by show w.heap.size≤w.heap.size+2;omega) _).setCell (by show w.heap.size≤w.heap.size+2;omega) _).setCell (by show w.heap.size≤w.heap.size+2;omega) _).setCell (by show w.heap.size≤w.heap.size+2;omega) _).setCell (by show w.heap.size≤w.heap.size+2;omega) _),fun q=>absurd rfl q,fun _=>?_⟩
  refine ⟨some ⟨g6,0,none⟩,cap6,(some ⟨gl,0,none⟩),lc,rfl,qC5 (qA2 E7.out (fun g e=>?_)) (by omega),qA9 (qA2 L7.out (fun g e=>?_)) (by omega)⟩
  ·obtain ⟨cur,hcc,hgg⟩:=qD4 E7.out e
   rw [Below.heap_setCell _ _ _ _ (by show g≠w.heap.size+2;omega),Below.heap_setCell _ _ _ _ (by show g≠w.heap.size+2;omega),Below.heap_setCell _ _ _ _ (by show g≠w.heap.size+2;omega),Below.heap_setCell _ _ _ _ (by show g≠w.heap.size+2;omega),Below.heap_setCell _ _ _ _ (by show g≠w.heap.size+2;omega)]
  ·obtain ⟨cur,hcc,hgg⟩:=qD2 L7.out e
   rw [Below.heap_setCell _ _ _ _ (by show g≠w.heap.size+2;omega),Below.heap_setCell _ _ _ _ (by show g≠w.heap.size+2;omega),Below.heap_setCell _ _ _ _ (by show g≠w.heap.size+2;omega),Below.heap_setCell _ _ _ _ (by show g≠w.heap.size+2;omega),Below.heap_setCell _ _ _ _ (by show g≠w.heap.size+2;omega)]
 ·have kb:(k != 0)=true:=by simp [hk0]
  have z0:=O5.out.ev.rs.1 0 _ rfl
  have z1:=O5.out.ev.rs.1 1 _ rfl
  have z2:=O5.out.ev.rs.1 2 _ rfl
  have z3:=O5.out.ev.rs.1 3 _ rfl
  have z4:=O5.out.ev.rs.1 4 _ rfl
  have f0:=O5.out.ev.rs.2 0
  have f1:=O5.out.ev.rs.2 1
  have f2:=O5.out.ev.rs.2 2
  have f3:=O5.out.ev.rs.2 3
  have f4:=O5.out.ev.rs.2 4
  have hzl:=O5.out.ev.lt
  go_wp2_with fail
  refine bodyPost_ret (v:=.agg #[.int .i64 k,.int .i64 0,.int .i64 0,.slice none 0 0,.slice none 0 0]) (by simp [results,Tryz.results49,go_sem,z0,z1,z2,z3,z4,hzl]) rfl ?_
  exact ⟨(((((O5.out.ev.bl.setCell (by show w.heap.size≤w.heap.size+2;omega) _).setCell (by show w.heap.size≤w.heap.size+2;omega) _).setCell (by show w.heap.size≤w.heap.size+2;omega) _).setCell (by show w.heap.size≤w.heap.size+2;omega) _).setCell (by show w.heap.size≤w.heap.size+2;omega) _),fun _=>rfl,fun q=>absurd q (by first | assumption | decide)⟩
theorem QM3 (E:qI1) (r:qH5) (a:Option Addr) (m cap:Nat) (cs:List qA5) (x:StI) (w:World) (hr:qE7 w r) (hN:qK0 r) (hsm:∀ p,r.la=some p→∃ b0 o0,p=⟨b0,o0,none⟩∧b0 < w.heap.size) (hc:qA7 w a m cs) (hEC:qO2 E cs) (hm:0 < m) (hm8:m≤8) (hRp:RpS E r.ss r.ls) (hst:qC3 x=0) (hsx:qD8 r.ss x=false) (p:Nat) (hp:qB5 E r.ss x.e=(p:Int)) (h40:r.sn < 40) (hk1':x.k=1) (c:qA5) (hpc:cs[p]? = some c) (gs:List GrI) (hg:QJ0 c.zs gs) (k:Int) (L:List LkI) (hI:∀ (b bx g o:Nat) (W:World),IsA W b r g o c gs bx x→qH9 77 #[.pointer (some ⟨b,0,none⟩),.pointer (some ⟨g,o,none⟩),.pointer (some ⟨bx,0,none⟩)] k L W) (hk0:k≠0) :
  Calls Tryz.prog 49 #[.agg #[.int .i64 r.i,.int .i64 r.u,.slice r.sa r.sn r.sc,.slice r.la r.ln r.lc],.slice a m cap,.agg #[.int .i64 x.k,.int .i64 x.e,.int .i64 x.f,.int .i64 x.s,.int .i64 x.n]] w fun d w'=>EndS r k [] [] w d w':=by
 have hsl:r.ss.length=r.sn:=hr.said.1
 have hll:r.ls.length=r.ln:=hr.locks.1
 have hs40:r.sn≤40:=by have:=hRp.len;omega
 have hl200:r.ln≤200:=by have:=(QF5 hRp.lk).1;omega
 have hs40':(r.sn:Int)≤40:=by omega
 have HR:Hid (∀ W,Below w.heap.size w W→qE7 W r∧qA7 W a m cs∧(∀ p,r.la=some p→∃ b0 o0,p=⟨b0,o0,none⟩∧b0 < W.heap.size)):=fun W hb=>⟨hr.below hb,hc.below hb,fun p e=>by obtain ⟨b0,o0,q,hl⟩:=hsm p e;exact ⟨b0,o0,q,Nat.lt_of_lt_of_le hl hb.size⟩⟩
 have HSL:Hid (r.ss.length=r.sn∧r.ls.length=r.ln):=⟨hsl,hll⟩
 have HN:Hid (qK0 r):=hN
 have HEC:Hid (qO2 E cs):=hEC
 have HRP:Hid (RpS E r.ss r.ls):=hRp
 have HF:Hid (∀ W,qS7 W (w.heap.size+1) 0 x→Calls Tryz.prog 74 #[.pointer (some ⟨w.heap.size+1,0,none⟩)] W fun e w'=>e = .returned (.int .i64 0)∧W=w'):=fun W q=>by rw [← hst];exact qN5 _ _ x W q
 obtain ⟨V,hV⟩:∃ V,V=((w.alloc (.cells #[.int .i64 r.i,.int .i64 r.u,.slice r.sa r.sn r.sc,.slice r.la r.ln r.lc] 33)).alloc (.cells #[.int .i64 x.k,.int .i64 x.e,.int .i64 x.f,.int .i64 x.s,.int .i64 x.n] 43)).alloc (.cells #[.int .i64 0,.int .i64 0,.int .i64 0,.slice none 0 0,.slice none 0 0] 47):=⟨_,rfl⟩
 have V0:Hid (EV w r x V):=by show EV w r x V;rw [hV];exact EV.new w r x
 obtain ⟨⟨hk1,hk2⟩,⟨he1,he2⟩,⟨hn1,hn2⟩,_⟩:=qI2 hst
 have HX0:Hid (qC3 x=0):=hst
 have HX1:Hid (x.k=1):=hk1'
 have HSD:Hid (∀ W,EV w r x W→Calls Tryz.prog 75 #[.pointer (some ⟨w.heap.size,0,none⟩),.agg #[.int .i64 x.k,.int .i64 x.e,.int .i64 x.f,.int .i64 x.s,.int .i64 x.n]] W fun d w'=>d = .returned (.bool false)∧Below W.heap.size W w'):=fun W q=>by rw [← hsx];exact qM1 _ r x W q.rb (HR.out _ q.bl).1.said (by omega)
 have h40':(r.sn:Int) < 40:=by omega
 have hpl:p < m:=by
  have:=(List.getElem?_eq_some_iff.1 hpc).1
  have:=hc.len
  omega
 have hpl':(p:Int) < (m:Int):=by omega
 have hp0':¬ ((p:Int) < 0):=by omega
 obtain ⟨g,off,c',rfl,hc',_,_⟩:=hc.at hpl
 obtain rfl:c=c':=Option.some.inj (hpc.symm.trans hc')
 have HIS:Hid (∀ W,EV w r x W→qH9 77 #[.pointer (some ⟨w.heap.size,0,none⟩),.pointer (some ⟨g,off+p * 5,none⟩),.pointer (some ⟨w.heap.size+1,0,none⟩)] k L W):=fun W q=>by
  obtain ⟨hr1,hc1,hs1⟩:=HR.out _ q.bl
  obtain ⟨⟨d1,_,_,d4⟩,_⟩:=HEC.out.cf _ c hpc
  obtain ⟨g',off',c'',e',hc'',hat',hci'⟩:=hc1.at hpl
  cases e'
  obtain rfl:c=c'':=Option.some.inj (hpc.symm.trans hc'')
  exact hI _ _ _ _ W ⟨q.rb,hr1,by omega,HN.out.l,hs1,HRP.out.lk,hat',hci',d1,d4,hg,q.xa,HX0.out,HX1.out⟩
 unfold qH9 at HIS
 have k1:(x.k==1)=true:=by simp [hk1']
 have HOF:Hid (∀ W,EV w r x W→Calls Tryz.prog 76 #[.pointer (some ⟨w.heap.size,0,none⟩),.slice (some ⟨g,off,none⟩) m cap,.int .i64 x.e] W fun d w'=>d = .returned (.int .i64 (p:Int))∧Below W.heap.size W w'):=fun W q=>by rw [← hp];exact QM2 E _ r _ m cap cs x.e W HEC.out.es q.rb (HR.out _ q.bl).1.said (by omega) (HR.out _ q.bl).2.1 hm hm8 ⟨he1,he2⟩
 have kb:(k != 0)=true:=by simp [hk0]
 clear hsx hI hpc hc' hk1' hp
 clear hr hN hsm hc hEC hRp hsl hll hst
 go_enter Tryz.func49,Tryz.ntmps49
 go_upto_region 1 with fail
 rw [← hV]
 clear hV
 go_wp2_with fail
 refine (HF.out _ V0.out.xa).mono ?_
 rintro d w1 ⟨rfl,rfl⟩
 have a0:=V0.out.rb.1
 have a1:=V0.out.rb.2.1
 have a2:=V0.out.rb.2.2.1
 have a3:=V0.out.rb.2.2.2
 have hvl:w.heap.size < V.heap.size:=by have:=V0.out.lt;omega
 have HCP:=qT7 r V (HR.out _ V0.out.bl).1 HN.out (by omega) (by omega)
 go_wp2_with fail
 refine HCP.mono ?_
 clear HCP
 rintro d w2 ⟨gs_,sc,gl,lc,rfl,ho1,ho2,hb2⟩
 obtain ⟨Y,hY⟩:∃ Y,Y=w2.alloc (.cells #[.int .i64 r.i,.int .i64 r.u,.slice (some ⟨gs_,0,none⟩) r.sn sc,.slice (some ⟨gl,0,none⟩) r.ln lc] 33):=⟨_,rfl⟩
 have AY:Below w2.heap.size w2 Y:=by rw [hY];exact zN
 have hvl3:=V0.out.lt
 have hs2:=hb2.size
 have O1:Hid (OX w r x w2.heap.size gs_ sc (some ⟨gl,0,none⟩) lc r.ls Y):=by
  refine ⟨(V0.out.below hb2).below AY,?_,qC5 (ho1.below AY) (by omega),?_,by omega⟩
  ·rw [hY,HSL.out.2]
   exact qP9 w2 _
  ·rw [HSL.out.2]
   exact qA9 (ho2.below AY) (by omega)
 have hq2:w.heap.size+2 < w2.heap.size:=by omega
 clear a0 a1 a2 a3 hvl hvl3 hs2 ho1 ho2 hb2 AY V0
 go_upto_region 5 with fail
 rw [← hY]
 clear hY
 generalize w2.heap.size=q at O1 hq2 ⊢
 obtain ⟨x0,x1,x2,x3,x4⟩:=O1.out.ev.xa
 simp only [Nat.zero_add] at x0 x1 x2 x3 x4
 have hxl:w.heap.size+1 < _:=Nat.lt_of_succ_lt O1.out.ev.lt
 go_wp2_with fail
 refine (HSD.out _ O1.out.ev).mono ?_
 rintro d w3 ⟨rfl,hb3⟩
 have O3:=qC8 (O1.out.below hb3)
 clear hb3 O1
 clear x0 x1 x2 x3 x4 hxl
 obtain ⟨x0,x1,x2,x3,x4⟩:=O3.out.ev.xa
 simp only [Nat.zero_add] at x0 x1 x2 x3 x4
 have hxl:w.heap.size+1 < _:=Nat.lt_of_succ_lt O3.out.ev.lt
 go_wp2_with fail
 refine (HOF.out _ O3.out.ev).mono ?_
 rintro d w4 ⟨rfl,hb4⟩
 have O4:=qC8 (O3.out.below hb4)
 clear hb4 O3
 clear x0 x1 x2 x3 x4 hxl
 have a2:=O4.out.ev.rb.2.2.1
 have hal:w.heap.size < w4.heap.size:=by have:=O4.out.ev.lt;omega
 obtain ⟨x0,x1,x2,x3,x4⟩:=O4.out.ev.xa
 simp only [Nat.zero_add] at x0 x1 x2 x3 x4
 have hxl:w.heap.size+1 < _:=Nat.lt_of_succ_lt O4.out.ev.lt
 go_wp2_with fail
 refine (HIS.out _ O4.out.ev).mono ?_
 rintro d w5 ⟨la',lc',rfl,ho5,hb5⟩
 obtain ⟨T,hT⟩:∃ T,T=w5.alloc (.cells #[.int .i64 k,.slice la' L.length lc'] 124):=⟨_,rfl⟩
 have AT:Below w5.heap.size w5 T:=by rw [hT];exact zN
 have O5:=qC8 ((O4.out.below hb5).below AT)
 have XT:Hid (qE8 w5.heap.size [.int .i64 k,.slice la' L.length lc'] T∧w5.heap.size < T.heap.size):=by rw [hT];exact ⟨(qF2 w5 _ _).out,by simp⟩
 have LT:Hid (qA4 T (w.heap.size+3) (.slice la' L.length lc') L):=qA9 (ho5.below AT) (by have:=O4.out.ev.lt;omega)
 clear hb5 ho5 AT a2 hal O4
 clear x0 x1 x2 x3 x4 hxl
 go_upto_region 15 with fail
 rw [← hT]
 clear hT
 generalize w5.heap.size=q5 at XT ⊢
 have t0:=XT.out.1 0 _ rfl
 have t1:=XT.out.1 1 _ rfl
 have htl:=XT.out.2
 have z0:=O5.out.ev.rs.1 0 _ rfl
 have z1:=O5.out.ev.rs.1 1 _ rfl
 have z2:=O5.out.ev.rs.1 2 _ rfl
 have z3:=O5.out.ev.rs.1 3 _ rfl
 have z4:=O5.out.ev.rs.1 4 _ rfl
 have f0:=O5.out.ev.rs.2 0
 have f1:=O5.out.ev.rs.2 1
 have f2:=O5.out.ev.rs.2 2
 have f3:=O5.out.ev.rs.2 3
 have f4:=O5.out.ev.rs.2 4
 have hzl:=O5.out.ev.lt
 go_wp2_with fail
 refine bodyPost_ret (v:=.agg #[.int .i64 k,.int .i64 0,.int .i64 0,.slice none 0 0,.slice none 0 0]) (by simp [results,Tryz.results49,go_sem,z0,z1,z2,z3,z4,hzl]) rfl ?_
 exact ⟨(((((O5.out.ev.bl.setCell (by show w.heap.size≤w.heap.size+2;omega) _).setCell (by show w.heap.size≤w.heap.size+2;omega) _).setCell (by show w.heap.size≤w.heap.size+2;omega) _).setCell (by show w.heap.size≤w.heap.size+2;omega) _).setCell (by show w.heap.size≤w.heap.size+2;omega) _),fun _=>rfl,fun q=>absurd q (by first | assumption | decide)⟩
theorem QP2 (E:qI1) (r:qH5) (a:Option Addr) (m cap:Nat) (cs:List qA5) (x:StI) (w:World) (hr:qE7 w r) (hN:qK0 r) (hsm:∀ p,r.la=some p→∃ b0 o0,p=⟨b0,o0,none⟩∧b0 < w.heap.size) (hc:qA7 w a m cs) (hEC:qO2 E cs) (hm:0 < m) (hm8:m≤8) (hRp:RpS E r.ss r.ls) (hst:qC3 x=0) (hsx:qD8 r.ss x=false) (p:Nat) (hp:qB5 E r.ss x.e=(p:Int)) (h40:r.sn < 40) (hk1':x.k=1) (c:qA5) (hpc:cs[p]? = some c) (gs:List GrI) (hg:QJ0 c.zs gs) (k:Int) (L:List LkI) (hI:∀ (b bx g o:Nat) (W:World),IsA W b r g o c gs bx x→qH9 77 #[.pointer (some ⟨b,0,none⟩),.pointer (some ⟨g,o,none⟩),.pointer (some ⟨bx,0,none⟩)] k L W) (hk0:k=0) (S:List StI) (hS:r.ss++[x]=S) :
  Calls Tryz.prog 49 #[.agg #[.int .i64 r.i,.int .i64 r.u,.slice r.sa r.sn r.sc,.slice r.la r.ln r.lc],.slice a m cap,.agg #[.int .i64 x.k,.int .i64 x.e,.int .i64 x.f,.int .i64 x.s,.int .i64 x.n]] w fun d w'=>EndS r 0 S L w d w':=by
 have hsl:r.ss.length=r.sn:=hr.said.1
 have hll:r.ls.length=r.ln:=hr.locks.1
 have hs40:r.sn≤40:=by have:=hRp.len;omega
 have hl200:r.ln≤200:=by have:=(QF5 hRp.lk).1;omega
 have hs40':(r.sn:Int)≤40:=by omega
 have HR:Hid (∀ W,Below w.heap.size w W→qE7 W r∧qA7 W a m cs∧(∀ p,r.la=some p→∃ b0 o0,p=⟨b0,o0,none⟩∧b0 < W.heap.size)):=fun W hb=>⟨hr.below hb,hc.below hb,fun p e=>by obtain ⟨b0,o0,q,hl⟩:=hsm p e;exact ⟨b0,o0,q,Nat.lt_of_lt_of_le hl hb.size⟩⟩
 have HSL:Hid (r.ss.length=r.sn∧r.ls.length=r.ln):=⟨hsl,hll⟩
 have HN:Hid (qK0 r):=hN
 have HEC:Hid (qO2 E cs):=hEC
 have HRP:Hid (RpS E r.ss r.ls):=hRp
 have HF:Hid (∀ W,qS7 W (w.heap.size+1) 0 x→Calls Tryz.prog 74 #[.pointer (some ⟨w.heap.size+1,0,none⟩)] W fun e w'=>e = .returned (.int .i64 0)∧W=w'):=fun W q=>by rw [← hst];exact qN5 _ _ x W q
 obtain ⟨V,hV⟩:∃ V,V=((w.alloc (.cells #[.int .i64 r.i,.int .i64 r.u,.slice r.sa r.sn r.sc,.slice r.la r.ln r.lc] 33)).alloc (.cells #[.int .i64 x.k,.int .i64 x.e,.int .i64 x.f,.int .i64 x.s,.int .i64 x.n] 43)).alloc (.cells #[.int .i64 0,.int .i64 0,.int .i64 0,.slice none 0 0,.slice none 0 0] 47):=⟨_,rfl⟩
 have V0:Hid (EV w r x V):=by show EV w r x V;rw [hV];exact EV.new w r x
 obtain ⟨⟨hk1,hk2⟩,⟨he1,he2⟩,⟨hn1,hn2⟩,_⟩:=qI2 hst
 have HX0:Hid (qC3 x=0):=hst
 have HX1:Hid (x.k=1):=hk1'
 have HSD:Hid (∀ W,EV w r x W→Calls Tryz.prog 75 #[.pointer (some ⟨w.heap.size,0,none⟩),.agg #[.int .i64 x.k,.int .i64 x.e,.int .i64 x.f,.int .i64 x.s,.int .i64 x.n]] W fun d w'=>d = .returned (.bool false)∧Below W.heap.size W w'):=fun W q=>by rw [← hsx];exact qM1 _ r x W q.rb (HR.out _ q.bl).1.said (by omega)
 have h40':(r.sn:Int) < 40:=by omega
 have hpl:p < m:=by
  have:=(List.getElem?_eq_some_iff.1 hpc).1
  have:=hc.len
  omega
 have hpl':(p:Int) < (m:Int):=by omega
 have hp0':¬ ((p:Int) < 0):=by omega
 obtain ⟨g,off,c',rfl,hc',_,_⟩:=hc.at hpl
 obtain rfl:c=c':=Option.some.inj (hpc.symm.trans hc')
 have HIS:Hid (∀ W,EV w r x W→qH9 77 #[.pointer (some ⟨w.heap.size,0,none⟩),.pointer (some ⟨g,off+p * 5,none⟩),.pointer (some ⟨w.heap.size+1,0,none⟩)] k L W):=fun W q=>by
  obtain ⟨hr1,hc1,hs1⟩:=HR.out _ q.bl
  obtain ⟨⟨d1,_,_,d4⟩,_⟩:=HEC.out.cf _ c hpc
  obtain ⟨g',off',c'',e',hc'',hat',hci'⟩:=hc1.at hpl
  cases e'
  obtain rfl:c=c'':=Option.some.inj (hpc.symm.trans hc'')
  exact hI _ _ _ _ W ⟨q.rb,hr1,by omega,HN.out.l,hs1,HRP.out.lk,hat',hci',d1,d4,hg,q.xa,HX0.out,HX1.out⟩
 unfold qH9 at HIS
 have k1:(x.k==1)=true:=by simp [hk1']
 have HOF:Hid (∀ W,EV w r x W→Calls Tryz.prog 76 #[.pointer (some ⟨w.heap.size,0,none⟩),.slice (some ⟨g,off,none⟩) m cap,.int .i64 x.e] W fun d w'=>d = .returned (.int .i64 (p:Int))∧Below W.heap.size W w'):=fun W q=>by rw [← hp];exact QM2 E _ r _ m cap cs x.e W HEC.out.es q.rb (HR.out _ q.bl).1.said (by omega) (HR.out _ q.bl).2.1 hm hm8 ⟨he1,he2⟩
 clear hsx hI hpc hc' hk1' hp
 subst hk0
 have HS:Hid (r.ss++[x]=S):=hS
 clear hS
 obtain ⟨i0,hi,hz0,hz1,hz2⟩:=info_parts Tryz.info43
 clear hr hN hsm hc hEC hRp hsl hll hst
 go_enter Tryz.func49,Tryz.ntmps49
 go_upto_region 1 with fail
 rw [← hV]
 clear hV
 go_wp2_with fail
 refine (HF.out _ V0.out.xa).mono ?_
 rintro d w1 ⟨rfl,rfl⟩
 have a0:=V0.out.rb.1
 have a1:=V0.out.rb.2.1
 have a2:=V0.out.rb.2.2.1
 have a3:=V0.out.rb.2.2.2
 have hvl:w.heap.size < V.heap.size:=by have:=V0.out.lt;omega
 have HCP:=qT7 r V (HR.out _ V0.out.bl).1 HN.out (by omega) (by omega)
 go_wp2_with fail
 refine HCP.mono ?_
 clear HCP
 rintro d w2 ⟨gs_,sc,gl,lc,rfl,ho1,ho2,hb2⟩
 obtain ⟨Y,hY⟩:∃ Y,Y=w2.alloc (.cells #[.int .i64 r.i,.int .i64 r.u,.slice (some ⟨gs_,0,none⟩) r.sn sc,.slice (some ⟨gl,0,none⟩) r.ln lc] 33):=⟨_,rfl⟩
 have AY:Below w2.heap.size w2 Y:=by rw [hY];exact zN
 have hvl3:=V0.out.lt
 have hs2:=hb2.size
 have O1:Hid (OX w r x w2.heap.size gs_ sc (some ⟨gl,0,none⟩) lc r.ls Y):=by
  refine ⟨(V0.out.below hb2).below AY,?_,qC5 (ho1.below AY) (by omega),?_,by omega⟩
  ·rw [hY,HSL.out.2]
   exact qP9 w2 _
  ·rw [HSL.out.2]
   exact qA9 (ho2.below AY) (by omega)
 have hq2:w.heap.size+2 < w2.heap.size:=by omega
 clear a0 a1 a2 a3 hvl hvl3 hs2 ho1 ho2 hb2 AY V0
 go_upto_region 5 with fail
 rw [← hY]
 clear hY
 generalize w2.heap.size=q at O1 hq2 ⊢
 obtain ⟨x0,x1,x2,x3,x4⟩:=O1.out.ev.xa
 simp only [Nat.zero_add] at x0 x1 x2 x3 x4
 have hxl:w.heap.size+1 < _:=Nat.lt_of_succ_lt O1.out.ev.lt
 go_wp2_with fail
 refine (HSD.out _ O1.out.ev).mono ?_
 rintro d w3 ⟨rfl,hb3⟩
 have O3:=qC8 (O1.out.below hb3)
 clear hb3 O1
 clear x0 x1 x2 x3 x4 hxl
 obtain ⟨x0,x1,x2,x3,x4⟩:=O3.out.ev.xa
 simp only [Nat.zero_add] at x0 x1 x2 x3 x4
 have hxl:w.heap.size+1 < _:=Nat.lt_of_succ_lt O3.out.ev.lt
 go_wp2_with fail
 refine (HOF.out _ O3.out.ev).mono ?_
 rintro d w4 ⟨rfl,hb4⟩
 have O4:=qC8 (O3.out.below hb4)
 clear hb4 O3
 clear x0 x1 x2 x3 x4 hxl
 have a2:=O4.out.ev.rb.2.2.1
 have hal:w.heap.size < w4.heap.size:=by have:=O4.out.ev.lt;omega
 obtain ⟨x0,x1,x2,x3,x4⟩:=O4.out.ev.xa
 simp only [Nat.zero_add] at x0 x1 x2 x3 x4
 have hxl:w.heap.size+1 < _:=Nat.lt_of_succ_lt O4.out.ev.lt
 go_wp2_with fail
 refine (HIS.out _ O4.out.ev).mono ?_
 rintro d w5 ⟨la',lc',rfl,ho5,hb5⟩
 obtain ⟨T,hT⟩:∃ T,T=w5.alloc (.cells #[.int .i64 0,.slice la' L.length lc'] 124):=⟨_,rfl⟩
 have AT:Below w5.heap.size w5 T:=by rw [hT];exact zN
 have O5:=qC8 ((O4.out.below hb5).below AT)
 have XT:Hid (qE8 w5.heap.size [.int .i64 0,.slice la' L.length lc'] T∧w5.heap.size < T.heap.size):=by rw [hT];exact ⟨(qF2 w5 _ _).out,by simp⟩
 have LT:Hid (qA4 T (w.heap.size+3) (.slice la' L.length lc') L):=qA9 (ho5.below AT) (by have:=O4.out.ev.lt;omega)
 clear hb5 ho5 AT a2 hal O4
 clear x0 x1 x2 x3 x4 hxl
 go_upto_region 15 with fail
 rw [← hT]
 clear hT
 generalize w5.heap.size=q5 at XT ⊢
 have t0:=XT.out.1 0 _ rfl
 have t1:=XT.out.1 1 _ rfl
 have htl:=XT.out.2
 have o3:=qB0 O5.out.ob 3
 simp at o3
 have of3:=qZ2 O5.out.ob 3
 have hql:=O5.out.qlt
 obtain ⟨T2,hT2⟩:∃ T2,T2=T.setCell ⟨q,3,none⟩ (.slice la' L.length lc'):=⟨_,rfl⟩
 have O6:Hid (OX w r x q gs_ sc la' lc' L T2):=by show OX _ _ _ _ _ _ _ _ _ _;rw [hT2];exact O5.out.lock LT.out
 go_upto_region 23 with fail
 rw [← hT2]
 clear hT2 o3 of3 hql t0 t1 htl XT LT O5
 obtain ⟨U,hU⟩:∃ U,U=T2.alloc (.cells #[.int .i64 x.k,.int .i64 x.e,.int .i64 x.f,.int .i64 x.s,.int .i64 x.n] 43):=⟨_,rfl⟩
 have AU:Below T2.heap.size T2 U:=by rw [hU];exact zN
 have OU:=qC8 (O6.out.below AU)
 have RU:Hid (U.ownsRow (w.heap.size+3) 43 5 (.slice (some ⟨gs_,0,none⟩) r.sn sc) r.sn (qC4 r.ss)):=by
  have q:=OU.out.so
  unfold qB1 at q
  rw [HSL.out.1] at q
  exact q
 have PU:Hid (qM5 U (some ⟨T2.heap.size,0,none⟩) 1 [x]):=by show qM5 _ _ _ _;rw [hU];exact QH7 T2 x _
 have hUs:w.heap.size+3≤U.heap.size:=by have:=OU.out.ev.lt;omega
 obtain ⟨x0,x1,x2,x3,x4⟩:=O6.out.ev.xa
 simp only [Nat.zero_add] at x0 x1 x2 x3 x4
 have hxl:w.heap.size+1 < _:=Nat.lt_of_succ_lt O6.out.ev.lt
 have o2:=qB0 O6.out.ob 2
 simp at o2
 have hql:=O6.out.qlt
 have hxl2:w.heap.size+1 < T2.heap.size:=hxl
 go_wp2_with (first | (at_builtin;rw [← hU];refine qS0 rfl _ _ 30 rfl (w.heap.size+3) 43 i0 (.agg #[.int .i64 0,.int .i64 0,.int .i64 0,.int .i64 0,.int .i64 0]) 5 40 Tryz.underlying30 hi hz0 hz1 hz2 rfl (by decide) (.slice (some ⟨gs_,0,none⟩) r.sn sc) r.sn (qC4 r.ss) rfl RU.out (by simp) (some ⟨T2.heap.size,0,none⟩) 1 1 (qC4 [x]) rfl (fun e=>by cases e) rfl (fun p e=>by cases e;exact qY7 PU.out) (qP0 _) (by unfold maxLen;omega) (by omega) hUs ?_) | fail)
 intro v6 w6 hown6 hgrow6 hnil6
 have E6:qB1 w6 (w.heap.size+3) v6 S:=by
  rw [← HS.out]
  show World.ownsRow _ _ 43 5 _ (r.ss++[x]).length (qC4 (r.ss++[x]))
  rw [qN7,List.length_append,HSL.out.1]
  exact hown6
 obtain ⟨g6,cap6,hv6⟩:=E6.shape hnil6
 subst hv6
 have hgU:U.grownBy w6 (some gs_):=by first | exact hgrow6 | (rw [hU];exact hgrow6)
 obtain ⟨Z6,B6,K6,L6⟩:=OU.out.said (by rw [HS.out];exact E6) hgU
 obtain ⟨w7,hw7⟩:∃ w7,w7=w6.setCell ⟨q,2,none⟩ (.slice (some ⟨g6,0,none⟩) S.length cap6):=⟨_,rfl⟩
 have K7:w7.heap[q]? = some (.cells #[.int .i64 r.i,.int .i64 r.u,.slice (some ⟨g6,0,none⟩) S.length cap6,.slice la' L.length lc'] 33 (0,0)):=by rw [hw7];exact qQ3 K6
 have Z7:qG2 (w.heap.size+2) [.int .i64 0,.int .i64 0,.int .i64 0,.slice none 0 0,.slice none 0 0] w7:=by rw [hw7];exact Z6.other (by show q≠_;omega) _
 have B7:Hid (Below w.heap.size w w7):=by show Below _ _ _;rw [hw7];exact B6.setCell (by show w.heap.size≤q;omega) _
 have E7:Hid (qB1 w7 (w.heap.size+3) (.slice (some ⟨g6,0,none⟩) S.length cap6) S):=by
  show qB1 _ _ _ _
  rw [hw7]
  exact qA2 E6 (fun g e=>by obtain ⟨cur,hcc,_⟩:=qD4 E6 e;exact Below.heap_setCell _ _ _ _ (qL0 hcc K6 (by decide)))
 have L7:Hid (qA4 w7 (w.heap.size+3) (.slice la' L.length lc') L):=by
  show qA4 _ _ _ _
  rw [hw7]
  exact qA2 L6 (fun g e=>by obtain ⟨cur,hcc,_⟩:=qD2 L6 e;exact Below.heap_setCell _ _ _ _ (qL0 hcc K6 (by decide)))
 have k2:=qB0 K6 2
 simp at k2
 have kf2:=qZ2 K6 2
 have hq6:=(Array.getElem?_eq_some_iff.1 K6).1
 clear hown6 hgrow6 hnil6 hgU E6 Z6 B6 L6 x0 x1 x2 x3 x4 hxl hxl2 o2 hql RU PU AU OU hU O6
 go_upto_region 24 with fail
 rw [← hw7]
 clear hw7 k2 kf2 hq6
 have o0:=qB0 K7 0
 have o1:=qB0 K7 1
 have o2:=qB0 K7 2
 have o3:=qB0 K7 3
 simp at o0 o1 o2 o3
 have hql:=(Array.getElem?_eq_some_iff.1 K7).1
 have z0:=Z7.1 0 _ rfl
 have z1:=Z7.1 1 _ rfl
 have z2:=Z7.1 2 _ rfl
 have z3:=Z7.1 3 _ rfl
 have z4:=Z7.1 4 _ rfl
 have f0:=Z7.2 0
 have f1:=Z7.2 1
 have f2:=Z7.2 2
 have f3:=Z7.2 3
 have f4:=Z7.2 4
 have hzl:w.heap.size+2 < w7.heap.size:=by omega
 have hqn:w.heap.size+2≠q:=by omega
 clear K7 Z7 K6
 go_wp2_with fail
 refine bodyPost_ret (v:=.agg #[.int .i64 0,.int .i64 r.i,.int .i64 r.u,.slice (some ⟨g6,0,none⟩) S.length cap6,.slice la' L.length lc']) (by simp [results,Tryz.results49,go_sem,z0,z1,z2,z3,z4,hzl]) rfl ?_
 refine ⟨(((((B7.out.setCell (by show w.heap.size≤w.heap.size+2;omega) _).setCell (by show w.heap.size≤w.heap.size+2;omega) _).setCell (by show w.heap.size≤w.heap.size+2;omega) _).setCell (by show w.heap.size≤w.heap.size+2;omega) _).setCell (by show w.heap.size≤w.heap.size+2;omega) _),fun q=>absurd rfl q,fun _=>?_⟩
 refine ⟨some ⟨g6,0,none⟩,cap6,la',lc',rfl,qC5 (qA2 E7.out (fun g e=>?_)) (by omega),qA9 (qA2 L7.out (fun g e=>?_)) (by omega)⟩
 ·obtain ⟨cur,hcc,hgg⟩:=qD4 E7.out e
  rw [Below.heap_setCell _ _ _ _ (by show g≠w.heap.size+2;omega),Below.heap_setCell _ _ _ _ (by show g≠w.heap.size+2;omega),Below.heap_setCell _ _ _ _ (by show g≠w.heap.size+2;omega),Below.heap_setCell _ _ _ _ (by show g≠w.heap.size+2;omega),Below.heap_setCell _ _ _ _ (by show g≠w.heap.size+2;omega)]
 ·obtain ⟨cur,hcc,hgg⟩:=qD2 L7.out e
  rw [Below.heap_setCell _ _ _ _ (by show g≠w.heap.size+2;omega),Below.heap_setCell _ _ _ _ (by show g≠w.heap.size+2;omega),Below.heap_setCell _ _ _ _ (by show g≠w.heap.size+2;omega),Below.heap_setCell _ _ _ _ (by show g≠w.heap.size+2;omega),Below.heap_setCell _ _ _ _ (by show g≠w.heap.size+2;omega)]

theorem QI7 {r:qH5} {k:Int} {S S':List StI} {L L':List LkI} {w:World} {d:Ending} {w':World} (h:EndS r k S L w d w') (hk:k≠0):EndS r k S' L' w d w':=⟨h.1,h.2.1,fun q=>absurd q hk⟩
theorem QG3 (E:qI1) (r:qH5) (a:Option Addr) (m cap:Nat) (cs:List qA5) (x:StI) (w:World) (hr:qE7 w r) (hN:qK0 r) (hsm:∀ p,r.la=some p→∃ b0 o0,p=⟨b0,o0,none⟩∧b0 < w.heap.size) (hc:qA7 w a m cs) (hEC:qO2 E cs) (hm:0 < m) (hm8:m≤8) (hRp:RpS E r.ss r.ls) :
  Calls Tryz.prog 49 #[.agg #[.int .i64 r.i,.int .i64 r.u,.slice r.sa r.sn r.sc,.slice r.la r.ln r.lc],.slice a m cap,.agg #[.int .i64 x.k,.int .i64 x.e,.int .i64 x.f,.int .i64 x.s,.int .i64 x.n]] w fun d w'=>EndS r (qE1 E r.ss r.ls x) (qI6 r.ss x) (qG5 E r.ss r.ls x) w d w':=by
 have hsl:r.ss.length=r.sn:=hr.said.1
 by_cases hst:qC3 x=0
 ·cases hsx:qD8 r.ss x
  ·have eC:qE1 E r.ss r.ls x=qG0 E r.ss r.ls x:=by unfold qE1;rw [if_pos hst,hsx,if_neg (by decide)]
   have eS:qI6 r.ss x=r.ss++[x]:=by unfold qI6;rw [hsx,if_neg (by decide)]
   have eL:qG5 E r.ss r.ls x=qD9 E r.ss r.ls x:=by unfold qG5;rw [hsx,if_neg (by decide)]
   rw [eC,eS,eL]
   have hml:cs.length=m:=hc.len
   have hel:E.es.length=m:=by rw [hEC.es,List.length_map,hml]
   obtain ⟨⟨hk1,hk2⟩,_⟩:=qI2 hst
   rcases known_in hRp (by omega) x.e with hkn | ⟨hp0,hpl⟩
   ·have hneg:qB5 E r.ss x.e < 0:=by omega
    have e:qG0 E r.ss r.ls x=4:=by unfold qG0;rw [if_pos hneg]
    rw [e]
    exact (l8End_none E r a m cap cs x w hr hN hsm hc hEC hm hm8 hRp hst hsx hneg).mono fun d w' h=>QI7 h (by decide)
   ·have hneg:¬ qB5 E r.ss x.e < 0:=by omega
    by_cases h40:40≤r.ss.length
    ·have e:qG0 E r.ss r.ls x=2:=by unfold qG0;rw [if_neg hneg,if_pos h40]
     rw [e]
     exact (l8End_many E r a m cap cs x w hr hN hsm hc hEC hm hm8 hRp hst hsx hp0 (by omega)).mono fun d w' h=>QI7 h (by decide)
    ·by_cases k1:x.k=1
     ·obtain ⟨p,hp⟩:=Int.eq_ofNat_of_zero_le hp0
      obtain ⟨c,hpc⟩:∃ c,cs[p]? = some c:=⟨_,List.getElem?_eq_getElem (by omega)⟩
      obtain ⟨_,gs,hg,hal,hcl⟩:=hEC.cf _ c hpc
      have hnk:qG0 E r.ss r.ls x=qH7 E r.ss r.ls p x:=by
       unfold qG0
       rw [if_neg hneg,if_neg h40,if_pos k1,hp]
       rfl
      have hnl:qD9 E r.ss r.ls x=qL1 r.ls c.cs x.e x.f x.s:=by
       unfold qD9
       rw [if_pos k1,hp]
       show qL1 r.ls (E.cl p) x.e x.f x.s=_
       rw [hcl]
      have go:∀ (k:Int) (L:List LkI),qH7 E r.ss r.ls p x=k→(k=0→qL1 r.ls c.cs x.e x.f x.s=L)→(∀ (b bx g o:Nat) (W:World),IsA W b r g o c gs bx x→qH9 77 #[.pointer (some ⟨b,0,none⟩),.pointer (some ⟨g,o,none⟩),.pointer (some ⟨bx,0,none⟩)] k L W)→Calls Tryz.prog 49 #[.agg #[.int .i64 r.i,.int .i64 r.u,.slice r.sa r.sn r.sc,.slice r.la r.ln r.lc],.slice a m cap,.agg #[.int .i64 x.k,.int .i64 x.e,.int .i64 x.f,.int .i64 x.s,.int .i64 x.n]] w fun d w'=>EndS r (qG0 E r.ss r.ls x) (r.ss++[x]) (qD9 E r.ss r.ls x) w d w':=fun k L hk hL hI=>by
       rw [hnk,hk]
       by_cases hk0:k=0
       ·rw [hnl,hL hk0,hk0]
        exact QP2 E r a m cap cs x w hr hN hsm hc hEC hm hm8 hRp hst hsx p hp (by omega) k1 c hpc gs hg k L hI hk0 _ rfl
       ·exact (QM3 E r a m cap cs x w hr hN hsm hc hEC hm hm8 hRp hst hsx p hp (by omega) k1 c hpc gs hg k L hI hk0).mono fun d w' h=>QI7 h hk0
      cases h1:qU4 r.ss x.e
      ·cases h2:qD8 r.ss (qT0 x)
       ·cases hw:alW (qA6 c.fs) gs x.f x.s
        ·refine go 8 [] ?_ (fun q=>by cases q) (fun b bx g o W q=>issueS_pol b r g o c gs bx x W q h1 h2 hw)
         unfold qH7
         rw [h1,h2,if_neg (by decide),hal,hw,if_pos rfl]
        ·refine go _ _ ?_ (fun _=>rfl) (fun b bx g o W q=>issueS_take b r g o c gs bx x W q h1 h2 hw)
         unfold qH7
         rw [h1,h2,if_neg (by decide),hal,hw,if_neg (by decide),hcl]
       ·refine go 9 [] ?_ (fun q=>by cases q) (fun b bx g o W q=>issueS_back b r g o c gs bx x W q h1 h2)
        unfold qH7
        rw [h1,h2,if_pos (by decide)]
      ·refine go 9 [] ?_ (fun q=>by cases q) (fun b bx g o W q=>issueS_seal b r g o c gs bx x W q h1)
       unfold qH7
       rw [h1,Bool.true_or,if_pos rfl]
     ·have hnl:qD9 E r.ss r.ls x=r.ls:=by
       unfold qD9
       rw [if_neg k1]
      rw [hnl]
      by_cases k2:x.k=2
      ·have e:qG0 E r.ss r.ls x=0:=by unfold qG0;rw [if_neg hneg,if_neg h40,if_neg k1,if_pos k2]
       rw [e]
       exact l8End_revoke E r a m cap cs x w hr hN hsm hc hEC hm hm8 hRp hst hsx hp0 (by omega) k2 _ rfl
      ·have e:qG0 E r.ss r.ls x=qD1 E r.ss x:=by unfold qG0;rw [if_neg hneg,if_neg h40,if_neg k1,if_neg k2]
       rw [e]
       by_cases k3:x.k=3
       ·exact l8End_next E r a m cap cs x w hr hN hsm hc hEC hm hm8 hRp hst hsx hp0 (by omega) k3 _ rfl _ rfl
       ·exact l8End_take E r a m cap cs x w hr hN hsm hc hEC hm hm8 hRp hst hsx hp0 (by omega) (by omega) _ rfl _ rfl
  ·have eC:qE1 E r.ss r.ls x=0:=by unfold qE1;rw [if_pos hst,if_pos hsx]
   have eS:qI6 r.ss x=r.ss:=by unfold qI6;rw [if_pos hsx]
   have eL:qG5 E r.ss r.ls x=r.ls:=by unfold qG5;rw [if_pos hsx]
   rw [eC,eS,eL]
   exact l8End_said E r a m cap cs x w hr hN hsm hc hEC hm hm8 hRp hst hsx
 ·have eC:qE1 E r.ss r.ls x=qC3 x:=by unfold qE1;rw [if_neg hst]
  rw [eC]
  exact (l8End_fault E r a m cap cs x w hr hN hsm hc hEC hm hm8 hRp _ rfl hst).mono fun d w' h=>QI7 h hst

structure PL (w:World) (i:Int) (sa:Option Addr) (sc:Nat) (la:Option Addr) (lc:Nat) (ss:List StI) (ls:List LkI) (W:World):Prop where
 rs:qG2 w.heap.size [.int .i64 0,.int .i64 0,.slice none 0 0,.slice none 0 0] W
 ab:W.heap[w.heap.size+1]? = some (.cells #[.int .i64 i,.int .i64 0,.slice sa ss.length sc,.slice la ls.length lc] 33 (0,0))
 so:qB1 W (w.heap.size+2) (.slice sa ss.length sc) ss
 lo:qA4 W (w.heap.size+2) (.slice la ls.length lc) ls
 bl:Below w.heap.size w W
theorem PL.lt {w:World} {i:Int} {sa:Option Addr} {sc:Nat} {la:Option Addr} {lc:Nat} {ss:List StI} {ls:List LkI} {W:World} (h:PL w i sa sc la lc ss ls W):w.heap.size+1 < W.heap.size:=(Array.getElem?_eq_some_iff.1 h.ab).1
theorem PL.below {w:World} {i:Int} {sa:Option Addr} {sc:Nat} {la:Option Addr} {lc:Nat} {ss:List StI} {ls:List LkI} {W W':World} (h:PL w i sa sc la lc ss ls W) (hb:Below W.heap.size W W'):PL w i sa sc la lc ss ls W' :=
 ⟨qG2.below h.rs (Nat.lt_of_succ_lt h.lt) hb,(hb.block _ h.lt).trans h.ab,h.so.below hb,h.lo.below hb,h.bl.trans (hb.mono h.bl.size)⟩
theorem PL.other {w:World} {i:Int} {sa:Option Addr} {sc:Nat} {la:Option Addr} {lc:Nat} {ss:List StI} {ls:List LkI} {W:World} (h:PL w i sa sc la lc ss ls W) {p:Addr} (h0:w.heap.size+1 < p.block) (h1:∀ g,(Value.slice sa ss.length sc).ownBlock=some g→g≠p.block) (h2:∀ g,(Value.slice la ls.length lc).ownBlock=some g→g≠p.block) (v:Value):PL w i sa sc la lc ss ls (W.setCell p v) :=
 ⟨h.rs.other (by omega) v,(Below.heap_setCell _ _ _ _ (by omega)).trans h.ab,qA2 h.so (fun g e=>Below.heap_setCell _ _ _ _ (h1 g e)),qA2 h.lo (fun g e=>Below.heap_setCell _ _ _ _ (h2 g e)),h.bl.setCell (by omega) v⟩
theorem PL.rows {w:World} {i:Int} {sa:Option Addr} {sc:Nat} {la:Option Addr} {lc:Nat} {ss:List StI} {ls:List LkI} {W:World} (h:PL w i sa sc la lc ss ls W):(∀ g,(Value.slice sa ss.length sc).ownBlock=some g→g < W.heap.size)∧(∀ g,(Value.slice la ls.length lc).ownBlock=some g→g < W.heap.size) :=
 ⟨fun g e=>by obtain ⟨cur,hc,_⟩:=qD4 h.so e;exact (Array.getElem?_eq_some_iff.1 hc).1,fun g e=>by obtain ⟨cur,hc,_⟩:=qD2 h.lo e;exact (Array.getElem?_eq_some_iff.1 hc).1⟩
def plR (i:Int) (sa:Option Addr) (sc:Nat) (la:Option Addr) (lc:Nat) (ss:List StI) (ls:List LkI):qH5:=⟨i,0,sa,ss.length,sc,ss,la,ls.length,lc,ls⟩
theorem PL.rep {w:World} {i:Int} {sa:Option Addr} {sc:Nat} {la:Option Addr} {lc:Nat} {ss:List StI} {ls:List LkI} {W:World} (h:PL w i sa sc la lc ss ls W):qE7 W (plR i sa sc la lc ss ls)∧qK0 (plR i sa sc la lc ss ls)∧(∀ p,la=some p→∃ b0 o0,p=⟨b0,o0,none⟩∧b0 < W.heap.size)∧qG8 W (w.heap.size+1) (plR i sa sc la lc ss ls):=by
 refine ⟨⟨StV.isIn rfl h.so.view,LkV.isIn rfl h.lo.view⟩,⟨fun e=>?_,fun e=>?_⟩,fun p e=>?_,⟨qB0 h.ab 0,qB0 h.ab 1,qB0 h.ab 2,qB0 h.ab 3⟩⟩
 ·rcases h.so.form with ⟨q,_⟩ | ⟨g,c,q,_⟩
  ·injection q with q1 q2 q3
   exact ⟨q2,q3⟩
  ·have : sa=some ⟨g,0,none⟩:=by injection q
   rw [show sa=none from e] at this
   cases this
 ·rcases h.lo.form with ⟨q,_⟩ | ⟨g,c,q,_⟩
  ·injection q with q1 q2 q3
   exact ⟨q2,q3⟩
  ·have : la=some ⟨g,0,none⟩:=by injection q
   rw [show la=none from e] at this
   cases this
 ·rcases h.lo.form with ⟨q,_⟩ | ⟨g,c,q,_,hg,_⟩
  ·have : la=none:=by injection q
   rw [e] at this
   cases this
  ·have : la=some ⟨g,0,none⟩:=by injection q
   rw [e] at this
   cases this
   exact ⟨g,0,rfl,hg⟩
theorem PL.renew {w:World} {i:Int} {sa:Option Addr} {sc:Nat} {la:Option Addr} {lc:Nat} {ss:List StI} {ls:List LkI} {W:World} (h:PL w i sa sc la lc ss ls W) {sa':Option Addr} {sc':Nat} {la':Option Addr} {lc':Nat} {S:List StI} {L:List LkI} (ho1:qB1 W (w.heap.size+2) (.slice sa' S.length sc') S) (ho2:qA4 W (w.heap.size+2) (.slice la' L.length lc') L) :
  PL w i sa' sc' la' lc' S L ((((W.setCell ⟨w.heap.size+1,0,none⟩ (.int .i64 i)).setCell ⟨w.heap.size+1,1,none⟩ (.int .i64 0)).setCell ⟨w.heap.size+1,2,none⟩ (.slice sa' S.length sc')).setCell ⟨w.heap.size+1,3,none⟩ (.slice la' L.length lc')):=by
 have ne:∀ g,w.heap.size+2≤g→g≠w.heap.size+1:=fun g hg=>by omega
 have nb:(⟨w.heap.size+1,0,none⟩:Addr).block≠w.heap.size:=by show w.heap.size+1≠w.heap.size;omega
 refine ⟨(((h.rs.other nb _).other (p:=⟨w.heap.size+1,1,none⟩) nb _).other (p:=⟨w.heap.size+1,2,none⟩) nb _).other (p:=⟨w.heap.size+1,3,none⟩) nb _,qQ3 (qQ3 (qQ3 (qQ3 h.ab))),qA2 ho1 (fun g e=>?_),qA2 ho2 (fun g e=>?_),(((h.bl.setCell (Nat.le_succ _) _).setCell (Nat.le_succ _) _).setCell (Nat.le_succ _) _).setCell (Nat.le_succ _) _⟩
 ·obtain ⟨cur,hcc,hgg⟩:=qD4 ho1 e
  rw [Below.heap_setCell _ _ _ _ (ne g hgg),Below.heap_setCell _ _ _ _ (ne g hgg),Below.heap_setCell _ _ _ _ (ne g hgg),Below.heap_setCell _ _ _ _ (ne g hgg)]
 ·obtain ⟨cur,hcc,hgg⟩:=qD2 ho2 e
  rw [Below.heap_setCell _ _ _ _ (ne g hgg),Below.heap_setCell _ _ _ _ (ne g hgg),Below.heap_setCell _ _ _ _ (ne g hgg),Below.heap_setCell _ _ _ _ (ne g hgg)]
theorem box_five {q:Nat} {x0 x1 x2 x3 x4:Value} {X:World} (h:qG2 q [x0,x1,x2,x3,x4] X) (y0 y1 y2 y3 y4:Value):qG2 q [y0,y1,y2,y3,y4] (((((X.setCell ⟨q,0,none⟩ y0).setCell ⟨q,1,none⟩ y1).setCell ⟨q,2,none⟩ y2).setCell ⟨q,3,none⟩ y3).setCell ⟨q,4,none⟩ y4) :=
 ((((h.put 0 (by simp) y0).put 1 (by simp) y1).put 2 (by simp) y2).put 3 (by simp) y3).put 4 (by simp) y4
def PC (w:World) (i:Int) (sa:Option Addr) (sc:Nat) (la:Option Addr) (lc:Nat) (ss:List StI) (ls:List LkI) (e:Int) (S:List StI) (L:List LkI) (s:Value) (W:World):Prop:=∃ q:Nat,s = .pointer (some ⟨q,0,none⟩)∧PL w i sa sc la lc ss ls W∧q < W.heap.size∧w.heap.size+1 < q∧∃ j1 sa' n1 sc' la' n2 lc',qE8 q [.int .i64 e,.int .i64 j1,.int .i64 0,.slice sa' n1 sc',.slice la' n2 lc'] W∧(e≠0∨(j1=i∧n1=S.length∧n2=L.length∧qB1 W (w.heap.size+2) (.slice sa' n1 sc') S∧qA4 W (w.heap.size+2) (.slice la' n2 lc') L))
def PlayR (i:Int) (xs:List StI) (n:Nat) (o:Option (List LkI)) (w:World) (d:Ending) (w':World):Prop :=
 Below w.heap.size w w'∧(∀ ls,o=some ls→∃ (sa:Option Addr) (sc:Nat) (la:Option Addr) (lc:Nat),d = .returned (.tuple #[.agg #[.int .i64 i,.int .i64 0,.slice sa n sc,.slice la ls.length lc],.bool true])∧qB1 w' (w.heap.size+1) (.slice sa n sc) xs∧qA4 w' (w.heap.size+1) (.slice la ls.length lc) ls)∧(o=none→∃ (sa:Option Addr) (sn sc:Nat) (la:Option Addr) (ln lc:Nat),d = .returned (.tuple #[.agg #[.int .i64 i,.int .i64 0,.slice sa sn sc,.slice la ln lc],.bool false]))
theorem QU3 (E:qI1) (i:Int) (a:Option Addr) (m cap:Nat) (cs:List qA5) (ta:Option Addr) (n tc:Nat) (xs:List StI) (w:World) (hEC:qO2 E cs) (hc:qA7 w a m cs) (hm:0 < m) (hm8:m≤8) (h:qM5 w ta n xs) (hn:n≤1048576) :
  Calls Tryz.prog 58 #[.int .i64 i,.slice a m cap,.slice ta n tc] w fun d w'=>PlayR i xs n (qF6 E xs n) w d w':=by
 have HEC:Hid (qO2 E cs):=hEC
 have HC:Hid (∀ W,Below w.heap.size w W→qA7 W a m cs∧qM5 W ta n xs):=fun W hb=>⟨hc.below hb,h.below hb⟩
 have hn':(n:Int)≤1048576:=by omega
 have HXL:Hid (xs.length=n):=h.1
 obtain ⟨V,hV⟩:∃ V,V=(w.alloc (.cells #[.int .i64 0,.int .i64 0,.slice none 0 0,.slice none 0 0] 33)).alloc (.cells #[.int .i64 i,.int .i64 0,.slice none 0 0,.slice none 0 0] 33):=⟨_,rfl⟩
 have L0:Hid (PL w i none 0 none 0 [] [] V):=by
  show PL _ _ _ _ _ _ _ _ _
  rw [hV]
  refine ⟨qG2.below (qE0 w _ _) (by simp) (zN),?_,World.ownsRow_nil _ _ _ _,World.ownsRow_nil _ _ _ _,(zN).alloc (by simp) _⟩
  have e:w.heap.size+1=(w.alloc (.cells #[.int .i64 0,.int .i64 0,.slice none 0 0,.slice none 0 0] 33)).heap.size:=by simp
  have q:=QV2 (w.alloc (.cells #[.int .i64 0,.int .i64 0,.slice none 0 0,.slice none 0 0] 33)) (.cells #[.int .i64 i,.int .i64 0,.slice none 0 0,.slice none 0 0] 33)
  rw [← e] at q
  exact q
 clear hEC hc h
 go_enter Tryz.func58,Tryz.ntmps58
 go_upto_region 2 with fail
 rw [← hV]
 clear hV
 go_wp2_with fail
 go_loopw [9] (fun j wr=>∃ (k:Nat) (ls:List LkI) (sa:Option Addr) (sc:Nat) (la:Option Addr) (lc:Nat),k≤n∧j = .int .i64 (k:Int)∧Hid (qF6 E xs k=some ls)∧Hid (PL w i sa sc la lc (xs.take k) ls wr)) (fun j _=>n - (intOf j).toNat)
 case atStart=>exact ⟨0,[],none,0,none,0,Nat.zero_le _,rfl,rfl,L0⟩
 case round =>
  clear L0
  obtain ⟨k,ls,sa,sc,la,lc,hk,rfl,HPL,P4⟩:=hrel
  by_cases hlt:k < n
  ·have hlt':(k:Int) < (n:Int):=by omega
   obtain ⟨b,off,x,ea,hx,hat,hbl⟩:=(HC.out _ P4.out.bl).2.at hlt
   subst ea
   have HXK:Hid (xs[k]? = some x):=hx
   have HTK:Hid ((xs.take k).length=k):=by show _=_;rw [List.length_take];have:=HXL.out;omega
   obtain ⟨ss,hss⟩:∃ ss,xs.take k=ss:=⟨_,rfl⟩
   have HSS:Hid (xs.take k=ss):=hss
   have hRp:RpS E ss ls:=by rw [← hss];exact QF3 k ls (by have:=HXL.out;omega) HPL.out
   rw [hss] at P4
   obtain ⟨t,ht⟩:∃ t,qD8 ss x=t:=⟨_,rfl⟩
   have HT:Hid (qD8 ss x=t):=ht
   have HRP:Hid (RpS E ss ls):=hRp
   have HSD:Hid (Calls Tryz.prog 75 #[.pointer (some ⟨w.heap.size+1,0,none⟩),.agg #[.int .i64 x.k,.int .i64 x.e,.int .i64 x.f,.int .i64 x.s,.int .i64 x.n]] wr fun d w'=>d = .returned (.bool t)∧Below wr.heap.size wr w'):=by
    show Calls _ _ _ _ _
    rw [← ht]
    exact qM1 _ (plR i sa sc la lc ss ls) x wr P4.out.rep.2.2.2 P4.out.rep.1.said (by show ss.length≤1048576;have:=hRp.len;omega)
   obtain ⟨h0,h1,h2,h3,h4⟩:=hat
   clear hss ht hRp hx
   go_wp2_with fail
   refine HSD.out.mono ?_
   rintro d w5 ⟨rfl,hb5⟩
   have P5:=qC8 (P4.out.below hb5)
   have hat5:qS7 w5 b (off+k * 5) x:=qS7.below ⟨h0,h1,h2,h3,h4⟩ hb5 hbl
   have hbl5:b < w5.heap.size:=Nat.lt_of_lt_of_le hbl hb5.size
   clear HSD h0 h1 h2 h3 h4 hbl hb5 P4
   cases t
   ·obtain ⟨e,he⟩:∃ e,qE1 E ss ls x=e:=⟨_,rfl⟩
    have HE:Hid (qE1 E ss ls x=e):=he
    obtain ⟨S,hS0⟩:∃ S,ss++[x]=S:=⟨_,rfl⟩
    have HS0:Hid (ss++[x]=S):=hS0
    obtain ⟨L,hL0⟩:∃ L,qD9 E ss ls x=L:=⟨_,rfl⟩
    have HL0:Hid (qD9 E ss ls x=L):=hL0
    have HEN:Hid (∀ W,PL w i sa sc la lc ss ls W→Calls Tryz.prog 49 #[.agg #[.int .i64 i,.int .i64 0,.slice sa ss.length sc,.slice la ls.length lc],.slice a m cap,.agg #[.int .i64 x.k,.int .i64 x.e,.int .i64 x.f,.int .i64 x.s,.int .i64 x.n]] W fun d w'=>∃ (j1:Int) (sa':Option Addr) (n1 sc':Nat) (la':Option Addr) (n2 lc':Nat),d = .returned (.agg #[.int .i64 e,.int .i64 j1,.int .i64 0,.slice sa' n1 sc',.slice la' n2 lc'])∧Below W.heap.size W w'∧(e≠0∨(j1=i∧n1=S.length∧n2=L.length∧qB1 w' W.heap.size (.slice sa' n1 sc') S∧qA4 w' W.heap.size (.slice la' n2 lc') L))):=fun W q=>by
     have eS:qI6 ss x=S:=by unfold qI6;rw [HT.out,if_neg (by decide)];exact hS0
     have eL:qG5 E ss ls x=L:=by unfold qG5;rw [HT.out,if_neg (by decide)];exact hL0
     have c:=QG3 E (plR i sa sc la lc ss ls) a m cap cs x W q.rep.1 q.rep.2.1 q.rep.2.2.1 (HC.out _ q.bl).1 HEC.out hm hm8 HRP.out
     have eC':qE1 E (plR i sa sc la lc ss ls).ss (plR i sa sc la lc ss ls).ls x=e:=he
     have eS':qI6 (plR i sa sc la lc ss ls).ss x=S:=eS
     have eL':qG5 E (plR i sa sc la lc ss ls).ss (plR i sa sc la lc ss ls).ls x=L:=eL
     rw [eC',eS',eL'] at c
     refine Calls.mono c ?_
     rintro d w' ⟨g1,g2,g3⟩
     by_cases e0:e=0
     ·obtain ⟨sa',sc',la',lc',gd,go1,go2⟩:=g3 e0
      exact ⟨i,sa',S.length,sc',la',L.length,lc',by rw [gd,e0];rfl,g1,.inr ⟨rfl,rfl,rfl,go1,go2⟩⟩
     ·exact ⟨0,none,0,0,none,0,0,g2 e0,g1,.inl e0⟩
    clear he hS0 hL0
    go_upto_region 7 with fail
    obtain ⟨h0,h1,h2,h3,h4⟩:=hat5
    have o0:=qB0 P5.out.ab 0
    have o1:=qB0 P5.out.ab 1
    have o2:=qB0 P5.out.ab 2
    have o3:=qB0 P5.out.ab 3
    simp only [List.getElem?_toArray,List.getElem?_cons_zero,List.getElem?_cons_succ] at o0 o1 o2 o3
    have hol:=P5.out.lt
    go_cut [10] from 25 to 31 (fun s W=>PC w i sa sc la lc ss ls e S L s W)
    case first =>
     refine wp_region_held_drew (S:=fun w'=>(∀ b o,b < w5.heap.size→w'.cell? ⟨b,o,none⟩=w5.cell? ⟨b,o,none⟩)∧Below w5.heap.size w5 w') (by kernel_rfl) (qB4 _) (fun hHeld=>?_)
     refine Zk.go [0,1,2,3,4,5] ?_
     iterate 6
      refine Zk.st (v:=?_) rfl ?_ ?_
      rotate_left 1
      ·intro w hSw;(try dsimp only at hSw);go_simp;try (with_reducible rfl)
      try simp only [Act.put,zA,zB,zC,zD,zE,zF]
     refine Zk.fin ?_
     refine wpAnyH_ready (rs:=[6,7]) (by kernel_rfl) (by simp) ?_
     refine AllReadyH.cons rfl (fun K hK=>?_) (AllReadyH.cons rfl (fun K hK=>?_) AllReadyH.nil)
     ·go_simp
      refine (HEN.out _ (P5.out.below hHeld.2)).mono ?_
      rintro d w2 ⟨j1,sa',n1,sc',la',n2,lc',rfl,hb2,hR⟩
      have hS:=qA0 hHeld hb2
      have hs2:=hb2.size
      have hs2':w5.heap.size≤w2.heap.size:=hs2
      have hS2:=qC8 hS.2
      refine hK.out _ _ hS (fun hHeld=>?_)
      clear hK K
      try simp only [Act.put,zA,zB,zC,zD,zE,zF]
      refine Zk.rd (i:=7) rfl (fun K hK=>?_)
      go_simp
      have hS:=kpN (hHeld.2.alloc hHeld.2.size (.cells #[.int .i64 0,.int .i64 0,.int .i64 0,.slice none 0 0,.slice none 0 0] 47))
      refine hK.out _ _ hS (fun hHeld=>?_)
      clear hK K
      try simp only [Act.put,zA,zB,zC,zD,zE,zF]
      refine Zk.rd (i:=8) rfl (fun K hK=>?_)
      go_simp
      have hS:=kpN (hS2.out.alloc hS2.out.size (.cells #[.int .i64 e,.int .i64 j1,.int .i64 0,.slice sa' n1 sc',.slice la' n2 lc'] 47))
      refine hK.out _ _ hS (fun hHeld=>?_)
      clear hK K
      try simp only [Act.put,zA,zB,zC,zD,zE,zF]
      refine wpAnyH_done (by kernel_rfl) ?_ _
      go_wp2_with fail
      go_meet
      have ha1:w.heap.size+1 < w2.heap.size:=by have:=P5.out.lt;omega
      have AA:Below w2.heap.size w2 (w2.alloc (.cells #[.int .i64 e,.int .i64 j1,.int .i64 0,.slice sa' n1 sc',.slice la' n2 lc'] 47)):=zN
      have hPa:PL w i sa sc la lc ss ls (w2.alloc (.cells #[.int .i64 e,.int .i64 j1,.int .i64 0,.slice sa' n1 sc',.slice la' n2 lc'] 47)):=(P5.out.below hS2.out).below AA
      have hB:qE8 w2.heap.size [.int .i64 e,.int .i64 j1,.int .i64 0,.slice sa' n1 sc',.slice la' n2 lc'] (w2.alloc (.cells #[.int .i64 e,.int .i64 j1,.int .i64 0,.slice sa' n1 sc',.slice la' n2 lc'] 47)):=(qF2 w2 _ _).out
      have hlt2:=P5.out.lt
      refine ⟨w2.heap.size,rfl,hPa,by simp,ha1,j1,sa',n1,sc',la',n2,lc',hB,hR.imp id (fun q=>⟨q.1,q.2.1,q.2.2.1,(qC5 q.2.2.2.1 (by show w.heap.size+2≤w5.heap.size;omega)).below AA,(qA9 q.2.2.2.2 (by show w.heap.size+2≤w5.heap.size;omega)).below AA⟩)⟩
     ·go_simp
      have hS:=kpN (hHeld.2.alloc hHeld.2.size (.cells #[.int .i64 0,.int .i64 0,.int .i64 0,.slice none 0 0,.slice none 0 0] 47))
      refine hK.out _ _ hS (fun hHeld=>?_)
      clear hK K
      try simp only [Act.put,zA,zB,zC,zD,zE,zF]
      refine Zk.rd (i:=6) rfl (fun K hK=>?_)
      go_simp
      refine (HEN.out _ (P5.out.below hHeld.2)).mono ?_
      rintro d w2 ⟨j1,sa',n1,sc',la',n2,lc',rfl,hb2,hR⟩
      have hS:=qA0 hHeld hb2
      have hs2:=hb2.size
      have hs2':w5.heap.size+1≤w2.heap.size:=by simpa using hs2
      have XQ:qG2 w5.heap.size [.int .i64 0,.int .i64 0,.int .i64 0,.slice none 0 0,.slice none 0 0] w2:=qG2.below (qE0 w5.drew _ _) (by simp) hb2
      have hS2:=qC8 hS.2
      have z0:=XQ.1 0 _ rfl
      have z1:=XQ.1 1 _ rfl
      have z2:=XQ.1 2 _ rfl
      have z3:=XQ.1 3 _ rfl
      have z4:=XQ.1 4 _ rfl
      have f0:=XQ.2 0
      have f1:=XQ.2 1
      have f2:=XQ.2 2
      have f3:=XQ.2 3
      have f4:=XQ.2 4
      have hql:w5.heap.size < w2.heap.size:=hs2'
      refine hK.out _ _ hS (fun hHeld=>?_)
      clear hK K
      try simp only [Act.put,zA,zB,zC,zD,zE,zF]
      refine Zk.rd (i:=8) rfl (fun K hK=>?_)
      go_simp
      have hS:=kpN (((((hHeld.2.setCell (p:=⟨w5.heap.size,0,none⟩) (Nat.le_refl _) (.int .i64 e)).setCell (p:=⟨w5.heap.size,1,none⟩) (Nat.le_refl _) (.int .i64 j1)).setCell (p:=⟨w5.heap.size,2,none⟩) (Nat.le_refl _) (.int .i64 0)).setCell (p:=⟨w5.heap.size,3,none⟩) (Nat.le_refl _) (.slice sa' n1 sc')).setCell (p:=⟨w5.heap.size,4,none⟩) (Nat.le_refl _) (.slice la' n2 lc'))
      refine hK.out _ _ hS (fun hHeld=>?_)
      clear hK K
      try simp only [Act.put,zA,zB,zC,zD,zE,zF]
      refine wpAnyH_done (by kernel_rfl) ?_ _
      go_wp2_with fail
      go_meet
      have ha1:w.heap.size+1 < w5.heap.size:=by have:=P5.out.lt;omega
      have ha2:∀ g,(Value.slice sa ss.length sc).ownBlock=some g→g≠w5.heap.size:=fun g e=>by have:=P5.out.rows.1 g e;omega
      have ha3:∀ g,(Value.slice la ls.length lc).ownBlock=some g→g≠w5.heap.size:=fun g e=>by have:=P5.out.rows.2 g e;omega
      have hPa:=P5.out.below hS2.out
      refine ⟨w5.heap.size,rfl,(((((hPa.other (p:=⟨w5.heap.size,0,none⟩) ha1 ha2 ha3 (.int .i64 e)).other (p:=⟨w5.heap.size,1,none⟩) ha1 ha2 ha3 (.int .i64 j1)).other (p:=⟨w5.heap.size,2,none⟩) ha1 ha2 ha3 (.int .i64 0)).other (p:=⟨w5.heap.size,3,none⟩) ha1 ha2 ha3 (.slice sa' n1 sc')).other (p:=⟨w5.heap.size,4,none⟩) ha1 ha2 ha3 (.slice la' n2 lc')),by simpa using hql,ha1,j1,sa',n1,sc',la',n2,lc',(box_five XQ _ _ _ _ _).1,hR.imp id (fun q=>⟨q.1,q.2.1,q.2.2.1,?_,?_⟩)⟩
      ·refine qA2 (qC5 q.2.2.2.1 (by have:=P5.out.lt;simp;omega)) (fun g' e'=>?_)
       obtain ⟨cur,hcc,hgg⟩:=qD4 q.2.2.2.1 e'
       have hgl:w5.heap.size < g':=by simp at hgg;omega
       rw [Below.heap_setCell _ _ _ _ (by show g'≠w5.heap.size;omega),Below.heap_setCell _ _ _ _ (by show g'≠w5.heap.size;omega),Below.heap_setCell _ _ _ _ (by show g'≠w5.heap.size;omega),Below.heap_setCell _ _ _ _ (by show g'≠w5.heap.size;omega),Below.heap_setCell _ _ _ _ (by show g'≠w5.heap.size;omega)]
      ·refine qA2 (qA9 q.2.2.2.2 (by have:=P5.out.lt;simp;omega)) (fun g' e'=>?_)
       obtain ⟨cur,hcc,hgg⟩:=qD2 q.2.2.2.2 e'
       have hgl:w5.heap.size < g':=by simp at hgg;omega
       rw [Below.heap_setCell _ _ _ _ (by show g'≠w5.heap.size;omega),Below.heap_setCell _ _ _ _ (by show g'≠w5.heap.size;omega),Below.heap_setCell _ _ _ _ (by show g'≠w5.heap.size;omega),Below.heap_setCell _ _ _ _ (by show g'≠w5.heap.size;omega),Below.heap_setCell _ _ _ _ (by show g'≠w5.heap.size;omega)]
    obtain ⟨q,rfl,hP,hql,hqn,j1,sa',n1,sc',la',n2,lc',hB,hR⟩:=hcut
    have P6:=qC8 hP
    have r0:=hB 0 _ rfl
    have r1:=hB 1 _ rfl
    have r2:=hB 2 _ rfl
    have r3:=hB 3 _ rfl
    have r4:=hB 4 _ rfl
    clear hP hB P5 h0 h1 h2 h3 h4 hbl5 o0 o1 o2 o3 hol HEN
    have o0:=qB0 P6.out.ab 0
    have o1:=qB0 P6.out.ab 1
    have o2:=qB0 P6.out.ab 2
    have o3:=qB0 P6.out.ab 3
    simp only [List.getElem?_toArray,List.getElem?_cons_zero,List.getElem?_cons_succ] at o0 o1 o2 o3
    have hol:=P6.out.lt
    have hol0:=Nat.lt_of_succ_lt P6.out.lt
    have hon:w.heap.size≠w.heap.size+1:=by omega
    have z0:=P6.out.rs.1 0 _ rfl
    have z1:=P6.out.rs.1 1 _ rfl
    have z2:=P6.out.rs.1 2 _ rfl
    have z3:=P6.out.rs.1 3 _ rfl
    have f0:=P6.out.rs.2 0
    have f1:=P6.out.rs.2 1
    have f2:=P6.out.rs.2 2
    have f3:=P6.out.rs.2 3
    by_cases e0:e=0
    ·obtain ⟨hj,hn1,hn2,ho1,ho2⟩:=hR.resolve_left (fun q=>q e0)
     subst hj hn1 hn2
     have hpm:qF6 E xs (k+1)=some L:=by
      rw [← HL0.out,← HSS.out]
      exact QZ0 HPL.out HXK.out (by rw [HSS.out,HE.out,e0]) (by rw [HSS.out];exact HT.out)
     have hts:xs.take (k+1)=S:=by
      rw [List.take_add_one,HXK.out,HSS.out]
      exact HS0.out
     have P7:Hid (PL w j1 sa' sc' la' lc' S L _):=P6.out.renew ho1 ho2
     have HPM:=qC8 hpm
     have HTS:=qC8 hts
     have g0:=qZ2 P6.out.ab 0
     have g1:=qZ2 P6.out.ab 1
     have g2:=qZ2 P6.out.ab 2
     have g3:=qZ2 P6.out.ab 3
     have hqne:w.heap.size+1≠q:=by omega
     subst e0
     clear hpm hts ho1 ho2 hR
     go_wp2_with fail
     exact ⟨⟨k+1,L,sa',sc',la',lc',by omega,by go_num,HPM,by show PL _ _ _ _ _ _ _ _ _;rw [HTS.out];exact P7.out⟩,by simp [intOf];omega⟩
    ·have eb:(e != 0)=true:=by simp [e0]
     have hpn:qF6 E xs n=none:=qZ9 (QH9 HPL.out HXK.out (.inl (by rw [HSS.out,HE.out];exact e0))) (by omega)
     have HPN:=qC8 hpn
     clear hpn hR
     go_wp2_with fail
     refine bodyPost_ret (v:=.tuple #[.agg #[.int .i64 i,.int .i64 0,.slice sa ss.length sc,.slice la ls.length lc],.bool false]) (by simp [results,Tryz.results58,go_sem,z0,z1,z2,z3,hol0]) rfl ?_
     refine ⟨((((P6.out.bl.setCell (Nat.le_refl _) _).setCell (Nat.le_refl _) _).setCell (Nat.le_refl _) _).setCell (Nat.le_refl _) _),fun q hq=>?_,fun _=>⟨_,_,_,_,_,_,rfl⟩⟩
     rw [HPN.out] at hq
     cases hq
   ·have hpn:qF6 E xs n=none:=qZ9 (QH9 HPL.out HXK.out (.inr (by rw [HSS.out];exact HT.out))) (by omega)
    have HPN:=qC8 hpn
    clear hpn
    have o0:=qB0 P5.out.ab 0
    have o1:=qB0 P5.out.ab 1
    have o2:=qB0 P5.out.ab 2
    have o3:=qB0 P5.out.ab 3
    simp only [List.getElem?_toArray,List.getElem?_cons_zero,List.getElem?_cons_succ] at o0 o1 o2 o3
    have hol:=P5.out.lt
    have hol0:=Nat.lt_of_succ_lt P5.out.lt
    have hon:w.heap.size≠w.heap.size+1:=by omega
    have z0:=P5.out.rs.1 0 _ rfl
    have z1:=P5.out.rs.1 1 _ rfl
    have z2:=P5.out.rs.1 2 _ rfl
    have z3:=P5.out.rs.1 3 _ rfl
    have f0:=P5.out.rs.2 0
    have f1:=P5.out.rs.2 1
    have f2:=P5.out.rs.2 2
    have f3:=P5.out.rs.2 3
    go_wp2_with fail
    refine bodyPost_ret (v:=.tuple #[.agg #[.int .i64 i,.int .i64 0,.slice sa ss.length sc,.slice la ls.length lc],.bool false]) (by simp [results,Tryz.results58,go_sem,z0,z1,z2,z3,hol0]) rfl ?_
    refine ⟨((((P5.out.bl.setCell (Nat.le_refl _) _).setCell (Nat.le_refl _) _).setCell (Nat.le_refl _) _).setCell (Nat.le_refl _) _),fun q hq=>?_,fun _=>⟨_,_,_,_,_,_,rfl⟩⟩
    rw [HPN.out] at hq
    cases hq
  ·have hkn:k=n:=by omega
   subst hkn
   have htk:xs.take k=xs:=by rw [← HXL.out];exact List.take_length
   rw [htk] at P4
   have HXX:Hid (xs.length=k):=HXL
   have o0:=qB0 P4.out.ab 0
   have o1:=qB0 P4.out.ab 1
   have o2:=qB0 P4.out.ab 2
   have o3:=qB0 P4.out.ab 3
   simp only [List.getElem?_toArray,List.getElem?_cons_zero,List.getElem?_cons_succ] at o0 o1 o2 o3
   have hol:=P4.out.lt
   have hol0:=Nat.lt_of_succ_lt P4.out.lt
   have hon:w.heap.size≠w.heap.size+1:=by omega
   have z0:=P4.out.rs.1 0 _ rfl
   have z1:=P4.out.rs.1 1 _ rfl
   have z2:=P4.out.rs.1 2 _ rfl
   have z3:=P4.out.rs.1 3 _ rfl
   have f0:=P4.out.rs.2 0
   have f1:=P4.out.rs.2 1
   have f2:=P4.out.rs.2 2
   have f3:=P4.out.rs.2 3
   go_wp2_with fail
   refine bodyPost_ret (v:=.tuple #[.agg #[.int .i64 i,.int .i64 0,.slice sa xs.length sc,.slice la ls.length lc],.bool true]) (by simp [results,Tryz.results58,go_sem,z0,z1,z2,z3,hol0]) rfl ?_
   refine ⟨((((P4.out.bl.setCell (Nat.le_refl _) _).setCell (Nat.le_refl _) _).setCell (Nat.le_refl _) _).setCell (Nat.le_refl _) _),fun q hq=>?_,fun hq=>?_⟩
   ·rw [HPL.out] at hq
    cases hq
    rw [← HXX.out]
    refine ⟨sa,sc,la,lc,rfl,qC5 (qA2 P4.out.so (fun g e=>?_)) (by omega),qA9 (qA2 P4.out.lo (fun g e=>?_)) (by omega)⟩
    ·obtain ⟨cur,hcc,hgg⟩:=qD4 P4.out.so e
     rw [Below.heap_setCell _ _ _ _ (by show g≠w.heap.size;omega),Below.heap_setCell _ _ _ _ (by show g≠w.heap.size;omega),Below.heap_setCell _ _ _ _ (by show g≠w.heap.size;omega),Below.heap_setCell _ _ _ _ (by show g≠w.heap.size;omega)]
    ·obtain ⟨cur,hcc,hgg⟩:=qD2 P4.out.lo e
     rw [Below.heap_setCell _ _ _ _ (by show g≠w.heap.size;omega),Below.heap_setCell _ _ _ _ (by show g≠w.heap.size;omega),Below.heap_setCell _ _ _ _ (by show g≠w.heap.size;omega),Below.heap_setCell _ _ _ _ (by show g≠w.heap.size;omega)]
   ·rw [HPL.out] at hq
    cases hq

end Go.Proofs.YtlhgjackapdmbaaGreatDoor
