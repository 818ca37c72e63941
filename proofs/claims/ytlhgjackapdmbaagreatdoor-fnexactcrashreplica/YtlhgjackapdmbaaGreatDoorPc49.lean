/- Contracts. -/
import Derived.Test.YtlhgjackapdmbaaGreatDoorPc47
import Derived.Test.YtlhgjackapdmbaaGreatDoorPc48
import Derived.LaidHandle
namespace Go.Proofs.YtlhgjackapdmbaaGreatDoor
set_option maxRecDepth 100000
set_option maxHeartbeats 8000000
open Go.RowKit
set_option linter.unusedVariables false
set_option linter.unusedSimpArgs false

def CrB (r:qF4) (lf m1:Nat) (XS:List StI) (XL:List LkI) (V:World) (s7 s8:Value) (W:World):Prop :=
 s8 = .bool true∧∃ (q:Nat) (sa:Option Addr) (sc:Nat) (la:Option Addr) (lc:Nat),s7 = .pointer (some ⟨q,0,none⟩)∧qI3 q [.int .i64 r.i,.int .i64 0,.slice sa lf sc,.slice la m1 lc] W∧V.heap.size≤q∧q < W.heap.size∧Below V.heap.size V W∧qB1 W V.heap.size (.slice sa lf sc) XS∧qA1 W V.heap.size (.slice la m1 lc) XL∧(∀ g,(Value.slice sa lf sc).ownBlock=some g→g≠q)∧(∀ g,(Value.slice la m1 lc).ownBlock=some g→g≠q)
theorem CrB.post {r:qF4} {lf m1:Nat} {XS:List StI} {XL:List LkI} {V w5:World} {sa la:Option Addr} {sc lc:Nat} (h1:qB1 w5 (V.heap.size+1) (.slice sa lf sc) XS) (h2:qA1 w5 (V.heap.size+1) (.slice la m1 lc) XL) (hb:Below V.heap.size V w5) :
  CrB r lf m1 XS XL V (.pointer (some ⟨w5.heap.size,0,none⟩)) (.bool true) (w5.alloc (.cells #[.int .i64 r.i,.int .i64 0,.slice sa lf sc,.slice la m1 lc] 33)):=by
 have AA:Below w5.heap.size w5 (w5.alloc (.cells #[.int .i64 r.i,.int .i64 0,.slice sa lf sc,.slice la m1 lc] 33)):=zN
 refine ⟨rfl,w5.heap.size,sa,sc,la,lc,rfl,qG7 w5 _ _,hb.size,by simp,hb.alloc hb.size _,qC0 (h1.below AA) (Nat.le_succ _),qB0 (h2.below AA) (Nat.le_succ _),fun g e=>?_,fun g e=>?_⟩
 ·have:=(QD7 h1 g e).2;omega
 ·have:=(qS4 h2 g e).2;omega
theorem CrB.pre {r:qF4} {lf m1:Nat} {XS:List StI} {XL:List LkI} {V w5:World} {sa la:Option Addr} {sc lc:Nat} (hz:qI3 V.heap.size [.int .i64 0,.int .i64 0,.slice none 0 0,.slice none 0 0] w5) (hq:V.heap.size < w5.heap.size) (h1:qB1 w5 (V.heap.size+1+1) (.slice sa lf sc) XS) (h2:qA1 w5 (V.heap.size+1+1) (.slice la m1 lc) XL) (hb:Below V.heap.size V w5) :
  CrB r lf m1 XS XL V (.pointer (some ⟨V.heap.size,0,none⟩)) (.bool true) ((((w5.setCell ⟨V.heap.size,0,none⟩ (.int .i64 r.i)).setCell ⟨V.heap.size,1,none⟩ (.int .i64 0)).setCell ⟨V.heap.size,2,none⟩ (.slice sa lf sc)).setCell ⟨V.heap.size,3,none⟩ (.slice la m1 lc)):=by
 have kb:∀ b,b≠V.heap.size→((((w5.setCell ⟨V.heap.size,0,none⟩ (.int .i64 r.i)).setCell ⟨V.heap.size,1,none⟩ (.int .i64 0)).setCell ⟨V.heap.size,2,none⟩ (.slice sa lf sc)).setCell ⟨V.heap.size,3,none⟩ (.slice la m1 lc)).heap[b]? = w5.heap[b]? := fun b hb=>by
  rw [Below.heap_setCell _ _ _ _ (by show b≠V.heap.size;exact hb),Below.heap_setCell _ _ _ _ (by show b≠V.heap.size;exact hb),Below.heap_setCell _ _ _ _ (by show b≠V.heap.size;exact hb),Below.heap_setCell _ _ _ _ (by show b≠V.heap.size;exact hb)]
 have n1:∀ g,(Value.slice sa lf sc).ownBlock=some g→g≠V.heap.size:=fun g e=>by have:=(QD7 h1 g e).1;omega
 have n2:∀ g,(Value.slice la m1 lc).ownBlock=some g→g≠V.heap.size:=fun g e=>by have:=(qS4 h2 g e).1;omega
 refine ⟨rfl,V.heap.size,sa,sc,la,lc,rfl,(((hz.put 0 (by simp) _).put 1 (by simp) _).put 2 (by simp) _).put 3 (by simp) _,Nat.le_refl _,by simpa using hq,(((hb.setCell (Nat.le_refl _) _).setCell (Nat.le_refl _) _).setCell (Nat.le_refl _) _).setCell (Nat.le_refl _) _,?_,?_,n1,n2⟩
 ·exact qA0 (X':=((((w5.setCell ⟨V.heap.size,0,none⟩ (.int .i64 r.i)).setCell ⟨V.heap.size,1,none⟩ (.int .i64 0)).setCell ⟨V.heap.size,2,none⟩ (.slice sa lf sc)).setCell ⟨V.heap.size,3,none⟩ (.slice la m1 lc))) (show w5.ownsRow _ _ _ _ _ _ from qC0 h1 (by omega)) (fun g e=>kb g (n1 g e))
 ·exact qA0 (X':=((((w5.setCell ⟨V.heap.size,0,none⟩ (.int .i64 r.i)).setCell ⟨V.heap.size,1,none⟩ (.int .i64 0)).setCell ⟨V.heap.size,2,none⟩ (.slice sa lf sc)).setCell ⟨V.heap.size,3,none⟩ (.slice la m1 lc))) (show w5.ownsRow _ _ _ _ _ _ from qB0 h2 (by omega)) (fun g e=>kb g (n2 g e))
theorem l8Crash_c (E:qH0) (r:qF4) (a:Option Addr) (m cap:Nat) (cs:List qA3) (x:Int) (w:World) (hr:qD9 w r) (hc:qA6 w a m cs) (hEC:qN0 E cs) (hm0:0 < m) (hm8:m≤8) (hsc:r.sn≤r.sc) (hk0:qH3 E cs r=0) (hx0:0≤x) (hx1:x≤(r.sn:Int) - r.u) :
  Calls Tryz.prog 52 #[.agg #[.int .i64 r.i,.int .i64 r.u,.slice r.sa r.sn r.sc,.slice r.la r.ln r.lc],.slice a m cap,.int .i64 x] w fun d w'=>∃ (sa:Option Addr) (sc:Nat) (la:Option Addr) (lc:Nat),d = .returned (.agg #[.int .i64 r.i,.int .i64 (r.u+x),.slice sa (qI2 r x).length sc,.slice la (qG6 E r x).length lc])∧qB1 w' w.heap.size (.slice sa (qI2 r x).length sc) (qI2 r x)∧qA1 w' w.heap.size (.slice la (qG6 E r x).length lc) (qG6 E r x)∧Below w.heap.size w w':=by
 obtain ⟨hp1,hp2,hp3,hp4⟩:=cr_play (x:=x) hk0 hx0 hx1 hr.said.1
 obtain ⟨bd0,bd1,bd2⟩:=qR3 hk0
 obtain ⟨V,hV⟩:∃ V,V=(w.alloc (.cells #[.int .i64 r.i,.int .i64 r.u,.slice r.sa r.sn r.sc,.slice r.la r.ln r.lc] 33)).alloc (.cells #[.int .i64 0,.int .i64 0,.slice none 0 0,.slice none 0 0] 33):=⟨_,rfl⟩
 have BV:Hid (Below w.heap.size w V):=by show Below _ _ _;rw [hV];exact (zN).alloc (by simp) _
 have X0:qB9 w.heap.size (w.heap.size+1) (qE5 w.heap.size [.int .i64 r.i,.int .i64 r.u,.slice r.sa r.sn r.sc,.slice r.la r.ln r.lc]) V:=by rw [hV];exact (qE0 w _ _).alloc _
 have Y0:qI3 (w.heap.size+1) [.int .i64 0,.int .i64 0,.slice none 0 0,.slice none 0 0] V:=by
  have q:=qG7 (w.alloc (.cells #[.int .i64 r.i,.int .i64 r.u,.slice r.sa r.sn r.sc,.slice r.la r.ln r.lc] 33)) #[.int .i64 0,.int .i64 0,.slice none 0 0,.slice none 0 0] 33
  rw [World.size_alloc] at q
  rw [hV]
  exact q
 have HY0:=qC2 Y0
 have hVl:w.heap.size+1 < V.heap.size:=by rw [hV];simp
 obtain ⟨lf,hlf⟩:∃ n,qO1 r x=n:=⟨_,rfl⟩
 obtain ⟨XS,hXS⟩:∃ s,qI2 r x=s:=⟨_,rfl⟩
 obtain ⟨XL,hXL⟩:∃ s,qG6 E r x=s:=⟨_,rfl⟩
 obtain ⟨m1,hm1⟩:∃ n,XL.length=n:=⟨_,rfl⟩
 rw [hlf,hXS] at hp1 hp2
 rw [hXL] at hp1
 rw [hlf] at hp3 hp4
 have HPY:Hid (∀ W:World,Below V.heap.size V W→Calls Tryz.prog 58 #[.int .i64 r.i,.slice a m cap,.slice r.sa lf r.sc] W fun d w'=>∃ (sa:Option Addr) (sc:Nat) (la:Option Addr) (lc:Nat),d = .returned (.tuple #[.agg #[.int .i64 r.i,.int .i64 0,.slice sa lf sc,.slice la m1 lc],.bool true])∧Below W.heap.size W w'∧qB1 w' (W.heap.size+1) (.slice sa lf sc) XS∧qA1 w' (W.heap.size+1) (.slice la m1 lc) XL):=fun W hb=>by
  have hbw:=BV.out.trans (hb.mono BV.out.size)
  have hst:qK9 W r.sa lf XS:=by
   have q:=(hr.said.below hbw).take hp4
   have e:r.ss.take lf=XS:=by rw [← hXS,← hlf];rfl
   rw [e] at q
   exact q
  refine (QI4 E r.i a m cap cs r.sa lf r.sc XS W hEC (hc.below hbw) hm0 hm8 hst (by omega)).mono ?_
  rintro d w' ⟨g1,g2,g3⟩
  rw [hp1] at g2
  obtain ⟨sa,sc,la,lc,rfl,ho1,ho2⟩:=g2 XL rfl
  rw [hm1] at ho2 ⊢
  exact ⟨sa,sc,la,lc,rfl,g1,ho1,ho2⟩
 rw [hXS,hXL,hp2,hm1,← hp3]
 have hux:IntKind.i64.wrap (r.u+x)=(lf:Int):=by rw [IntKind.wrap_i64,hp3];omega
 have hlc:(lf:Int)≤(r.sc:Int):=by omega
 have hl0:(0:Int)≤(lf:Int):=by omega
 have hl40:(lf:Int)≤40:=by omega
 have x0:=X0.out 0 _ rfl
 have x1:=X0.out 1 _ rfl
 have x2:=X0.out 2 _ rfl
 have hl1:w.heap.size < V.heap.size:=by omega
 clear hr hc hEC hk0 hp1 hp2 hp3 hXS hXL hm1 X0 Y0 hlf bd0 bd1 bd2
 go_enter Tryz.func52,Tryz.ntmps52
 go_upto_region 1 with fail
 rw [← hV]
 clear hV
 go_cut [7,8] from 10 to 22 (fun s7 s8 W=>CrB r lf m1 XS XL V s7 s8 W)
 case first =>
  refine wp_region_held_drew (S:=fun w'=>(∀ b o,b < V.heap.size→w'.cell? ⟨b,o,none⟩=V.cell? ⟨b,o,none⟩)∧Below V.heap.size V w') (by kernel_rfl) (qB6 _) (fun hHeld=>?_)
  refine Zk.go [0,1,2,3,4,5,6,7,8,9] ?_
  iterate 10
   refine Zk.st (v:=?_) rfl ?_ ?_
   rotate_left 1
   ·intro w hSw;(try dsimp only at hSw);go_simp;try (with_reducible rfl)
   try simp only [Act.put,zA,zB,zC,zD,zE,zF]
  refine Zk.fin ?_
  refine wpAnyH_ready (rs:=[10,14]) (by kernel_rfl) (by simp) ?_
  refine AllReadyH.cons rfl (fun K hK=>?_) (AllReadyH.cons rfl (fun K hK=>?_) AllReadyH.nil)
  ·go_simp
   refine (HPY.out _ hHeld.2).mono ?_
   rintro d w5 ⟨sa,sc,la,lc,rfl,hb5,ho1,ho2⟩
   have hS:=qA7 hHeld hb5
   have hs5:=hb5.size
   have hS5:=qC2 hS.2
   have HO1:=qC2 ho1
   have HO2:=qC2 ho2
   clear ho1 ho2
   have hs5':V.heap.size≤w5.heap.size:=hs5
   refine hK.out _ _ hS (fun hHeld=>?_)
   clear hK K
   try simp only [Act.put,zA,zB,zC,zD,zE,zF]
   refine Zk.go [11,12,13] ?_
   iterate 3
    refine Zk.st (v:=?_) rfl ?_ ?_
    rotate_left 1
    ·intro w hSw;(try dsimp only at hSw);go_simp;try (with_reducible rfl)
    try simp only [Act.put,zA,zB,zC,zD,zE,zF]
   refine Zk.fin ?_
   refine Zk.rd (i:=14) rfl (fun K hK=>?_)
   go_simp
   have hS:=kpN (hHeld.2.alloc hHeld.2.size (.cells #[.int .i64 0,.int .i64 0,.slice none 0 0,.slice none 0 0] 33))
   refine hK.out _ _ hS (fun hHeld=>?_)
   clear hK K
   try simp only [Act.put,zA,zB,zC,zD,zE,zF]
   refine Zk.rd (i:=15) rfl (fun K hK=>?_)
   go_simp
   have hS:=kpN (hS5.out.alloc hS5.out.size (.cells #[.int .i64 r.i,.int .i64 0,.slice sa lf sc,.slice la m1 lc] 33))
   refine hK.out _ _ hS (fun hHeld=>?_)
   clear hK K
   try simp only [Act.put,zA,zB,zC,zD,zE,zF]
   refine Zk.rd (i:=16) rfl (fun K hK=>?_)
   go_simp
   refine hK.out _ _ (by assumption) (fun hHeld=>?_)
   clear hK K
   try simp only [Act.put,zA,zB,zC,zD,zE,zF]
   refine wpAnyH_done (by kernel_rfl) ?_ _
   go_wp2_with fail
   go_meet
   exact CrB.post (by simpa using HO1.out) (by simpa using HO2.out) hS5.out
  ·go_simp
   have hS:=kpN (hHeld.2.alloc hHeld.2.size (.cells #[.int .i64 0,.int .i64 0,.slice none 0 0,.slice none 0 0] 33))
   refine hK.out _ _ hS (fun hHeld=>?_)
   clear hK K
   try simp only [Act.put,zA,zB,zC,zD,zE,zF]
   refine Zk.rd (i:=10) rfl (fun K hK=>?_)
   go_simp
   refine (HPY.out _ hHeld.2).mono ?_
   rintro d w5 ⟨sa,sc,la,lc,rfl,hb5,ho1,ho2⟩
   have hS:=qA7 hHeld hb5
   have hs5:=hb5.size
   have hS5:=qC2 hS.2
   have HO1:=qC2 ho1
   have HO2:=qC2 ho2
   clear ho1 ho2
   have hs5':V.heap.size+1≤w5.heap.size:=by simpa using hs5
   have XQ:qI3 V.heap.size [.int .i64 0,.int .i64 0,.slice none 0 0,.slice none 0 0] w5:=qI3.below (qG7 V.drew _ _) (by simp) hb5
   have HXQ:=qC2 XQ
   have z0:=XQ.1 0 _ rfl
   have z1:=XQ.1 1 _ rfl
   have z2:=XQ.1 2 _ rfl
   have z3:=XQ.1 3 _ rfl
   have f0:=XQ.2 0
   have f1:=XQ.2 1
   have f2:=XQ.2 2
   have f3:=XQ.2 3
   have hql:V.heap.size < w5.heap.size:=hs5'
   refine hK.out _ _ hS (fun hHeld=>?_)
   clear hK K
   try simp only [Act.put,zA,zB,zC,zD,zE,zF]
   refine Zk.go [11,12,13] ?_
   iterate 3
    refine Zk.st (v:=?_) rfl ?_ ?_
    rotate_left 1
    ·intro w hSw;(try dsimp only at hSw);go_simp;try (with_reducible rfl)
    try simp only [Act.put,zA,zB,zC,zD,zE,zF]
   refine Zk.fin ?_
   refine Zk.rd (i:=15) rfl (fun K hK=>?_)
   go_simp
   have hS:=kpN ((((hHeld.2.setCell (p:=⟨V.heap.size,0,none⟩) (Nat.le_refl _) (.int .i64 r.i)).setCell (p:=⟨V.heap.size,1,none⟩) (Nat.le_refl _) (.int .i64 0)).setCell (p:=⟨V.heap.size,2,none⟩) (Nat.le_refl _) (.slice sa lf sc)).setCell (p:=⟨V.heap.size,3,none⟩) (Nat.le_refl _) (.slice la m1 lc))
   refine hK.out _ _ hS (fun hHeld=>?_)
   clear hK K
   try simp only [Act.put,zA,zB,zC,zD,zE,zF]
   refine Zk.rd (i:=16) rfl (fun K hK=>?_)
   go_simp
   refine hK.out _ _ (by assumption) (fun hHeld=>?_)
   clear hK K
   try simp only [Act.put,zA,zB,zC,zD,zE,zF]
   refine wpAnyH_done (by kernel_rfl) ?_ _
   go_wp2_with fail
   go_meet
   exact CrB.pre HXQ.out (by simpa using hql) (by simpa using HO1.out) (by simpa using HO2.out) hS5.out
 obtain ⟨rfl,q,sa,sc,la,lc,rfl,hQ,hq0,hq1,hbq,ho1,ho2,n1,n2⟩:=hcut
 have y0:=hQ.1 0 _ rfl
 have y1:=hQ.1 1 _ rfl
 have y2:=hQ.1 2 _ rfl
 have y3:=hQ.1 3 _ rfl
 have yf1:=hQ.2 1
 obtain ⟨U,hU⟩:∃ U,U=wc.setCell ⟨q,1,none⟩ (.int .i64 (lf:Int)):=⟨_,rfl⟩
 have UB:qI3 q [.int .i64 r.i,.int .i64 (lf:Int),.slice sa lf sc,.slice la m1 lc] U:=by rw [hU];exact hQ.put 1 (by simp) _
 have hUs:U.heap.size=wc.heap.size:=by rw [hU];simp
 have kU:∀ b,b≠q→U.heap[b]? = wc.heap[b]? := fun b hb=>by rw [hU];exact Below.heap_setCell _ _ _ _ hb
 have BU:Below V.heap.size V U:=by rw [hU];exact hbq.setCell hq0 _
 have RU:Hid (qI3 (w.heap.size+1) [.int .i64 0,.int .i64 0,.slice none 0 0,.slice none 0 0] U):=qI3.below HY0.out hVl BU
 have BWU:Hid (Below w.heap.size w U):=BV.out.trans (BU.mono BV.out.size)
 have P1:Hid (qB1 U V.heap.size (.slice sa lf sc) XS):=qA0 (show wc.ownsRow _ _ _ _ _ _ from ho1) (fun g e=>kU g (n1 g e))
 have P2:Hid (qA1 U V.heap.size (.slice la m1 lc) XL):=qA0 (show wc.ownsRow _ _ _ _ _ _ from ho2) (fun g e=>kU g (n2 g e))
 have u0:=UB.1 0 _ rfl
 have u1:=UB.1 1 _ rfl
 have u2:=UB.1 2 _ rfl
 have u3:=UB.1 3 _ rfl
 have z0:=RU.out.1 0 _ rfl
 have z1:=RU.out.1 1 _ rfl
 have z2:=RU.out.1 2 _ rfl
 have z3:=RU.out.1 3 _ rfl
 have f0:=RU.out.2 0
 have f1:=RU.out.2 1
 have f2:=RU.out.2 2
 have f3:=RU.out.2 3
 have hVU:=BU.size
 have hzl:w.heap.size+1 < U.heap.size:=by omega
 have hql:q < U.heap.size:=by omega
 have HVL:Hid (w.heap.size+1 < V.heap.size):=hVl
 clear kU hQ hbq ho1 ho2 n1 n2 x0 x1 x2 hl1 HPY UB BU hUs HY0 hVU hVl
 go_upto_region 3 with fail
 rw [← hU]
 clear hU y0 y1 y2 y3 yf1
 go_wp2_with fail
 refine bodyPost_ret (v:=.agg #[.int .i64 r.i,.int .i64 (lf:Int),.slice sa lf sc,.slice la m1 lc]) (by simp [results,Tryz.results52,go_sem,z0,z1,z2,z3,hzl]) rfl ?_
 refine ⟨sa,sc,la,lc,rfl,qA0 (qC0 P1.out (Nat.le_of_succ_le (Nat.le_of_lt HVL.out))) (fun g e=>?_),qA0 (qB0 P2.out (Nat.le_of_succ_le (Nat.le_of_lt HVL.out))) (fun g e=>?_),(((BWU.out.setCell (Nat.le_succ _) _).setCell (Nat.le_succ _) _).setCell (Nat.le_succ _) _).setCell (Nat.le_succ _) _⟩
 ·obtain ⟨cur,hcc,hgg⟩:=qD1 P1.out e
  have:=HVL.out
  rw [Below.heap_setCell _ _ _ _ (by show g≠w.heap.size+1;omega),Below.heap_setCell _ _ _ _ (by show g≠w.heap.size+1;omega),Below.heap_setCell _ _ _ _ (by show g≠w.heap.size+1;omega),Below.heap_setCell _ _ _ _ (by show g≠w.heap.size+1;omega)]
 ·obtain ⟨cur,hcc,hgg⟩:=qC6 P2.out e
  have:=HVL.out
  rw [Below.heap_setCell _ _ _ _ (by show g≠w.heap.size+1;omega),Below.heap_setCell _ _ _ _ (by show g≠w.heap.size+1;omega),Below.heap_setCell _ _ _ _ (by show g≠w.heap.size+1;omega),Below.heap_setCell _ _ _ _ (by show g≠w.heap.size+1;omega)]
theorem specCrash_c (E:qH0) (r:qF4) (a:Option Addr) (m cap:Nat) (cs:List qA3) (x:Int) (w:World) (hr:qD9 w r) (hsc:r.sn≤r.sc) (hle:qJ6 1048576 r) (hc:qA6 w a m cs) (hcl:qE7 1048576 cs) (hm:m≤1048576) (hEC:qB5 cs=0→qN0 E cs) :
  Calls Tryz.prog 28 #[.agg #[.int .i64 r.i,.int .i64 r.u,.slice r.sa r.sn r.sc,.slice r.la r.ln r.lc],.slice a m cap,.int .i64 x] w fun d w'=>RepA (qM7 E cs r x) r.i (r.u+x) (qI2 r x) (qG6 E r x) w d w':=by
 obtain ⟨V,hV⟩:∃ V,V=(w.alloc (.cells #[.int .i64 r.i,.int .i64 r.u,.slice r.sa r.sn r.sc,.slice r.la r.ln r.lc] 33)).alloc (.cells #[.int .i64 0,.int .i64 0,.int .i64 0,.slice none 0 0,.slice none 0 0] 47):=⟨_,rfl⟩
 have Z0:Hid (RZ w r V):=by show RZ _ _ _;rw [hV];exact RZ.new w r
 obtain ⟨k,hk⟩:∃ k,qH3 E cs r=k:=⟨_,rfl⟩
 obtain ⟨res,hres⟩:∃ c,qM7 E cs r x=c:=⟨_,rfl⟩
 have HRES:Hid (res=if k=0 then (if 0≤x∧x≤(r.sn:Int) - r.u then 0 else 3) else k):=by show _=_;rw [← hres,← hk];rfl
 have HF:Hid (Calls Tryz.prog 33 #[.pointer (some ⟨w.heap.size,0,none⟩),.slice a m cap] V fun d w'=>d = .returned (.int .i64 k)∧Below V.heap.size V w'):=by
  show Calls _ _ _ _ _
  rw [← hk]
  exact l8Fault_c E _ r a m cap cs V ⟨Z0.out.bx 0 _ rfl,Z0.out.bx 1 _ rfl,Z0.out.bx 2 _ rfl,Z0.out.bx 3 _ rfl⟩ (hr.below Z0.out.bl) hle (hc.below Z0.out.bl) hcl hm hEC
 have HB:Hid (k=0→0≤r.u∧r.u≤(r.sn:Int)∧r.sn≤40):=fun q=>qR3 (hk.trans q)
 have HCR:Hid (k=0→0≤x∧x≤(r.sn:Int) - r.u→∀ W:World,Below w.heap.size w W→Calls Tryz.prog 52 #[.agg #[.int .i64 r.i,.int .i64 r.u,.slice r.sa r.sn r.sc,.slice r.la r.ln r.lc],.slice a m cap,.int .i64 x] W fun d w'=>∃ (sa:Option Addr) (sc:Nat) (la:Option Addr) (lc:Nat),d = .returned (.agg #[.int .i64 r.i,.int .i64 (r.u+x),.slice sa (qI2 r x).length sc,.slice la (qG6 E r x).length lc])∧qB1 w' W.heap.size (.slice sa (qI2 r x).length sc) (qI2 r x)∧qA1 w' W.heap.size (.slice la (qG6 E r x).length lc) (qG6 E r x)∧Below W.heap.size W w'):=fun q h W hb=>by
  obtain ⟨hm1,hm8,hok⟩:=qU1 (QY3 (hk.trans q)).1
  have hml:cs.length=m:=hc.len
  exact l8Crash_c E r a m cap cs x W (hr.below hb) (hc.below hb) (hEC (QY3 (hk.trans q)).1) (by omega) (by omega) hsc (hk.trans q) h.1 h.2
 rw [hres]
 have HVL:Hid (w.heap.size+1 < V.heap.size):=Z0.out.lt
 have hVs:=Z0.out.bl.size
 obtain ⟨n1,hn1⟩:∃ n,(qI2 r x).length=n:=⟨_,rfl⟩
 obtain ⟨m1,hm1⟩:∃ n,(qG6 E r x).length=n:=⟨_,rfl⟩
 obtain ⟨XS,hXS⟩:∃ s,qI2 r x=s:=⟨_,rfl⟩
 obtain ⟨XL,hXL⟩:∃ s,qG6 E r x=s:=⟨_,rfl⟩
 rw [hn1,hm1,hXS,hXL] at HCR
 rw [hXS] at hn1 ⊢
 rw [hXL] at hm1 ⊢
 have HLN:Hid (XS.length=n1∧XL.length=m1):=⟨hn1,hm1⟩
 clear hr hle hc hcl hEC hk hres hn1 hm1 hXS hXL
 go_enter Tryz.func28,Tryz.ntmps28
 go_upto_region 1 with fail
 rw [← hV]
 clear hV
 go_wp2_with fail
 refine HF.out.mono ?_
 rintro d w1 ⟨rfl,hb1⟩
 have Z1:=qC2 (Z0.out.below hb1)
 have HB1:=qC2 hb1
 clear hb1 Z0 HF
 by_cases hk:k=0
 ·subst hk
  obtain ⟨b0,b1,b2⟩:=HB.out rfl
  have HR2:Hid (res=if 0≤x∧x≤(r.sn:Int) - r.u then 0 else 3):=by show _=_;rw [HRES.out,if_pos rfl]
  have v0:=Z1.out.bx 0 _ rfl
  have v1:=Z1.out.bx 1 _ rfl
  have v2:=Z1.out.bx 2 _ rfl
  have v3:=Z1.out.bx 3 _ rfl
  have hvl:w.heap.size < w1.heap.size:=Nat.lt_of_succ_lt Z1.out.lt
  have hsub:IntKind.i64.wrap ((r.sn:Int) - r.u)=(r.sn:Int) - r.u:=by rw [IntKind.wrap_i64];omega
  have hsn':(r.sn:Int)≤40:=by omega
  by_cases hx:0≤x∧x≤(r.sn:Int) - r.u
  ·have HE:Hid (res=0):=by show _=_;rw [HR2.out,if_pos hx]
   have HIN:Hid (Calls Tryz.prog 51 #[.int .i64 x,.int .i64 0,.int .i64 ((r.sn:Int) - r.u)] w1 fun e w'=>e = .returned (.bool true)∧w1=w'):=by
    have q:=qL6 x 0 ((r.sn:Int) - r.u) w1
    rw [show (decide (0≤x)&&decide (x≤(r.sn:Int) - r.u))=true by rw [decide_eq_true hx.1,decide_eq_true hx.2];rfl] at q
    exact q
   have HCR2:=qC2 (HCR.out rfl hx w1 Z1.out.bl)
   clear hx HR2 HRES HCR
   go_wp2_with fail
   refine HIN.out.mono ?_
   rintro d w' ⟨rfl,rfl⟩
   go_wp2_with fail
   refine HCR2.out.mono ?_
   rintro d w2 ⟨sa,sc,la,lc,rfl,ho1,ho2,hb2⟩
   have Z2:=qC2 (Z1.out.below hb2)
   have P1:=qC2 ho1
   have P2:=qC2 ho2
   have hw1:=hb2.size
   have hw0:=HB1.out.size
   clear v0 v1 v2 v3 hvl ho1 ho2 hb2 Z1
   have z0:=Z2.out.rs.1 0 _ rfl
   have z1:=Z2.out.rs.1 1 _ rfl
   have z2:=Z2.out.rs.1 2 _ rfl
   have z3:=Z2.out.rs.1 3 _ rfl
   have z4:=Z2.out.rs.1 4 _ rfl
   have f0:=Z2.out.rs.2 0
   have f1:=Z2.out.rs.2 1
   have f2:=Z2.out.rs.2 2
   have f3:=Z2.out.rs.2 3
   have f4:=Z2.out.rs.2 4
   have hzl:=Z2.out.lt
   go_wp2_with fail
   refine bodyPost_ret (v:=.agg #[.int .i64 0,.int .i64 r.i,.int .i64 (r.u+x),.slice sa n1 sc,.slice la m1 lc]) (by simp [results,Tryz.results28,go_sem,z0,z1,z2,z3,z4,hzl]) rfl ?_
   refine ⟨((((Z2.out.bl.setCell (Nat.le_succ _) _).setCell (Nat.le_succ _) _).setCell (Nat.le_succ _) _).setCell (Nat.le_succ _) _).setCell (Nat.le_succ _) _,fun q=>absurd HE.out q,fun _=>?_⟩
   rw [HLN.out.1,HLN.out.2]
   have hlow:w.heap.size≤w1.heap.size:=by omega
   refine ⟨_,sc,_,lc,rfl,qA0 (qC0 P1.out hlow) (fun g e=>?_),qA0 (qB0 P2.out hlow) (fun g e=>?_)⟩
   ·obtain ⟨cur,hcc,hgg⟩:=qD1 P1.out e
    have:=HVL.out
    rw [Below.heap_setCell _ _ _ _ (by show g≠w.heap.size+1;omega),Below.heap_setCell _ _ _ _ (by show g≠w.heap.size+1;omega),Below.heap_setCell _ _ _ _ (by show g≠w.heap.size+1;omega),Below.heap_setCell _ _ _ _ (by show g≠w.heap.size+1;omega),Below.heap_setCell _ _ _ _ (by show g≠w.heap.size+1;omega)]
   ·obtain ⟨cur,hcc,hgg⟩:=qC6 P2.out e
    have:=HVL.out
    rw [Below.heap_setCell _ _ _ _ (by show g≠w.heap.size+1;omega),Below.heap_setCell _ _ _ _ (by show g≠w.heap.size+1;omega),Below.heap_setCell _ _ _ _ (by show g≠w.heap.size+1;omega),Below.heap_setCell _ _ _ _ (by show g≠w.heap.size+1;omega),Below.heap_setCell _ _ _ _ (by show g≠w.heap.size+1;omega)]
  ·have HE:Hid (res=3):=by show _=_;rw [HR2.out,if_neg hx]
   have HIN:Hid (Calls Tryz.prog 51 #[.int .i64 x,.int .i64 0,.int .i64 ((r.sn:Int) - r.u)] w1 fun e w'=>e = .returned (.bool false)∧w1=w'):=by
    have q:=qL6 x 0 ((r.sn:Int) - r.u) w1
    rw [show (decide (0≤x)&&decide (x≤(r.sn:Int) - r.u))=false by
     by_cases h1:0≤x
     ·rw [decide_eq_false (p:=x≤(r.sn:Int) - r.u) (fun h2=>hx ⟨h1,h2⟩)];simp
     ·rw [decide_eq_false h1];rfl] at q
    exact q
   clear hx HR2 HRES HCR
   have z0:=Z1.out.rs.1 0 _ rfl
   have z1:=Z1.out.rs.1 1 _ rfl
   have z2:=Z1.out.rs.1 2 _ rfl
   have z3:=Z1.out.rs.1 3 _ rfl
   have z4:=Z1.out.rs.1 4 _ rfl
   have f0:=Z1.out.rs.2 0
   have f1:=Z1.out.rs.2 1
   have f2:=Z1.out.rs.2 2
   have f3:=Z1.out.rs.2 3
   have f4:=Z1.out.rs.2 4
   have hzl:=Z1.out.lt
   go_wp2_with fail
   refine HIN.out.mono ?_
   rintro d w' ⟨rfl,rfl⟩
   go_wp2_with fail
   refine bodyPost_ret (v:=.agg #[.int .i64 3,.int .i64 0,.int .i64 0,.slice none 0 0,.slice none 0 0]) (by simp [results,Tryz.results28,go_sem,z0,z1,z2,z3,z4,hzl]) rfl ?_
   exact ⟨((((Z1.out.bl.setCell (Nat.le_succ _) _).setCell (Nat.le_succ _) _).setCell (Nat.le_succ _) _).setCell (Nat.le_succ _) _).setCell (Nat.le_succ _) _,fun _=>by rw [HE.out],fun q=>by rw [HE.out] at q;exact absurd q (by decide)⟩
 ·have hkb:(k != 0)=true:=by simp [hk]
  have HE:Hid (res=k):=by show _=_;rw [HRES.out,if_neg hk]
  have z0:=Z1.out.rs.1 0 _ rfl
  have z1:=Z1.out.rs.1 1 _ rfl
  have z2:=Z1.out.rs.1 2 _ rfl
  have z3:=Z1.out.rs.1 3 _ rfl
  have z4:=Z1.out.rs.1 4 _ rfl
  have f0:=Z1.out.rs.2 0
  have f1:=Z1.out.rs.2 1
  have f2:=Z1.out.rs.2 2
  have f3:=Z1.out.rs.2 3
  have f4:=Z1.out.rs.2 4
  have hzl:=Z1.out.lt
  go_wp2_with fail
  refine bodyPost_ret (v:=.agg #[.int .i64 k,.int .i64 0,.int .i64 0,.slice none 0 0,.slice none 0 0]) (by simp [results,Tryz.results28,go_sem,z0,z1,z2,z3,z4,hzl]) rfl ?_
  exact ⟨((((Z1.out.bl.setCell (Nat.le_succ _) _).setCell (Nat.le_succ _) _).setCell (Nat.le_succ _) _).setCell (Nat.le_succ _) _).setCell (Nat.le_succ _) _,fun _=>by rw [HE.out],fun q=>by rw [HE.out] at q;exact absurd q hk⟩

theorem Tryz.gM:Tryz.prog.globalNamed "loop.example/g00338/impl.errManyLocks" = some 0:=by kernel_rfl
theorem Tryz.gMT:(Tryz.prog.globals[0]?).map (·.type)=some 194:=by kernel_rfl
theorem errM_of {text:List UInt8} {r:List (String × DataW Unit)} {W:World} (h:laidMet Tryz.prog (("loop.example/g00338/impl.errManyLocks", .iface "*errors.errorString" (.ptr (.agg [.lit (.string text)])))::r) W):qL8 0 W:=by
 obtain ⟨a,s,hv,_⟩:=laid_sentinel h Tryz.gM Tryz.gMT Tryz.underlying194 Tryz.rowES Tryz.underlying308 Tryz.underlying332 rfl rfl Tryz.underlying9 Tryz.cellsES Tryz.cellsStr
 exact ⟨a,by simpa using World.var?_cell Tryz.gM hv 0⟩
theorem Tryz.et:Tryz.prog.globalNamed "errors.errorType" = some 1:=by kernel_rfl
theorem Tryz.rt:(Tryz.prog.cutTypes.find? (·.1 == "internal/reflectlite.rtype")).map (·.2)=some 278:=by kernel_rfl
theorem Tryz.oneRow:((List.range 344).filter fun t=>Tryz.prog.rowNamed t [101,114,114,111,114])=[194]:=by kernel_rfl
theorem Tryz.sizeTs:Tryz.prog.types.size=344:=by kernel_rfl
theorem handle_of {laid:List (String × DataW Unit)} {W:World} (hm:("errors.errorType", .iface "internal/reflectlite.rtype" (.agg [.ptr (.lit (.string [101,114,114,111,114]))]))∈laid) (h:handlesMet Tryz.prog laid W):qD6 W:=by
 obtain ⟨name,u,ty,e1,e2,e3,e4,e5⟩:=h _ (by
  first
   | exact hm
   | exact List.mem_filter.2 ⟨hm,rfl⟩)
 have en:name=[101,114,114,111,114]:=(Option.some.inj e1).symm
 subst en
 obtain rfl:=Option.some.inj (Tryz.rt.symm.trans e2)
 have hm:ty∈(List.range 344).filter fun t=>Tryz.prog.rowNamed t [101,114,114,111,114]:=List.mem_filter.2 ⟨List.mem_range.2 (by rw [← Tryz.sizeTs];exact e3),e4⟩
 rw [Tryz.oneRow] at hm
 obtain rfl:=List.mem_singleton.1 hm
 have hh:typeHandle Tryz.prog 194 = .pointer (some ⟨2,194,none⟩):=by kernel_rfl
 rw [hh] at e5
 unfold qD6
 simpa using World.var?_cell Tryz.et e5 0
structure P1 (w W:World) (bx:Nat) (c:Int) (a1:Option Addr) (cap1:Nat) (ys:List LkI):Prop where
 bel:Below w.heap.size w W
 x:Box2 W bx (.int .i64 c) (.slice a1 ys.length cap1)
 v:LkV W a1 ys
 lo:w.heap.size≤bx
 hi:bx < W.heap.size
 al:∀ g,a1=some ⟨g,0,none⟩→g < bx
structure P2 (W:World) (gl len:Nat) (zs:List LkI) (gi lb:Nat) (vs:List Int):Prop where
 la:qZ9 W gl zs
 lr:qJ0 W gl len
 ia:IntsAt W gi vs
 ir:qI1 W gi lb
 ll:gl < W.heap.size
 li:gi < W.heap.size
structure P3 (W:World) (B bz hi:Nat) (c:Int) (a2:Option Addr) (cap2:Nat) (ys:List LkI):Prop where
 x:Box2 W bz (.int .i64 c) (.slice a2 ys.length cap2)
 o:qA1 W B (.slice a2 ys.length cap2) ys
 bl:B≤bz
 al:∀ q,(Value.slice a2 ys.length cap2).ownBlock=some q→q < bz

end Go.Proofs.YtlhgjackapdmbaaGreatDoor
