/- Contracts. -/
import Derived.Test.YtlpgapdlepbgbaaGreatDoorPv46
namespace Go.Proofs.YtlpgapdlepbgbaaGreatDoor
set_option maxRecDepth 100000
set_option maxHeartbeats 8000000
open Go.RowKit
set_option linter.unusedVariables false
set_option linter.unusedSimpArgs false

theorem specSync_c (E:qI3) (r:qG9) (a:Option Addr) (m cap:Nat) (cs:List qA4) (w:World) (hr:qD7 w r) (hN:qJ3 r) (hle:qK5 1048576 r) (hc:qA6 w a m cs) (hcl:qF8 1048576 cs) (hm:m≤1048576) (hEC:qB8 cs=0 → qN6 E cs) :
  Calls Tryz.prog 24 #[.agg #[.int .i64 r.i,.int .i64 r.u,.slice r.sa r.sn r.sc,.slice r.la r.ln r.lc],.slice a m cap] w fun d w'=>RepA (qH0 E cs r) r.i (r.sn:Int) r.ss r.ls w d w':=by
 obtain ⟨V,hV⟩:∃ V,V=(w.alloc (.cells #[.int .i64 r.i,.int .i64 r.u,.slice r.sa r.sn r.sc,.slice r.la r.ln r.lc] 33)).alloc (.cells #[.int .i64 0,.int .i64 0,.int .i64 0,.slice none 0 0,.slice none 0 0] 43):=⟨_,rfl⟩
 have Z0:Hid (RZ w r V):=by show RZ _ _ _;rw [hV];exact RZ.new w r
 obtain ⟨k,hk⟩:∃ k,qH0 E cs r=k:=⟨_,rfl⟩
 have HSL:Hid (r.ss.length=r.sn∧r.ls.length=r.ln):=⟨hr.said.1,hr.locks.1⟩
 have HRI:Hid (qD7 w r):=hr
 have HN:Hid (qJ3 r):=hN
 have HLE:Hid (qK5 1048576 r):=hle
 have HF:Hid (Calls Tryz.prog 33 #[.pointer (some ⟨w.heap.size,0,none⟩),.slice a m cap] V fun d w'=>d = .returned (.int .i64 k)∧Below V.heap.size V w'):=by
  show Calls _ _ _ _ _
  rw [← hk]
  exact l8Fault_c E _ r a m cap cs V ⟨Z0.out.bx 0 _ rfl,Z0.out.bx 1 _ rfl,Z0.out.bx 2 _ rfl,Z0.out.bx 3 _ rfl⟩ (hr.below Z0.out.bl) hle (hc.below Z0.out.bl) hcl hm hEC
 have hsn:(r.sn:Int)≤1048576:=by have:=hle.said;omega
 rw [hk]
 have hVs:=Z0.out.bl.size
 have HVL:Hid (w.heap.size+1 < V.heap.size):=Z0.out.lt
 clear hk hr hle hc hcl hEC hN
 go_enter Tryz.func24,Tryz.ntmps24
 go_upto_region 1 with fail
 rw [← hV]
 clear hV
 go_wp2_with fail
 refine HF.out.mono ?_
 rintro d w1 ⟨rfl,hb1⟩
 have Z1:=qC5 (Z0.out.below hb1)
 have HB1:=qC5 hb1
 clear hb1 Z0 HF
 by_cases hk:k=0
 ·subst hk
  have v0:=Z1.out.bx 0 _ rfl
  have v1:=Z1.out.bx 1 _ rfl
  have v2:=Z1.out.bx 2 _ rfl
  have v3:=Z1.out.bx 3 _ rfl
  have hvl:w.heap.size < w1.heap.size:=Nat.lt_of_succ_lt Z1.out.lt
  have HCY:=qC5 (qQ2 r w1 (HRI.out.below Z1.out.bl) HN.out HLE.out.said HLE.out.locks)
  go_wp2_with fail
  refine HCY.out.mono ?_
  rintro d w2 ⟨gs,sc,gl,lc,rfl,ho1,ho2,hb2⟩
  obtain ⟨Y,hY⟩:∃ Y,Y=w2.alloc (.cells #[.int .i64 r.i,.int .i64 r.u,.slice (some ⟨gs,0,none⟩) r.sn sc,.slice (some ⟨gl,0,none⟩) r.ln lc] 33):=⟨_,rfl⟩
  have AY:Below w2.heap.size w2 Y:=by rw [hY];exact zN
  have Z2:=qC5 ((Z1.out.below hb2).below AY)
  have YB:qI6 w2.heap.size [.int .i64 r.i,.int .i64 r.u,.slice (some ⟨gs,0,none⟩) r.sn sc,.slice (some ⟨gl,0,none⟩) r.ln lc] Y:=by rw [hY];exact qH4 w2 _ _
  have hYl:w2.heap.size < Y.heap.size:=by rw [hY];simp
  have O1:=qC5 (ho1.below AY)
  have O2:=qC5 (ho2.below AY)
  have hq1:w.heap.size+1 < w2.heap.size:=by have:=HVL.out;have:=HB1.out.size;have:=hb2.size;omega
  have g1:∀ g,(Value.slice (some ⟨gs,0,none⟩) r.sn sc).ownBlock=some g → g < w2.heap.size:=fun g e=>by
   have h0:w2.ownsRow w1.heap.size 45 5 (.slice (some ⟨gs,0,none⟩) r.sn sc) r.ss.length (qC3 r.ss):=ho1
   exact (h0.lt g e).2
  have g2:∀ g,(Value.slice (some ⟨gl,0,none⟩) r.ln lc).ownBlock=some g → g < w2.heap.size:=fun g e=>by
   have h0:w2.ownsRow w1.heap.size 98 4 (.slice (some ⟨gl,0,none⟩) r.ln lc) r.ls.length (qA2 r.ls):=ho2
   exact (h0.lt g e).2
  have HG:=qC5 (And.intro g1 g2)
  have hw1:V.heap.size≤w1.heap.size:=HB1.out.size
  clear ho1 ho2 hb2 AY Z1 HCY v0 v1 v2 v3 hvl g1 g2
  go_upto_region 5 with fail
  rw [← hY]
  clear hY
  generalize w2.heap.size=q at YB hYl hq1 HG ⊢
  have v2:=Z2.out.bx 2 _ rfl
  have hvl:w.heap.size < Y.heap.size:=Nat.lt_of_succ_lt Z2.out.lt
  have y0:=YB.1 0 _ rfl
  have y1:=YB.1 1 _ rfl
  have y2:=YB.1 2 _ rfl
  have y3:=YB.1 3 _ rfl
  have yf1:=YB.2 1
  obtain ⟨U,hU⟩:∃ U,U=Y.setCell ⟨q,1,none⟩ (.int .i64 (r.sn:Int)):=⟨_,rfl⟩
  have UB:qI6 q [.int .i64 r.i,.int .i64 (r.sn:Int),.slice (some ⟨gs,0,none⟩) r.sn sc,.slice (some ⟨gl,0,none⟩) r.ln lc] U:=by rw [hU];exact YB.put 1 (by simp) _
  have hUs:U.heap.size=Y.heap.size:=by rw [hU];simp
  have kU:∀ b,b ≠ q → U.heap[b]? = Y.heap[b]? := fun b hb=>by rw [hU];exact Below.heap_setCell _ _ _ _ hb
  have RU:Hid (qI6 (w.heap.size+1) [.int .i64 0,.int .i64 0,.int .i64 0,.slice none 0 0,.slice none 0 0] U):=by
   rw [hU]
   exact Z2.out.rs.other (p:=⟨q,1,none⟩) (by show q ≠ _;omega) _
  have BWU:Hid (Below w.heap.size w U):=by show Below _ _ _;rw [hU];exact Z2.out.bl.setCell (show w.heap.size≤q by omega) _
  have P1:Hid (qB1 U w1.heap.size (.slice (some ⟨gs,0,none⟩) r.sn sc) r.ss):=qA3 O1.out (fun g e=>kU g (by have:=HG.out.1 g e;omega))
  have P2:Hid (qA1 U w1.heap.size (.slice (some ⟨gl,0,none⟩) r.ln lc) r.ls):=qA3 O2.out (fun g e=>kU g (by have:=HG.out.2 g e;omega))
  have u0:=UB.1 0 _ rfl
  have u1:=UB.1 1 _ rfl
  have u2:=UB.1 2 _ rfl
  have u3:=UB.1 3 _ rfl
  have z0:=RU.out.1 0 _ rfl
  have z1:=RU.out.1 1 _ rfl
  have z2:=RU.out.1 2 _ rfl
  have z3:=RU.out.1 3 _ rfl
  have z4:=RU.out.1 4 _ rfl
  have f0:=RU.out.2 0
  have f1:=RU.out.2 1
  have f2:=RU.out.2 2
  have f3:=RU.out.2 3
  have f4:=RU.out.2 4
  have hzl:w.heap.size+1 < U.heap.size:=by omega
  have hql:q < U.heap.size:=by omega
  clear kU
  go_upto_region 6 with fail
  rw [← hU]
  clear hU y0 y1 y2 y3 yf1 v2
  go_wp2_with fail
  refine bodyPost_ret (v:=.agg #[.int .i64 0,.int .i64 r.i,.int .i64 (r.sn:Int),.slice (some ⟨gs,0,none⟩) r.sn sc,.slice (some ⟨gl,0,none⟩) r.ln lc]) (by simp [results,Tryz.results24,go_sem,z0,z1,z2,z3,z4,hzl]) rfl ?_
  refine ⟨((((BWU.out.setCell (Nat.le_succ _) _).setCell (Nat.le_succ _) _).setCell (Nat.le_succ _) _).setCell (Nat.le_succ _) _).setCell (Nat.le_succ _) _,fun q=>absurd rfl q,fun _=>?_⟩
  rw [HSL.out.1,HSL.out.2]
  have hlow:w.heap.size≤w1.heap.size:=by omega
  refine ⟨_,sc,_,lc,rfl,qA3 (qC4 P1.out hlow) (fun g e=>?_),qA3 (qB0 P2.out hlow) (fun g e=>?_)⟩
  ·obtain ⟨cur,hcc,hgg⟩:=qD3 P1.out e
   have:=HVL.out
   rw [Below.heap_setCell _ _ _ _ (by show g ≠ w.heap.size+1;omega),Below.heap_setCell _ _ _ _ (by show g ≠ w.heap.size+1;omega),Below.heap_setCell _ _ _ _ (by show g ≠ w.heap.size+1;omega),Below.heap_setCell _ _ _ _ (by show g ≠ w.heap.size+1;omega),Below.heap_setCell _ _ _ _ (by show g ≠ w.heap.size+1;omega)]
  ·obtain ⟨cur,hcc,hgg⟩:=qD1 P2.out e
   have:=HVL.out
   rw [Below.heap_setCell _ _ _ _ (by show g ≠ w.heap.size+1;omega),Below.heap_setCell _ _ _ _ (by show g ≠ w.heap.size+1;omega),Below.heap_setCell _ _ _ _ (by show g ≠ w.heap.size+1;omega),Below.heap_setCell _ _ _ _ (by show g ≠ w.heap.size+1;omega),Below.heap_setCell _ _ _ _ (by show g ≠ w.heap.size+1;omega)]
 ·have hkb:(k != 0)=true:=by simp [hk]
  have z0:=Z1.out.rs.1 0 _ rfl
  have z1:=Z1.out.rs.1 1 _ rfl
  have z2:=Z1.out.rs.1 2 _ rfl
  have z3:=Z1.out.rs.1 3 _ rfl
  have z4:=Z1.out.rs.1 4 _ rfl
  have f0:=Z1.out.rs.2 0
  have f1:=Z1.out.rs.2 1
  have f2:=Z1.out.rs.2 2
  have f3:=Z1.out.rs.2 3
  have f4:=Z1.out.rs.2 4
  have hzl:=Z1.out.lt
  go_wp2_with fail
  refine bodyPost_ret (v:=.agg #[.int .i64 k,.int .i64 0,.int .i64 0,.slice none 0 0,.slice none 0 0]) (by simp [results,Tryz.results24,go_sem,z0,z1,z2,z3,z4,hzl]) rfl ?_
  exact ⟨((((Z1.out.bl.setCell (Nat.le_succ _) _).setCell (Nat.le_succ _) _).setCell (Nat.le_succ _) _).setCell (Nat.le_succ _) _).setCell (Nat.le_succ _) _,fun _=>rfl,fun q=>absurd q hk⟩

structure Mrk (w w':World):Prop where
 it:∀ (a:Addr) (x:Int),w.cell? a=some (.int .i64 x) → ∃ y,w'.cell? a=some (.int .i64 y)
 sl:∀ (a:Addr) (b:Option Addr) (n c:Nat),w.cell? a=some (.slice b n c) → w'.cell? a=some (.slice b n c)
 fr:∀ a,w'.frozen? a=w.frozen? a
theorem Mrk.refl (w:World):Mrk w w:=⟨fun _ x h=>⟨x,h⟩,fun _ _ _ _ h=>h,fun _=>rfl⟩
theorem Mrk.trans {a b c:World} (h:Mrk a b) (k:Mrk b c):Mrk a c :=
 ⟨fun q x e=>by obtain ⟨y,e'⟩:=h.it q x e;exact k.it q y e',fun q b n c e=>k.sl q b n c (h.sl q b n c e),fun q=>(k.fr q).trans (h.fr q)⟩
theorem Mrk.set {w:World} {a:Addr} {x:Int} (h:w.cell? a=some (.int .i64 x)) (y:Int):Mrk w (w.setCell a (.int .i64 y)):=by
 refine ⟨fun q z e=>?_,fun q b n c e=>?_,fun q=>World.frozen?_setCell ..⟩
 ·by_cases hq:q=a
  ·subst hq
   exact ⟨y,by simp [go_sem,h]⟩
  ·exact ⟨z,by rw [World.cell?_setCell_other (h:=fun e=>hq e.symm)];exact e⟩
 ·have hq:q ≠ a:=fun e'=>by subst e';rw [h] at e;cases e
  rw [World.cell?_setCell_other (h:=fun e=>hq e.symm)]
  exact e
def qN4 (w:World) (g m:Nat):Prop:=(∀ j,j < m → ∃ x,w.cell? ⟨g,j,none⟩=some (.int .i64 x))∧∀ j,w.frozen? ⟨g,j,none⟩=false
theorem qN4.mrk {w w':World} {g m:Nat} (h:qN4 w g m) (k:Mrk w w'):qN4 w' g m :=
 ⟨fun j hj=>by obtain ⟨x,e⟩:=h.1 j hj;exact k.it _ x e,fun j=>(k.fr _).trans (h.2 j)⟩
theorem Chg.refl {lo hi:Nat} (w:World):Chg lo hi w w:=Chg.calls (Below.refl _ _)
structure MI (lo hi:Nat) (w0 w:World) (g m:Nat):Prop where
 mr:Mrk w0 w
 ch:Chg lo hi w0 w
 rw:qN4 w g m
theorem MI.set {lo hi:Nat} {w0 w:World} {g m j:Nat} (h:MI lo hi w0 w g m) (hg:lo≤g∧g < hi) (hj:j < m) (y:Int):MI lo hi w0 (w.setCell ⟨g,j,none⟩ (.int .i64 y)) g m:=by
 obtain ⟨x,e⟩:=h.rw.1 j hj
 have hm:=Mrk.set e y
 exact ⟨h.mr.trans hm,h.ch.trans (Chg.grown (qJ1 w g j _) (fun q e=>by cases e;exact hg)),h.rw.mrk hm⟩
theorem markIntsK_c (lo hi g n cap:Nat) (k0:Int) (w:World) (hn:n≤1048576) (h0:0≤k0) (h1:k0≤9000000000000000000) (hg:lo≤g∧g < hi) (h:qN4 w g (n)) :
  Calls Tryz.prog 48 #[.slice (some ⟨g,0,none⟩) n cap,.int .i64 k0] w fun e w'=>e = .returned (.int .i64 (k0+1 * (n:Int)))∧Mrk w w'∧Chg lo hi w w':=by
 have HO:Hid (MI lo hi w w g (n)):=⟨Mrk.refl w,Chg.refl w,h⟩
 clear h
 have hn':(n:Int)≤1048576:=by omega
 go_enter Tryz.func48,Tryz.ntmps48
 go_wp2
 go_loopw [1,5] (fun q i wr=>∃ (j:Nat),j≤n∧i = .int .i64 (j:Int)∧q = .int .i64 (k0+1 * (j:Int))∧MI lo hi w wr g (n))
  (fun _ i _=>n - (intOf i).toNat)
 case atStart=>exact ⟨0,Nat.zero_le _,rfl,by simp,HO.out⟩
 case round =>
  obtain ⟨j,hj,rfl,rfl,hmi⟩:=hrel
  have HG:Hid (MI lo hi w wr g (n)):=hmi
  have hroom:=hmi.rw
  clear hmi
  by_cases hlt:j < n
  ·have hlt':(j:Int) < (n:Int):=by omega
   obtain ⟨v0,c0⟩:=hroom.1 (j) (by omega)
   have f0:=hroom.2 (j)
   clear hroom
   go_wp2
   refine ⟨⟨j+1,by omega,by go_num,?_,?_⟩,by simp [intOf];omega⟩
   ·congr 1;omega
   ·exact (HG.out.set hg (show j < n by omega) _)
  ·have hjn:j=n:=by omega
   subst hjn
   clear hroom
   go_wp2
   go_ret
   exact ⟨rfl,HG.out.mr,HG.out.ch⟩
theorem QY3 (lo hi g n cap:Nat) (k0:Int) (w:World) (hn:n≤1048576) (h0:0≤k0) (h1:k0≤9000000000000000000) (hg:lo≤g∧g < hi) (h:qN4 w g (n * 8)) :
  Calls Tryz.prog 46 #[.slice (some ⟨g,0,none⟩) n cap,.int .i64 k0] w fun e w'=>e = .returned (.int .i64 (k0+8 * (n:Int)))∧Mrk w w'∧Chg lo hi w w':=by
 have HO:Hid (MI lo hi w w g (n * 8)):=⟨Mrk.refl w,Chg.refl w,h⟩
 clear h
 have hn':(n:Int)≤1048576:=by omega
 go_enter Tryz.func46,Tryz.ntmps46
 go_wp2
 go_loopw [1,5] (fun q i wr=>∃ (j:Nat),j≤n∧i = .int .i64 (j:Int)∧q = .int .i64 (k0+8 * (j:Int))∧MI lo hi w wr g (n * 8))
  (fun _ i _=>n - (intOf i).toNat)
 case atStart=>exact ⟨0,Nat.zero_le _,rfl,by simp,HO.out⟩
 case round =>
  obtain ⟨j,hj,rfl,rfl,hmi⟩:=hrel
  have HG:Hid (MI lo hi w wr g (n * 8)):=hmi
  have hroom:=hmi.rw
  clear hmi
  by_cases hlt:j < n
  ·have hlt':(j:Int) < (n:Int):=by omega
   obtain ⟨v0,c0⟩:=hroom.1 (j * 8) (by omega)
   have f0:=hroom.2 (j * 8)
   obtain ⟨v1,c1⟩:=hroom.1 (j * 8+1) (by omega)
   have f1:=hroom.2 (j * 8+1)
   obtain ⟨v2,c2⟩:=hroom.1 (j * 8+2) (by omega)
   have f2:=hroom.2 (j * 8+2)
   obtain ⟨v3,c3⟩:=hroom.1 (j * 8+3) (by omega)
   have f3:=hroom.2 (j * 8+3)
   obtain ⟨v4,c4⟩:=hroom.1 (j * 8+4) (by omega)
   have f4:=hroom.2 (j * 8+4)
   obtain ⟨v5,c5⟩:=hroom.1 (j * 8+5) (by omega)
   have f5:=hroom.2 (j * 8+5)
   obtain ⟨v6,c6⟩:=hroom.1 (j * 8+6) (by omega)
   have f6:=hroom.2 (j * 8+6)
   obtain ⟨v7,c7⟩:=hroom.1 (j * 8+7) (by omega)
   have f7:=hroom.2 (j * 8+7)
   clear hroom
   go_wp2
   refine ⟨⟨j+1,by omega,by go_num,?_,?_⟩,by simp [intOf];omega⟩
   ·congr 1;omega
   ·exact ((((((((HG.out.set hg (show j * 8 < n * 8 by omega) _).set hg (show j * 8+1 < n * 8 by omega) _).set hg (show j * 8+2 < n * 8 by omega) _).set hg (show j * 8+3 < n * 8 by omega) _).set hg (show j * 8+4 < n * 8 by omega) _).set hg (show j * 8+5 < n * 8 by omega) _).set hg (show j * 8+6 < n * 8 by omega) _).set hg (show j * 8+7 < n * 8 by omega) _)
  ·have hjn:j=n:=by omega
   subst hjn
   clear hroom
   go_wp2
   go_ret
   exact ⟨rfl,HG.out.mr,HG.out.ch⟩
theorem QY4 (lo hi g n cap:Nat) (k0:Int) (w:World) (hn:n≤1048576) (h0:0≤k0) (h1:k0≤9000000000000000000) (hg:lo≤g∧g < hi) (h:qN4 w g (n * 5)) :
  Calls Tryz.prog 82 #[.slice (some ⟨g,0,none⟩) n cap,.int .i64 k0] w fun e w'=>e = .returned (.int .i64 (k0+5 * (n:Int)))∧Mrk w w'∧Chg lo hi w w':=by
 have HO:Hid (MI lo hi w w g (n * 5)):=⟨Mrk.refl w,Chg.refl w,h⟩
 clear h
 have hn':(n:Int)≤1048576:=by omega
 go_enter Tryz.func82,Tryz.ntmps82
 go_wp2
 go_loopw [1,5] (fun q i wr=>∃ (j:Nat),j≤n∧i = .int .i64 (j:Int)∧q = .int .i64 (k0+5 * (j:Int))∧MI lo hi w wr g (n * 5))
  (fun _ i _=>n - (intOf i).toNat)
 case atStart=>exact ⟨0,Nat.zero_le _,rfl,by simp,HO.out⟩
 case round =>
  obtain ⟨j,hj,rfl,rfl,hmi⟩:=hrel
  have HG:Hid (MI lo hi w wr g (n * 5)):=hmi
  have hroom:=hmi.rw
  clear hmi
  by_cases hlt:j < n
  ·have hlt':(j:Int) < (n:Int):=by omega
   obtain ⟨v0,c0⟩:=hroom.1 (j * 5) (by omega)
   have f0:=hroom.2 (j * 5)
   obtain ⟨v1,c1⟩:=hroom.1 (j * 5+1) (by omega)
   have f1:=hroom.2 (j * 5+1)
   obtain ⟨v2,c2⟩:=hroom.1 (j * 5+2) (by omega)
   have f2:=hroom.2 (j * 5+2)
   obtain ⟨v3,c3⟩:=hroom.1 (j * 5+3) (by omega)
   have f3:=hroom.2 (j * 5+3)
   obtain ⟨v4,c4⟩:=hroom.1 (j * 5+4) (by omega)
   have f4:=hroom.2 (j * 5+4)
   clear hroom
   go_wp2
   refine ⟨⟨j+1,by omega,by go_num,?_,?_⟩,by simp [intOf];omega⟩
   ·congr 1;omega
   ·exact (((((HG.out.set hg (show j * 5 < n * 5 by omega) _).set hg (show j * 5+1 < n * 5 by omega) _).set hg (show j * 5+2 < n * 5 by omega) _).set hg (show j * 5+3 < n * 5 by omega) _).set hg (show j * 5+4 < n * 5 by omega) _)
  ·have hjn:j=n:=by omega
   subst hjn
   clear hroom
   go_wp2
   go_ret
   exact ⟨rfl,HG.out.mr,HG.out.ch⟩
def QP0 (lo hi:Nat) (w:World) (x:qE7):Prop:=x.n≤1048576∧∃ g,x.a=some ⟨g,0,none⟩∧lo≤g∧g < hi∧qN4 w g (x.n * 5)
theorem QP0.mrk {lo hi:Nat} {w w':World} {x:qE7} (h:QP0 lo hi w x) (k:Mrk w w'):QP0 lo hi w' x:=by
 obtain ⟨h0,g,h1,h2,h3,h4⟩:=h
 exact ⟨h0,g,h1,h2,h3,h4.mrk k⟩
def qU4 (lo hi:Nat) (w:World) (g n:Nat) (fs:List qE7):Prop:=fs.length=n∧∀ (k:Nat) (x:qE7),fs[k]? = some x → w.cell? ⟨g,k,none⟩=some (.slice x.a x.n x.cap)∧QP0 lo hi w x
theorem qU4.mrk {lo hi:Nat} {w w':World} {g n:Nat} {fs:List qE7} (h:qU4 lo hi w g n fs) (k:Mrk w w'):qU4 lo hi w' g n fs :=
 ⟨h.1,fun j x e=>⟨k.sl _ _ _ _ (h.2 j x e).1,(h.2 j x e).2.mrk k⟩⟩
theorem QY6 (lo hi g n cap:Nat) (k0:Int) (fs:List qE7) (w:World) (hn:n≤1048576) (h0:0≤k0) (h1:k0≤8000000000000000000) (h:qU4 lo hi w g n fs) :
  Calls Tryz.prog 47 #[.slice (some ⟨g,0,none⟩) n cap,.int .i64 k0] w fun e w'=>(∃ k:Int,e = .returned (.int .i64 k)∧k0≤k∧k≤k0+5242880 * (n:Int))∧Mrk w w'∧Chg lo hi w w':=by
 have HO:Hid (qU4 lo hi w g n fs):=h
 clear h
 have hn':(n:Int)≤1048576:=by omega
 go_enter Tryz.func47,Tryz.ntmps47
 go_wp2
 go_loopw [1,5] (fun q i wr=>∃ (j:Nat) (k:Int),j≤n∧i = .int .i64 (j:Int)∧q = .int .i64 k∧(k0≤k∧k≤k0+5242880 * (j:Int))∧Mrk w wr∧Chg lo hi w wr)
  (fun _ i _=>n - (intOf i).toNat)
 case atStart=>exact ⟨0,k0,Nat.zero_le _,rfl,rfl,⟨by omega,by omega⟩,Mrk.refl _,Chg.refl _⟩
 case round =>
  obtain ⟨j,k,hj,rfl,rfl,⟨hk0,hk1⟩,hmk,hch⟩:=hrel
  have HM:Hid (Mrk w wr∧Chg lo hi w wr):=⟨hmk,hch⟩
  have HT:=HO.out.mrk hmk
  clear hmk hch
  by_cases hlt:j < n
  ·have hlt':(j:Int) < (n:Int):=by omega
   obtain ⟨x,hx⟩:∃ x,fs[j]? = some x:=⟨_,List.getElem?_eq_getElem (by rw [HT.1];exact hlt)⟩
   obtain ⟨hc,hxn,gp,hxa,hlo,hhi,hrow⟩:=HT.2 j x hx
   have HR:Hid (qN4 wr gp (x.n * 5)):=hrow
   have hgl:=zL wr ⟨g,j,none⟩ hc
   rw [hxa] at hc
   clear hx hrow HT
   go_wp2_with fail
   refine (QY4 lo hi gp x.n x.cap k wr hxn (by omega) (by omega) ⟨hlo,hhi⟩ HR.out).mono ?_
   rintro d w1 ⟨rfl,hm1,hc1⟩
   have HM1:Hid (Mrk w w1∧Chg lo hi w w1):=⟨HM.out.1.trans hm1,HM.out.2.trans hc1⟩
   have hxn':(x.n:Int)≤1048576:=by omega
   clear hm1 hc1 HM hc
   go_wp2_with fail
   exact ⟨⟨j+1,k+5 * (x.n:Int),by omega,by go_num,rfl,⟨by omega,by simp;omega⟩,HM1.out.1,HM1.out.2⟩,by simp [intOf];omega⟩
  ·have hjn:j=n:=by omega
   subst hjn
   go_wp2_with fail
   go_ret
   exact ⟨⟨k,rfl,hk0,hk1⟩,HM.out.1,HM.out.2⟩

structure ConfK (lo hi:Nat) (w:World) (d:qA4):Prop where
 ru:d.rn≤1048576∧∃ g,d.ra=some ⟨g,0,none⟩∧lo≤g∧g < hi∧qN4 w g (d.rn * 8)
 fo:d.fn≤1048576∧∃ g,d.fa=some ⟨g,0,none⟩∧qU4 lo hi w g d.fn d.fs
 cl:d.cn≤1048576∧∃ g,d.ca=some ⟨g,0,none⟩∧lo≤g∧g < hi∧qN4 w g d.cn
theorem ConfK.mrk {lo hi:Nat} {w w':World} {d:qA4} (h:ConfK lo hi w d) (k:Mrk w w'):ConfK lo hi w' d:=by
 obtain ⟨⟨a0,g,a1,a2,a3,a4⟩,⟨b0,g',b1,b2⟩,⟨c0,g'',c1,c2,c3,c4⟩⟩:=h
 exact ⟨⟨a0,g,a1,a2,a3,a4.mrk k⟩,⟨b0,g',b1,b2.mrk k⟩,⟨c0,g'',c1,c2,c3,c4.mrk k⟩⟩
structure qP6 (lo hi:Nat) (w:World) (T n:Nat) (ds:List qA4):Prop where
 ln:ds.length=n
 at5:∀ (j:Nat) (d:qA4),ds[j]? = some d → (∃ x,w.cell? ⟨T,j * 5,none⟩=some (.int .i64 x))∧(∃ x,w.cell? ⟨T,j * 5+1,none⟩=some (.int .i64 x))∧w.cell? ⟨T,j * 5+2,none⟩=some (.slice d.ra d.rn d.rc)∧w.cell? ⟨T,j * 5+3,none⟩=some (.slice d.fa d.fn d.fc)∧w.cell? ⟨T,j * 5+4,none⟩=some (.slice d.ca d.cn d.cc)∧ConfK lo hi w d
 fr:∀ o,w.frozen? ⟨T,o,none⟩=false
 lo:lo≤T∧T < hi
theorem qP6.mrk {lo hi:Nat} {w w':World} {T n:Nat} {ds:List qA4} (h:qP6 lo hi w T n ds) (k:Mrk w w'):qP6 lo hi w' T n ds :=
 ⟨h.ln,fun j d e=>by
  obtain ⟨⟨x,h0⟩,⟨y,h1⟩,h2,h3,h4,h5⟩:=h.at5 j d e
  exact ⟨k.it _ x h0,k.it _ y h1,k.sl _ _ _ _ h2,k.sl _ _ _ _ h3,k.sl _ _ _ _ h4,h5.mrk k⟩,fun o=>(k.fr _).trans (h.fr o),h.lo⟩
theorem QO1 (lo hi T n cap:Nat) (k0:Int) (ds:List qA4) (w:World) (hn:n≤1048576) (h0:0≤k0) (h1:k0≤1000000000000000000) (h:qP6 lo hi w T n ds) :
  Calls Tryz.prog 21 #[.slice (some ⟨T,0,none⟩) n cap,.int .i64 k0] w fun e w'=>(∃ k:Int,e = .returned (.int .i64 k)∧k0≤k∧k≤k0+5497567576066 * (n:Int))∧Mrk w w'∧Chg lo hi w w':=by
 have HO:Hid (qP6 lo hi w T n ds):=h
 clear h
 have hn':(n:Int)≤1048576:=by omega
 go_enter Tryz.func21,Tryz.ntmps21
 go_wp2
 go_loopw [1,5] (fun q i wr=>∃ (j:Nat) (k:Int),j≤n∧i = .int .i64 (j:Int)∧q = .int .i64 k∧(k0≤k∧k≤k0+5497567576066 * (j:Int))∧Mrk w wr∧Chg lo hi w wr)
  (fun _ i _=>n - (intOf i).toNat)
 case atStart=>exact ⟨0,k0,Nat.zero_le _,rfl,rfl,⟨by omega,by omega⟩,Mrk.refl _,Chg.refl _⟩
 case round =>
  obtain ⟨j,k,hj,rfl,rfl,⟨hk0,hk1⟩,hmk,hch⟩:=hrel
  have HM:Hid (Mrk w wr∧Chg lo hi w wr):=⟨hmk,hch⟩
  have HT:Hid (qP6 lo hi wr T n ds):=HO.out.mrk hmk
  clear hmk hch
  by_cases hlt:j < n
  ·have hlt':(j:Int) < (n:Int):=by omega
   obtain ⟨d,hd⟩:∃ d,ds[j]? = some d:=⟨_,List.getElem?_eq_getElem (by rw [HT.out.ln];exact hlt)⟩
   obtain ⟨⟨x,c0⟩,⟨y,c1⟩,c2,c3,c4,hck⟩:=HT.out.at5 j d hd
   have HCK:Hid (ConfK lo hi wr d):=hck
   obtain ⟨⟨hrn,gr,hra,_⟩,⟨hfn,gf,hfa,_⟩,⟨hcn,gc,hca,_⟩⟩:=hck
   have f0:=HT.out.fr (j * 5)
   have f1:=HT.out.fr (j * 5+1)
   have hTl:=zL wr ⟨T,j * 5,none⟩ c0
   rw [hra] at c2
   rw [hfa] at c3
   rw [hca] at c4
   obtain ⟨W2,hW2⟩:∃ W2,W2=(wr.setCell ⟨T,j * 5,none⟩ (.int .i64 k)).setCell ⟨T,j * 5+1,none⟩ (.int .i64 (k+1)):=⟨_,rfl⟩
   have M2:Mrk wr W2:=by
    rw [hW2]
    obtain ⟨z,hz⟩:=(Mrk.set c0 k).it _ _ c1
    exact (Mrk.set c0 k).trans (Mrk.set hz (k+1))
   have C2:Chg lo hi wr W2:=by
    rw [hW2]
    exact (Chg.grown (qJ1 wr T (j * 5) _) (fun q e=>by cases e;exact HT.out.lo)).trans (Chg.grown (qJ1 _ T (j * 5+1) _) (fun q e=>by cases e;exact HT.out.lo))
   have HM2:Hid (Mrk w W2∧Chg lo hi w W2):=⟨HM.out.1.trans M2,HM.out.2.trans C2⟩
   have HD:Hid (ds[j]? = some d):=hd
   clear M2 C2 hd HM
   go_upto_region 8 with fail
   rw [← hW2]
   clear hW2 c0 c1 f0 f1 hTl
   have q2:=((HO.out.mrk HM2.out.1).at5 j d HD.out).2.2.1
   rw [hra] at q2
   have hTl:=zL W2 ⟨T,j * 5+2,none⟩ q2
   obtain ⟨⟨_,gr',hra',hrlo,hrhi,hrow⟩,_,_⟩:=((HO.out.mrk HM2.out.1).at5 j d HD.out).2.2.2.2.2
   rw [hra] at hra'
   cases hra'
   have HR:Hid (qN4 W2 gr (d.rn * 8)):=hrow
   clear hrow c2 c3 c4
   go_wp2_with fail
   refine (QY3 lo hi gr d.rn d.rc _ W2 hrn ?h0 ?h1 ⟨hrlo,hrhi⟩ HR.out).mono ?_
   case h0=>omega
   case h1=>omega
   rintro e w3 ⟨rfl,m3,h3⟩
   have HM3:Hid (Mrk w w3∧Chg lo hi w w3):=⟨HM2.out.1.trans m3,HM2.out.2.trans h3⟩
   clear m3 h3 HM2 q2 hTl HR
   have q3:=((HO.out.mrk HM3.out.1).at5 j d HD.out).2.2.2.1
   rw [hfa] at q3
   have hTl:=zL w3 ⟨T,j * 5+3,none⟩ q3
   obtain ⟨_,⟨_,gf',hfa',hft⟩,_⟩:=((HO.out.mrk HM3.out.1).at5 j d HD.out).2.2.2.2.2
   rw [hfa] at hfa'
   cases hfa'
   have HF:Hid (qU4 lo hi w3 gf d.fn d.fs):=hft
   have hrn':(d.rn:Int)≤1048576:=by omega
   clear hft
   go_wp2_with fail
   refine (QY6 lo hi gf d.fn d.fc _ d.fs w3 hfn ?h0 ?h1 HF.out).mono ?_
   case h0=>omega
   case h1=>omega
   rintro e w4 ⟨⟨k4,rfl,k40,k41⟩,m4,h4⟩
   have HM4:Hid (Mrk w w4∧Chg lo hi w w4):=⟨HM3.out.1.trans m4,HM3.out.2.trans h4⟩
   clear m4 h4 HM3 q3 hTl HF
   have q4:=((HO.out.mrk HM4.out.1).at5 j d HD.out).2.2.2.2.1
   rw [hca] at q4
   have hTl:=zL w4 ⟨T,j * 5+4,none⟩ q4
   obtain ⟨_,_,⟨_,gc',hca',hclo,hchi,hcrow⟩⟩:=((HO.out.mrk HM4.out.1).at5 j d HD.out).2.2.2.2.2
   rw [hca] at hca'
   cases hca'
   have HC:Hid (qN4 w4 gc d.cn):=hcrow
   have hfn':(d.fn:Int)≤1048576:=by omega
   have hcn':(d.cn:Int)≤1048576:=by omega
   clear hcrow
   go_wp2_with fail
   refine (markIntsK_c lo hi gc d.cn d.cc k4 w4 hcn (by omega) (by omega) ⟨hclo,hchi⟩ HC.out).mono ?_
   rintro e w5 ⟨rfl,m5,h5⟩
   have HM5:Hid (Mrk w w5∧Chg lo hi w w5):=⟨HM4.out.1.trans m5,HM4.out.2.trans h5⟩
   clear m5 h5 HM4 q4 hTl HC
   go_wp2_with fail
   exact ⟨⟨j+1,k4+1 * (d.cn:Int),by omega,by go_num,by congr 1;omega,⟨by omega,by simp;omega⟩,HM5.out.1,HM5.out.2⟩,by simp [intOf];omega⟩
  ·have hjn:j=n:=by omega
   subst hjn
   go_wp2_with fail
   go_ret
   exact ⟨⟨k,rfl,hk0,hk1⟩,HM.out.1,HM.out.2⟩
theorem qH1.tab {w0 w:World} {n:Nat} {cs ds:List qA4} (h:qH1 w0 w n cs ds n) (hle:∀ (k:Nat) d,ds[k]? = some d → qD6 1048576 d):qP6 w0.heap.size w.heap.size w w0.heap.size n ds:=by
 refine ⟨h.ln,fun j d e=>?_,h.rm.2,Nat.le_refl _,h.lt⟩
 obtain ⟨a0,a1,a2,a3,a4⟩:=h.ca j d e
 have hn:=h.nw j d e
 have hl:=hle j d e
 refine ⟨⟨_,a0⟩,⟨_,a1⟩,a2,a3,a4,⟨hl.rules,?_⟩,⟨hl.forms,?_⟩,⟨hl.classes,?_⟩⟩
 ·obtain ⟨_,g,hg,hlo,hhi,hroom⟩:=hn.nw.rules
  refine ⟨g,hg,by omega,hhi,fun q hq=>?_,hroom.2⟩
  have hr:=hn.rd.rules
  rw [hg] at hr
  obtain ⟨b,off,eb,hat⟩:=hr.2 (by omega)
  cases eb
  have hx:d.zs[q / 8]? = some (d.zs[q / 8]'(by rw [hr.1];omega)):=List.getElem?_eq_getElem _
  obtain ⟨c0,c1,c2,c3,c4,c5,c6,c7⟩:=hat _ _ hx
  simp only [Nat.zero_add] at c0 c1 c2 c3 c4 c5 c6 c7
  have hm:q % 8=0 ∨ q % 8=1 ∨ q % 8=2 ∨ q % 8=3 ∨ q % 8=4 ∨ q % 8=5 ∨ q % 8=6 ∨ q % 8=7:=by omega
  rcases hm with hm | hm | hm | hm | hm | hm | hm | hm
  ·exact ⟨_,by rw [show q=q / 8 * 8 by omega];exact c0⟩
  ·exact ⟨_,by rw [show q=q / 8 * 8+1 by omega];exact c1⟩
  ·exact ⟨_,by rw [show q=q / 8 * 8+2 by omega];exact c2⟩
  ·exact ⟨_,by rw [show q=q / 8 * 8+3 by omega];exact c3⟩
  ·exact ⟨_,by rw [show q=q / 8 * 8+4 by omega];exact c4⟩
  ·exact ⟨_,by rw [show q=q / 8 * 8+5 by omega];exact c5⟩
  ·exact ⟨_,by rw [show q=q / 8 * 8+6 by omega];exact c6⟩
  ·exact ⟨_,by rw [show q=q / 8 * 8+7 by omega];exact c7⟩
 ·obtain ⟨_,g,hg,hlo,hhi,hroom⟩:=hn.nw.forms
  refine ⟨g,hg,hn.rd.forms.1,fun q x hx=>⟨?_,?_⟩⟩
  ·have hf:=hn.rd.forms
   rw [hg] at hf
   have hq:q < d.fn:=by rw [← hf.1];exact (List.getElem?_eq_some_iff.1 hx).1
   obtain ⟨b,off,eb,hat⟩:=hf.2 (by omega)
   cases eb
   have:=(hat q x hx).1
   rw [Nat.zero_add] at this
   exact this
  ·obtain ⟨_,gp,hgp,hplo,hphi,hproom⟩:=hn.nw.parts q x hx
   refine ⟨hl.parts q x hx,gp,hgp,by omega,hphi,fun r hr=>?_,hproom.2⟩
   have hf:=hn.rd.forms
   have hq:q < d.fn:=by rw [← hf.1];exact (List.getElem?_eq_some_iff.1 hx).1
   obtain ⟨b,off,eb,hat⟩:=hf.2 (by omega)
   have hp:=(hat q x hx).2
   rw [hgp] at hp
   obtain ⟨b',off',eb',hat'⟩:=hp.2 (by omega)
   cases eb'
   have hy:x.ps[r / 5]? = some (x.ps[r / 5]'(by rw [hp.1];omega)):=List.getElem?_eq_getElem _
   obtain ⟨c0,c1,c2,c3,c4⟩:=hat' _ _ hy
   simp only [Nat.zero_add] at c0 c1 c2 c3 c4
   have hm:r % 5=0 ∨ r % 5=1 ∨ r % 5=2 ∨ r % 5=3 ∨ r % 5=4:=by omega
   rcases hm with hm | hm | hm | hm | hm
   ·exact ⟨_,by rw [show r=r / 5 * 5 by omega];exact c0⟩
   ·exact ⟨_,by rw [show r=r / 5 * 5+1 by omega];exact c1⟩
   ·exact ⟨_,by rw [show r=r / 5 * 5+2 by omega];exact c2⟩
   ·exact ⟨_,by rw [show r=r / 5 * 5+3 by omega];exact c3⟩
   ·exact ⟨_,by rw [show r=r / 5 * 5+4 by omega];exact c4⟩
 ·obtain ⟨_,g,hg,hlo,hhi,hroom⟩:=hn.nw.classes
  refine ⟨g,hg,by omega,hhi,fun q hq=>?_,hroom.2⟩
  have hr:=hn.rd.classes
  rw [hg] at hr
  obtain ⟨b,off,eb,hat⟩:=hr.2 (by omega)
  cases eb
  have hx:d.cs[q]? = some (d.cs[q]'(by rw [hr.1];omega)):=List.getElem?_eq_getElem _
  have:=hat _ _ hx
  rw [Nat.zero_add] at this
  exact ⟨_,this⟩

theorem qN4.below {w w':World} {g m:Nat} (h:qN4 w g m) (hg:g < w.heap.size) (hb:Below w.heap.size w w'):qN4 w' g m :=
 ⟨fun j hj=>by obtain ⟨x,e⟩:=h.1 j hj;exact ⟨x,(hb.cell (p:=⟨g,j,none⟩) hg).trans e⟩,fun j=>(hb.frozen (p:=⟨g,j,none⟩) hg).trans (h.2 j)⟩
theorem QP0.below {lo hi:Nat} {w w':World} {x:qE7} (h:QP0 lo hi w x) (hh:hi≤w.heap.size) (hb:Below w.heap.size w w'):QP0 lo hi w' x:=by
 obtain ⟨h0,g,h1,h2,h3,h4⟩:=h
 exact ⟨h0,g,h1,h2,h3,h4.below (by omega) hb⟩
theorem qU4.below {lo hi:Nat} {w w':World} {g n:Nat} {fs:List qE7} (h:qU4 lo hi w g n fs) (hh:hi≤w.heap.size) (hb:Below w.heap.size w w'):qU4 lo hi w' g n fs :=
 ⟨h.1,fun j x e=>⟨(hb.cell (p:=⟨g,j,none⟩) (zL w ⟨g,j,none⟩ (h.2 j x e).1)).trans (h.2 j x e).1,(h.2 j x e).2.below hh hb⟩⟩
theorem ConfK.below {lo hi:Nat} {w w':World} {d:qA4} (h:ConfK lo hi w d) (hh:hi≤w.heap.size) (hb:Below w.heap.size w w'):ConfK lo hi w' d:=by
 obtain ⟨⟨a0,g,a1,a2,a3,a4⟩,⟨b0,g',b1,b2⟩,⟨c0,g'',c1,c2,c3,c4⟩⟩:=h
 exact ⟨⟨a0,g,a1,a2,a3,a4.below (by omega) hb⟩,⟨b0,g',b1,b2.below hh hb⟩,⟨c0,g'',c1,c2,c3,c4.below (by omega) hb⟩⟩
theorem qP6.below {lo hi:Nat} {w w':World} {T n:Nat} {ds:List qA4} (h:qP6 lo hi w T n ds) (hh:hi≤w.heap.size) (hb:Below w.heap.size w w'):qP6 lo hi w' T n ds:=by
 have hT:T < w.heap.size:=by have:=h.lo.2;omega
 refine ⟨h.ln,fun j d e=>?_,fun o=>(hb.frozen (p:=⟨T,o,none⟩) hT).trans (h.fr o),h.lo⟩
 obtain ⟨⟨x,h0⟩,⟨y,h1⟩,h2,h3,h4,h5⟩:=h.at5 j d e
 have k:∀ o,w'.cell? ⟨T,o,none⟩=w.cell? ⟨T,o,none⟩:=fun o=>hb.cell (p:=⟨T,o,none⟩) hT
 exact ⟨⟨x,(k _).trans h0⟩,⟨y,(k _).trans h1⟩,(k _).trans h2,(k _).trans h3,(k _).trans h4,h5.below hh hb⟩
structure qJ9 (P:World → Prop) (W:World):Prop where
 out:P W
 kept:∀ X X':World,P X → Below X.heap.size X X' → P X'
theorem qJ9.below {P:World → Prop} {W W':World} (h:qJ9 P W) (hb:Below W.heap.size W W'):qJ9 P W':=⟨h.kept _ _ h.out hb,h.kept⟩
def CpB (lo hi n:Nat) (cs:List qA4) (X:World):Prop:=∃ ds,qA6 X (some ⟨lo,0,none⟩) n ds∧qP8 cs ds∧qF8 1048576 ds∧qP6 lo hi X lo n ds∧hi≤X.heap.size
theorem qH1.cpB {w0 w wA:World} {a:Option Addr} {n:Nat} {cs ds:List qA4} (h:qH1 w0 w n cs ds n) (hn:n≤1048576) (hi:qA6 wA a n cs) (hl:∀ (k:Nat) c,cs[k]? = some c → qD6 1048576 c):qJ9 (CpB w0.heap.size w.heap.size n cs) w :=
 ⟨⟨ds,h.isIn,h.same hi.len,h.le hn hi hl,h.tab (h.le hn hi hl).1,Nat.le_refl _⟩,fun X X' hX hb=>by
  obtain ⟨es,h1,h2,h3,h4,h5⟩:=hX
  exact ⟨es,h1.below hb,h2,h3,h4.below h5 hb,Nat.le_trans h5 hb.size⟩⟩
theorem eqCpB_c {lo hi lo' hi' n:Nat} {cs:List qA4} (ca cb:Nat) {W:World} (hn:n≤1048576) (h:CpB lo hi n cs W) (h':CpB lo' hi' n cs W) :
  Calls Tryz.prog 15 #[.slice (some ⟨lo,0,none⟩) n ca,.slice (some ⟨lo',0,none⟩) n cb] W fun e w'=>e = .returned (.bool true)∧Below W.heap.size W w':=by
 obtain ⟨ds,h1,h2,h3,_,_⟩:=h
 obtain ⟨es,k1,k2,_,_,_⟩:=h'
 exact QO5 _ _ n ca cb ds es W hn h3.1 (QP5 h2 k2) h1 k1

structure TabL (lo hi:Nat) (w:World) (T n:Nat) (ds:List qA4):Prop where
 tab:qP6 lo hi w T n ds
 fa:∀ (j:Nat) d,ds[j]? = some d → ∀ g,d.fa=some ⟨g,0,none⟩ → lo≤g∧g < hi
theorem qN4.blk {w w':World} {g m:Nat} (h:qN4 w g m) (hb:w'.heap[g]? = w.heap[g]?):qN4 w' g m :=
 ⟨fun j hj=>by obtain ⟨x,e⟩:=h.1 j hj;exact ⟨x,(World.cell?_of_block (a:=⟨g,j,none⟩) hb).trans e⟩,fun j=>(World.frozen?_of_block (a:=⟨g,j,none⟩) hb).trans (h.2 j)⟩
theorem QP0.blk {lo hi:Nat} {w w':World} {x:qE7} (h:QP0 lo hi w x) (hk:∀ b,lo≤b → b < hi → w'.heap[b]? = w.heap[b]?):QP0 lo hi w' x:=by
 obtain ⟨h0,g,h1,h2,h3,h4⟩:=h
 exact ⟨h0,g,h1,h2,h3,h4.blk (hk g h2 h3)⟩
theorem TabL.blk {lo hi:Nat} {w w':World} {T n:Nat} {ds:List qA4} (h:TabL lo hi w T n ds) (hk:∀ b,lo≤b → b < hi → w'.heap[b]? = w.heap[b]?):TabL lo hi w' T n ds:=by
 have hT:=hk T h.tab.lo.1 h.tab.lo.2
 have k:∀ o,w'.cell? ⟨T,o,none⟩=w.cell? ⟨T,o,none⟩:=fun o=>World.cell?_of_block (a:=⟨T,o,none⟩) hT
 refine ⟨⟨h.tab.ln,fun j d e=>?_,fun o=>(World.frozen?_of_block (a:=⟨T,o,none⟩) hT).trans (h.tab.fr o),h.tab.lo⟩,h.fa⟩
 obtain ⟨⟨x,h0⟩,⟨y,h1⟩,h2,h3,h4,⟨⟨a0,g,a1,a2,a3,a4⟩,⟨b0,g',b1,b2⟩,⟨c0,g'',c1,c2,c3,c4⟩⟩⟩:=h.tab.at5 j d e
 have hg':=h.fa j d e g' b1
 refine ⟨⟨x,(k _).trans h0⟩,⟨y,(k _).trans h1⟩,(k _).trans h2,(k _).trans h3,(k _).trans h4,⟨⟨a0,g,a1,a2,a3,a4.blk (hk g a2 a3)⟩,⟨b0,g',b1,b2.1,fun q z hz=>⟨(World.cell?_of_block (a:=⟨g',q,none⟩) (hk g' hg'.1 hg'.2)).trans (b2.2 q z hz).1,(b2.2 q z hz).2.blk hk⟩⟩,⟨c0,g'',c1,c2,c3,c4.blk (hk g'' c2 c3)⟩⟩⟩
theorem qH1.tabH {w0 w wA:World} {a:Option Addr} {n:Nat} {cs ds:List qA4} (h:qH1 w0 w n cs ds n) (hn:n≤1048576) (hi:qA6 wA a n cs) (hl:∀ (k:Nat) c,cs[k]? = some c → qD6 1048576 c):qB9 w0.heap.size w.heap.size (fun X=>∃ ds,TabL w0.heap.size w.heap.size X w0.heap.size n ds) w:=by
 refine ⟨⟨ds,h.tab (h.le hn hi hl).1,fun j d e g hg=>?_⟩,Nat.le_refl _,fun X X' hX hk=>?_⟩
 ·obtain ⟨_,g',hg',hlo,hhi,_⟩:=(h.nw j d e).nw.forms
  rw [hg] at hg'
  cases hg'
  exact ⟨by omega,hhi⟩
 ·obtain ⟨es,h1⟩:=hX
  exact ⟨es,h1.blk hk⟩
theorem markTab_c {lo hi n:Nat} (ca:Nat) (k0:Int) {W:World} (hn:n≤1048576) (h0:0≤k0) (h1:k0≤1000000000000000000) (h:∃ ds,TabL lo hi W lo n ds) :
  Calls Tryz.prog 21 #[.slice (some ⟨lo,0,none⟩) n ca,.int .i64 k0] W fun e w'=>∃ k:Int,e = .returned (.int .i64 k)∧(k0≤k∧k≤k0+5497567576066 * (n:Int))∧Chg lo hi W w':=by
 obtain ⟨ds,h4⟩:=h
 refine (QO1 lo hi lo n ca k0 ds W hn h0 h1 h4.tab).mono ?_
 rintro e w' ⟨⟨k,rfl,k1,k2⟩,_,hc⟩
 exact ⟨k,rfl,⟨k1,k2⟩,hc⟩

end Go.Proofs.YtlpgapdlepbgbaaGreatDoor
