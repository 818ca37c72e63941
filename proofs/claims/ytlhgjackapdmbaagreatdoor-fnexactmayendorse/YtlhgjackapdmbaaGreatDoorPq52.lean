/- Contracts. -/
import Derived.Test.YtlhgjackapdmbaaGreatDoorPq48
import Derived.Test.YtlhgjackapdmbaaGreatDoorPq50
import Derived.Test.YtlhgjackapdmbaaGreatDoorPq51
namespace Go.Proofs.YtlhgjackapdmbaaGreatDoor
set_option maxRecDepth 100000
set_option maxHeartbeats 8000000
open Go.RowKit
set_option linter.unusedVariables false
set_option linter.unusedSimpArgs false

theorem qO5.env {cs ds:List qA5} {E:qH3} (h:qO5 cs ds) (hE:qL7 E cs) (hl:qF2 1048576 ds):qL7 E ds:=by
 refine ⟨?_,fun p d hd=>?_⟩
 ·rw [hE.es]
  refine List.ext_getElem? (fun j=>?_)
  rw [List.getElem?_map,List.getElem?_map]
  cases e:ds[j]? with
  | none =>
   have : ds.length≤j:=by simpa using e
   rw [List.getElem?_eq_none (by rw [← h.ln];exact this)]
  | some d =>
   obtain ⟨c,hc,hs⟩:=h.get e
   rw [hc]
   simp [hs.e]
 ·obtain ⟨c,hc,hs⟩:=h.get hd
  obtain ⟨⟨_,_,_,h4⟩,gs,g1,g2,g3⟩:=hE.cf p c hc
  exact ⟨⟨hl.le p d hd,(hl.rc p d hd).1,(hl.rc p d hd).2,(code_same hs).trans h4⟩,gs,by rw [hs.zs];exact g1,fun f s=>by rw [hs.ps];exact g2 f s,by rw [hs.cs];exact g3⟩
theorem QV9 {E:qH3} {cs ds:List qA5} {w:World} {L:Nat} {r y:qG5} (h:qO5 cs ds) (hy:qW1 w L r y):qN1 E ds y=qN1 E cs r:=by
 unfold qN1 qH6 f0C
 rw [h.cfs,h.f0,hy.i,hy.u,hy.sn,hy.ss,hy.ls]
theorem eqCopies {L L':Nat} {r y z:qG5} (w:World) (hy:qW1 w L r y) (hz:qW1 w L' r z) (hl:r.ss.length=r.sn∧r.ls.length=r.ln) (hle:qL1 1048576 r) :
  Calls Tryz.prog 14 #[.agg #[.int .i64 y.i,.int .i64 y.u,.slice y.sa y.sn y.sc,.slice y.la y.ln y.lc],.agg #[.int .i64 z.i,.int .i64 z.u,.slice z.sa z.sn z.sc,.slice z.la z.ln z.lc]] w fun e w'=>e = .returned (.bool true)∧Below w.heap.size w w':=by
 have i1:=hy.isIn hl.1 hl.2
 have i2:=hz.isIn hl.1 hl.2
 have a1:=i1.said
 have a2:=i2.said
 have b1:=i1.locks
 have b2:=i2.locks
 rw [hy.sn,hy.ss] at a1
 rw [hz.sn,hz.ss] at a2
 rw [hy.ln,hy.ls] at b1
 rw [hz.ln,hz.ls] at b2
 rw [hy.i,hz.i,hy.u,hz.u,hy.sn,hz.sn,hy.ln,hz.ln]
 exact QN2 r.i r.u y.sa z.sa r.sn y.sc z.sc r.ss y.la z.la r.ln y.lc z.lc r.ls w hle.said hle.locks a1 a2 b1 b2
structure RF (w:World) (r:qG5) (a:Option Addr) (n:Nat) (cs:List qA5) (W:World):Prop where
 bl:Below w.heap.size w W
 lt:w.heap.size < W.heap.size
 bx:qU8 w.heap.size [.int .i64 r.i,.int .i64 r.u,.slice r.sa r.sn r.sc,.slice r.la r.ln r.lc] W
 ri:qD5 W r
 ci:qA6 W a n cs
 er:qM7 0 W
 hh:qD7 W
theorem RF.below {w:World} {r:qG5} {a:Option Addr} {n:Nat} {cs:List qA5} {W W':World} (h:RF w r a n cs W) (hb:Below W.heap.size W W'):RF w r a n cs W' :=
 ⟨h.bl.trans (hb.mono h.bl.size),Nat.lt_of_lt_of_le h.lt hb.size,((qU8.hold h.bx h.lt).below hb).out,h.ri.below hb,h.ci.below hb,h.er.below hb,h.hh.below hb⟩

section
attribute [local go_sem] fldRR0
theorem QQ8 (E:qH3) (r:qG5) (a:Option Addr) (m cap:Nat) (cs:List qA5) (x:StI) (w:World) (hr:qD5 w r) (hN:qI5 r) (hsm:∀ p,r.la=some p→∃ b0 o0,p=⟨b0,o0,none⟩∧b0 < w.heap.size) (hle:qL1 1048576 r) (hc:qA6 w a m cs) (hcl:qF2 1048576 cs) (hm:m≤1048576) (hEC:qB6 cs=0→qL7 E cs) :
  Calls Tryz.prog 26 #[.agg #[.int .i64 r.i,.int .i64 r.u,.slice r.sa r.sn r.sc,.slice r.la r.ln r.lc],.slice a m cap,.agg #[.int .i64 x.k,.int .i64 x.e,.int .i64 x.f,.int .i64 x.s,.int .i64 x.n]] w fun d w'=>RepA (qO3 E cs r x) r.i r.u (qJ2 r.ss x) (qG7 E r.ss r.ls x) w d w':=by
 obtain ⟨V,hV⟩:∃ V,V=((w.alloc (.cells #[.int .i64 r.i,.int .i64 r.u,.slice r.sa r.sn r.sc,.slice r.la r.ln r.lc] 33)).alloc (.cells #[.int .i64 x.k,.int .i64 x.e,.int .i64 x.f,.int .i64 x.s,.int .i64 x.n] 43)).alloc (.cells #[.int .i64 0,.int .i64 0,.int .i64 0,.slice none 0 0,.slice none 0 0] 47):=⟨_,rfl⟩
 have Z0:Hid (EV w r x V):=by show EV _ _ _ _;rw [hV];exact EV.new w r x
 obtain ⟨k,hk⟩:∃ k,qN1 E cs r=k:=⟨_,rfl⟩
 obtain ⟨S,hS⟩:∃ S,qJ2 r.ss x=S:=⟨_,rfl⟩
 obtain ⟨L,hL⟩:∃ L,qG7 E r.ss r.ls x=L:=⟨_,rfl⟩
 obtain ⟨K,hK⟩:∃ K,qO3 E cs r x=K:=⟨_,rfl⟩
 have HF:Hid (Calls Tryz.prog 33 #[.pointer (some ⟨w.heap.size,0,none⟩),.slice a m cap] V fun d w'=>d = .returned (.int .i64 k)∧Below V.heap.size V w'):=by
  show Calls _ _ _ _ _
  rw [← hk]
  exact l8Fault_c E _ r a m cap cs V Z0.out.rb (hr.below Z0.out.bl) hle (hc.below Z0.out.bl) hcl hm hEC
 have HEN:Hid (k=0→∀ W,EV w r x W→Calls Tryz.prog 49 #[.agg #[.int .i64 r.i,.int .i64 r.u,.slice r.sa r.sn r.sc,.slice r.la r.ln r.lc],.slice a m cap,.agg #[.int .i64 x.k,.int .i64 x.e,.int .i64 x.f,.int .i64 x.s,.int .i64 x.n]] W fun d w'=>EndS r K S L W d w'):=fun q W hW=>by
  obtain ⟨q1,q2⟩:=rep_ok (hk.trans q)
  have c1:=qS6 q1
  have hl:=hc.len
  have p:=QD6 r.sn r.ls (by rw [hr.said.1];exact Nat.le_refl _) q2
  rw [List.take_of_length_le (by rw [hr.said.1];exact Nat.le_refl _)] at p
  have z:=QE7 E r a m cap cs x W (hr.below hW.bl) hN (fun p' e=>by obtain ⟨b0,o0,e1,h1⟩:=hsm p' e;exact ⟨b0,o0,e1,Nat.lt_of_lt_of_le h1 hW.bl.size⟩) (hc.below hW.bl) (hEC q1) (by omega) (by omega) p
  have e:qD6 E r.ss r.ls x=K:=by rw [← hK];unfold qO3;rw [hk,if_pos q]
  rw [e,hS,hL] at z
  exact z
 have HK3:Hid (k≠0→K=k):=fun q=>by rw [← hK];unfold qO3;rw [hk,if_neg q]
 rw [hK,hS,hL]
 have hxa:=Z0.out.xa
 clear hk hr hN hsm hle hc hcl hEC hK hS hL hxa
 go_enter Tryz.func26,Tryz.ntmps26
 go_upto_region 1 with fail
 rw [← hV]
 clear hV
 go_wp2_with fail
 refine HF.out.mono ?_
 rintro d w1 ⟨rfl,hb1⟩
 have Z1:=qC1 (Z0.out.below hb1)
 clear hb1 Z0 HF
 by_cases hk:k=0
 ·have HE2:=qC1 (HEN.out hk w1 Z1.out)
  subst hk
  obtain ⟨v0,v1,v2,v3⟩:=Z1.out.rb
  obtain ⟨x0,x1,x2,x3,x4⟩:=Z1.out.xa
  simp only [Nat.zero_add] at x0 x1 x2 x3 x4
  have hvl:w.heap.size < w1.heap.size:=by have:=Z1.out.lt;omega
  have hxl:w.heap.size+1 < w1.heap.size:=by have:=Z1.out.lt;omega
  go_wp2_with fail
  refine HE2.out.mono ?_
  rintro d w2 ⟨hb2,h1,h2⟩
  have Z2:=qC1 (Z1.out.below hb2)
  have hs1:=Z1.out.lt
  have hs0:=Z1.out.bl.size
  clear hb2 Z1 HE2 HEN v0 v1 v2 v3 x0 x1 x2 x3 x4 hvl hxl
  have z0:=Z2.out.rs.1 0 _ rfl
  have z1:=Z2.out.rs.1 1 _ rfl
  have z2:=Z2.out.rs.1 2 _ rfl
  have z3:=Z2.out.rs.1 3 _ rfl
  have z4:=Z2.out.rs.1 4 _ rfl
  have f0:=Z2.out.rs.2 0
  have f1:=Z2.out.rs.2 1
  have f2:=Z2.out.rs.2 2
  have f3:=Z2.out.rs.2 3
  have f4:=Z2.out.rs.2 4
  have hzl:=Z2.out.lt
  by_cases hK0:K=0
  ·obtain ⟨sa,sc,la,lc,rfl,ho1,ho2⟩:=h2 hK0
   subst hK0
   have O1:=qC1 ho1
   have O2:=qC1 ho2
   clear h1 h2 ho1 ho2
   go_wp2_with fail
   refine bodyPost_ret (v:=.agg #[.int .i64 0,.int .i64 r.i,.int .i64 r.u,.slice sa S.length sc,.slice la L.length lc]) (by simp [results,Tryz.results26,go_sem,z0,z1,z2,z3,z4,hzl]) rfl ?_
   refine ⟨((((Z2.out.bl.setCell (by show w.heap.size≤w.heap.size+2;omega) _).setCell (by show w.heap.size≤w.heap.size+2;omega) _).setCell (by show w.heap.size≤w.heap.size+2;omega) _).setCell (by show w.heap.size≤w.heap.size+2;omega) _).setCell (by show w.heap.size≤w.heap.size+2;omega) _,fun q=>absurd rfl q,fun _=>⟨sa,sc,la,lc,rfl,qA3 (qC2 O1.out hs0) (fun g e=>?_),qA3 (qA8 O2.out hs0) (fun g e=>?_)⟩⟩
   ·obtain ⟨cur,hcc,hgg⟩:=qD2 O1.out e
    rw [Below.heap_setCell _ _ _ _ (by show g≠w.heap.size+2;omega),Below.heap_setCell _ _ _ _ (by show g≠w.heap.size+2;omega),Below.heap_setCell _ _ _ _ (by show g≠w.heap.size+2;omega),Below.heap_setCell _ _ _ _ (by show g≠w.heap.size+2;omega),Below.heap_setCell _ _ _ _ (by show g≠w.heap.size+2;omega)]
   ·obtain ⟨cur,hcc,hgg⟩:=qC9 O2.out e
    rw [Below.heap_setCell _ _ _ _ (by show g≠w.heap.size+2;omega),Below.heap_setCell _ _ _ _ (by show g≠w.heap.size+2;omega),Below.heap_setCell _ _ _ _ (by show g≠w.heap.size+2;omega),Below.heap_setCell _ _ _ _ (by show g≠w.heap.size+2;omega),Below.heap_setCell _ _ _ _ (by show g≠w.heap.size+2;omega)]
  ·obtain rfl:=h1 hK0
   clear h1 h2
   go_wp2_with fail
   refine bodyPost_ret (v:=.agg #[.int .i64 K,.int .i64 0,.int .i64 0,.slice none 0 0,.slice none 0 0]) (by simp [results,Tryz.results26,go_sem,z0,z1,z2,z3,z4,hzl]) rfl ?_
   exact ⟨((((Z2.out.bl.setCell (by show w.heap.size≤w.heap.size+2;omega) _).setCell (by show w.heap.size≤w.heap.size+2;omega) _).setCell (by show w.heap.size≤w.heap.size+2;omega) _).setCell (by show w.heap.size≤w.heap.size+2;omega) _).setCell (by show w.heap.size≤w.heap.size+2;omega) _,fun _=>rfl,fun q=>absurd q hK0⟩
 ·have kb:(k != 0)=true:=by simp [hk]
  have HK4:=qC1 (HK3.out hk)
  have z0:=Z1.out.rs.1 0 _ rfl
  have z1:=Z1.out.rs.1 1 _ rfl
  have z2:=Z1.out.rs.1 2 _ rfl
  have z3:=Z1.out.rs.1 3 _ rfl
  have z4:=Z1.out.rs.1 4 _ rfl
  have f0:=Z1.out.rs.2 0
  have f1:=Z1.out.rs.2 1
  have f2:=Z1.out.rs.2 2
  have f3:=Z1.out.rs.2 3
  have f4:=Z1.out.rs.2 4
  have hzl:=Z1.out.lt
  go_wp2_with fail
  refine bodyPost_ret (v:=.agg #[.int .i64 k,.int .i64 0,.int .i64 0,.slice none 0 0,.slice none 0 0]) (by simp [results,Tryz.results26,go_sem,z0,z1,z2,z3,z4,hzl]) rfl ?_
  rw [HK4.out]
  exact ⟨((((Z1.out.bl.setCell (by show w.heap.size≤w.heap.size+2;omega) _).setCell (by show w.heap.size≤w.heap.size+2;omega) _).setCell (by show w.heap.size≤w.heap.size+2;omega) _).setCell (by show w.heap.size≤w.heap.size+2;omega) _).setCell (by show w.heap.size≤w.heap.size+2;omega) _,fun _=>rfl,fun q=>absurd q hk⟩
theorem specMay_c (E:qH3) (r:qG5) (a:Option Addr) (m cap:Nat) (cs:List qA5) (x:StI) (w:World) (hr:qD5 w r) (hN:qI5 r) (hsm:∀ p,r.la=some p→∃ b0 o0,p=⟨b0,o0,none⟩∧b0 < w.heap.size) (hle:qL1 1048576 r) (hc:qA6 w a m cs) (hcl:qF2 1048576 cs) (hm:m≤1048576) (hEC:qB6 cs=0→qL7 E cs) :
  Calls Tryz.prog 16 #[.agg #[.int .i64 r.i,.int .i64 r.u,.slice r.sa r.sn r.sc,.slice r.la r.ln r.lc],.slice a m cap,.agg #[.int .i64 x.k,.int .i64 x.e,.int .i64 x.f,.int .i64 x.s,.int .i64 x.n]] w fun d w'=>d = .returned (.int .i64 (qO3 E cs r x))∧Below w.heap.size w w':=by
 obtain ⟨V,hV⟩:∃ V,V=(w.alloc (.cells #[.int .i64 r.i,.int .i64 r.u,.slice r.sa r.sn r.sc,.slice r.la r.ln r.lc] 33)).alloc (.cells #[.int .i64 x.k,.int .i64 x.e,.int .i64 x.f,.int .i64 x.s,.int .i64 x.n] 43):=⟨_,rfl⟩
 have BV:Hid (Below w.heap.size w V):=by show Below _ _ _;rw [hV];exact (zN).alloc (by simp) _
 have XV:qU8 w.heap.size [.int .i64 r.i,.int .i64 r.u,.slice r.sa r.sn r.sc,.slice r.la r.ln r.lc] V:=by
  rw [hV]
  exact ((qE5 w _ _).below (zN)).out
 have YV:qU8 (w.heap.size+1) [.int .i64 x.k,.int .i64 x.e,.int .i64 x.f,.int .i64 x.s,.int .i64 x.n] V:=by
  have e:w.heap.size+1=(w.alloc (.cells #[.int .i64 r.i,.int .i64 r.u,.slice r.sa r.sn r.sc,.slice r.la r.ln r.lc] 33)).heap.size:=by simp
  rw [hV,e]
  exact (qE5 _ _ _).out
 have hVl:w.heap.size+1 < V.heap.size:=by rw [hV];simp
 have hVl0:w.heap.size < V.heap.size:=by omega
 obtain ⟨K,hK⟩:∃ K,qO3 E cs r x=K:=⟨_,rfl⟩
 have HEN:Hid (Calls Tryz.prog 26 #[.agg #[.int .i64 r.i,.int .i64 r.u,.slice r.sa r.sn r.sc,.slice r.la r.ln r.lc],.slice a m cap,.agg #[.int .i64 x.k,.int .i64 x.e,.int .i64 x.f,.int .i64 x.s,.int .i64 x.n]] V fun d w'=>RepA K r.i r.u (qJ2 r.ss x) (qG7 E r.ss r.ls x) V d w'):=by
  show Calls _ _ _ _ _
  rw [← hK]
  exact QQ8 E r a m cap cs x V (hr.below BV.out) hN (fun p' e=>by obtain ⟨b0,o0,e1,h1⟩:=hsm p' e;exact ⟨b0,o0,e1,Nat.lt_of_lt_of_le h1 BV.out.size⟩) hle (hc.below BV.out) hcl hm hEC
 rw [hK]
 have v0:=XV 0 _ rfl
 have v1:=XV 1 _ rfl
 have v2:=XV 2 _ rfl
 have v3:=XV 3 _ rfl
 have y0:=YV 0 _ rfl
 have y1:=YV 1 _ rfl
 have y2:=YV 2 _ rfl
 have y3:=YV 3 _ rfl
 have y4:=YV 4 _ rfl
 clear XV YV hK hr hN hsm hle hc hcl hEC
 go_enter Tryz.func16,Tryz.ntmps16
 go_upto_region 1 with fail
 rw [← hV]
 clear hV
 go_wp2_with fail
 refine HEN.out.mono ?_
 rintro d w1 ⟨hb1,h1,h2⟩
 have B1:=qC1 (BV.out.trans (hb1.mono BV.out.size))
 clear hb1 v0 v1 v2 v3 y0 y1 y2 y3 y4
 by_cases hk:K=0
 ·obtain ⟨sa,sc,la,lc,rfl,_,_⟩:=h2 hk
  subst hk
  clear h1 h2
  go_wp2_with fail
  go_ret
  exact ⟨rfl,B1.out⟩
 ·obtain rfl:=h1 hk
  clear h1 h2
  go_wp2_with fail
  go_ret
  exact ⟨rfl,B1.out⟩
end

theorem QL6 {E:qH3} {cs ds:List qA5} {w:World} {L:Nat} {r y:qG5} (x:StI) (h:qO5 cs ds) (hy:qW1 w L r y):qO3 E ds y x=qO3 E cs r x:=by
 unfold qO3
 rw [QV9 h hy,hy.ss,hy.ls]
theorem newNil {w:World} {L:Nat} {r y:qG5} (h:qW1 w L r y):qI5 y:=by
 obtain ⟨g,e,_⟩:=h.la
 exact ⟨fun q=>absurd (h.sa.symm.trans q) (by simp),fun q=>absurd (e.symm.trans q) (by simp)⟩
theorem newAt {w:World} {L:Nat} {r y:qG5} (h:qW1 w L r y):∀ p,y.la=some p→∃ b0 o0,p=⟨b0,o0,none⟩∧b0 < w.heap.size:=fun p q=>by
 obtain ⟨g,e,_,hg,_⟩:=h.la
 rw [e] at q
 cases q
 exact ⟨g,0,rfl,hg⟩
structure RX (w:World) (r:qG5) (a:Option Addr) (n:Nat) (cs:List qA5) (x:StI) (W:World):Prop where
 rf:RF w r a n cs W
 sx:qU8 (w.heap.size+1) [.int .i64 x.k,.int .i64 x.e,.int .i64 x.f,.int .i64 x.s,.int .i64 x.n] W
 lt:w.heap.size+1 < W.heap.size
theorem RX.below {w:World} {r:qG5} {a:Option Addr} {n:Nat} {cs:List qA5} {x:StI} {W W':World} (h:RX w r a n cs x W) (hb:Below W.heap.size W W'):RX w r a n cs x W' :=
 ⟨h.rf.below hb,((qU8.hold h.sx h.lt).below hb).out,Nat.lt_of_lt_of_le h.lt hb.size⟩
theorem RX.new (w:World) (r:qG5) (a:Option Addr) (n:Nat) (cs:List qA5) (x:StI) (hr:qD5 w r) (hc:qA6 w a n cs) (hE:qM7 0 w∧qD7 w):RX w r a n cs x ((w.alloc (.cells #[.int .i64 r.i,.int .i64 r.u,.slice r.sa r.sn r.sc,.slice r.la r.ln r.lc] 25)).alloc (.cells #[.int .i64 x.k,.int .i64 x.e,.int .i64 x.f,.int .i64 x.s,.int .i64 x.n] 41)):=by
 have A0:Below w.heap.size w ((w.alloc (.cells #[.int .i64 r.i,.int .i64 r.u,.slice r.sa r.sn r.sc,.slice r.la r.ln r.lc] 25)).alloc (.cells #[.int .i64 x.k,.int .i64 x.e,.int .i64 x.f,.int .i64 x.s,.int .i64 x.n] 41)):=(zN).alloc (by simp) _
 refine ⟨⟨A0,by simp only [World.size_alloc];omega,?_,hr.below A0,hc.below A0,hE.1.below A0,hE.2.below A0⟩,?_,by simp⟩
 ·exact ((qE5 w #[.int .i64 r.i,.int .i64 r.u,.slice r.sa r.sn r.sc,.slice r.la r.ln r.lc] 25).alloc _).out
 ·have q:=(qE5 (w.alloc (.cells #[.int .i64 r.i,.int .i64 r.u,.slice r.sa r.sn r.sc,.slice r.la r.ln r.lc] 25)) #[.int .i64 x.k,.int .i64 x.e,.int .i64 x.f,.int .i64 x.s,.int .i64 x.n] 41).out
  simp only [World.size_alloc] at q
  exact q
theorem QF6 (r:qG5) (a:Option Addr) (n cap:Nat) (cs:List qA5) (x:StI) (w:World) (hr:qD5 w r∧qL1 maxLen r) (hc:QH2 w a n cs) (hE:qM7 0 w∧qD7 w) :
  Calls Tryz.prog 4 #[.agg #[.int .i64 r.i,.int .i64 r.u,.slice r.sa r.sn r.sc,.slice r.la r.ln r.lc],.slice a n cap,.agg #[.int .i64 x.k,.int .i64 x.e,.int .i64 x.f,.int .i64 x.s,.int .i64 x.n]] w fun e w'=>e = .returned (.bool true)∧Below w.heap.size w w':=by
 obtain ⟨V,hV⟩:∃ V,V=(w.alloc (.cells #[.int .i64 r.i,.int .i64 r.u,.slice r.sa r.sn r.sc,.slice r.la r.ln r.lc] 25)).alloc (.cells #[.int .i64 x.k,.int .i64 x.e,.int .i64 x.f,.int .i64 x.s,.int .i64 x.n] 41):=⟨_,rfl⟩
 have F0:Hid (RX w r a n cs x V):=by rw [hV];exact RX.new w r a n cs x hr.1 hc.1 hE
 have HRL:Hid (qL1 maxLen r):=hr.2
 have HCL:Hid (n≤maxLen∧∀ (k:Nat) c,cs[k]? = some c→qD4 maxLen c):=hc.2
 clear hr hc hE
 go_enter Tryz.func4,Tryz.ntmps4
 go_upto_region 2 with fail
 rw [← hV]
 clear hV
 have v0:=F0.out.rf.bx 0 _ rfl
 have v1:=F0.out.rf.bx 1 _ rfl
 have v2:=F0.out.rf.bx 2 _ rfl
 have v3:=F0.out.rf.bx 3 _ rfl
 have hvl:=F0.out.rf.lt
 go_wp2_with fail
 refine (szReplica_c r 1048576 _ HRL.out (by omega) (by omega)).mono ?_
 rintro e w1 ⟨⟨s1,rfl,hs1,hs2⟩,hb1⟩
 have F1:=qC1 (F0.out.below hb1)
 clear hb1 F0 v0 v1 v2 v3 hvl
 by_cases hneg:s1 < 0
 ·go_wp2_with fail
  go_ret
  exact ⟨rfl,F1.out.rf.bl⟩
 ·obtain ⟨hsn,hln⟩:=hs2 (by omega)
  have hge:0≤s1:=by omega
  go_wp2_with fail
  refine (szConfigs_c a n cap cs s1 _ HCL.out.1 HCL.out.2 hge (by omega) F1.out.rf.ci).mono ?_
  rintro e w2 ⟨⟨s2,rfl,hs3,hs4⟩,hb2⟩
  have F2:=qC1 (F1.out.below hb2)
  clear hb2 F1
  by_cases hneg2:s2 < 0
  ·go_wp2_with fail
   go_ret
   exact ⟨rfl,F2.out.rf.bl⟩
  ·obtain ⟨hnl,hcl0⟩:=hs4 (by omega)
   have hn:n≤1048576:=by omega
   have hcl:∀ (k:Nat) c,cs[k]? = some c→qD4 1048576 c:=fun k c e=>QL7 (hcl0 k c e) (by omega)
   have HCC:Hid (∀ (k:Nat) c,cs[k]? = some c→qD4 1048576 c):=hcl
   have hrl:qL1 1048576 r:=⟨by omega,by omega⟩
   have hlen:cs.length=n:=F2.out.rf.ci.len
   have HRL2:Hid (qL1 1048576 r):=hrl
   have HLEN:Hid (cs.length=n):=hlen
   clear hs4 hcl0 hcl hrl hlen hs2 HRL HCL
   have hge2:¬ s2 < 0:=hneg2
   clear hneg2
   go_upto_region 8 with fail
   have v0:=F2.out.rf.bx 0 _ rfl
   have v1:=F2.out.rf.bx 1 _ rfl
   have v2:=F2.out.rf.bx 2 _ rfl
   have v3:=F2.out.rf.bx 3 _ rfl
   have hvl:=F2.out.rf.lt
   have s0:=F2.out.sx 0 _ rfl
   have s1:=F2.out.sx 1 _ rfl
   have s2:=F2.out.sx 2 _ rfl
   have s3:=F2.out.sx 3 _ rfl
   have s4:=F2.out.sx 4 _ rfl
   have hsl:=F2.out.lt
   refine wp_region_held_drew (S:=fun w'=>(∀ b o,b < w2.heap.size→w'.cell? ⟨b,o,none⟩=w2.cell? ⟨b,o,none⟩)∧Below w2.heap.size w2 w') (by kernel_rfl) (qB3 _) (fun hHeld=>?_)
   refine Zk.go [0,2,4] ?_
   iterate 3
    refine Zk.st (v:=?_) rfl ?_ ?_
    rotate_left 1
    ·intro w hSw;(try dsimp only at hSw);go_simp;try (with_reducible rfl)
    try simp only [Act.put,zA,zB,zC,zD,zE,zF]
   refine Zk.fin ?_
   refine Zk.rd (i:=1) rfl (fun K hK=>?_)
   go_simp
   refine (qZ9 r _ HRL2.out (F2.out.below hHeld.2).rf.ri).mono ?_
   rintro d wA ⟨y1,L1,rfl,hL1,hy1,hbA⟩
   have hS:=qA4 hHeld hbA
   have Y3:=qC1 hy1
   clear hy1
   refine hK.out _ _ hS (fun hHeld=>?_)
   clear hK K
   try simp only [Act.put,zA,zB,zC,zD,zE,zF]
   refine Zk.rd (i:=3) rfl (fun K hK=>?_)
   go_simp
   refine (QA0 a n cap cs _ hn HCC.out (F2.out.below hHeld.2).rf.ci).mono ?_
   rintro d wB ⟨rfl,ds1,hd1⟩
   have hS:=qA4 hHeld hd1.bl
   have Y4:=qC1 (Y3.out.below hd1.bl)
   have D4:=qC1 hd1
   clear hd1 Y3
   refine hK.out _ _ hS (fun hHeld=>?_)
   clear hK K
   try simp only [Act.put,zA,zB,zC,zD,zE,zF]
   refine Zk.rd (i:=5) rfl (fun K hK=>?_)
   go_simp
   refine (qU9 x _).mono ?_
   rintro d wC ⟨rfl,hbC⟩
   have hS:=qA4 hHeld hbC
   obtain ⟨E,hE1⟩:=env_of (D4.out.le hn F2.out.rf.ci HCC.out)
   have HE1:Hid (qB6 ds1=0→qL7 E ds1):=hE1
   obtain ⟨k,hk⟩:∃ k,qO3 E cs r x=k:=⟨_,rfl⟩
   have HK:Hid (qO3 E cs r x=k):=hk
   have hsl2:r.ss.length=r.sn∧r.ls.length=r.ln:=⟨F2.out.rf.ri.said.1,F2.out.rf.ri.locks.1⟩
   have HSL:Hid (r.ss.length=r.sn∧r.ls.length=r.ln):=hsl2
   have HSP:Hid (Calls Tryz.prog 16 #[.agg #[.int .i64 y1.i,.int .i64 y1.u,.slice y1.sa y1.sn y1.sc,.slice y1.la y1.ln y1.lc],.slice (some ⟨wA.heap.size,0,none⟩) n n,.agg #[.int .i64 x.k,.int .i64 x.e,.int .i64 x.f,.int .i64 x.s,.int .i64 x.n]] wC fun d w'=>d = .returned (.int .i64 k)∧Below wC.heap.size wC w'):=by
    show Calls _ _ _ _ _
    rw [← hk,← QL6 (E:=E) x (D4.out.same HLEN.out) Y4.out]
    have YC:=Y4.out.below hbC
    exact specMay_c E y1 _ n n ds1 x wC (YC.isIn hsl2.1 hsl2.2) (newNil YC) (newAt YC) ⟨by rw [YC.sn];exact HRL2.out.said,by rw [YC.ln];exact HRL2.out.locks⟩ (D4.out.isIn.below hbC) (D4.out.le hn F2.out.rf.ci HCC.out) hn HE1.out
   clear hE1 hk hsl2
   refine hK.out _ _ hS (fun hHeld=>?_)
   clear hK K
   try simp only [Act.put,zA,zB,zC,zD,zE,zF]
   refine Zk.rd (i:=6) rfl (fun K hK=>?_)
   go_simp
   refine HSP.out.mono ?_
   rintro d wS ⟨rfl,hbS⟩
   have hS:=qA4 hHeld hbS
   refine hK.out _ _ hS (fun hHeld=>?_)
   clear hK K
   try simp only [Act.put,zA,zB,zC,zD,zE,zF]
   refine Zk.rd (i:=7) rfl (fun K hK=>?_)
   go_simp
   refine hK.out _ _ (by assumption) (fun hHeld=>?_)
   clear hK K
   try simp only [Act.put,zA,zB,zC,zD,zE,zF]
   refine wpAnyH_done (by kernel_rfl) ?_ _
   have F5:=qC1 (F2.out.below hS.2)
   have HD1:Hid (qO5 cs ds1):=D4.out.same HLEN.out
   clear hHeld hS F2 Y4 D4 HSP v0 v1 v2 v3 hvl s0 s1 s2 s3 s4 hsl
   obtain ⟨w5,rfl⟩:∃ w5,w5=wS:=⟨_,rfl⟩
   have v0:=F5.out.rf.bx 0 _ rfl
   have v1:=F5.out.rf.bx 1 _ rfl
   have v2:=F5.out.rf.bx 2 _ rfl
   have v3:=F5.out.rf.bx 3 _ rfl
   have hvl:=F5.out.rf.lt
   go_wp2_with fail
   refine (qZ9 r _ HRL2.out F5.out.rf.ri).mono ?_
   rintro e w6 ⟨y2,L2,rfl,hL2,hy2,hb6⟩
   obtain ⟨Z,hZ⟩:∃ Z,Z=w6.alloc (.cells #[.int .i64 y2.i,.int .i64 y2.u,.slice y2.sa y2.sn y2.sc,.slice y2.la y2.ln y2.lc] 33):=⟨_,rfl⟩
   have AZ:Below w6.heap.size w6 Z:=by rw [hZ];exact zN
   have F7:=qC1 ((F5.out.below hb6).below AZ)
   have Y7:=qC1 (hy2.below AZ)
   have X7:Hid (qU8 w6.heap.size [.int .i64 y2.i,.int .i64 y2.u,.slice y2.sa y2.sn y2.sc,.slice y2.la y2.ln y2.lc] Z∧w6.heap.size < Z.heap.size):=by rw [hZ];exact ⟨(qE5 w6 _ _).out,by simp⟩
   clear hb6 hy2 AZ F5 v0 v1 v2 v3 hvl
   go_upto_region 10 with fail
   rw [← hZ]
   clear hZ
   generalize w6.heap.size=q7 at X7 ⊢
   go_wp2_with fail
   refine (QA0 a n cap cs _ hn HCC.out F7.out.rf.ci).mono ?_
   rintro e w8 ⟨rfl,ds2,hd2⟩
   have F8:=qC1 (F7.out.below hd2.bl)
   have Y8:=qC1 (Y7.out.below hd2.bl)
   have X8:Hid (qU8 q7 [.int .i64 y2.i,.int .i64 y2.u,.slice y2.sa y2.sn y2.sc,.slice y2.la y2.ln y2.lc] w8∧q7 < w8.heap.size):=⟨((qU8.hold X7.out.1 X7.out.2).below hd2.bl).out,Nat.lt_of_lt_of_le X7.out.2 hd2.bl.size⟩
   have D8:=qC1 hd2
   have HD2:Hid (qO5 cs ds2):=hd2.same HLEN.out
   clear hd2 F7 Y7 X7
   have HIP:Hid (∀ W,Below w8.heap.size w8 W→Calls Tryz.prog 18 #[.agg #[.int .i64 y2.i,.int .i64 y2.u,.slice y2.sa y2.sn y2.sc,.slice y2.la y2.ln y2.lc],.slice (some ⟨Z.heap.size,0,none⟩) n n,.agg #[.int .i64 x.k,.int .i64 x.e,.int .i64 x.f,.int .i64 x.s,.int .i64 x.n]] W fun d w'=>d = .returned (.int .i64 k)∧Below W.heap.size W w'):=fun W hW=>by
    show Calls _ _ _ _ _
    rw [← HK.out,← QL6 (E:=E) x HD2.out Y8.out]
    refine implMay_c E y2 _ n n ds2 x W ((Y8.out.below hW).isIn HSL.out.1 HSL.out.2) ⟨by rw [Y8.out.sn];exact HRL2.out.said,by rw [Y8.out.ln];exact HRL2.out.locks⟩ (D8.out.isIn.below hW) (D8.out.le hn F8.out.rf.ci HCC.out) hn (F8.out.rf.er.below hW) (F8.out.rf.hh.below hW) (fun q=>?_)
    exact qO5.env (cs:=ds1) ⟨by rw [HD1.out.ln,HD2.out.ln],QO2 HD1.out HD2.out⟩ (HE1.out (by rw [HD1.out.cfs,← HD2.out.cfs];exact q)) (D8.out.le hn F8.out.rf.ci HCC.out)
   have q0:=X8.out.1 0 _ rfl
   have q1:=X8.out.1 1 _ rfl
   have q2:=X8.out.1 2 _ rfl
   have q3:=X8.out.1 3 _ rfl
   have hq8:=X8.out.2
   have s0:=F8.out.sx 0 _ rfl
   have s1:=F8.out.sx 1 _ rfl
   have s2:=F8.out.sx 2 _ rfl
   have s3:=F8.out.sx 3 _ rfl
   have s4:=F8.out.sx 4 _ rfl
   have hsl:=F8.out.lt
   go_upto_region 11 with fail
   refine wp_region_held_drew (S:=fun w'=>(∀ b o,b < w8.heap.size→w'.cell? ⟨b,o,none⟩=w8.cell? ⟨b,o,none⟩)∧Below w8.heap.size w8 w') (by kernel_rfl) (qB3 _) (fun hHeld=>?_)
   refine Zk.go [0,1,2] ?_
   iterate 3
    refine Zk.st (v:=?_) rfl ?_ ?_
    rotate_left 1
    ·intro w hSw;(try dsimp only at hSw);go_simp;try (with_reducible rfl)
    try simp only [Act.put,zA,zB,zC,zD,zE,zF]
   refine Zk.fin ?_
   refine Zk.rd (i:=3) rfl (fun K hK=>?_)
   go_simp
   refine (qU9 x _).mono ?_
   rintro d wP ⟨rfl,hbP⟩
   have hS:=qA4 hHeld hbP
   refine hK.out _ _ hS (fun hHeld=>?_)
   clear hK K
   try simp only [Act.put,zA,zB,zC,zD,zE,zF]
   refine Zk.rd (i:=4) rfl (fun K hK=>?_)
   go_simp
   refine (HIP.out _ hHeld.2).mono ?_
   rintro d wQ ⟨rfl,hbQ⟩
   have hS:=qA4 hHeld hbQ
   refine hK.out _ _ hS (fun hHeld=>?_)
   clear hK K
   try simp only [Act.put,zA,zB,zC,zD,zE,zF]
   refine Zk.rd (i:=5) rfl (fun K hK=>?_)
   go_simp
   refine hK.out _ _ (by assumption) (fun hHeld=>?_)
   clear hK K
   try simp only [Act.put,zA,zB,zC,zD,zE,zF]
   refine wpAnyH_done (by kernel_rfl) ?_ _
   have F9:=qC1 (F8.out.below hS.2)
   have Y9:=qC1 (Y8.out.below hS.2)
   have X9:Hid (qU8 q7 [.int .i64 y2.i,.int .i64 y2.u,.slice y2.sa y2.sn y2.sc,.slice y2.la y2.ln y2.lc] wQ∧q7 < wQ.heap.size):=⟨((qU8.hold X8.out.1 X8.out.2).below hS.2).out,Nat.lt_of_lt_of_le X8.out.2 hS.2.size⟩
   have D9:=qC1 (D8.out.below hS.2)
   clear hHeld hS F8 Y8 X8 D8 q0 q1 q2 q3 hq8 s0 s1 s2 s3 s4 hsl HIP
   obtain ⟨w9,rfl⟩:∃ w9,w9=wQ:=⟨_,rfl⟩
   go_upto_region 14 with fail
   have v0:=F9.out.rf.bx 0 _ rfl
   have v1:=F9.out.rf.bx 1 _ rfl
   have v2:=F9.out.rf.bx 2 _ rfl
   have v3:=F9.out.rf.bx 3 _ rfl
   have hvl:=F9.out.rf.lt
   have q0:=X9.out.1 0 _ rfl
   have q1:=X9.out.1 1 _ rfl
   have q2:=X9.out.1 2 _ rfl
   have q3:=X9.out.1 3 _ rfl
   have hq9:=X9.out.2
   refine wp_region_held_drew (S:=fun w'=>(∀ b o,b < w9.heap.size→w'.cell? ⟨b,o,none⟩=w9.cell? ⟨b,o,none⟩)∧Below w9.heap.size w9 w') (by kernel_rfl) (qB3 _) (fun hHeld=>?_)
   refine Zk.go [0,1] ?_
   iterate 2
    refine Zk.st (v:=?_) rfl ?_ ?_
    rotate_left 1
    ·intro w hSw;(try dsimp only at hSw);go_simp;try (with_reducible rfl)
    try simp only [Act.put,zA,zB,zC,zD,zE,zF]
   refine Zk.fin ?_
   refine Zk.rd (i:=2) rfl (fun K hK=>?_)
   go_simp
   refine (qZ9 r _ HRL2.out (F9.out.below hHeld.2).rf.ri).mono ?_
   rintro d wA ⟨y3,L3,rfl,hL3,hy3,hbA⟩
   have hS:=qA4 hHeld hbA
   have Y3:=qC1 hy3
   clear hy3
   refine hK.out _ _ hS (fun hHeld=>?_)
   clear hK K
   try simp only [Act.put,zA,zB,zC,zD,zE,zF]
   refine Zk.rd (i:=3) rfl (fun K hK=>?_)
   go_simp
   refine (eqCopies _ (Y9.out.below hHeld.2) Y3.out HSL.out HRL2.out).mono ?_
   rintro d wB ⟨rfl,hbB⟩
   have hS:=qA4 hHeld hbB
   refine hK.out _ _ hS (fun hHeld=>?_)
   clear hK K
   try simp only [Act.put,zA,zB,zC,zD,zE,zF]
   refine Zk.go [4] ?_
   refine Zk.st (v:=?_) rfl ?_ ?_
   rotate_left 1
   ·intro w hSw;(try dsimp only at hSw);go_simp;try (with_reducible rfl)
   try simp only [Act.put,zA,zB,zC,zD,zE,zF]
   refine Zk.fin ?_
   refine wpAnyH_done (by kernel_rfl) ?_ _
   have F10:=qC1 (F9.out.below hS.2)
   have D10:=qC1 (D9.out.below hS.2)
   clear hHeld hS v0 v1 v2 v3 hvl q0 q1 q2 q3 hq9 X9 Y9 D9 F9
   go_wp2_with fail
   refine (QA0 a n cap cs _ hn HCC.out F10.out.rf.ci).mono ?_
   rintro e w11 ⟨rfl,ds3,hd3⟩
   have F11:=qC1 (F10.out.below hd3.bl)
   have D11:=qC1 (D10.out.below hd3.bl)
   have D3:=qC1 hd3
   clear hd3 F10 D10
   go_wp2_with fail
   refine (QN3 _ _ n n n ds2 ds3 _ hn (D11.out.le hn F11.out.rf.ci HCC.out).le (fun j c d e1 e2=>QO2 HD2.out (D3.out.same HLEN.out) j c d e1 e2) D11.out.isIn D3.out.isIn).mono ?_
   rintro e w12 ⟨rfl,hb12⟩
   have B12:=qC1 ((F11.out.below hb12).rf.bl)
   clear hb12
   go_wp2_with fail
   go_ret
   exact ⟨rfl,B12.out⟩

end Go.Proofs.YtlhgjackapdmbaaGreatDoor
