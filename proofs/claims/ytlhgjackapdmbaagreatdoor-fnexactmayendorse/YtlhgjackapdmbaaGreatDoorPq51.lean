/- Contracts. -/
import Derived.Test.YtlhgjackapdmbaaGreatDoorPq47
import Derived.Test.YtlhgjackapdmbaaGreatDoorPq44
import Derived.Test.YtlhgjackapdmbaaGreatDoorPq49
namespace Go.Proofs.YtlhgjackapdmbaaGreatDoor
set_option maxRecDepth 100000
set_option maxHeartbeats 8000000
open Go.RowKit
set_option linter.unusedVariables false
set_option linter.unusedSimpArgs false

theorem replica_c (b:Nat) (i u:Int) (cv:Value) (sa:Option Addr) (n sc:Nat) (la:Option Addr) (m lc:Nat) (w:World) (hs:qW5 w b cv (.slice sa n sc) (.slice la m lc)) :
  Calls Tryz.prog 42 #[.pointer (some ⟨b,0,none⟩),.int .i64 i,.int .i64 u] w fun d w'=>d = .returned (.agg #[.int .i64 0,.int .i64 i,.int .i64 u,.slice sa n sc,.slice la m lc])∧Below w.heap.size w w':=by
 have hbl:=hs.lt
 obtain ⟨W,hW⟩:∃ W,W=w.alloc (.cells #[.int .i64 0,.int .i64 0,.int .i64 0,.slice none 0 0,.slice none 0 0] 47):=⟨_,rfl⟩
 have A0:Below w.heap.size w W:=by rw [hW];exact zN
 have X0:qI3 w.heap.size [.int .i64 0,.int .i64 0,.int .i64 0,.slice none 0 0,.slice none 0 0] W:=by rw [hW];exact qI2 w _ _
 have hwl:w.heap.size < W.heap.size:=by rw [hW];simp
 have s1:=(hs.below A0).c1
 have s2:=(hs.below A0).c2
 have hbW:b < W.heap.size:=by omega
 have hne:b≠w.heap.size:=by omega
 have z0:=X0.1 0 _ rfl
 have z1:=X0.1 1 _ rfl
 have z2:=X0.1 2 _ rfl
 have z3:=X0.1 3 _ rfl
 have z4:=X0.1 4 _ rfl
 have f0:=X0.2 0
 have f1:=X0.2 1
 have f2:=X0.2 2
 have f3:=X0.2 3
 have f4:=X0.2 4
 have HB:=qC1 A0
 clear hs A0 X0
 go_enter Tryz.func42,Tryz.ntmps42
 go_upto_region 1 with fail
 rw [← hW]
 clear hW
 go_region
 go_wp2_with fail
 refine bodyPost_ret (v:=.agg #[.int .i64 0,.int .i64 i,.int .i64 u,.slice sa n sc,.slice la m lc]) (by simp [results,Tryz.results42,go_sem,z0,z1,z2,z3,z4,hwl]) rfl ⟨rfl,?_⟩
 first
  | exact (((((HB.out.setCell (Nat.le_refl _) _).setCell (Nat.le_refl _) _).setCell (Nat.le_refl _) _).setCell (Nat.le_refl _) _).setCell (Nat.le_refl _) _).drew
  | exact ((((HB.out.drew.setCell (Nat.le_refl _) _).setCell (Nat.le_refl _) _).setCell (Nat.le_refl _) _).setCell (Nat.le_refl _) _).setCell (Nat.le_refl _) _

def RepA (k i u:Int) (S:List StI) (L:List LkI) (w:World) (d:Ending) (w':World):Prop :=
 Below w.heap.size w w'∧(k≠0→d = .returned (.agg #[.int .i64 k,.int .i64 0,.int .i64 0,.slice none 0 0,.slice none 0 0]))∧(k=0→∃ (sa:Option Addr) (sc:Nat) (la:Option Addr) (lc:Nat),d = .returned (.agg #[.int .i64 0,.int .i64 i,.int .i64 u,.slice sa S.length sc,.slice la L.length lc])∧qE3 w' w.heap.size (.slice sa S.length sc) S∧qB0 w' w.heap.size (.slice la L.length lc) L)

theorem rep_ok {E:qH3} {cs:List qA5} {r:qG5} (h:qN1 E cs r=0):qB6 cs=0∧qE7 E r.ss r.sn=some r.ls:=by
 unfold qN1 at h
 by_cases hk:qB6 cs=0
 ·rw [if_pos hk] at h
  refine ⟨hk,?_⟩
  split at h
  ·split at h
   ·cases h
   ·split at h
    ·assumption
    ·cases h
  ·cases h
 ·rw [if_neg hk] at h
  exact absurd h hk
def qO3 (E:qH3) (cs:List qA5) (r:qG5) (x:StI):Int:=if qN1 E cs r=0 then qD6 E r.ss r.ls x else qN1 E cs r
theorem QS5 (E:qH3) (r:qG5) (a:Option Addr) (m cap:Nat) (cs:List qA5) (x:StI) (w:World) (hr:qD5 w r) (hle:qL1 1048576 r) (hc:qA6 w a m cs) (hcl:qF2 1048576 cs) (hm:m≤1048576) (hEr:qM7 0 w) (hH:qD7 w) (hEC:qB6 cs=0→qL7 E cs) :
  Calls Tryz.prog 27 #[.agg #[.int .i64 r.i,.int .i64 r.u,.slice r.sa r.sn r.sc,.slice r.la r.ln r.lc],.slice a m cap,.agg #[.int .i64 x.k,.int .i64 x.e,.int .i64 x.f,.int .i64 x.s,.int .i64 x.n]] w fun d w'=>RepA (qO3 E cs r x) r.i r.u (qJ2 r.ss x) (qG7 E r.ss r.ls x) w d w':=by
 obtain ⟨V,hV⟩:∃ V,V=((w.alloc (.cells #[.int .i64 r.i,.int .i64 r.u,.slice r.sa r.sn r.sc,.slice r.la r.ln r.lc] 33)).alloc (.cells #[.int .i64 x.k,.int .i64 x.e,.int .i64 x.f,.int .i64 x.s,.int .i64 x.n] 43)).alloc (.cells #[.int .i64 0,.int .i64 0,.int .i64 0,.slice none 0 0,.slice none 0 0] 47):=⟨_,rfl⟩
 have Z0:Hid (EV w r x V):=by show EV _ _ _ _;rw [hV];exact EV.new w r x
 obtain ⟨k,hk⟩:∃ k,qN1 E cs r=k:=⟨_,rfl⟩
 have HSL:Hid (r.ss.length=r.sn∧r.ls.length=r.ln):=⟨hr.said.1,hr.locks.1⟩
 have HRB:Hid (Calls Tryz.prog 37 #[.agg #[.int .i64 r.i,.int .i64 r.u,.slice r.sa r.sn r.sc,.slice r.la r.ln r.lc],.slice a m cap] V fun d w'=>RebR r a m cap k V d w'):=by
  show Calls _ _ _ _ _
  rw [← hk]
  exact rebuild_c E r a m cap cs V (hr.below Z0.out.bl) hle (hc.below Z0.out.bl) hcl hm (hEr.below Z0.out.bl) (hH.below Z0.out.bl) hEC
 have HOK:Hid (k=0→qL7 E cs∧RpS E r.ss r.ls∧0 < m∧m≤8):=fun q=>by
  obtain ⟨q1,q2⟩:=rep_ok (hk.trans q)
  have c1:=qS6 q1
  have hl:=hc.len
  have p:=QD6 r.sn r.ls (by rw [hr.said.1];exact Nat.le_refl _) q2
  rw [List.take_of_length_le (by rw [hr.said.1];exact Nat.le_refl _)] at p
  exact ⟨hEC q1,p,by omega,by omega⟩
 have HST:Hid (∀ W,Below w.heap.size w W→qA6 W a m cs∧qM7 0 W∧qD7 W):=fun W hb=>⟨hc.below hb,hEr.below hb,hH.below hb⟩
 have HKE:Hid (qO3 E cs r x=if k=0 then qD6 E r.ss r.ls x else k):=by show _=_;unfold qO3;rw [hk]
 obtain ⟨v0,v1,v2,v3⟩:=Z0.out.rb
 have hvl:w.heap.size < V.heap.size:=by have:=Z0.out.lt;omega
 have hVs:=Z0.out.bl.size
 have HVL:Hid (w.heap.size+2 < V.heap.size):=Z0.out.lt
 obtain ⟨K,hK⟩:∃ K,qO3 E cs r x=K:=⟨_,rfl⟩
 obtain ⟨S,hS⟩:∃ S,qJ2 r.ss x=S:=⟨_,rfl⟩
 obtain ⟨L,hL⟩:∃ L,qG7 E r.ss r.ls x=L:=⟨_,rfl⟩
 have HS0:Hid (qJ2 r.ss x=S):=hS
 have HL0:Hid (qG7 E r.ss r.ls x=L):=hL
 rw [hK,hS,hL]
 clear hS hL
 rw [hK] at HKE
 clear hk hr hle hc hcl hEr hH hEC hK
 go_enter Tryz.func27,Tryz.ntmps27
 go_upto_region 1 with fail
 rw [← hV]
 clear hV
 go_wp2_with fail
 refine HRB.out.mono ?_
 rintro d w1 ⟨hb1,h1,h2⟩
 have Z1:=qC1 (Z0.out.below hb1)
 have hqV0:=hb1.size
 clear hb1 Z0 HRB v0 v1 v2 v3 hvl
 by_cases hk:k=0
 ·obtain ⟨sa,sc,la,lc,rfl,ho1,ho2⟩:=h2 hk
  obtain ⟨hE,hRp,hm0,hm8⟩:=HOK.out hk
  subst hk
  obtain ⟨Y,hY⟩:∃ Y,Y=w1.alloc (.cells #[.slice a m cap,.slice sa r.sn sc,.slice la r.ln lc] 74):=⟨_,rfl⟩
  have AY:Below w1.heap.size w1 Y:=by rw [hY];exact zN
  have Z2:=qC1 (Z1.out.below AY)
  have hqV:V.heap.size≤w1.heap.size:=hqV0
  have S2:Hid (qG2 Y w1.heap.size V.heap.size (.slice a m cap) sa sc r.ss la lc r.ls):=by
   refine ⟨?_,?_,?_,hqV⟩
   ·rw [hY,HSL.out.1,HSL.out.2];exact QS7 w1 _
   ·rw [HSL.out.1];exact ho1.below AY
   ·rw [HSL.out.2];exact ho2.below AY
  have HEN:=endorse_c E w1.heap.size V.heap.size a m cap cs sa sc r.ss la lc r.ls x Y S2.out hE (fun W hW=>HST.out W (Z2.out.bl.trans (hW.mono hVs))) hm0 hm8 hRp
  obtain ⟨e,he⟩:∃ e,qD6 E r.ss r.ls x=e:=⟨_,rfl⟩
  have hS:=HS0.out
  have hL:=HL0.out
  have H9:Hid (Calls Tryz.prog 50 #[.pointer (some ⟨w1.heap.size,0,none⟩),.agg #[.int .i64 x.k,.int .i64 x.e,.int .i64 x.f,.int .i64 x.s,.int .i64 x.n]] Y fun d w'=>d = .returned (.int .i64 e)∧Below V.heap.size Y w'∧(e=0→∃ sa' sc' la' lc',qG2 w' w1.heap.size V.heap.size (.slice a m cap) sa' sc' S la' lc' L)):=by
   refine Calls.mono HEN ?_
   rintro d w' ⟨g1,g2,g3,g4⟩
   refine ⟨by rw [← he];exact g1,g2,fun q=>?_⟩
   cases hsx:qD3 r.ss x
   ·obtain ⟨sa',sc',la',lc',g5⟩:=g4 (he.trans q) hsx
    refine ⟨sa',sc',la',lc',?_⟩
    rw [← hS,← hL]
    unfold qJ2 qG7
    rw [hsx,if_neg (by decide),if_neg (by decide)]
    exact g5
   ·refine ⟨sa,sc,la,lc,?_⟩
    rw [← hS,← hL]
    unfold qJ2 qG7
    rw [hsx,if_pos rfl,if_pos rfl]
    exact g3 (.inr hsx)
  have HK2:Hid (K=e):=by show _=_;rw [HKE.out,if_pos rfl,he]
  clear h1 h2 ho1 ho2 AY Z1 HEN he hS hL HOK hE hRp
  go_upto_region 4 with fail
  rw [← hY]
  clear hY
  generalize w1.heap.size=q at S2 H9 hqV ⊢
  obtain ⟨x0,x1,x2,x3,x4⟩:=Z2.out.xa
  simp only [Nat.zero_add] at x0 x1 x2 x3 x4
  have hxl:w.heap.size+1 < Y.heap.size:=by have:=Z2.out.lt;omega
  go_wp2_with fail
  refine H9.out.mono ?_
  rintro d w3 ⟨rfl,hb3,hs3⟩
  have hV2:=HVL.out
  have B3:=qC1 (Z2.out.bl.trans (hb3.mono hVs))
  have R3:qI3 (w.heap.size+2) [.int .i64 0,.int .i64 0,.int .i64 0,.slice none 0 0,.slice none 0 0] w3:=⟨fun j v e=>(World.cell?_of_block (w:=Y) (w':=w3) (a:=⟨w.heap.size+2,j,none⟩) (hb3.block _ hV2)).trans (Z2.out.rs.1 j v e),fun j=>(World.frozen?_of_block (w:=Y) (w':=w3) (a:=⟨w.heap.size+2,j,none⟩) (hb3.block _ hV2)).trans (Z2.out.rs.2 j)⟩
  have i0:w3.cell? ⟨w.heap.size,0,none⟩=some (.int .i64 r.i):=(hb3.cell (p:=⟨w.heap.size,0,none⟩) (by show w.heap.size < V.heap.size;omega)).trans Z2.out.rb.1
  have i1:w3.cell? ⟨w.heap.size,1,none⟩=some (.int .i64 r.u):=(hb3.cell (p:=⟨w.heap.size,1,none⟩) (by show w.heap.size < V.heap.size;omega)).trans Z2.out.rb.2.1
  have hl3:w.heap.size+2 < w3.heap.size:=Nat.lt_of_lt_of_le Z2.out.lt hb3.size
  have hl30:w.heap.size < w3.heap.size:=by omega
  have HR3:=qC1 R3
  have HS3:Hid (e=0→∃ sa' sc' la' lc',qG2 w3 q V.heap.size (.slice a m cap) sa' sc' S la' lc' L):=hs3
  clear hb3 Z2 H9 S2 x0 x1 x2 x3 x4 hxl hs3 R3
  by_cases e0:e=0
  ·obtain ⟨sa',sc',la',lc',hsp⟩:=HS3.out e0
   have SP:=qC1 hsp
   clear hsp
   have HK3:Hid (K=0):=HK2.out.trans e0
   subst e0
   go_wp2_with fail
   refine (replica_c q r.i r.u _ sa' S.length sc' la' L.length lc' w3 SP.out.spk).mono ?_
   rintro d w4 ⟨rfl,hb4⟩
   have B4:=qC1 (B3.out.trans (hb4.mono B3.out.size))
   have R4:=qI3.below HR3.out hl3 hb4
   have O4:=qC1 (SP.out.below hb4)
   have hl4:w.heap.size+2 < w4.heap.size:=Nat.lt_of_lt_of_le hl3 hb4.size
   have z0:=R4.1 0 _ rfl
   have z1:=R4.1 1 _ rfl
   have z2:=R4.1 2 _ rfl
   have z3:=R4.1 3 _ rfl
   have z4:=R4.1 4 _ rfl
   have f0:=R4.2 0
   have f1:=R4.2 1
   have f2:=R4.2 2
   have f3:=R4.2 3
   have f4:=R4.2 4
   clear hb4 i0 i1 R4
   go_wp2_with fail
   refine bodyPost_ret (v:=.agg #[.int .i64 0,.int .i64 r.i,.int .i64 r.u,.slice sa' S.length sc',.slice la' L.length lc']) (by simp [results,Tryz.results27,go_sem,z0,z1,z2,z3,z4,hl4]) rfl ?_
   rw [HK3.out]
   refine ⟨(((((B4.out.setCell (by show w.heap.size≤w.heap.size+2;omega) _).setCell (by show w.heap.size≤w.heap.size+2;omega) _).setCell (by show w.heap.size≤w.heap.size+2;omega) _).setCell (by show w.heap.size≤w.heap.size+2;omega) _).setCell (by show w.heap.size≤w.heap.size+2;omega) _),fun q=>absurd rfl q,fun _=>⟨sa',sc',la',lc',rfl,qA3 (qC2 O4.out.ow hVs) (fun g e=>?_),qA3 (qA8 O4.out.lk hVs) (fun g e=>?_)⟩⟩
   ·obtain ⟨cur,hcc,hgg⟩:=qD2 O4.out.ow e
    rw [Below.heap_setCell _ _ _ _ (by show g≠w.heap.size+2;omega),Below.heap_setCell _ _ _ _ (by show g≠w.heap.size+2;omega),Below.heap_setCell _ _ _ _ (by show g≠w.heap.size+2;omega),Below.heap_setCell _ _ _ _ (by show g≠w.heap.size+2;omega),Below.heap_setCell _ _ _ _ (by show g≠w.heap.size+2;omega)]
   ·obtain ⟨cur,hcc,hgg⟩:=qC9 O4.out.lk e
    rw [Below.heap_setCell _ _ _ _ (by show g≠w.heap.size+2;omega),Below.heap_setCell _ _ _ _ (by show g≠w.heap.size+2;omega),Below.heap_setCell _ _ _ _ (by show g≠w.heap.size+2;omega),Below.heap_setCell _ _ _ _ (by show g≠w.heap.size+2;omega),Below.heap_setCell _ _ _ _ (by show g≠w.heap.size+2;omega)]
  ·have eb:(e != 0)=true:=by simp [e0]
   have z0:=HR3.out.1 0 _ rfl
   have z1:=HR3.out.1 1 _ rfl
   have z2:=HR3.out.1 2 _ rfl
   have z3:=HR3.out.1 3 _ rfl
   have z4:=HR3.out.1 4 _ rfl
   have f0:=HR3.out.2 0
   have f1:=HR3.out.2 1
   have f2:=HR3.out.2 2
   have f3:=HR3.out.2 3
   have f4:=HR3.out.2 4
   go_wp2_with fail
   refine bodyPost_ret (v:=.agg #[.int .i64 e,.int .i64 0,.int .i64 0,.slice none 0 0,.slice none 0 0]) (by simp [results,Tryz.results27,go_sem,z0,z1,z2,z3,z4,hl3]) rfl ?_
   rw [HK2.out]
   exact ⟨(((((B3.out.setCell (by show w.heap.size≤w.heap.size+2;omega) _).setCell (by show w.heap.size≤w.heap.size+2;omega) _).setCell (by show w.heap.size≤w.heap.size+2;omega) _).setCell (by show w.heap.size≤w.heap.size+2;omega) _).setCell (by show w.heap.size≤w.heap.size+2;omega) _),fun _=>rfl,fun q=>absurd q e0⟩
 ·obtain rfl:=h1 hk
  have kb:(k != 0)=true:=by simp [hk]
  have Z2:=qC1 (Z1.out.below ((Below.refl _ _).alloc (Nat.le_refl _) (.cells #[.slice none 0 0,.slice none 0 0,.slice none 0 0] 74)))
  have HK3:Hid (K=k):=by show _=_;rw [HKE.out,if_neg hk]
  clear h1 h2 Z1
  have z0:=Z2.out.rs.1 0 _ rfl
  have z1:=Z2.out.rs.1 1 _ rfl
  have z2:=Z2.out.rs.1 2 _ rfl
  have z3:=Z2.out.rs.1 3 _ rfl
  have z4:=Z2.out.rs.1 4 _ rfl
  have f0:=Z2.out.rs.2 0
  have f1:=Z2.out.rs.2 1
  have f2:=Z2.out.rs.2 2
  have f3:=Z2.out.rs.2 3
  have f4:=Z2.out.rs.2 4
  have hzl:=Z2.out.lt
  go_wp2_with fail
  refine bodyPost_ret (v:=.agg #[.int .i64 k,.int .i64 0,.int .i64 0,.slice none 0 0,.slice none 0 0]) (by simp [results,Tryz.results27,go_sem,z0,z1,z2,z3,z4,hzl]) rfl ?_
  rw [HK3.out]
  exact ⟨(((((Z2.out.bl.setCell (by show w.heap.size≤w.heap.size+2;omega) _).setCell (by show w.heap.size≤w.heap.size+2;omega) _).setCell (by show w.heap.size≤w.heap.size+2;omega) _).setCell (by show w.heap.size≤w.heap.size+2;omega) _).setCell (by show w.heap.size≤w.heap.size+2;omega) _),fun _=>rfl,fun q=>absurd q hk⟩

section
theorem fldRR0 (c i u:Int) (a:Option Addr) (n k:Nat) (b:Option Addr) (m l:Nat) (w:World):(Instr.field 47 (.agg #[.int .i64 c,.int .i64 i,.int .i64 u,.slice a n k,.slice b m l]) 0).run Tryz.prog w = .ok (.int .i64 c) w:=by kernel_rfl
attribute [local go_sem] fldRR0
theorem implMay_c (E:qH3) (r:qG5) (a:Option Addr) (m cap:Nat) (cs:List qA5) (x:StI) (w:World) (hr:qD5 w r) (hle:qL1 1048576 r) (hc:qA6 w a m cs) (hcl:qF2 1048576 cs) (hm:m≤1048576) (hEr:qM7 0 w) (hH:qD7 w) (hEC:qB6 cs=0→qL7 E cs) :
  Calls Tryz.prog 18 #[.agg #[.int .i64 r.i,.int .i64 r.u,.slice r.sa r.sn r.sc,.slice r.la r.ln r.lc],.slice a m cap,.agg #[.int .i64 x.k,.int .i64 x.e,.int .i64 x.f,.int .i64 x.s,.int .i64 x.n]] w fun d w'=>d = .returned (.int .i64 (qO3 E cs r x))∧Below w.heap.size w w':=by
 obtain ⟨V,hV⟩:∃ V,V=(w.alloc (.cells #[.int .i64 r.i,.int .i64 r.u,.slice r.sa r.sn r.sc,.slice r.la r.ln r.lc] 33)).alloc (.cells #[.int .i64 x.k,.int .i64 x.e,.int .i64 x.f,.int .i64 x.s,.int .i64 x.n] 43):=⟨_,rfl⟩
 have BV:Hid (Below w.heap.size w V):=by show Below _ _ _;rw [hV];exact (zN).alloc (by simp) _
 have XV:qU8 w.heap.size [.int .i64 r.i,.int .i64 r.u,.slice r.sa r.sn r.sc,.slice r.la r.ln r.lc] V:=by
  rw [hV]
  exact ((qE5 w _ _).below (zN)).out
 have YV:qU8 (w.heap.size+1) [.int .i64 x.k,.int .i64 x.e,.int .i64 x.f,.int .i64 x.s,.int .i64 x.n] V:=by
  have e:w.heap.size+1=(w.alloc (.cells #[.int .i64 r.i,.int .i64 r.u,.slice r.sa r.sn r.sc,.slice r.la r.ln r.lc] 33)).heap.size:=by simp
  rw [hV,e]
  exact (qE5 _ _ _).out
 have hVl:w.heap.size+1 < V.heap.size:=by rw [hV];simp
 have hVl0:w.heap.size < V.heap.size:=by omega
 obtain ⟨K,hK⟩:∃ K,qO3 E cs r x=K:=⟨_,rfl⟩
 have HEN:Hid (Calls Tryz.prog 27 #[.agg #[.int .i64 r.i,.int .i64 r.u,.slice r.sa r.sn r.sc,.slice r.la r.ln r.lc],.slice a m cap,.agg #[.int .i64 x.k,.int .i64 x.e,.int .i64 x.f,.int .i64 x.s,.int .i64 x.n]] V fun d w'=>RepA K r.i r.u (qJ2 r.ss x) (qG7 E r.ss r.ls x) V d w'):=by
  show Calls _ _ _ _ _
  rw [← hK]
  exact QS5 E r a m cap cs x V (hr.below BV.out) hle (hc.below BV.out) hcl hm (hEr.below BV.out) (hH.below BV.out) hEC
 rw [hK]
 have v0:=XV 0 _ rfl
 have v1:=XV 1 _ rfl
 have v2:=XV 2 _ rfl
 have v3:=XV 3 _ rfl
 have y0:=YV 0 _ rfl
 have y1:=YV 1 _ rfl
 have y2:=YV 2 _ rfl
 have y3:=YV 3 _ rfl
 have y4:=YV 4 _ rfl
 clear XV YV hK hr hle hc hcl hEr hH hEC
 go_enter Tryz.func18,Tryz.ntmps18
 go_upto_region 1 with fail
 rw [← hV]
 clear hV
 go_wp2_with fail
 refine HEN.out.mono ?_
 rintro d w1 ⟨hb1,h1,h2⟩
 have B1:=qC1 (BV.out.trans (hb1.mono BV.out.size))
 clear hb1 v0 v1 v2 v3 y0 y1 y2 y3 y4
 by_cases hk:K=0
 ·obtain ⟨sa,sc,la,lc,rfl,_,_⟩:=h2 hk
  subst hk
  clear h1 h2
  go_wp2_with fail
  go_ret
  exact ⟨rfl,B1.out⟩
 ·obtain rfl:=h1 hk
  clear h1 h2
  go_wp2_with fail
  go_ret
  exact ⟨rfl,B1.out⟩
end

section
open Go.RowKit Go.ChangeShapes Go.WideShapes
def LkArg (w:World) (a:Option Addr) (len:Nat) (zs:List LkI):Prop:=qJ0 w a len zs∧len≤maxLen
theorem cells64Lk:Tryz.prog.cellsOf 2=1:=by kernel_rfl
theorem Tryz.cells100:Tryz.prog.cellsOf 100=4:=by kernel_rfl
theorem listLk {α:Type} {l:List α} (h:l.length=4):∃ c0 c1 c2 c3,l=[c0,c1,c2,c3]:=by
 match l,h with
 | [c0,c1,c2,c3],_=>exact ⟨c0,c1,c2,c3,rfl⟩
theorem lock_list {H:Type} {enc:TypeId × Value→H} {w:World} {base:Nat} {spare:Nat→Bool} {held:Bool} {fuel:Nat} {cs:List Value} {x:DataW H × List MemPlace} (h:DataW.trod enc Tryz.prog w base spare held fuel 100 cs=some x) :
  ∃ r:LkI,cs=[.int .i64 r.e,.int .i64 r.c,.int .i64 r.p,.int .i64 r.f]:=by
 obtain ⟨xs,n,_,_,hl,hlen,hf⟩:=DataW.trod_struct Tryz.underlying100 h
 rw [Tryz.cells100] at hl
 obtain ⟨c0,c1,c2,c3,rfl⟩:=listLk hl
 obtain ⟨y0,y1,y2,y3,rfl⟩:=listLk hlen
 have h0:=hf 0 _ rfl
 have h1:=hf 1 _ rfl
 have h2:=hf 2 _ rfl
 have h3:=hf 3 _ rfl
 simp [cells64Lk] at h0 h1 h2 h3
 obtain ⟨b0,e0,_,_⟩:=DataW.trod_int Tryz.underlying2 h0
 obtain ⟨b1,e1,_,_⟩:=DataW.trod_int Tryz.underlying2 h1
 obtain ⟨b2,e2,_,_⟩:=DataW.trod_int Tryz.underlying2 h2
 obtain ⟨b3,e3,_,_⟩:=DataW.trod_int Tryz.underlying2 h3
 simp at e0 e1 e2 e3
 subst e0 e1 e2 e3
 exact ⟨⟨b0,b1,b2,b3⟩,rfl⟩
theorem cellsLk {w:World} {base:Nat} {a:Addr} {r:LkI} (h:w.cells? base a 4=some [.int .i64 r.e,.int .i64 r.c,.int .i64 r.p,.int .i64 r.f]):a.spot=none∧QB0 w a.block a.off r:=by
 have e:List.range 4=[0,1,2,3]:=rfl
 unfold World.cells? at h
 split at h
 ·rw [e] at h
  simp only [List.mapM_cons,List.mapM_nil,Option.bind_eq_bind,Option.bind_eq_some_iff,Option.pure_def,Option.some.injEq,List.cons.injEq] at h
  obtain ⟨x0,h0,y0,⟨x1,h1,y1,⟨x2,h2,y2,⟨x3,h3,y3,rfl,e3⟩,e2⟩,e1⟩,e0,ee⟩:=h
  subst e0
  rw [← e1] at ee
  simp only [List.cons.injEq] at ee
  obtain ⟨rfl,ee⟩:=ee
  rw [← e2] at ee
  simp only [List.cons.injEq] at ee
  obtain ⟨rfl,ee⟩:=ee
  rw [← e3] at ee
  simp only [List.cons.injEq] at ee
  obtain ⟨rfl,_⟩:=ee
  obtain ⟨b,off,spot⟩:=a
  have hspot:spot=none:=by simpa [Addr.add] using World.cell?_spot h0
  subst hspot
  simp only [Addr.add] at h0 h1 h2 h3
  exact ⟨rfl,by simpa using h0,by simpa using h1,by simpa using h2,by simpa using h3⟩
 ·cases h
theorem locks_shape {H:Type} {enc:TypeId × Value→H} {w:World} {base:Nat} {spare:Nat→Bool} {held:Bool} {fuel:Nat} {a0:Option Addr} {len cap:Nat} {x:DataW H × List MemPlace} (h:DataW.trod enc Tryz.prog w base spare held fuel 23 [.slice a0 len cap]=some x) :
  ∃ zs:List LkI,LkArg w a0 len zs:=by
 rcases Go.Deep.open_slice Tryz.underlying23 h with ⟨hcs,_⟩ | ⟨a,l,c,m,n,D,Pl,hcs,hb,hl,hm,hmm,_,hel⟩
 ·simp at hcs
  obtain ⟨rfl,rfl,rfl⟩:=hcs
  exact ⟨[],⟨rfl,fun h=>by omega⟩,Nat.zero_le _⟩
 ·simp at hcs
  obtain ⟨rfl,rfl,rfl⟩:=hcs
  have hle:len≤m:=by rw [hmm];split <;> omega
  rw [Tryz.cells100] at hel
  have hk:∀ i,i < len→∃ r:LkI,w.cells? base (a.add (i * 4)) 4=some [.int .i64 r.e,.int .i64 r.c,.int .i64 r.p,.int .i64 r.f]:=fun i hi=>by
   obtain ⟨cs',hc,ht⟩:=hel i (by omega)
   obtain ⟨r,rfl⟩:=lock_list ht
   exact ⟨r,hc⟩
  obtain ⟨f,hf⟩:=Go.Deep.choose_lt hk
  refine ⟨(List.range len).map f,⟨by simp,fun hp=>?_⟩,Nat.le_trans hl hm⟩
  obtain ⟨hsp,_⟩:=cellsLk (hf 0 hp)
  obtain ⟨b,off,spot⟩:=a
  simp [Addr.add] at hsp
  subst hsp
  refine ⟨b,off,rfl,fun k r e=>?_⟩
  have hkl:k < len:=by
   by_cases q:k < len
   ·exact q
   ·rw [List.getElem?_eq_none (by simp;omega)] at e;cases e
  rw [List.getElem?_map,List.getElem?_range hkl] at e
  simp at e
  subst e
  obtain ⟨_,hr⟩:=cellsLk (hf k hkl)
  have : ((⟨b,off,none⟩:Addr).add (k * 4))=⟨b,off+k * 4,none⟩:=Go.WideShapes.add_plain ..
  rw [this] at hr
  exact hr
end

section
open Go.RowKit Go.ChangeShapes Go.WideShapes
theorem Tryz.cells25:Tryz.prog.cellsOf 25=4:=by kernel_rfl
theorem Tryz.cells22:Tryz.prog.cellsOf 22=1:=by kernel_rfl
theorem Tryz.cells23:Tryz.prog.cellsOf 23=1:=by kernel_rfl
theorem listRe {α:Type} {l:List α} (h:l.length=4):∃ c0 c1 c2 c3,l=[c0,c1,c2,c3]:=by
 match l,h with
 | [c0,c1,c2,c3],_=>exact ⟨c0,c1,c2,c3,rfl⟩
theorem sts_val {H:Type} {enc:TypeId × Value→H} {w:World} {base:Nat} {spare:Nat→Bool} {held:Bool} {fuel:Nat} {cs:List Value} {x:DataW H × List MemPlace} (h:DataW.trod enc Tryz.prog w base spare held fuel 22 cs=some x) :
  ∃ a n c,cs=[.slice a n c]:=by
 rcases Go.Deep.open_slice Tryz.underlying22 h with ⟨hcs,_⟩ | ⟨a,l,c,m,n,D,Pl,hcs,_⟩
 ·exact ⟨_,_,_,hcs⟩
 ·exact ⟨_,_,_,hcs⟩
theorem lks_val {H:Type} {enc:TypeId × Value→H} {w:World} {base:Nat} {spare:Nat→Bool} {held:Bool} {fuel:Nat} {cs:List Value} {x:DataW H × List MemPlace} (h:DataW.trod enc Tryz.prog w base spare held fuel 23 cs=some x) :
  ∃ a n c,cs=[.slice a n c]:=by
 rcases Go.Deep.open_slice Tryz.underlying23 h with ⟨hcs,_⟩ | ⟨a,l,c,m,n,D,Pl,hcs,_⟩
 ·exact ⟨_,_,_,hcs⟩
 ·exact ⟨_,_,_,hcs⟩
theorem rep_list {H:Type} {enc:TypeId × Value→H} {w:World} {base:Nat} {spare:Nat→Bool} {held:Bool} {fuel:Nat} {cs:List Value} {x:DataW H × List MemPlace} (h:DataW.trod enc Tryz.prog w base spare held fuel 25 cs=some x) :
  ∃ r:qG5,cs=[.int .i64 r.i,.int .i64 r.u,.slice r.sa r.sn r.sc,.slice r.la r.ln r.lc]∧qD5 w r∧qL1 maxLen r:=by
 obtain ⟨xs,n,_,_,hl,hlen,hf⟩:=DataW.trod_struct Tryz.underlying25 h
 rw [Tryz.cells25] at hl
 obtain ⟨c0,c1,c2,c3,rfl⟩:=listRe hl
 obtain ⟨y0,y1,y2,y3,rfl⟩:=listRe hlen
 have g0:=hf 0 _ rfl
 have g1:=hf 1 _ rfl
 have g2:=hf 2 _ rfl
 have g3:=hf 3 _ rfl
 simp [cells64St,Tryz.cells22,Tryz.cells23] at g0 g1 g2 g3
 obtain ⟨e0,q0,_,_⟩:=DataW.trod_int Tryz.underlying2 g0
 obtain ⟨e1,q1,_,_⟩:=DataW.trod_int Tryz.underlying2 g1
 obtain ⟨sa,sn,sc,q2⟩:=sts_val g2
 obtain ⟨la,ln,lc,q3⟩:=lks_val g3
 simp at q0 q1 q2 q3
 subst q0 q1 q2 q3
 obtain ⟨ss,hs⟩:=QF3 g2
 obtain ⟨ls,hl⟩:=locks_shape g3
 exact ⟨⟨e0,e1,sa,sn,sc,ss,la,ln,lc,ls⟩,rfl,⟨hs.1,hl.1⟩,⟨hs.2,hl.2⟩⟩
theorem rep_shape {H:Type} {enc:TypeId × Value→H} {w:World} {base:Nat} {spare:Nat→Bool} {held:Bool} {fuel:Nat} (cs:Array Value) {x:DataW H × List MemPlace} (h:DataW.trod enc Tryz.prog w base spare held fuel 25 cs.toList=some x) :
  ∃ r:qG5,cs = #[.int .i64 r.i,.int .i64 r.u,.slice r.sa r.sn r.sc,.slice r.la r.ln r.lc]∧qD5 w r∧qL1 maxLen r:=by
 obtain ⟨r,e,h1,h2⟩:=rep_list h
 exact ⟨r,by cases cs;simp_all,h1,h2⟩
end

end Go.Proofs.YtlhgjackapdmbaaGreatDoor
