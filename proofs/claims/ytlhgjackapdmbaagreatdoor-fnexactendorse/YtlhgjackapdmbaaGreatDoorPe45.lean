/- Contracts. -/
import Derived.Test.YtlhgjackapdmbaaGreatDoorPe42
import Derived.Test.YtlhgjackapdmbaaGreatDoorPe44
namespace Go.Proofs.YtlhgjackapdmbaaGreatDoor
set_option maxRecDepth 100000
set_option maxHeartbeats 8000000
open Go.RowKit
set_option linter.unusedVariables false
set_option linter.unusedSimpArgs false

theorem replica_c (b:Nat) (i u:Int) (cv:Value) (sa:Option Addr) (n sc:Nat) (la:Option Addr) (m lc:Nat) (w:World) (hs:qX9 w b cv (.slice sa n sc) (.slice la m lc)) :
  Calls Tryz.prog 42 #[.pointer (some ⟨b,0,none⟩),.int .i64 i,.int .i64 u] w fun d w'=>d = .returned (.agg #[.int .i64 0,.int .i64 i,.int .i64 u,.slice sa n sc,.slice la m lc])∧Below w.heap.size w w':=by
 have hbl:=hs.lt
 obtain ⟨W,hW⟩:∃ W,W=w.alloc (.cells #[.int .i64 0,.int .i64 0,.int .i64 0,.slice none 0 0,.slice none 0 0] 47):=⟨_,rfl⟩
 have A0:Below w.heap.size w W:=by rw [hW];exact zN
 have X0:qG2 w.heap.size [.int .i64 0,.int .i64 0,.int .i64 0,.slice none 0 0,.slice none 0 0] W:=by rw [hW];exact qE0 w _ _
 have hwl:w.heap.size < W.heap.size:=by rw [hW];simp
 have s1:=(hs.below A0).c1
 have s2:=(hs.below A0).c2
 have hbW:b < W.heap.size:=by omega
 have hne:b≠w.heap.size:=by omega
 have z0:=X0.1 0 _ rfl
 have z1:=X0.1 1 _ rfl
 have z2:=X0.1 2 _ rfl
 have z3:=X0.1 3 _ rfl
 have z4:=X0.1 4 _ rfl
 have f0:=X0.2 0
 have f1:=X0.2 1
 have f2:=X0.2 2
 have f3:=X0.2 3
 have f4:=X0.2 4
 have HB:=qC8 A0
 clear hs A0 X0
 go_enter Tryz.func42,Tryz.ntmps42
 go_upto_region 1 with fail
 rw [← hW]
 clear hW
 go_region
 go_wp2_with fail
 refine bodyPost_ret (v:=.agg #[.int .i64 0,.int .i64 i,.int .i64 u,.slice sa n sc,.slice la m lc]) (by simp [results,Tryz.results42,go_sem,z0,z1,z2,z3,z4,hwl]) rfl ⟨rfl,?_⟩
 first
  | exact (((((HB.out.setCell (Nat.le_refl _) _).setCell (Nat.le_refl _) _).setCell (Nat.le_refl _) _).setCell (Nat.le_refl _) _).setCell (Nat.le_refl _) _).drew
  | exact ((((HB.out.drew.setCell (Nat.le_refl _) _).setCell (Nat.le_refl _) _).setCell (Nat.le_refl _) _).setCell (Nat.le_refl _) _).setCell (Nat.le_refl _) _

def RepA (k i u:Int) (S:List StI) (L:List LkI) (w:World) (d:Ending) (w':World):Prop :=
 Below w.heap.size w w'∧(k≠0→d = .returned (.agg #[.int .i64 k,.int .i64 0,.int .i64 0,.slice none 0 0,.slice none 0 0]))∧(k=0→∃ (sa:Option Addr) (sc:Nat) (la:Option Addr) (lc:Nat),d = .returned (.agg #[.int .i64 0,.int .i64 i,.int .i64 u,.slice sa S.length sc,.slice la L.length lc])∧qB1 w' w.heap.size (.slice sa S.length sc) S∧qA4 w' w.heap.size (.slice la L.length lc) L)

theorem rep_ok {E:qI1} {cs:List qA5} {r:qH5} (h:qM3 E cs r=0):qB8 cs=0∧qF6 E r.ss r.sn=some r.ls:=by
 unfold qM3 at h
 by_cases hk:qB8 cs=0
 ·rw [if_pos hk] at h
  refine ⟨hk,?_⟩
  split at h
  ·split at h
   ·cases h
   ·split at h
    ·assumption
    ·cases h
  ·cases h
 ·rw [if_neg hk] at h
  exact absurd h hk
def qJ9 (E:qI1) (cs:List qA5) (r:qH5) (x:StI):Int:=if qM3 E cs r=0 then qE1 E r.ss r.ls x else qM3 E cs r
theorem QV0 (E:qI1) (r:qH5) (a:Option Addr) (m cap:Nat) (cs:List qA5) (x:StI) (w:World) (hr:qE7 w r) (hle:qL6 1048576 r) (hc:qA7 w a m cs) (hcl:qF5 1048576 cs) (hm:m≤1048576) (hEr:qO1 0 w) (hH:qE2 w) (hEC:qB8 cs=0→qO2 E cs) :
  Calls Tryz.prog 27 #[.agg #[.int .i64 r.i,.int .i64 r.u,.slice r.sa r.sn r.sc,.slice r.la r.ln r.lc],.slice a m cap,.agg #[.int .i64 x.k,.int .i64 x.e,.int .i64 x.f,.int .i64 x.s,.int .i64 x.n]] w fun d w'=>RepA (qJ9 E cs r x) r.i r.u (qI6 r.ss x) (qG5 E r.ss r.ls x) w d w':=by
 obtain ⟨V,hV⟩:∃ V,V=((w.alloc (.cells #[.int .i64 r.i,.int .i64 r.u,.slice r.sa r.sn r.sc,.slice r.la r.ln r.lc] 33)).alloc (.cells #[.int .i64 x.k,.int .i64 x.e,.int .i64 x.f,.int .i64 x.s,.int .i64 x.n] 43)).alloc (.cells #[.int .i64 0,.int .i64 0,.int .i64 0,.slice none 0 0,.slice none 0 0] 47):=⟨_,rfl⟩
 have Z0:Hid (EV w r x V):=by show EV _ _ _ _;rw [hV];exact EV.new w r x
 obtain ⟨k,hk⟩:∃ k,qM3 E cs r=k:=⟨_,rfl⟩
 have HSL:Hid (r.ss.length=r.sn∧r.ls.length=r.ln):=⟨hr.said.1,hr.locks.1⟩
 have HRB:Hid (Calls Tryz.prog 37 #[.agg #[.int .i64 r.i,.int .i64 r.u,.slice r.sa r.sn r.sc,.slice r.la r.ln r.lc],.slice a m cap] V fun d w'=>RebR r a m cap k V d w'):=by
  show Calls _ _ _ _ _
  rw [← hk]
  exact rebuild_c E r a m cap cs V (hr.below Z0.out.bl) hle (hc.below Z0.out.bl) hcl hm (hEr.below Z0.out.bl) (hH.below Z0.out.bl) hEC
 have HOK:Hid (k=0→qO2 E cs∧RpS E r.ss r.ls∧0 < m∧m≤8):=fun q=>by
  obtain ⟨q1,q2⟩:=rep_ok (hk.trans q)
  have c1:=qU0 q1
  have hl:=hc.len
  have p:=QF3 r.sn r.ls (by rw [hr.said.1];exact Nat.le_refl _) q2
  rw [List.take_of_length_le (by rw [hr.said.1];exact Nat.le_refl _)] at p
  exact ⟨hEC q1,p,by omega,by omega⟩
 have HST:Hid (∀ W,Below w.heap.size w W→qA7 W a m cs∧qO1 0 W∧qE2 W):=fun W hb=>⟨hc.below hb,hEr.below hb,hH.below hb⟩
 have HKE:Hid (qJ9 E cs r x=if k=0 then qE1 E r.ss r.ls x else k):=by show _=_;unfold qJ9;rw [hk]
 obtain ⟨v0,v1,v2,v3⟩:=Z0.out.rb
 have hvl:w.heap.size < V.heap.size:=by have:=Z0.out.lt;omega
 have hVs:=Z0.out.bl.size
 have HVL:Hid (w.heap.size+2 < V.heap.size):=Z0.out.lt
 obtain ⟨K,hK⟩:∃ K,qJ9 E cs r x=K:=⟨_,rfl⟩
 obtain ⟨S,hS⟩:∃ S,qI6 r.ss x=S:=⟨_,rfl⟩
 obtain ⟨L,hL⟩:∃ L,qG5 E r.ss r.ls x=L:=⟨_,rfl⟩
 have HS0:Hid (qI6 r.ss x=S):=hS
 have HL0:Hid (qG5 E r.ss r.ls x=L):=hL
 rw [hK,hS,hL]
 clear hS hL
 rw [hK] at HKE
 clear hk hr hle hc hcl hEr hH hEC hK
 go_enter Tryz.func27,Tryz.ntmps27
 go_upto_region 1 with fail
 rw [← hV]
 clear hV
 go_wp2_with fail
 refine HRB.out.mono ?_
 rintro d w1 ⟨hb1,h1,h2⟩
 have Z1:=qC8 (Z0.out.below hb1)
 have hqV0:=hb1.size
 clear hb1 Z0 HRB v0 v1 v2 v3 hvl
 by_cases hk:k=0
 ·obtain ⟨sa,sc,la,lc,rfl,ho1,ho2⟩:=h2 hk
  obtain ⟨hE,hRp,hm0,hm8⟩:=HOK.out hk
  subst hk
  obtain ⟨Y,hY⟩:∃ Y,Y=w1.alloc (.cells #[.slice a m cap,.slice sa r.sn sc,.slice la r.ln lc] 74):=⟨_,rfl⟩
  have AY:Below w1.heap.size w1 Y:=by rw [hY];exact zN
  have Z2:=qC8 (Z1.out.below AY)
  have hqV:V.heap.size≤w1.heap.size:=hqV0
  have S2:Hid (qH2 Y w1.heap.size V.heap.size (.slice a m cap) sa sc r.ss la lc r.ls):=by
   refine ⟨?_,?_,?_,hqV⟩
   ·rw [hY,HSL.out.1,HSL.out.2];exact QV2 w1 _
   ·rw [HSL.out.1];exact ho1.below AY
   ·rw [HSL.out.2];exact ho2.below AY
  have HEN:=endorse_c E w1.heap.size V.heap.size a m cap cs sa sc r.ss la lc r.ls x Y S2.out hE (fun W hW=>HST.out W (Z2.out.bl.trans (hW.mono hVs))) hm0 hm8 hRp
  obtain ⟨e,he⟩:∃ e,qE1 E r.ss r.ls x=e:=⟨_,rfl⟩
  have hS:=HS0.out
  have hL:=HL0.out
  have H9:Hid (Calls Tryz.prog 50 #[.pointer (some ⟨w1.heap.size,0,none⟩),.agg #[.int .i64 x.k,.int .i64 x.e,.int .i64 x.f,.int .i64 x.s,.int .i64 x.n]] Y fun d w'=>d = .returned (.int .i64 e)∧Below V.heap.size Y w'∧(e=0→∃ sa' sc' la' lc',qH2 w' w1.heap.size V.heap.size (.slice a m cap) sa' sc' S la' lc' L)):=by
   refine Calls.mono HEN ?_
   rintro d w' ⟨g1,g2,g3,g4⟩
   refine ⟨by rw [← he];exact g1,g2,fun q=>?_⟩
   cases hsx:qD8 r.ss x
   ·obtain ⟨sa',sc',la',lc',g5⟩:=g4 (he.trans q) hsx
    refine ⟨sa',sc',la',lc',?_⟩
    rw [← hS,← hL]
    unfold qI6 qG5
    rw [hsx,if_neg (by decide),if_neg (by decide)]
    exact g5
   ·refine ⟨sa,sc,la,lc,?_⟩
    rw [← hS,← hL]
    unfold qI6 qG5
    rw [hsx,if_pos rfl,if_pos rfl]
    exact g3 (.inr hsx)
  have HK2:Hid (K=e):=by show _=_;rw [HKE.out,if_pos rfl,he]
  clear h1 h2 ho1 ho2 AY Z1 HEN he hS hL HOK hE hRp
  go_upto_region 4 with fail
  rw [← hY]
  clear hY
  generalize w1.heap.size=q at S2 H9 hqV ⊢
  obtain ⟨x0,x1,x2,x3,x4⟩:=Z2.out.xa
  simp only [Nat.zero_add] at x0 x1 x2 x3 x4
  have hxl:w.heap.size+1 < Y.heap.size:=by have:=Z2.out.lt;omega
  go_wp2_with fail
  refine H9.out.mono ?_
  rintro d w3 ⟨rfl,hb3,hs3⟩
  have hV2:=HVL.out
  have B3:=qC8 (Z2.out.bl.trans (hb3.mono hVs))
  have R3:qG2 (w.heap.size+2) [.int .i64 0,.int .i64 0,.int .i64 0,.slice none 0 0,.slice none 0 0] w3:=⟨fun j v e=>(World.cell?_of_block (w:=Y) (w':=w3) (a:=⟨w.heap.size+2,j,none⟩) (hb3.block _ hV2)).trans (Z2.out.rs.1 j v e),fun j=>(World.frozen?_of_block (w:=Y) (w':=w3) (a:=⟨w.heap.size+2,j,none⟩) (hb3.block _ hV2)).trans (Z2.out.rs.2 j)⟩
  have i0:w3.cell? ⟨w.heap.size,0,none⟩=some (.int .i64 r.i):=(hb3.cell (p:=⟨w.heap.size,0,none⟩) (by show w.heap.size < V.heap.size;omega)).trans Z2.out.rb.1
  have i1:w3.cell? ⟨w.heap.size,1,none⟩=some (.int .i64 r.u):=(hb3.cell (p:=⟨w.heap.size,1,none⟩) (by show w.heap.size < V.heap.size;omega)).trans Z2.out.rb.2.1
  have hl3:w.heap.size+2 < w3.heap.size:=Nat.lt_of_lt_of_le Z2.out.lt hb3.size
  have hl30:w.heap.size < w3.heap.size:=by omega
  have HR3:=qC8 R3
  have HS3:Hid (e=0→∃ sa' sc' la' lc',qH2 w3 q V.heap.size (.slice a m cap) sa' sc' S la' lc' L):=hs3
  clear hb3 Z2 H9 S2 x0 x1 x2 x3 x4 hxl hs3 R3
  by_cases e0:e=0
  ·obtain ⟨sa',sc',la',lc',hsp⟩:=HS3.out e0
   have SP:=qC8 hsp
   clear hsp
   have HK3:Hid (K=0):=HK2.out.trans e0
   subst e0
   go_wp2_with fail
   refine (replica_c q r.i r.u _ sa' S.length sc' la' L.length lc' w3 SP.out.spk).mono ?_
   rintro d w4 ⟨rfl,hb4⟩
   have B4:=qC8 (B3.out.trans (hb4.mono B3.out.size))
   have R4:=qG2.below HR3.out hl3 hb4
   have O4:=qC8 (SP.out.below hb4)
   have hl4:w.heap.size+2 < w4.heap.size:=Nat.lt_of_lt_of_le hl3 hb4.size
   have z0:=R4.1 0 _ rfl
   have z1:=R4.1 1 _ rfl
   have z2:=R4.1 2 _ rfl
   have z3:=R4.1 3 _ rfl
   have z4:=R4.1 4 _ rfl
   have f0:=R4.2 0
   have f1:=R4.2 1
   have f2:=R4.2 2
   have f3:=R4.2 3
   have f4:=R4.2 4
   clear hb4 i0 i1 R4
   go_wp2_with fail
   refine bodyPost_ret (v:=.agg #[.int .i64 0,.int .i64 r.i,.int .i64 r.u,.slice sa' S.length sc',.slice la' L.length lc']) (by simp [results,Tryz.results27,go_sem,z0,z1,z2,z3,z4,hl4]) rfl ?_
   rw [HK3.out]
   refine ⟨(((((B4.out.setCell (by show w.heap.size≤w.heap.size+2;omega) _).setCell (by show w.heap.size≤w.heap.size+2;omega) _).setCell (by show w.heap.size≤w.heap.size+2;omega) _).setCell (by show w.heap.size≤w.heap.size+2;omega) _).setCell (by show w.heap.size≤w.heap.size+2;omega) _),fun q=>absurd rfl q,fun _=>⟨sa',sc',la',lc',rfl,qA2 (qC5 O4.out.ow hVs) (fun g e=>?_),qA2 (qA9 O4.out.lk hVs) (fun g e=>?_)⟩⟩
   ·obtain ⟨cur,hcc,hgg⟩:=qD4 O4.out.ow e
    rw [Below.heap_setCell _ _ _ _ (by show g≠w.heap.size+2;omega),Below.heap_setCell _ _ _ _ (by show g≠w.heap.size+2;omega),Below.heap_setCell _ _ _ _ (by show g≠w.heap.size+2;omega),Below.heap_setCell _ _ _ _ (by show g≠w.heap.size+2;omega),Below.heap_setCell _ _ _ _ (by show g≠w.heap.size+2;omega)]
   ·obtain ⟨cur,hcc,hgg⟩:=qD2 O4.out.lk e
    rw [Below.heap_setCell _ _ _ _ (by show g≠w.heap.size+2;omega),Below.heap_setCell _ _ _ _ (by show g≠w.heap.size+2;omega),Below.heap_setCell _ _ _ _ (by show g≠w.heap.size+2;omega),Below.heap_setCell _ _ _ _ (by show g≠w.heap.size+2;omega),Below.heap_setCell _ _ _ _ (by show g≠w.heap.size+2;omega)]
  ·have eb:(e != 0)=true:=by simp [e0]
   have z0:=HR3.out.1 0 _ rfl
   have z1:=HR3.out.1 1 _ rfl
   have z2:=HR3.out.1 2 _ rfl
   have z3:=HR3.out.1 3 _ rfl
   have z4:=HR3.out.1 4 _ rfl
   have f0:=HR3.out.2 0
   have f1:=HR3.out.2 1
   have f2:=HR3.out.2 2
   have f3:=HR3.out.2 3
   have f4:=HR3.out.2 4
   go_wp2_with fail
   refine bodyPost_ret (v:=.agg #[.int .i64 e,.int .i64 0,.int .i64 0,.slice none 0 0,.slice none 0 0]) (by simp [results,Tryz.results27,go_sem,z0,z1,z2,z3,z4,hl3]) rfl ?_
   rw [HK2.out]
   exact ⟨(((((B3.out.setCell (by show w.heap.size≤w.heap.size+2;omega) _).setCell (by show w.heap.size≤w.heap.size+2;omega) _).setCell (by show w.heap.size≤w.heap.size+2;omega) _).setCell (by show w.heap.size≤w.heap.size+2;omega) _).setCell (by show w.heap.size≤w.heap.size+2;omega) _),fun _=>rfl,fun q=>absurd q e0⟩
 ·obtain rfl:=h1 hk
  have kb:(k != 0)=true:=by simp [hk]
  have Z2:=qC8 (Z1.out.below ((Below.refl _ _).alloc (Nat.le_refl _) (.cells #[.slice none 0 0,.slice none 0 0,.slice none 0 0] 74)))
  have HK3:Hid (K=k):=by show _=_;rw [HKE.out,if_neg hk]
  clear h1 h2 Z1
  have z0:=Z2.out.rs.1 0 _ rfl
  have z1:=Z2.out.rs.1 1 _ rfl
  have z2:=Z2.out.rs.1 2 _ rfl
  have z3:=Z2.out.rs.1 3 _ rfl
  have z4:=Z2.out.rs.1 4 _ rfl
  have f0:=Z2.out.rs.2 0
  have f1:=Z2.out.rs.2 1
  have f2:=Z2.out.rs.2 2
  have f3:=Z2.out.rs.2 3
  have f4:=Z2.out.rs.2 4
  have hzl:=Z2.out.lt
  go_wp2_with fail
  refine bodyPost_ret (v:=.agg #[.int .i64 k,.int .i64 0,.int .i64 0,.slice none 0 0,.slice none 0 0]) (by simp [results,Tryz.results27,go_sem,z0,z1,z2,z3,z4,hzl]) rfl ?_
  rw [HK3.out]
  exact ⟨(((((Z2.out.bl.setCell (by show w.heap.size≤w.heap.size+2;omega) _).setCell (by show w.heap.size≤w.heap.size+2;omega) _).setCell (by show w.heap.size≤w.heap.size+2;omega) _).setCell (by show w.heap.size≤w.heap.size+2;omega) _).setCell (by show w.heap.size≤w.heap.size+2;omega) _),fun _=>rfl,fun q=>absurd q hk⟩

end Go.Proofs.YtlhgjackapdmbaaGreatDoor
