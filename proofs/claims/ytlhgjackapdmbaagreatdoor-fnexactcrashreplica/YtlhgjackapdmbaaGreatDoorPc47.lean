/- Contracts. -/
import Derived.Test.YtlhgjackapdmbaaGreatDoorPc44
import Derived.Test.YtlhgjackapdmbaaGreatDoorPc46
namespace Go.Proofs.YtlhgjackapdmbaaGreatDoor
set_option maxRecDepth 100000
set_option maxHeartbeats 8000000
open Go.RowKit
set_option linter.unusedVariables false
set_option linter.unusedSimpArgs false

theorem replica_c (b:Nat) (i u:Int) (cv:Value) (sa:Option Addr) (n sc:Nat) (la:Option Addr) (m lc:Nat) (w:World) (hs:qO8 w b cv (.slice sa n sc) (.slice la m lc)) :
  Calls Tryz.prog 42 #[.pointer (some ⟨b,0,none⟩),.int .i64 i,.int .i64 u] w fun d w'=>d = .returned (.agg #[.int .i64 0,.int .i64 i,.int .i64 u,.slice sa n sc,.slice la m lc])∧Below w.heap.size w w':=by
 have hbl:=hs.lt
 obtain ⟨W,hW⟩:∃ W,W=w.alloc (.cells #[.int .i64 0,.int .i64 0,.int .i64 0,.slice none 0 0,.slice none 0 0] 47):=⟨_,rfl⟩
 have A0:Below w.heap.size w W:=by rw [hW];exact zN
 have X0:qI3 w.heap.size [.int .i64 0,.int .i64 0,.int .i64 0,.slice none 0 0,.slice none 0 0] W:=by rw [hW];exact qG7 w _ _
 have hwl:w.heap.size < W.heap.size:=by rw [hW];simp
 have s1:=(hs.below A0).c1
 have s2:=(hs.below A0).c2
 have hbW:b < W.heap.size:=by omega
 have hne:b≠w.heap.size:=by omega
 have z0:=X0.1 0 _ rfl
 have z1:=X0.1 1 _ rfl
 have z2:=X0.1 2 _ rfl
 have z3:=X0.1 3 _ rfl
 have z4:=X0.1 4 _ rfl
 have f0:=X0.2 0
 have f1:=X0.2 1
 have f2:=X0.2 2
 have f3:=X0.2 3
 have f4:=X0.2 4
 have HB:=qC2 A0
 clear hs A0 X0
 go_enter Tryz.func42,Tryz.ntmps42
 go_upto_region 1 with fail
 rw [← hW]
 clear hW
 go_region
 go_wp2_with fail
 refine bodyPost_ret (v:=.agg #[.int .i64 0,.int .i64 i,.int .i64 u,.slice sa n sc,.slice la m lc]) (by simp [results,Tryz.results42,go_sem,z0,z1,z2,z3,z4,hwl]) rfl ⟨rfl,?_⟩
 first
  | exact (((((HB.out.setCell (Nat.le_refl _) _).setCell (Nat.le_refl _) _).setCell (Nat.le_refl _) _).setCell (Nat.le_refl _) _).setCell (Nat.le_refl _) _).drew
  | exact ((((HB.out.drew.setCell (Nat.le_refl _) _).setCell (Nat.le_refl _) _).setCell (Nat.le_refl _) _).setCell (Nat.le_refl _) _).setCell (Nat.le_refl _) _

def RepA (k i u:Int) (S:List StI) (L:List LkI) (w:World) (d:Ending) (w':World):Prop :=
 Below w.heap.size w w'∧(k≠0→d = .returned (.agg #[.int .i64 k,.int .i64 0,.int .i64 0,.slice none 0 0,.slice none 0 0]))∧(k=0→∃ (sa:Option Addr) (sc:Nat) (la:Option Addr) (lc:Nat),d = .returned (.agg #[.int .i64 0,.int .i64 i,.int .i64 u,.slice sa S.length sc,.slice la L.length lc])∧qB1 w' w.heap.size (.slice sa S.length sc) S∧qA1 w' w.heap.size (.slice la L.length lc) L)
structure RZ (w:World) (r:qF4) (W:World):Prop where
 bx:qE5 w.heap.size [.int .i64 r.i,.int .i64 r.u,.slice r.sa r.sn r.sc,.slice r.la r.ln r.lc] W
 rs:qI3 (w.heap.size+1) [.int .i64 0,.int .i64 0,.int .i64 0,.slice none 0 0,.slice none 0 0] W
 lt:w.heap.size+1 < W.heap.size
 bl:Below w.heap.size w W
theorem RZ.below {w:World} {r:qF4} {W W':World} (h:RZ w r W) (hb:Below W.heap.size W W'):RZ w r W' :=
 ⟨((qE5.hold h.bx (Nat.lt_of_succ_lt h.lt)).below hb).out,qI3.below h.rs h.lt hb,Nat.lt_of_lt_of_le h.lt hb.size,h.bl.trans (hb.mono h.bl.size)⟩
theorem RZ.new (w:World) (r:qF4):RZ w r ((w.alloc (.cells #[.int .i64 r.i,.int .i64 r.u,.slice r.sa r.sn r.sc,.slice r.la r.ln r.lc] 33)).alloc (.cells #[.int .i64 0,.int .i64 0,.int .i64 0,.slice none 0 0,.slice none 0 0] 47)):=by
 have e:w.heap.size+1=(w.alloc (.cells #[.int .i64 r.i,.int .i64 r.u,.slice r.sa r.sn r.sc,.slice r.la r.ln r.lc] 33)).heap.size:=by simp
 refine ⟨((qE0 w _ _).below (zN)).out,?_,by simp,(zN).alloc (by simp) _⟩
 rw [e]
 exact qG7 _ _ _

theorem QY3 {E:qH0} {cs:List qA3} {r:qF4} (h:qH3 E cs r=0):qB5 cs=0∧qD4 E r.ss r.sn=some r.ls:=by
 unfold qH3 at h
 by_cases hk:qB5 cs=0
 ·rw [if_pos hk] at h
  refine ⟨hk,?_⟩
  split at h
  ·split at h
   ·cases h
   ·split at h
    ·assumption
    ·cases h
  ·cases h
 ·rw [if_neg hk] at h
  exact absurd h hk

theorem play_pre {E:qH0} {xs:List StI} {n:Nat} {ls:List LkI} (h:qD4 E xs n=some ls) (k:Nat) (hk:k≤n):∃ l,qD4 E xs k=some l:=by
 cases e:qD4 E xs k with
 | none =>
  rw [qV5 e hk] at h
  cases h
 | some l=>exact ⟨l,rfl⟩
theorem QZ0 {E:qH0} {xs:List StI} {n:Nat}:∀ k,k≤n→qD4 E (xs.take n) k=qD4 E xs k
 | 0,_=>rfl
 | k+1,hk=>by
  have e1:(xs.take n)[k]? = xs[k]? := by rw [List.getElem?_take,if_pos (by omega)]
  have e2:(xs.take n).take k=xs.take k:=by rw [List.take_take,Nat.min_eq_left (by omega)]
  have ih:qD4 E (xs.take n) k=qD4 E xs k:=QZ0 k (by omega)
  simp only [qD4,ih,e1,e2]
theorem qK9.take {w:World} {a:Option Addr} {n m:Nat} {gs:List StI} (h:qK9 w a n gs) (hm:m≤n):qK9 w a m (gs.take m):=by
 refine ⟨by rw [List.length_take,h.1];omega,fun hp=>?_⟩
 obtain ⟨b,off,e,q⟩:=h.2 (by omega)
 refine ⟨b,off,e,fun k x hx=>q k x ?_⟩
 rw [List.getElem?_take] at hx
 split at hx
 ·exact hx
 ·cases hx
def qO1 (r:qF4) (x:Int):Nat:=(r.u+x).toNat
def qM7 (E:qH0) (cs:List qA3) (r:qF4) (x:Int):Int:=if qH3 E cs r=0 then (if 0≤x∧x≤(r.sn:Int) - r.u then 0 else 3) else qH3 E cs r
def qI2 (r:qF4) (x:Int):List StI:=r.ss.take (qO1 r x)
def qG6 (E:qH0) (r:qF4) (x:Int):List LkI:=(qD4 E r.ss (qO1 r x)).getD []
theorem qR3 {E:qH0} {cs:List qA3} {r:qF4} (h:qH3 E cs r=0):0≤r.u∧r.u≤(r.sn:Int)∧r.sn≤40:=by
 unfold qH3 at h
 split at h
 ·split at h
  ·rename_i hb
   split at h
   ·omega
   ·unfold qI0 at hb
    simp [inR] at hb
    omega
  ·omega
 ·omega
theorem cr_play {E:qH0} {cs:List qA3} {r:qF4} {x:Int} (h:qH3 E cs r=0) (h0:0≤x) (h1:x≤(r.sn:Int) - r.u) (hl:r.ss.length=r.sn):qD4 E (qI2 r x) (qO1 r x)=some (qG6 E r x)∧(qI2 r x).length=qO1 r x∧((qO1 r x:Nat):Int)=r.u+x∧qO1 r x≤r.sn:=by
 have b:=qR3 h
 have e:((qO1 r x:Nat):Int)=r.u+x:=by unfold qO1;omega
 have hle:qO1 r x≤r.sn:=by omega
 obtain ⟨l,hp⟩:=play_pre (QY3 h).2 (qO1 r x) hle
 refine ⟨?_,?_,e,hle⟩
 ·unfold qI2 qG6
  rw [QZ0 _ (Nat.le_refl _),hp]
  rfl
 ·unfold qI2
  rw [List.length_take,hl]
  omega

theorem own_capSt {w:World} {B:Nat} {a:Option Addr} {n cap:Nat} {zs:List StI} (h:qB1 w B (.slice a n cap) zs) (hn:zs.length=n):n≤cap:=by
 have h0:w.ownsRow B 43 5 (.slice a n cap) zs.length (qC5 zs):=h
 rcases h0.2 with ⟨h1,h2⟩ | ⟨g',cap',cur,h1,hg,hb,h3,h4,h5,h6⟩
 ·simp at h1
  omega
 ·simp at h1
  obtain ⟨_,_,rfl⟩:=h1
  omega
theorem crash_bad (E:qH0) (r:qF4) (a:Option Addr) (m cap:Nat) (cs:List qA3) (x:Int) (w:World) (hr:qD9 w r) (hle:qJ6 1048576 r) (hc:qA6 w a m cs) (hcl:qE7 1048576 cs) (hm:m≤1048576) (hEr:qL8 0 w) (hH:qD6 w) (hEC:qB5 cs=0→qN0 E cs) (k:Int) (hk0:qH3 E cs r=k) (hk:k≠0) (i u:Int) (S:List StI) (L:List LkI) :
  Calls Tryz.prog 29 #[.agg #[.int .i64 r.i,.int .i64 r.u,.slice r.sa r.sn r.sc,.slice r.la r.ln r.lc],.slice a m cap,.int .i64 x] w fun d w'=>RepA k i u S L w d w':=by
 obtain ⟨V,hV⟩:∃ V,V=(w.alloc (.cells #[.int .i64 r.i,.int .i64 r.u,.slice r.sa r.sn r.sc,.slice r.la r.ln r.lc] 33)).alloc (.cells #[.int .i64 0,.int .i64 0,.int .i64 0,.slice none 0 0,.slice none 0 0] 47):=⟨_,rfl⟩
 have Z0:Hid (RZ w r V):=by show RZ _ _ _;rw [hV];exact RZ.new w r
 have HSL:Hid (r.ss.length=r.sn∧r.ls.length=r.ln):=⟨hr.said.1,hr.locks.1⟩
 have HRB:Hid (Calls Tryz.prog 37 #[.agg #[.int .i64 r.i,.int .i64 r.u,.slice r.sa r.sn r.sc,.slice r.la r.ln r.lc],.slice a m cap] V fun d w'=>RebR r a m cap k V d w'):=by
  show Calls _ _ _ _ _
  rw [← hk0]
  exact QD3 E r a m cap cs V (hr.below Z0.out.bl) hle (hc.below Z0.out.bl) hcl hm (hEr.below Z0.out.bl) (hH.below Z0.out.bl) hEC
 have hsn:(r.sn:Int)≤1048576:=by have:=hle.said;omega
 have v0:=Z0.out.bx 0 _ rfl
 have v1:=Z0.out.bx 1 _ rfl
 have v2:=Z0.out.bx 2 _ rfl
 have v3:=Z0.out.bx 3 _ rfl
 have hvl:w.heap.size < V.heap.size:=Nat.lt_of_succ_lt Z0.out.lt
 have hVs:=Z0.out.bl.size
 have HVL:Hid (w.heap.size+1 < V.heap.size):=Z0.out.lt
 clear hk0 hr hle hc hcl hEr hH hEC
 go_enter Tryz.func29,Tryz.ntmps29
 go_upto_region 1 with fail
 rw [← hV]
 clear hV
 go_wp2_with fail
 refine HRB.out.mono ?_
 rintro d w1 ⟨hb1,h1,h2⟩
 have Z1:=qC2 (Z0.out.below hb1)
 clear hb1 Z0 HRB v0 v1 v2 v3 hvl
 obtain rfl:=h1 hk
 have kb:(k != 0)=true:=by simp [hk]
 have Z2:=qC2 (Z1.out.below ((Below.refl _ _).alloc (Nat.le_refl _) (.cells #[.slice none 0 0,.slice none 0 0,.slice none 0 0] 74)))
 clear h1 h2 Z1
 have z0:=Z2.out.rs.1 0 _ rfl
 have z1:=Z2.out.rs.1 1 _ rfl
 have z2:=Z2.out.rs.1 2 _ rfl
 have z3:=Z2.out.rs.1 3 _ rfl
 have z4:=Z2.out.rs.1 4 _ rfl
 have f0:=Z2.out.rs.2 0
 have f1:=Z2.out.rs.2 1
 have f2:=Z2.out.rs.2 2
 have f3:=Z2.out.rs.2 3
 have f4:=Z2.out.rs.2 4
 have hzl:=Z2.out.lt
 go_wp2_with fail
 refine bodyPost_ret (v:=.agg #[.int .i64 k,.int .i64 0,.int .i64 0,.slice none 0 0,.slice none 0 0]) (by simp [results,Tryz.results29,go_sem,z0,z1,z2,z3,z4,hzl]) rfl ?_
 exact ⟨((((Z2.out.bl.setCell (Nat.le_succ _) _).setCell (Nat.le_succ _) _).setCell (Nat.le_succ _) _).setCell (Nat.le_succ _) _).setCell (Nat.le_succ _) _,fun _=>rfl,fun q=>absurd q hk⟩
theorem crash_ok (E:qH0) (r:qF4) (a:Option Addr) (m cap:Nat) (cs:List qA3) (x:Int) (w:World) (hr:qD9 w r) (hle:qJ6 1048576 r) (hc:qA6 w a m cs) (hcl:qE7 1048576 cs) (hm:m≤1048576) (hEr:qL8 0 w) (hH:qD6 w) (hEC:qB5 cs=0→qN0 E cs) (hk0:qH3 E cs r=0) (hx0:0≤x) (hx1:x≤(r.sn:Int) - r.u) :
  Calls Tryz.prog 29 #[.agg #[.int .i64 r.i,.int .i64 r.u,.slice r.sa r.sn r.sc,.slice r.la r.ln r.lc],.slice a m cap,.int .i64 x] w fun d w'=>RepA 0 r.i (r.u+x) (qI2 r x) (qG6 E r x) w d w':=by
 obtain ⟨V,hV⟩:∃ V,V=(w.alloc (.cells #[.int .i64 r.i,.int .i64 r.u,.slice r.sa r.sn r.sc,.slice r.la r.ln r.lc] 33)).alloc (.cells #[.int .i64 0,.int .i64 0,.int .i64 0,.slice none 0 0,.slice none 0 0] 47):=⟨_,rfl⟩
 have Z0:Hid (RZ w r V):=by show RZ _ _ _;rw [hV];exact RZ.new w r
 have HSL:Hid (r.ss.length=r.sn∧r.ls.length=r.ln):=⟨hr.said.1,hr.locks.1⟩
 have HRB:Hid (Calls Tryz.prog 37 #[.agg #[.int .i64 r.i,.int .i64 r.u,.slice r.sa r.sn r.sc,.slice r.la r.ln r.lc],.slice a m cap] V fun d w'=>RebR r a m cap 0 V d w'):=by
  show Calls _ _ _ _ _
  rw [← hk0]
  exact QD3 E r a m cap cs V (hr.below Z0.out.bl) hle (hc.below Z0.out.bl) hcl hm (hEr.below Z0.out.bl) (hH.below Z0.out.bl) hEC
 have hsn:(r.sn:Int)≤1048576:=by have:=hle.said;omega
 obtain ⟨bd0,bd1,bd2⟩:=qR3 hk0
 obtain ⟨hp1,hp2,hp3,hp4⟩:=cr_play (x:=x) hk0 hx0 hx1 hr.said.1
 obtain ⟨hm1,hm8,hok⟩:=qU1 (QY3 hk0).1
 have hml:cs.length=m:=hc.len
 have HSK:Hid (∀ W sa sc,Below w.heap.size w W→qK9 W sa r.sn r.ss→Calls Tryz.prog 53 #[.slice a m cap,.slice sa (qO1 r x) sc] W fun d w'=>SpkR a m cap (qI2 r x) (qO1 r x) (some (qG6 E r x)) W d w'):=fun W sa sc hb hs=>by
  have q:=qW9 E a m cap cs sa _ sc _ W (hEC (QY3 hk0).1) (fun W' hb'=>⟨hc.below (hb.trans (hb'.mono hb.size)),hEr.below (hb.trans (hb'.mono hb.size)),hH.below (hb.trans (hb'.mono hb.size))⟩) (by omega) (by omega) (hs.take hp4) (by omega)
  rw [show qD4 E (r.ss.take (qO1 r x)) (qO1 r x)=some (qG6 E r x) from hp1] at q
  exact q
 obtain ⟨lf,hlf⟩:∃ n,qO1 r x=n:=⟨_,rfl⟩
 obtain ⟨XS,hXS⟩:∃ s,qI2 r x=s:=⟨_,rfl⟩
 obtain ⟨XL,hXL⟩:∃ s,qG6 E r x=s:=⟨_,rfl⟩
 rw [hlf,hXS,hXL] at HSK
 rw [hlf,hXS] at hp2
 rw [hlf] at hp3 hp4
 rw [hXS,hXL,← hp3]
 have HLX:Hid (XS.length=lf):=hp2
 have HUX:Hid ((lf:Int)=r.u+x):=hp3
 clear hp1 hp2 hp3 hXS hXL hlf hm1 hm8 hok hml
 have v0:=Z0.out.bx 0 _ rfl
 have v1:=Z0.out.bx 1 _ rfl
 have v2:=Z0.out.bx 2 _ rfl
 have v3:=Z0.out.bx 3 _ rfl
 have hvl:w.heap.size < V.heap.size:=Nat.lt_of_succ_lt Z0.out.lt
 have hVs:=Z0.out.bl.size
 have HVL:Hid (w.heap.size+1 < V.heap.size):=Z0.out.lt
 clear hk0 hr hle hc hcl hEr hH hEC
 go_enter Tryz.func29,Tryz.ntmps29
 go_upto_region 1 with fail
 rw [← hV]
 clear hV
 go_wp2_with fail
 refine HRB.out.mono ?_
 rintro d w1 ⟨hb1,h1,h2⟩
 have Z1:=qC2 (Z0.out.below hb1)
 clear hb1 Z0 HRB v0 v1 v2 v3 hvl
 obtain ⟨sa,sc,la,lc,rfl,ho1,ho2⟩:=h2 rfl
 obtain ⟨Y,hY⟩:∃ Y,Y=w1.alloc (.cells #[.slice a m cap,.slice sa r.sn sc,.slice la r.ln lc] 74):=⟨_,rfl⟩
 have AY:Below w1.heap.size w1 Y:=by rw [hY];exact zN
 have Z2:=qC2 (Z1.out.below AY)
 have S2:Hid (qO8 Y w1.heap.size (.slice a m cap) (.slice sa r.sn sc) (.slice la r.ln lc)):=by
  show qO8 _ _ _ _ _
  have q:Y.heap[w1.heap.size]? = some (.cells #[.slice a m cap,.slice sa r.sn sc,.slice la r.ln lc] 74 (0,0)):=by rw [hY];exact QE4 w1 _
  exact ⟨by rw [qA9 q];rfl,by rw [qA9 q];rfl,by rw [qA9 q];rfl,fun j=>qU2 q j⟩
 have O1:=qC2 (ho1.below AY)
 have O2:=qC2 (ho2.below AY)
 have HQ:Hid (w.heap.size+1 < w1.heap.size):=Z1.out.lt
 clear h1 h2 ho1 ho2 AY Z1
 have hcap:r.sn≤sc:=own_capSt O1.out HSL.out.1
 have HSQ:Hid (∀ W sc,Below Y.heap.size Y W→Calls Tryz.prog 53 #[.slice a m cap,.slice sa lf sc] W fun d w'=>SpkR a m cap XS lf (some XL) W d w'):=fun W sc hb=>HSK.out W sa sc (Z2.out.bl.trans (hb.mono Z2.out.bl.size)) (((qB1.view O1.out).isIn HSL.out.1).below hb)
 have hux:r.u+x=(lf:Int):=HUX.out.symm
 have hlc:(lf:Int)≤sc:=by omega
 have hl40:lf≤40:=by omega
 have hvs2:=Z2.out.bl.size
 have HVY:Hid (w.heap.size+1 < Y.heap.size):=Z2.out.lt
 clear HSK O1 O2
 go_upto_region 4 with fail
 rw [← hY]
 clear hY
 generalize w1.heap.size=q at S2 HQ ⊢
 have s0:=S2.out.c0
 have s1:=S2.out.c1
 have s2:=S2.out.c2
 have sf:=S2.out.fz
 have hql:=S2.out.lt
 have v0:=Z2.out.bx 0 _ rfl
 have v1:=Z2.out.bx 1 _ rfl
 have hvl:w.heap.size < Y.heap.size:=Nat.lt_of_succ_lt Z2.out.lt
 have g3:¬ x < 0:=by omega
 have g4:¬ ((r.sn:Int) - r.u < x):=by omega
 go_upto_region 7 with fail
 go_wp2_with fail
 refine (HSQ.out Y sc (Below.refl _ _)).mono ?_
 unfold SpkR
 rintro d w3 ⟨hb3,h1,h2⟩
 obtain ⟨ta,tc,tla,tlc,rfl,hS1,hL1⟩:=h1 XL rfl
 have S3:qO8 w3 q (.slice a m cap) (.slice sa r.sn sc) (.slice la r.ln lc):=⟨(hb3.cell (p:=⟨q,0,none⟩) hql).trans s0,(hb3.cell (p:=⟨q,1,none⟩) hql).trans s1,(hb3.cell (p:=⟨q,2,none⟩) hql).trans s2,fun j=>(hb3.frozen (p:=⟨q,j,none⟩) hql).trans (sf j)⟩
 have Z3:=qC2 (Z2.out.below hb3)
 have HS1:=qC2 hS1
 have HL1:=qC2 hL1
 have HYQ:Hid (q < Y.heap.size):=hql
 have hql3:q < w3.heap.size:=Nat.lt_of_lt_of_le hql hb3.size
 clear h1 h2 hS1 hL1 s0 s1 s2 sf hql v0 v1 hvl HSQ S2 Z2 hb3
 have t0:=S3.c0
 have t1:=S3.c1
 have t2:=S3.c2
 have tf0:=S3.fz 0
 have tf1:=S3.fz 1
 have tf2:=S3.fz 2
 go_upto_region 8 with fail
 obtain ⟨W4,hW4⟩:∃ W4,W4=((w3.setCell ⟨q,0,none⟩ (.slice a m cap)).setCell ⟨q,1,none⟩ (.slice ta lf tc)).setCell ⟨q,2,none⟩ (.slice tla XL.length tlc):=⟨_,rfl⟩
 rw [← hW4]
 have B4:Below q w3 W4:=by rw [hW4];exact (((Below.refl q w3).setCell (p:=⟨q,0,none⟩) (Nat.le_refl q) _).setCell (p:=⟨q,1,none⟩) (Nat.le_refl q) _).setCell (p:=⟨q,2,none⟩) (Nat.le_refl q) _
 have hWs:W4.heap.size=w3.heap.size:=by rw [hW4];simp
 have S4:Hid (qO8 W4 q (.slice a m cap) (.slice ta lf tc) (.slice tla XL.length tlc)):=by
  show qO8 _ _ _ _ _
  rw [hW4]
  exact ⟨by simp [go_sem,t0,t1,t2,tf0,tf1,tf2],by simp [go_sem,t0,t1,t2,tf0,tf1,tf2],by simp [go_sem,t0,t1,t2,tf0,tf1,tf2],fun j=>by simpa [go_sem] using S3.fz j⟩
 have HQL:=HQ.out
 have Z4:Hid (RZ w r W4):=⟨fun j v e=>(B4.cell (p:=⟨w.heap.size,j,none⟩) (by show w.heap.size < q;omega)).trans (Z3.out.bx j v e),⟨fun j v e=>(B4.cell (p:=⟨w.heap.size+1,j,none⟩) HQL).trans (Z3.out.rs.1 j v e),fun j=>(B4.frozen (p:=⟨w.heap.size+1,j,none⟩) HQL).trans (Z3.out.rs.2 j)⟩,by rw [hWs];exact Z3.out.lt,Z3.out.bl.trans (B4.mono (by omega))⟩
 have O1:Hid (qB1 W4 (Y.heap.size+1) (.slice ta lf tc) XS):=qA0 HS1.out (fun g e=>by
  obtain ⟨cur,hcc,hgg⟩:=qD1 HS1.out e
  have:=HYQ.out
  rw [hW4,Below.heap_setCell _ _ _ _ (by show g≠q;omega),Below.heap_setCell _ _ _ _ (by show g≠q;omega),Below.heap_setCell _ _ _ _ (by show g≠q;omega)])
 have O2:Hid (qA1 W4 (Y.heap.size+1) (.slice tla XL.length tlc) XL):=qA0 HL1.out (fun g e=>by
  obtain ⟨cur,hcc,hgg⟩:=qC6 HL1.out e
  have:=HYQ.out
  rw [hW4,Below.heap_setCell _ _ _ _ (by show g≠q;omega),Below.heap_setCell _ _ _ _ (by show g≠q;omega),Below.heap_setCell _ _ _ _ (by show g≠q;omega)])
 clear hW4 B4 S3 Z3 HS1 HL1 t0 t1 t2 tf0 tf1 tf2 HQL HQ HYQ hql3 hWs
 have hql:=S4.out.lt
 have v0:=Z4.out.bx 0 _ rfl
 have hvl:w.heap.size < W4.heap.size:=Nat.lt_of_succ_lt Z4.out.lt
 go_wp2_with fail
 refine (replica_c q r.i (lf:Int) _ ta lf tc tla XL.length tlc W4 S4.out).mono ?_
 rintro e w5 ⟨rfl,hb5⟩
 have Z5:=qC2 (Z4.out.below hb5)
 have P1:=qC2 (O1.out.below hb5)
 have P2:=qC2 (O2.out.below hb5)
 clear hb5 Z4 O1 O2 S4 hql v0 hvl
 have z0:=Z5.out.rs.1 0 _ rfl
 have z1:=Z5.out.rs.1 1 _ rfl
 have z2:=Z5.out.rs.1 2 _ rfl
 have z3:=Z5.out.rs.1 3 _ rfl
 have z4:=Z5.out.rs.1 4 _ rfl
 have f0:=Z5.out.rs.2 0
 have f1:=Z5.out.rs.2 1
 have f2:=Z5.out.rs.2 2
 have f3:=Z5.out.rs.2 3
 have f4:=Z5.out.rs.2 4
 have hzl:=Z5.out.lt
 go_wp2_with fail
 refine bodyPost_ret (v:=.agg #[.int .i64 0,.int .i64 r.i,.int .i64 (lf:Int),.slice ta lf tc,.slice tla XL.length tlc]) (by simp [results,Tryz.results29,go_sem,z0,z1,z2,z3,z4,hzl]) rfl ?_
 refine ⟨((((Z5.out.bl.setCell (Nat.le_succ _) _).setCell (Nat.le_succ _) _).setCell (Nat.le_succ _) _).setCell (Nat.le_succ _) _).setCell (Nat.le_succ _) _,fun q=>absurd rfl q,fun _=>?_⟩
 rw [HLX.out]
 have hvs3:w.heap.size+1 < Y.heap.size:=HVY.out
 refine ⟨ta,tc,tla,tlc,rfl,qA0 (qC0 P1.out (by omega)) (fun g e=>?_),qA0 (qB0 P2.out (by omega)) (fun g e=>?_)⟩
 ·obtain ⟨cur,hcc,hgg⟩:=qD1 P1.out e
  rw [Below.heap_setCell _ _ _ _ (by show g≠w.heap.size+1;omega),Below.heap_setCell _ _ _ _ (by show g≠w.heap.size+1;omega),Below.heap_setCell _ _ _ _ (by show g≠w.heap.size+1;omega),Below.heap_setCell _ _ _ _ (by show g≠w.heap.size+1;omega),Below.heap_setCell _ _ _ _ (by show g≠w.heap.size+1;omega)]
 ·obtain ⟨cur,hcc,hgg⟩:=qC6 P2.out e
  rw [Below.heap_setCell _ _ _ _ (by show g≠w.heap.size+1;omega),Below.heap_setCell _ _ _ _ (by show g≠w.heap.size+1;omega),Below.heap_setCell _ _ _ _ (by show g≠w.heap.size+1;omega),Below.heap_setCell _ _ _ _ (by show g≠w.heap.size+1;omega),Below.heap_setCell _ _ _ _ (by show g≠w.heap.size+1;omega)]

theorem crash_neg (E:qH0) (r:qF4) (a:Option Addr) (m cap:Nat) (cs:List qA3) (x:Int) (w:World) (hr:qD9 w r) (hle:qJ6 1048576 r) (hc:qA6 w a m cs) (hcl:qE7 1048576 cs) (hm:m≤1048576) (hEr:qL8 0 w) (hH:qD6 w) (hEC:qB5 cs=0→qN0 E cs) (hk0:qH3 E cs r=0) (hx:¬ 0≤x) (i u:Int) (S:List StI) (L:List LkI) :
  Calls Tryz.prog 29 #[.agg #[.int .i64 r.i,.int .i64 r.u,.slice r.sa r.sn r.sc,.slice r.la r.ln r.lc],.slice a m cap,.int .i64 x] w fun d w'=>RepA 3 i u S L w d w':=by
 obtain ⟨V,hV⟩:∃ V,V=(w.alloc (.cells #[.int .i64 r.i,.int .i64 r.u,.slice r.sa r.sn r.sc,.slice r.la r.ln r.lc] 33)).alloc (.cells #[.int .i64 0,.int .i64 0,.int .i64 0,.slice none 0 0,.slice none 0 0] 47):=⟨_,rfl⟩
 have Z0:Hid (RZ w r V):=by show RZ _ _ _;rw [hV];exact RZ.new w r
 have HSL:Hid (r.ss.length=r.sn∧r.ls.length=r.ln):=⟨hr.said.1,hr.locks.1⟩
 have HRB:Hid (Calls Tryz.prog 37 #[.agg #[.int .i64 r.i,.int .i64 r.u,.slice r.sa r.sn r.sc,.slice r.la r.ln r.lc],.slice a m cap] V fun d w'=>RebR r a m cap 0 V d w'):=by
  show Calls _ _ _ _ _
  rw [← hk0]
  exact QD3 E r a m cap cs V (hr.below Z0.out.bl) hle (hc.below Z0.out.bl) hcl hm (hEr.below Z0.out.bl) (hH.below Z0.out.bl) hEC
 have hsn:(r.sn:Int)≤1048576:=by have:=hle.said;omega
 obtain ⟨bd0,bd1,bd2⟩:=qR3 hk0
 have v0:=Z0.out.bx 0 _ rfl
 have v1:=Z0.out.bx 1 _ rfl
 have v2:=Z0.out.bx 2 _ rfl
 have v3:=Z0.out.bx 3 _ rfl
 have hvl:w.heap.size < V.heap.size:=Nat.lt_of_succ_lt Z0.out.lt
 have hVs:=Z0.out.bl.size
 have HVL:Hid (w.heap.size+1 < V.heap.size):=Z0.out.lt
 clear hk0 hr hle hc hcl hEr hH hEC
 go_enter Tryz.func29,Tryz.ntmps29
 go_upto_region 1 with fail
 rw [← hV]
 clear hV
 go_wp2_with fail
 refine HRB.out.mono ?_
 rintro d w1 ⟨hb1,h1,h2⟩
 have Z1:=qC2 (Z0.out.below hb1)
 clear hb1 Z0 HRB v0 v1 v2 v3 hvl
 obtain ⟨sa,sc,la,lc,rfl,ho1,ho2⟩:=h2 rfl
 obtain ⟨Y,hY⟩:∃ Y,Y=w1.alloc (.cells #[.slice a m cap,.slice sa r.sn sc,.slice la r.ln lc] 74):=⟨_,rfl⟩
 have AY:Below w1.heap.size w1 Y:=by rw [hY];exact zN
 have Z2:=qC2 (Z1.out.below AY)
 have S2:Hid (qO8 Y w1.heap.size (.slice a m cap) (.slice sa r.sn sc) (.slice la r.ln lc)):=by
  show qO8 _ _ _ _ _
  have q:Y.heap[w1.heap.size]? = some (.cells #[.slice a m cap,.slice sa r.sn sc,.slice la r.ln lc] 74 (0,0)):=by rw [hY];exact QE4 w1 _
  exact ⟨by rw [qA9 q];rfl,by rw [qA9 q];rfl,by rw [qA9 q];rfl,fun j=>qU2 q j⟩
 have O1:=qC2 (ho1.below AY)
 have O2:=qC2 (ho2.below AY)
 clear h1 h2 ho1 ho2 AY Z1 O1 O2
 have g3:x < 0:=by omega
 go_upto_region 4 with fail
 rw [← hY]
 clear hY
 generalize w1.heap.size=q at S2 ⊢
 have s1:=S2.out.c1
 have hql:=S2.out.lt
 have v1:=Z2.out.bx 1 _ rfl
 have hvl:w.heap.size < Y.heap.size:=Nat.lt_of_succ_lt Z2.out.lt
 have bd2':(r.sn:Int)≤40:=by omega
 have z0:=Z2.out.rs.1 0 _ rfl
 have z1:=Z2.out.rs.1 1 _ rfl
 have z2:=Z2.out.rs.1 2 _ rfl
 have z3:=Z2.out.rs.1 3 _ rfl
 have z4:=Z2.out.rs.1 4 _ rfl
 have f0:=Z2.out.rs.2 0
 have f1:=Z2.out.rs.2 1
 have f2:=Z2.out.rs.2 2
 have f3:=Z2.out.rs.2 3
 have f4:=Z2.out.rs.2 4
 have hzl:=Z2.out.lt
 go_wp2_with fail
 refine bodyPost_ret (v:=.agg #[.int .i64 3,.int .i64 0,.int .i64 0,.slice none 0 0,.slice none 0 0]) (by simp [results,Tryz.results29,go_sem,z0,z1,z2,z3,z4,hzl]) rfl ?_
 exact ⟨((((Z2.out.bl.setCell (Nat.le_succ _) _).setCell (Nat.le_succ _) _).setCell (Nat.le_succ _) _).setCell (Nat.le_succ _) _).setCell (Nat.le_succ _) _,fun _=>rfl,fun q=>absurd q (by decide)⟩
theorem crash_many (E:qH0) (r:qF4) (a:Option Addr) (m cap:Nat) (cs:List qA3) (x:Int) (w:World) (hr:qD9 w r) (hle:qJ6 1048576 r) (hc:qA6 w a m cs) (hcl:qE7 1048576 cs) (hm:m≤1048576) (hEr:qL8 0 w) (hH:qD6 w) (hEC:qB5 cs=0→qN0 E cs) (hk0:qH3 E cs r=0) (h0:0≤x) (hx:¬ x≤(r.sn:Int) - r.u) (i u:Int) (S:List StI) (L:List LkI) :
  Calls Tryz.prog 29 #[.agg #[.int .i64 r.i,.int .i64 r.u,.slice r.sa r.sn r.sc,.slice r.la r.ln r.lc],.slice a m cap,.int .i64 x] w fun d w'=>RepA 3 i u S L w d w':=by
 obtain ⟨V,hV⟩:∃ V,V=(w.alloc (.cells #[.int .i64 r.i,.int .i64 r.u,.slice r.sa r.sn r.sc,.slice r.la r.ln r.lc] 33)).alloc (.cells #[.int .i64 0,.int .i64 0,.int .i64 0,.slice none 0 0,.slice none 0 0] 47):=⟨_,rfl⟩
 have Z0:Hid (RZ w r V):=by show RZ _ _ _;rw [hV];exact RZ.new w r
 have HSL:Hid (r.ss.length=r.sn∧r.ls.length=r.ln):=⟨hr.said.1,hr.locks.1⟩
 have HRB:Hid (Calls Tryz.prog 37 #[.agg #[.int .i64 r.i,.int .i64 r.u,.slice r.sa r.sn r.sc,.slice r.la r.ln r.lc],.slice a m cap] V fun d w'=>RebR r a m cap 0 V d w'):=by
  show Calls _ _ _ _ _
  rw [← hk0]
  exact QD3 E r a m cap cs V (hr.below Z0.out.bl) hle (hc.below Z0.out.bl) hcl hm (hEr.below Z0.out.bl) (hH.below Z0.out.bl) hEC
 have hsn:(r.sn:Int)≤1048576:=by have:=hle.said;omega
 obtain ⟨bd0,bd1,bd2⟩:=qR3 hk0
 have v0:=Z0.out.bx 0 _ rfl
 have v1:=Z0.out.bx 1 _ rfl
 have v2:=Z0.out.bx 2 _ rfl
 have v3:=Z0.out.bx 3 _ rfl
 have hvl:w.heap.size < V.heap.size:=Nat.lt_of_succ_lt Z0.out.lt
 have hVs:=Z0.out.bl.size
 have HVL:Hid (w.heap.size+1 < V.heap.size):=Z0.out.lt
 clear hk0 hr hle hc hcl hEr hH hEC
 go_enter Tryz.func29,Tryz.ntmps29
 go_upto_region 1 with fail
 rw [← hV]
 clear hV
 go_wp2_with fail
 refine HRB.out.mono ?_
 rintro d w1 ⟨hb1,h1,h2⟩
 have Z1:=qC2 (Z0.out.below hb1)
 clear hb1 Z0 HRB v0 v1 v2 v3 hvl
 obtain ⟨sa,sc,la,lc,rfl,ho1,ho2⟩:=h2 rfl
 obtain ⟨Y,hY⟩:∃ Y,Y=w1.alloc (.cells #[.slice a m cap,.slice sa r.sn sc,.slice la r.ln lc] 74):=⟨_,rfl⟩
 have AY:Below w1.heap.size w1 Y:=by rw [hY];exact zN
 have Z2:=qC2 (Z1.out.below AY)
 have S2:Hid (qO8 Y w1.heap.size (.slice a m cap) (.slice sa r.sn sc) (.slice la r.ln lc)):=by
  show qO8 _ _ _ _ _
  have q:Y.heap[w1.heap.size]? = some (.cells #[.slice a m cap,.slice sa r.sn sc,.slice la r.ln lc] 74 (0,0)):=by rw [hY];exact QE4 w1 _
  exact ⟨by rw [qA9 q];rfl,by rw [qA9 q];rfl,by rw [qA9 q];rfl,fun j=>qU2 q j⟩
 have O1:=qC2 (ho1.below AY)
 have O2:=qC2 (ho2.below AY)
 clear h1 h2 ho1 ho2 AY Z1 O1 O2
 have g3:¬ x < 0:=by omega
 have g4:(r.sn:Int) - r.u < x:=by omega
 go_upto_region 4 with fail
 rw [← hY]
 clear hY
 generalize w1.heap.size=q at S2 ⊢
 have s1:=S2.out.c1
 have hql:=S2.out.lt
 have v1:=Z2.out.bx 1 _ rfl
 have hvl:w.heap.size < Y.heap.size:=Nat.lt_of_succ_lt Z2.out.lt
 have bd2':(r.sn:Int)≤40:=by omega
 have z0:=Z2.out.rs.1 0 _ rfl
 have z1:=Z2.out.rs.1 1 _ rfl
 have z2:=Z2.out.rs.1 2 _ rfl
 have z3:=Z2.out.rs.1 3 _ rfl
 have z4:=Z2.out.rs.1 4 _ rfl
 have f0:=Z2.out.rs.2 0
 have f1:=Z2.out.rs.2 1
 have f2:=Z2.out.rs.2 2
 have f3:=Z2.out.rs.2 3
 have f4:=Z2.out.rs.2 4
 have hzl:=Z2.out.lt
 go_wp2_with fail
 refine bodyPost_ret (v:=.agg #[.int .i64 3,.int .i64 0,.int .i64 0,.slice none 0 0,.slice none 0 0]) (by simp [results,Tryz.results29,go_sem,z0,z1,z2,z3,z4,hzl]) rfl ?_
 exact ⟨((((Z2.out.bl.setCell (Nat.le_succ _) _).setCell (Nat.le_succ _) _).setCell (Nat.le_succ _) _).setCell (Nat.le_succ _) _).setCell (Nat.le_succ _) _,fun _=>rfl,fun q=>absurd q (by decide)⟩
theorem implCrash_c (E:qH0) (r:qF4) (a:Option Addr) (m cap:Nat) (cs:List qA3) (x:Int) (w:World) (hr:qD9 w r) (hle:qJ6 1048576 r) (hc:qA6 w a m cs) (hcl:qE7 1048576 cs) (hm:m≤1048576) (hEr:qL8 0 w) (hH:qD6 w) (hEC:qB5 cs=0→qN0 E cs) :
  Calls Tryz.prog 29 #[.agg #[.int .i64 r.i,.int .i64 r.u,.slice r.sa r.sn r.sc,.slice r.la r.ln r.lc],.slice a m cap,.int .i64 x] w fun d w'=>RepA (qM7 E cs r x) r.i (r.u+x) (qI2 r x) (qG6 E r x) w d w':=by
 unfold qM7
 by_cases hk:qH3 E cs r=0
 ·rw [if_pos hk]
  by_cases h0:0≤x
  ·by_cases h1:x≤(r.sn:Int) - r.u
   ·rw [if_pos ⟨h0,h1⟩]
    exact crash_ok E r a m cap cs x w hr hle hc hcl hm hEr hH hEC hk h0 h1
   ·rw [if_neg (fun q=>h1 q.2)]
    exact crash_many E r a m cap cs x w hr hle hc hcl hm hEr hH hEC hk h0 h1 _ _ _ _
  ·rw [if_neg (fun q=>h0 q.1)]
   exact crash_neg E r a m cap cs x w hr hle hc hcl hm hEr hH hEC hk h0 _ _ _ _
 ·rw [if_neg hk]
  exact crash_bad E r a m cap cs x w hr hle hc hcl hm hEr hH hEC _ rfl hk _ _ _ _

end Go.Proofs.YtlhgjackapdmbaaGreatDoor
