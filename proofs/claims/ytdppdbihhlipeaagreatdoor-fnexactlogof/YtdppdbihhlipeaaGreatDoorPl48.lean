/- Contracts. -/
import Derived.Test.YtdppdbihhlipeaaGreatDoorPl14
import Derived.Test.YtdppdbihhlipeaaGreatDoorPl45
import Derived.Test.YtdppdbihhlipeaaGreatDoorPl46
import Derived.Test.YtdppdbihhlipeaaGreatDoorPl47
namespace Go.Proofs.YtdppdbihhlipeaaGreatDoor
set_option maxRecDepth 100000
set_option maxHeartbeats 8000000
open Go.RowKit
set_option linter.unusedVariables false
set_option linter.unusedSimpArgs false

def qZ1 (r:qG5):List StI:=r.ss.take r.u.toNat
def QB5 (E:qH4) (cs:List qA1) (r:qG5):Int:=if qK9 E cs r=0 then qJ0 (qZ1 r) else qK9 E cs r
def lgL (E:qH4) (cs:List qA1) (r:qG5):List Int:=if qK9 E cs r=0 then plL (qZ1 r) else []
theorem plL_len (xs:List StI):(plL xs).length≤1000:=by
 unfold plL
 split
 ·rename_i q
  unfold qJ0 at q
  by_cases r:40 < xs.length
  ·rw [if_pos r] at q;omega
  ·rw [qO3 (Nat.le_refl _)];omega
 ·simp
theorem lgL_len (E:qH4) (cs:List qA1) (r:qG5):(lgL E cs r).length≤1000:=by
 unfold lgL
 split
 ·exact plL_len _
 ·simp
abbrev QX9 (fn:Nat) (r:qG5) (a:Option Addr) (m cap:Nat) (k:Int) (S:List Int) (w:World):Prop:=Calls Tryz.prog fn #[.agg #[.int .i64 r.i,.int .i64 r.u,.slice r.sa r.sn r.sc,.slice r.la r.ln r.lc],.slice a m cap] w fun e w'=>∃ a cap,e = .returned (.agg #[.int .i64 k,.slice a S.length cap])∧w'.ownsRow w.heap.size 2 1 (.slice a S.length cap) S.length (S.map (Value.int .i64))∧Below w.heap.size w w'
theorem low_ownsL {w:World} {B B':Nat} {t:TypeId} {sz:Nat} {v:Value} {n:Nat} {xs:List Value} (h:w.ownsRow B t sz v n xs) (hB:B'≤B):w.ownsRow B' t sz v n xs:=by
 refine ⟨h.1,?_⟩
 rcases h.2 with q | ⟨g,cap,cur,e,hg,rest⟩
 ·exact .inl q
 ·exact .inr ⟨g,cap,cur,e,Nat.le_trans hB hg,rest⟩
structure LgZ (w:World) (r:qG5) (W:World):Prop where
 bx:qE3 w.heap.size [.int .i64 r.i,.int .i64 r.u,.slice r.sa r.sn r.sc,.slice r.la r.ln r.lc] W
 rs:qI3 (w.heap.size+1) [.int .i64 0,.slice none 0 0] W
 lt:w.heap.size+1 < W.heap.size
 bl:Below w.heap.size w W
theorem LgZ.new (w:World) (r:qG5):LgZ w r ((w.alloc (.cells #[.int .i64 r.i,.int .i64 r.u,.slice r.sa r.sn r.sc,.slice r.la r.ln r.lc] 36)).alloc (.cells #[.int .i64 0,.slice none 0 0] 31)):=by
 refine ⟨((qD6 w _ _).alloc _).out,?_,by simp,(zN).alloc (by simp) _⟩
 have q:=qG8 (w.alloc (.cells #[.int .i64 r.i,.int .i64 r.u,.slice r.sa r.sn r.sc,.slice r.la r.ln r.lc] 36)) #[.int .i64 0,.slice none 0 0] 31
 rw [World.size_alloc] at q
 exact q
theorem LgZ.below {w:World} {r:qG5} {W W':World} (h:LgZ w r W) (hb:Below W.heap.size W W'):LgZ w r W' :=
 ⟨((qE3.hold h.bx (Nat.lt_of_succ_lt h.lt)).below hb).out,h.rs.below h.lt hb,Nat.lt_of_lt_of_le h.lt hb.size,h.bl.trans (hb.mono h.bl.size)⟩
theorem hidL {p:Prop} (h:p):Hid p:=h
theorem specLog_c (E:qH4) (r:qG5) (a:Option Addr) (m cap:Nat) (cs:List qA1) (w:World) (hr:qD8 w r) (hsc:r.sn≤r.sc) (hle:qK5 1048576 r) (hc:qA5 w a m cs) (hcl:qF1 1048576 cs) (hm:m≤1048576) (hEC:qB9 cs=0→qN9 E cs) :
  QX9 7 r a m cap (QB5 E cs r) (lgL E cs r) w:=by
 obtain ⟨V,hV⟩:∃ V,V=(w.alloc (.cells #[.int .i64 r.i,.int .i64 r.u,.slice r.sa r.sn r.sc,.slice r.la r.ln r.lc] 36)).alloc (.cells #[.int .i64 0,.slice none 0 0] 31):=⟨_,rfl⟩
 have Z0:Hid (LgZ w r V):=by show LgZ _ _ _;rw [hV];exact LgZ.new w r
 obtain ⟨k,hk⟩:∃ k,qK9 E cs r=k:=⟨_,rfl⟩
 obtain ⟨res,hres⟩:∃ k,QB5 E cs r=k:=⟨_,rfl⟩
 obtain ⟨S,hS⟩:∃ S,lgL E cs r=S:=⟨_,rfl⟩
 have HRES:Hid (res=if k=0 then qJ0 (qZ1 r) else k):=by show _=_;rw [← hres,← hk];rfl
 have HLS:Hid (S=if k=0 then plL (qZ1 r) else []):=by show _=_;rw [← hS,← hk];rfl
 have HF:Hid (Calls Tryz.prog 29 #[.pointer (some ⟨w.heap.size,0,none⟩),.slice a m cap] V fun d w'=>d = .returned (.int .i64 k)∧Below V.heap.size V w'):=by
  show Calls _ _ _ _ _
  rw [← hk]
  exact l8Fault_c E _ r a m cap cs V ⟨Z0.out.bx 0 _ rfl,Z0.out.bx 1 _ rfl,Z0.out.bx 2 _ rfl,Z0.out.bx 3 _ rfl⟩ (hr.below Z0.out.bl) hle (hc.below Z0.out.bl) hcl hm hEC
 have HB:Hid (k=0→0≤r.u∧r.u≤(r.sn:Int)∧r.sn≤40):=fun q=>QR3 (hk.trans q)
 have HRI:=hidL hr
 have HSC:=hidL hsc
 rw [hres,hS]
 clear hr hle hc hcl hEC hk hres hS hsc
 go_enter Tryz.func7,Tryz.ntmps7
 go_upto_region 1 with fail
 rw [← hV]
 clear hV
 have v0:=Z0.out.bx 0 _ rfl
 have v1:=Z0.out.bx 1 _ rfl
 have v2:=Z0.out.bx 2 _ rfl
 have v3:=Z0.out.bx 3 _ rfl
 have hvl0:w.heap.size < V.heap.size:=Nat.lt_of_succ_lt Z0.out.lt
 go_wp2_with fail
 refine HF.out.mono ?_
 rintro d w1 ⟨rfl,hb1⟩
 have Z1:=hidL (Z0.out.below hb1)
 clear hb1 HF v0 v1 v2 v3 hvl0
 by_cases k0:k=0
 ·subst k0
  obtain ⟨b0,b1,b2⟩:=HB.out rfl
  obtain ⟨u,hu⟩:∃ u:Nat,r.u=(u:Int):=Int.eq_ofNat_of_zero_le b0
  have HE:Hid (res=qJ0 (qZ1 r)∧S=plL (qZ1 r)):=⟨by rw [HRES.out,if_pos rfl],by rw [HLS.out,if_pos rfl]⟩
  have hus:u≤r.sn:=by omega
  have HCT:Hid (qZ1 r=r.ss.take u):=by show _=_;unfold qZ1;rw [hu,Int.toNat_natCast]
  have HPL:=hidL (by
   have q:=QU0 r.sa u r.sc (qZ1 r) w1 (by omega) (by rw [HCT.out];exact ((HRI.out.below Z1.out.bl).said.take hus))
   unfold QG7 at q
   rw [← HE.out.1,← HE.out.2] at q
   exact q)
  have v1:=Z1.out.bx 1 _ rfl
  have v2:=Z1.out.bx 2 _ rfl
  rw [hu] at v1
  have hvl:w.heap.size < w1.heap.size:=Nat.lt_of_succ_lt Z1.out.lt
  have husc:(u:Int)≤(r.sc:Int):=by have:=HSC.out;omega
  have hu0:(0:Int)≤(u:Int):=by omega
  have hu40:(u:Int)≤40:=by omega
  clear HRES HLS HB
  go_wp2_with fail
  refine HPL.out.mono ?_
  rintro d w2 ⟨pa,pc,rfl,how,hb2⟩
  have Z2:=hidL (Z1.out.below hb2)
  have HO:=hidL how
  have hz1:=Z1.out.lt
  clear v1 v2 hvl how hb2 Z1
  have z0:=Z2.out.rs.1 0 _ rfl
  have z1:=Z2.out.rs.1 1 _ rfl
  have f0:=Z2.out.rs.2 0
  have f1:=Z2.out.rs.2 1
  have hzl:=Z2.out.lt
  go_wp2_with fail
  refine bodyPost_ret (v:=.agg #[.int .i64 res,.slice pa S.length pc]) (by simp [results,Tryz.results7,go_sem,z0,z1,hzl]) rfl ⟨pa,pc,rfl,low_ownsL (qN1 (qN1 HO.out (a:=⟨w.heap.size+1,0,none⟩) (by show w.heap.size+1 < _;omega) _) (a:=⟨w.heap.size+1,1,none⟩) (by show w.heap.size+1 < _;omega) _) (by omega),?_⟩
  exact (Z2.out.bl.setCell (Nat.le_succ _) _).setCell (Nat.le_succ _) _
 ·have kb:(k != 0)=true:=by simp [k0]
  have HE:Hid (res=k∧S=[]):=⟨by rw [HRES.out,if_neg k0],by rw [HLS.out,if_neg k0]⟩
  have z0:=Z1.out.rs.1 0 _ rfl
  have z1:=Z1.out.rs.1 1 _ rfl
  have f0:=Z1.out.rs.2 0
  have f1:=Z1.out.rs.2 1
  have hzl:=Z1.out.lt
  clear k0 HRES HLS HB
  go_wp2_with fail
  refine bodyPost_ret (v:=.agg #[.int .i64 k,.slice none 0 0]) (by simp [results,Tryz.results7,go_sem,z0,z1,hzl]) rfl ⟨none,0,by rw [HE.out.1,HE.out.2];rfl,by rw [HE.out.2];exact World.ownsRow_nil _ _ _ _,?_⟩
  exact (Z1.out.bl.setCell (Nat.le_succ _) _).setCell (Nat.le_succ _) _
theorem implLog_c (E:qH4) (r:qG5) (a:Option Addr) (m cap:Nat) (cs:List qA1) (w:World) (hr:qD8 w r) (hsc:r.sn≤r.sc) (hle:qK5 1048576 r) (hc:qA5 w a m cs) (hcl:qF1 1048576 cs) (hm:m≤1048576) (hEr:qN8 1 w) (hH:qD7 w) (hEC:qB9 cs=0→qN9 E cs) :
  QX9 10 r a m cap (QB5 E cs r) (lgL E cs r) w:=by
 obtain ⟨V,hV⟩:∃ V,V=(w.alloc (.cells #[.int .i64 r.i,.int .i64 r.u,.slice r.sa r.sn r.sc,.slice r.la r.ln r.lc] 36)).alloc (.cells #[.int .i64 0,.slice none 0 0] 31):=⟨_,rfl⟩
 have Z0:Hid (LgZ w r V):=by show LgZ _ _ _;rw [hV];exact LgZ.new w r
 obtain ⟨k,hk⟩:∃ k,qK9 E cs r=k:=⟨_,rfl⟩
 obtain ⟨res,hres⟩:∃ k,QB5 E cs r=k:=⟨_,rfl⟩
 obtain ⟨S,hS⟩:∃ S,lgL E cs r=S:=⟨_,rfl⟩
 have HRES:Hid (res=if k=0 then qJ0 (qZ1 r) else k):=by show _=_;rw [← hres,← hk];rfl
 have HLS:Hid (S=if k=0 then plL (qZ1 r) else []):=by show _=_;rw [← hS,← hk];rfl
 have HF:Hid (Calls Tryz.prog 34 #[.agg #[.int .i64 r.i,.int .i64 r.u,.slice r.sa r.sn r.sc,.slice r.la r.ln r.lc],.slice a m cap] V fun d w'=>d = .returned (.int .i64 k)∧Below V.heap.size V w'):=by
  show Calls _ _ _ _ _
  rw [← hk]
  exact QE9 E r a m cap cs V (hr.below Z0.out.bl) hle (hc.below Z0.out.bl) hcl hm (hEr.below Z0.out.bl) (hH.below Z0.out.bl) hEC
 have HB:Hid (k=0→0≤r.u∧r.u≤(r.sn:Int)∧r.sn≤40):=fun q=>QR3 (hk.trans q)
 have HRI:=hidL hr
 have HSC:=hidL hsc
 rw [hres,hS]
 clear hr hle hc hcl hEC hk hres hS hsc hEr hH
 go_enter Tryz.func10,Tryz.ntmps10
 go_upto_region 1 with fail
 rw [← hV]
 clear hV
 have v0:=Z0.out.bx 0 _ rfl
 have v1:=Z0.out.bx 1 _ rfl
 have v2:=Z0.out.bx 2 _ rfl
 have v3:=Z0.out.bx 3 _ rfl
 have hvl0:w.heap.size < V.heap.size:=Nat.lt_of_succ_lt Z0.out.lt
 go_wp2_with fail
 refine HF.out.mono ?_
 rintro d w1 ⟨rfl,hb1⟩
 have Z1:=hidL (Z0.out.below hb1)
 clear hb1 HF v0 v1 v2 v3 hvl0
 by_cases k0:k=0
 ·subst k0
  obtain ⟨b0,b1,b2⟩:=HB.out rfl
  obtain ⟨u,hu⟩:∃ u:Nat,r.u=(u:Int):=Int.eq_ofNat_of_zero_le b0
  have HE:Hid (res=qJ0 (qZ1 r)∧S=plL (qZ1 r)):=⟨by rw [HRES.out,if_pos rfl],by rw [HLS.out,if_pos rfl]⟩
  have hus:u≤r.sn:=by omega
  have HCT:Hid (qZ1 r=r.ss.take u):=by show _=_;unfold qZ1;rw [hu,Int.toNat_natCast]
  have HPL:=hidL (by
   have q:=QV8 r.sa u r.sc (qZ1 r) w1 (by omega) (by rw [HCT.out];exact ((HRI.out.below Z1.out.bl).said.take hus))
   unfold QG7 at q
   rw [← HE.out.1,← HE.out.2] at q
   exact q)
  have v1:=Z1.out.bx 1 _ rfl
  have v2:=Z1.out.bx 2 _ rfl
  rw [hu] at v1
  have hvl:w.heap.size < w1.heap.size:=Nat.lt_of_succ_lt Z1.out.lt
  have husc:(u:Int)≤(r.sc:Int):=by have:=HSC.out;omega
  have hu0:(0:Int)≤(u:Int):=by omega
  have hu40:(u:Int)≤40:=by omega
  clear HRES HLS HB
  go_wp2_with fail
  refine HPL.out.mono ?_
  rintro d w2 ⟨pa,pc,rfl,how,hb2⟩
  have Z2:=hidL (Z1.out.below hb2)
  have HO:=hidL how
  have hz1:=Z1.out.lt
  clear v1 v2 hvl how hb2 Z1
  have z0:=Z2.out.rs.1 0 _ rfl
  have z1:=Z2.out.rs.1 1 _ rfl
  have f0:=Z2.out.rs.2 0
  have f1:=Z2.out.rs.2 1
  have hzl:=Z2.out.lt
  go_wp2_with fail
  refine bodyPost_ret (v:=.agg #[.int .i64 res,.slice pa S.length pc]) (by simp [results,Tryz.results10,go_sem,z0,z1,hzl]) rfl ⟨pa,pc,rfl,low_ownsL (qN1 (qN1 HO.out (a:=⟨w.heap.size+1,0,none⟩) (by show w.heap.size+1 < _;omega) _) (a:=⟨w.heap.size+1,1,none⟩) (by show w.heap.size+1 < _;omega) _) (by omega),?_⟩
  exact (Z2.out.bl.setCell (Nat.le_succ _) _).setCell (Nat.le_succ _) _
 ·have kb:(k != 0)=true:=by simp [k0]
  have HE:Hid (res=k∧S=[]):=⟨by rw [HRES.out,if_neg k0],by rw [HLS.out,if_neg k0]⟩
  have z0:=Z1.out.rs.1 0 _ rfl
  have z1:=Z1.out.rs.1 1 _ rfl
  have f0:=Z1.out.rs.2 0
  have f1:=Z1.out.rs.2 1
  have hzl:=Z1.out.lt
  clear k0 HRES HLS HB
  go_wp2_with fail
  refine bodyPost_ret (v:=.agg #[.int .i64 k,.slice none 0 0]) (by simp [results,Tryz.results10,go_sem,z0,z1,hzl]) rfl ⟨none,0,by rw [HE.out.1,HE.out.2];rfl,by rw [HE.out.2];exact World.ownsRow_nil _ _ _ _,?_⟩
  exact (Z1.out.bl.setCell (Nat.le_succ _) _).setCell (Nat.le_succ _) _
theorem QV1 {E:qH4} {cs ds:List qA1} {w:World} {L:Nat} {r y:qG5} (h:qP5 cs ds) (hy:qF6 w L r y):QB5 E ds y=QB5 E cs r∧lgL E ds y=lgL E cs r:=by
 unfold QB5 lgL qZ1
 rw [QZ3 h hy,hy.ss,hy.u]
 exact ⟨rfl,rfl⟩
theorem specLog_cp {E:qH4} {lo hi n:Nat} {r y:qG5} {Lb:Nat} {cs:List qA1} {W:World} (hn:n≤1048576) (hE:EnvS E cs) (hle:qK5 1048576 r) (hl:r.ss.length=r.sn∧r.ls.length=r.ln) (hy:qF6 W Lb r y) (h:CpB lo hi n cs W) :
  QX9 7 y (some ⟨lo,0,none⟩) n n (QB5 E cs r) (lgL E cs r) W:=by
 obtain ⟨ds,h1,hs,h3,_,_⟩:=h
 have:=specLog_c E y (some ⟨lo,0,none⟩) n n ds W (hy.isIn hl.1 hl.2) (by rw [hy.sn,hy.sc];exact Nat.le_refl _) (hy.le hle) h1 h3 hn (hE ds hs h3)
 rw [(QV1 hs hy).1,(QV1 hs hy).2] at this
 exact this
theorem implLog_cp {E:qH4} {lo hi n:Nat} {r y:qG5} {Lb:Nat} {cs:List qA1} {W:World} (hn:n≤1048576) (hE:EnvS E cs) (hle:qK5 1048576 r) (hl:r.ss.length=r.sn∧r.ls.length=r.ln) (hv:qN8 1 W∧qD7 W) (hy:qF6 W Lb r y) (h:CpB lo hi n cs W) :
  QX9 10 y (some ⟨lo,0,none⟩) n n (QB5 E cs r) (lgL E cs r) W:=by
 obtain ⟨ds,h1,hs,h3,_,_⟩:=h
 have:=implLog_c E y (some ⟨lo,0,none⟩) n n ds W (hy.isIn hl.1 hl.2) (by rw [hy.sn,hy.sc];exact Nat.le_refl _) (hy.le hle) h1 h3 hn hv.1 hv.2 (hE ds hs h3)
 rw [(QV1 hs hy).1,(QV1 hs hy).2] at this
 exact this

theorem Rl5_inner (r:qG5) (a:Option Addr) (n cap:Nat) (cs:List qA1) (w:World) (hr:qD8 w r∧qK5 maxLen r) (hc:QJ4 w a n cs) (hE:qN8 1 w∧qD7 w) :
  Calls Tryz.prog 3 #[.agg #[.int .i64 r.i,.int .i64 r.u,.slice r.sa r.sn r.sc,.slice r.la r.ln r.lc],.slice a n cap] w fun e w'=>e = .returned (.bool true)∧Below w.heap.size w w':=by
 have HRI:Hid (qD8 w r):=hr.1
 have HCI:Hid (qA5 w a n cs):=hc.1
 have HER:Hid (qN8 1 w∧qD7 w):=hE
 have HRL:Hid (qK5 maxLen r):=hr.2
 have HCL:Hid (n≤maxLen∧∀ (k:Nat) c,cs[k]? = some c→qD3 maxLen c):=hc.2
 clear hr hc hE
 obtain ⟨V,hV⟩:∃ V,V=w.alloc (.cells #[.int .i64 r.i,.int .i64 r.u,.slice r.sa r.sn r.sc,.slice r.la r.ln r.lc] 25):=⟨_,rfl⟩
 have B0:Hid (Below w.heap.size w V):=by rw [hV];exact zN
 have F1:Hid (qC4 (w.heap.size) (w.heap.size+1) (qE3 (w.heap.size) [.int .i64 r.i,.int .i64 r.u,.slice r.sa r.sn r.sc,.slice r.la r.ln r.lc]) V):=by rw [hV];exact qD6 w _ _
 have hl2:=F1.out.le
 have hz0:=B0.out.size
 go_enter Tryz.func3,Tryz.ntmps3
 go_upto_region 2 with fail
 rw [← hV]
 clear hV
 have hbl0:w.heap.size < V.heap.size:=by have:=F1.out.le;omega
 have b0:=F1.out.out 0 _ rfl
 have b1:=F1.out.out 1 _ rfl
 have b2:=F1.out.out 2 _ rfl
 have b3:=F1.out.out 3 _ rfl
 go_wp2_with fail
 refine (szReplica_c r 1048576 _ HRL.out (by omega) (by omega)).mono ?_
 rintro e w3 ⟨⟨s1,rfl,hs1,hs2⟩,hb⟩
 have B4:Hid (Below w.heap.size w w3):=B0.out.trans (hb.mono B0.out.size)
 have hz5:=hb.size
 have F6:Hid (qC4 (w.heap.size) (w.heap.size+1) (qE3 (w.heap.size) [.int .i64 r.i,.int .i64 r.u,.slice r.sa r.sn r.sc,.slice r.la r.ln r.lc]) w3):=F1.out.below hb
 clear B0 F1
 clear hb b0 b1 b2 b3 hbl0
 by_cases hneg:s1 < 0
 ·go_wp2
  go_ret
  exact ⟨rfl,B4.out⟩
 obtain ⟨hsn,hln⟩:=hs2 (by omega)
 have hge:0≤s1:=by omega
 go_wp2_with fail
 refine (szConfigs_c a n cap cs s1 _ HCL.out.1 HCL.out.2 hge (by omega) (HCI.out.below B4.out)).mono ?_
 rintro e w7 ⟨⟨s2,rfl,hs3,hs4⟩,hb⟩
 have B8:Hid (Below w.heap.size w w7):=B4.out.trans (hb.mono B4.out.size)
 have hz9:=hb.size
 have F10:Hid (qC4 (w.heap.size) (w.heap.size+1) (qE3 (w.heap.size) [.int .i64 r.i,.int .i64 r.u,.slice r.sa r.sn r.sc,.slice r.la r.ln r.lc]) w7):=F6.out.below hb
 clear B4 F6
 clear hb
 by_cases hneg2:s2 < 0
 ·go_wp2
  go_ret
  exact ⟨rfl,B8.out⟩
 obtain ⟨hnl,hcl0⟩:=hs4 (by omega)
 have hge2:0≤s2:=by omega
 have hn:n≤1048576:=by omega
 have HLE1:Hid (∀ (k:Nat) c,cs[k]? = some c→qD3 1048576 c):=fun k c e=>QO0 (hcl0 k c e) (by omega)
 have HRL2:Hid (qK5 1048576 r):=⟨by omega,by omega⟩
 have HSL:Hid (r.ss.length=r.sn∧r.ls.length=r.ln):=⟨HRI.out.said.1,HRI.out.locks.1⟩
 have hsn2:r.sn≤1048576:=by omega
 have hln2:r.ln≤1048576:=by omega
 clear hs4 hcl0 hs2 hs1 HRL HCL hneg hneg2
 have hbl0:w.heap.size < w7.heap.size:=by have:=F10.out.le;omega
 have b0:=F10.out.out 0 _ rfl
 have b1:=F10.out.out 1 _ rfl
 have b2:=F10.out.out 2 _ rfl
 have b3:=F10.out.out 3 _ rfl
 go_wp2_with fail
 refine (qW3 r _ HRL2.out (HRI.out.below B8.out)).mono ?_
 rintro e w13 ⟨y11,Lb12,rfl,hLb,hy,hb⟩
 have B14:Hid (Below w.heap.size w w13):=B8.out.trans (hb.mono B8.out.size)
 have hz15:=hb.size
 have F16:Hid (qC4 (w.heap.size) (w.heap.size+1) (qE3 (w.heap.size) [.int .i64 r.i,.int .i64 r.u,.slice r.sa r.sn r.sc,.slice r.la r.ln r.lc]) w13):=F10.out.below hb
 clear B8 F10
 clear hb b0 b1 b2 b3 hbl0
 have F17:Hid (qJ8 (fun X=>qF6 X Lb12 r y11) w13):=⟨hy,fun X X' h hb=>h.below hb⟩
 go_wp2_with fail
 refine (qW4 a n cap cs _ hn HLE1.out (HCI.out.below B14.out)).mono ?_
 rintro e w18 ⟨rfl,dsT,hct⟩
 have hb:=hct.bl
 have hlt:=hct.lt
 have B19:Hid (Below w.heap.size w w18):=B14.out.trans (hb.mono B14.out.size)
 have hz20:=hb.size
 have F21:Hid (qC4 (w.heap.size) (w.heap.size+1) (qE3 (w.heap.size) [.int .i64 r.i,.int .i64 r.u,.slice r.sa r.sn r.sc,.slice r.la r.ln r.lc]) w18):=F16.out.below hb
 have F22:Hid (qJ8 (fun X=>qF6 X Lb12 r y11) w18):=F17.out.below hb
 clear B14 F16 F17
 have F23:Hid (qJ8 (CpB (w13.heap.size) (w18.heap.size) n cs) w18):=hct.cpB hn HCI.out HLE1.out
 clear hb hct hlt
 obtain ⟨E,hEE⟩:=envS_of F23.out.out
 have HEE:Hid (EnvS E cs):=hEE
 have HSP:=qD4 (specLog_cp hn hEE HRL2.out HSL.out F22.out.out F23.out.out)
 obtain ⟨k,hk⟩:∃ k,QB5 E cs r=k:=⟨_,rfl⟩
 obtain ⟨S,hS⟩:∃ S,lgL E cs r=S:=⟨_,rfl⟩
 obtain ⟨n1,hn1e⟩:∃ m,S.length=m:=⟨_,rfl⟩
 have HLN:Hid (S.length=n1):=hn1e
 have hnk:n1≤1000:=by rw [← hn1e,← hS];exact lgL_len E cs r
 have hn1:n1≤1048576:=by omega
 have hn1':(n1:Int)≤1000:=by omega
 rw [hk,hS] at HSP
 have HIM:Hid (∀ (lo hi Lb:Nat) (y:qG5) (W:World),(qN8 1 W∧qD7 W)→qF6 W Lb r y→CpB lo hi n cs W→Calls Tryz.prog 10 #[.agg #[.int .i64 y.i,.int .i64 y.u,.slice y.sa y.sn y.sc,.slice y.la y.ln y.lc],.slice (some ⟨lo,0,none⟩) n n] W fun e W'=>∃ a cap,e = .returned (.agg #[.int .i64 k,.slice a S.length cap])∧W'.ownsRow W.heap.size 2 1 (.slice a S.length cap) S.length (S.map (Value.int .i64))∧Below W.heap.size W W'):=fun lo hi Lb y W h1 h2 h3=>by
  have:=implLog_cp hn HEE.out HRL2.out HSL.out h1 h2 h3
  rw [hk,hS] at this
  exact this
 clear hEE hk hS hn1e
 go_wp2_with fail
 refine (HSP.out).mono ?_
 rintro e w24 ⟨raW,rcW,rfl,how,hb⟩
 have B25:Hid (Below w.heap.size w w24):=B19.out.trans (hb.mono B19.out.size)
 have hz26:=hb.size
 have F27:Hid (qC4 (w.heap.size) (w.heap.size+1) (qE3 (w.heap.size) [.int .i64 r.i,.int .i64 r.u,.slice r.sa r.sn r.sc,.slice r.la r.ln r.lc]) w24):=F21.out.below hb
 have F28:Hid (qJ8 (fun X=>qF6 X Lb12 r y11) w24):=F22.out.below hb
 have F29:Hid (qJ8 (CpB (w13.heap.size) (w18.heap.size) n cs) w24):=F23.out.below hb
 clear B19 F21 F22 F23
 have ho3:w24.ownsRow w18.heap.size 2 1 (.slice raW n1 rcW) n1 (S.map (Value.int .i64)):=by have:=how;rw [HLN.out] at this;exact this
 have F30:Hid (qC4 (w18.heap.size) (w24.heap.size) (fun X=>X.ownsRow w18.heap.size 2 1 (.slice raW n1 rcW) n1 (S.map (Value.int .i64))) w24):=qV2 ho3
 have hl31:=F30.out.le
 rw [HLN.out]
 clear how ho3 hb
 go_upto_region 9 with fail
 obtain ⟨w32,hX⟩:∃ X,X=w24.alloc (.cells #[.int .i64 k,.slice raW n1 rcW] 31):=⟨_,rfl⟩
 rw [← hX]
 have hb:Below w24.heap.size w24 w32:=by rw [hX];exact zN
 have hbx:qC4 w24.heap.size (w24.heap.size+1) (qE3 w24.heap.size [.int .i64 k,.slice raW n1 rcW]) w32:=by rw [hX];exact qD6 w24 #[.int .i64 k,.slice raW n1 rcW] 31
 clear hX
 have B33:Hid (Below w.heap.size w w32):=B25.out.trans (hb.mono B25.out.size)
 have hz34:=hb.size
 have F35:Hid (qC4 (w.heap.size) (w.heap.size+1) (qE3 (w.heap.size) [.int .i64 r.i,.int .i64 r.u,.slice r.sa r.sn r.sc,.slice r.la r.ln r.lc]) w32):=F27.out.below hb
 have F36:Hid (qJ8 (fun X=>qF6 X Lb12 r y11) w32):=F28.out.below hb
 have F37:Hid (qJ8 (CpB (w13.heap.size) (w18.heap.size) n cs) w32):=F29.out.below hb
 have F38:Hid (qC4 (w18.heap.size) (w24.heap.size) (fun X=>X.ownsRow w18.heap.size 2 1 (.slice raW n1 rcW) n1 (S.map (Value.int .i64))) w32):=F30.out.below hb
 clear B25 F27 F28 F29 F30
 have F39:Hid (qC4 (w24.heap.size) (w24.heap.size+1) (qE3 w24.heap.size [.int .i64 k,.slice raW n1 rcW]) w32):=hbx
 have hl40:=F39.out.le
 clear hbx hb
 clear HSP F36 F37
 have hbl0:w.heap.size < w32.heap.size:=by have:=F35.out.le;omega
 have b0:=F35.out.out 0 _ rfl
 have b1:=F35.out.out 1 _ rfl
 have b2:=F35.out.out 2 _ rfl
 have b3:=F35.out.out 3 _ rfl
 go_wp2_with fail
 refine (qW3 r _ HRL2.out (HRI.out.below B33.out)).mono ?_
 rintro e w43 ⟨y41,Lb42,rfl,hLb,hy,hb⟩
 have B44:Hid (Below w.heap.size w w43):=B33.out.trans (hb.mono B33.out.size)
 have hz45:=hb.size
 have F46:Hid (qC4 (w.heap.size) (w.heap.size+1) (qE3 (w.heap.size) [.int .i64 r.i,.int .i64 r.u,.slice r.sa r.sn r.sc,.slice r.la r.ln r.lc]) w43):=F35.out.below hb
 have F47:Hid (qC4 (w18.heap.size) (w24.heap.size) (fun X=>X.ownsRow w18.heap.size 2 1 (.slice raW n1 rcW) n1 (S.map (Value.int .i64))) w43):=F38.out.below hb
 have F48:Hid (qC4 (w24.heap.size) (w24.heap.size+1) (qE3 w24.heap.size [.int .i64 k,.slice raW n1 rcW]) w43):=F39.out.below hb
 clear B33 F35 F38 F39
 clear hb b0 b1 b2 b3 hbl0
 have F49:Hid (qJ8 (fun X=>qF6 X Lb42 r y41) w43):=⟨hy,fun X X' h hb=>h.below hb⟩
 obtain ⟨xg0,hxg0⟩:∃ g,g=w32.heap.size:=⟨_,rfl⟩
 obtain ⟨xh0,hxh0⟩:∃ g,g=w43.heap.size:=⟨_,rfl⟩
 have HH0:Hid ((∀ g,y41.la=some ⟨g,0,none⟩→g < xh0)∧Lb42 < xh0∧xg0≤Lb42):=⟨fun g e=>by obtain ⟨b0,o0,e1,h1⟩:=newAt hy _ e;cases e1;omega,by have:=hy.slt;omega,by omega⟩
 have hgx0:w32.heap.size≤xg0∧xg0 < xh0∧xh0≤w43.heap.size:=by have:=HH0.out.2;omega
 clear hy hxg0 hxh0 hLb
 go_upto_region 10 with fail
 obtain ⟨w50,hX⟩:∃ X,X=w43.alloc (.cells #[.int .i64 y41.i,.int .i64 y41.u,.slice y41.sa y41.sn y41.sc,.slice y41.la y41.ln y41.lc] 36):=⟨_,rfl⟩
 rw [← hX]
 have hb:Below w43.heap.size w43 w50:=by rw [hX];exact zN
 have hbx:qC4 w43.heap.size (w43.heap.size+1) (qE3 w43.heap.size [.int .i64 y41.i,.int .i64 y41.u,.slice y41.sa y41.sn y41.sc,.slice y41.la y41.ln y41.lc]) w50:=by rw [hX];exact qD6 w43 #[.int .i64 y41.i,.int .i64 y41.u,.slice y41.sa y41.sn y41.sc,.slice y41.la y41.ln y41.lc] 36
 clear hX
 have B51:Hid (Below w.heap.size w w50):=B44.out.trans (hb.mono B44.out.size)
 have hz52:=hb.size
 have F53:Hid (qC4 (w.heap.size) (w.heap.size+1) (qE3 (w.heap.size) [.int .i64 r.i,.int .i64 r.u,.slice r.sa r.sn r.sc,.slice r.la r.ln r.lc]) w50):=F46.out.below hb
 have F54:Hid (qC4 (w18.heap.size) (w24.heap.size) (fun X=>X.ownsRow w18.heap.size 2 1 (.slice raW n1 rcW) n1 (S.map (Value.int .i64))) w50):=F47.out.below hb
 have F55:Hid (qC4 (w24.heap.size) (w24.heap.size+1) (qE3 w24.heap.size [.int .i64 k,.slice raW n1 rcW]) w50):=F48.out.below hb
 have F56:Hid (qJ8 (fun X=>qF6 X Lb42 r y41) w50):=F49.out.below hb
 clear B44 F46 F47 F48 F49
 have F57:Hid (qC4 (w43.heap.size) (w43.heap.size+1) (qE3 w43.heap.size [.int .i64 y41.i,.int .i64 y41.u,.slice y41.sa y41.sn y41.sc,.slice y41.la y41.ln y41.lc]) w50):=hbx
 have hl58:=F57.out.le
 clear hbx hb
 go_wp2_with fail
 refine (qW4 a n cap cs _ hn HLE1.out (HCI.out.below B51.out)).mono ?_
 rintro e w59 ⟨rfl,dsT,hct⟩
 have hb:=hct.bl
 have hlt:=hct.lt
 have B60:Hid (Below w.heap.size w w59):=B51.out.trans (hb.mono B51.out.size)
 have hz61:=hb.size
 have F62:Hid (qC4 (w.heap.size) (w.heap.size+1) (qE3 (w.heap.size) [.int .i64 r.i,.int .i64 r.u,.slice r.sa r.sn r.sc,.slice r.la r.ln r.lc]) w59):=F53.out.below hb
 have F63:Hid (qC4 (w18.heap.size) (w24.heap.size) (fun X=>X.ownsRow w18.heap.size 2 1 (.slice raW n1 rcW) n1 (S.map (Value.int .i64))) w59):=F54.out.below hb
 have F64:Hid (qC4 (w24.heap.size) (w24.heap.size+1) (qE3 w24.heap.size [.int .i64 k,.slice raW n1 rcW]) w59):=F55.out.below hb
 have F65:Hid (qJ8 (fun X=>qF6 X Lb42 r y41) w59):=F56.out.below hb
 have F66:Hid (qC4 (w43.heap.size) (w43.heap.size+1) (qE3 w43.heap.size [.int .i64 y41.i,.int .i64 y41.u,.slice y41.sa y41.sn y41.sc,.slice y41.la y41.ln y41.lc]) w59):=F57.out.below hb
 clear B51 F53 F54 F55 F56 F57
 obtain ⟨xg1,hxg1⟩:∃ g,g=w50.heap.size:=⟨_,rfl⟩
 obtain ⟨xh1,hxh1⟩:∃ g,g=w59.heap.size:=⟨_,rfl⟩
 have hgx1:w50.heap.size≤xg1∧xg1 < xh1∧xh1≤w59.heap.size:=by omega
 have F67:Hid (qJ8 (CpB xg1 xh1 n cs) w59):=by rw [hxg1,hxh1];exact hct.cpB hn HCI.out HLE1.out
 have F68:Hid (qC4 (xg1) (xh1) (fun X=>∃ ds,TabL xg1 xh1 X xg1 n ds) w59):=by rw [hxg1,hxh1];exact hct.tabH hn HCI.out HLE1.out
 have hl69:=F68.out.le
 rw [← hxg1]
 clear hb hlt hct hxg1 hxh1
 have hxbl:w43.heap.size < w59.heap.size:=by have:=F66.out.le;omega
 have xb0:=F66.out.out 0 _ rfl
 have xb1:=F66.out.out 1 _ rfl
 have xb2:=F66.out.out 2 _ rfl
 have xb3:=F66.out.out 3 _ rfl
 go_wp2_with fail
 refine (HIM.out _ _ _ _ _ ⟨HER.out.1.below B60.out,HER.out.2.below B60.out⟩ F65.out.out F67.out.out).mono ?_
 rintro e w70 ⟨raI,rcI,rfl,how,hb⟩
 have B71:Hid (Below w.heap.size w w70):=B60.out.trans (hb.mono B60.out.size)
 have hz72:=hb.size
 have F73:Hid (qC4 (w.heap.size) (w.heap.size+1) (qE3 (w.heap.size) [.int .i64 r.i,.int .i64 r.u,.slice r.sa r.sn r.sc,.slice r.la r.ln r.lc]) w70):=F62.out.below hb
 have F74:Hid (qC4 (w18.heap.size) (w24.heap.size) (fun X=>X.ownsRow w18.heap.size 2 1 (.slice raW n1 rcW) n1 (S.map (Value.int .i64))) w70):=F63.out.below hb
 have F75:Hid (qC4 (w24.heap.size) (w24.heap.size+1) (qE3 w24.heap.size [.int .i64 k,.slice raW n1 rcW]) w70):=F64.out.below hb
 have F76:Hid (qJ8 (fun X=>qF6 X Lb42 r y41) w70):=F65.out.below hb
 have F77:Hid (qC4 (w43.heap.size) (w43.heap.size+1) (qE3 w43.heap.size [.int .i64 y41.i,.int .i64 y41.u,.slice y41.sa y41.sn y41.sc,.slice y41.la y41.ln y41.lc]) w70):=F66.out.below hb
 have F78:Hid (qJ8 (CpB xg1 xh1 n cs) w70):=F67.out.below hb
 have F79:Hid (qC4 (xg1) (xh1) (fun X=>∃ ds,TabL xg1 xh1 X xg1 n ds) w70):=F68.out.below hb
 clear B60 F62 F63 F64 F65 F66 F67 F68
 have ho3:w70.ownsRow w59.heap.size 2 1 (.slice raI n1 rcI) n1 (S.map (Value.int .i64)):=by have:=how;rw [HLN.out] at this;exact this
 have F80:Hid (qC4 (w59.heap.size) (w70.heap.size) (fun X=>X.ownsRow w59.heap.size 2 1 (.slice raI n1 rcI) n1 (S.map (Value.int .i64))) w70):=qV2 ho3
 have hl81:=F80.out.le
 rw [HLN.out]
 have HRW:Hid (∀ q,(Value.slice raI n1 rcI).ownBlock=some q→w59.heap.size≤q∧q < w70.heap.size):=fun q e=>ho3.lt q e
 clear how ho3 hb
 go_upto_region 12 with fail
 obtain ⟨w82,hX⟩:∃ X,X=w70.alloc (.cells #[.int .i64 k,.slice raI n1 rcI] 31):=⟨_,rfl⟩
 rw [← hX]
 have hb:Below w70.heap.size w70 w82:=by rw [hX];exact zN
 have hbx:qC4 w70.heap.size (w70.heap.size+1) (qE3 w70.heap.size [.int .i64 k,.slice raI n1 rcI]) w82:=by rw [hX];exact qD6 w70 #[.int .i64 k,.slice raI n1 rcI] 31
 clear hX
 have B83:Hid (Below w.heap.size w w82):=B71.out.trans (hb.mono B71.out.size)
 have hz84:=hb.size
 have F85:Hid (qC4 (w.heap.size) (w.heap.size+1) (qE3 (w.heap.size) [.int .i64 r.i,.int .i64 r.u,.slice r.sa r.sn r.sc,.slice r.la r.ln r.lc]) w82):=F73.out.below hb
 have F86:Hid (qC4 (w18.heap.size) (w24.heap.size) (fun X=>X.ownsRow w18.heap.size 2 1 (.slice raW n1 rcW) n1 (S.map (Value.int .i64))) w82):=F74.out.below hb
 have F87:Hid (qC4 (w24.heap.size) (w24.heap.size+1) (qE3 w24.heap.size [.int .i64 k,.slice raW n1 rcW]) w82):=F75.out.below hb
 have F88:Hid (qJ8 (fun X=>qF6 X Lb42 r y41) w82):=F76.out.below hb
 have F89:Hid (qC4 (w43.heap.size) (w43.heap.size+1) (qE3 w43.heap.size [.int .i64 y41.i,.int .i64 y41.u,.slice y41.sa y41.sn y41.sc,.slice y41.la y41.ln y41.lc]) w82):=F77.out.below hb
 have F90:Hid (qJ8 (CpB xg1 xh1 n cs) w82):=F78.out.below hb
 have F91:Hid (qC4 (xg1) (xh1) (fun X=>∃ ds,TabL xg1 xh1 X xg1 n ds) w82):=F79.out.below hb
 have F92:Hid (qC4 (w59.heap.size) (w70.heap.size) (fun X=>X.ownsRow w59.heap.size 2 1 (.slice raI n1 rcI) n1 (S.map (Value.int .i64))) w82):=F80.out.below hb
 clear B71 F73 F74 F75 F76 F77 F78 F79 F80
 have F93:Hid (qC4 (w70.heap.size) (w70.heap.size+1) (qE3 w70.heap.size [.int .i64 k,.slice raI n1 rcI]) w82):=hbx
 have hl94:=F93.out.le
 clear hbx hb
 clear xb0 xb1 xb2 xb3 hxbl
 have hpl:w70.heap.size < w82.heap.size:=by have:=F93.out.le;omega
 have p0:=F93.out.out 0 _ rfl
 have p1:=F93.out.out 1 _ rfl
 have hql:w24.heap.size < w82.heap.size:=by have:=F87.out.le;omega
 have q0:=F87.out.out 0 _ rfl
 have q1:=F87.out.out 1 _ rfl
 go_wp2_with fail
 refine (QD0 k raI raW n1 rcI rcW S _ hn1 (qI8 F92.out.out) (qI8 F86.out.out)).mono ?_
 rintro e w95 ⟨rfl,hb⟩
 clear p0 p1 hpl q0 q1 hql
 have B96:Hid (Below w.heap.size w w95):=B83.out.trans (hb.mono B83.out.size)
 have hz97:=hb.size
 have F98:Hid (qC4 (w.heap.size) (w.heap.size+1) (qE3 (w.heap.size) [.int .i64 r.i,.int .i64 r.u,.slice r.sa r.sn r.sc,.slice r.la r.ln r.lc]) w95):=F85.out.below hb
 have F99:Hid (qC4 (w18.heap.size) (w24.heap.size) (fun X=>X.ownsRow w18.heap.size 2 1 (.slice raW n1 rcW) n1 (S.map (Value.int .i64))) w95):=F86.out.below hb
 have F100:Hid (qC4 (w24.heap.size) (w24.heap.size+1) (qE3 w24.heap.size [.int .i64 k,.slice raW n1 rcW]) w95):=F87.out.below hb
 have F101:Hid (qJ8 (fun X=>qF6 X Lb42 r y41) w95):=F88.out.below hb
 have F102:Hid (qC4 (w43.heap.size) (w43.heap.size+1) (qE3 w43.heap.size [.int .i64 y41.i,.int .i64 y41.u,.slice y41.sa y41.sn y41.sc,.slice y41.la y41.ln y41.lc]) w95):=F89.out.below hb
 have F103:Hid (qJ8 (CpB xg1 xh1 n cs) w95):=F90.out.below hb
 have F104:Hid (qC4 (xg1) (xh1) (fun X=>∃ ds,TabL xg1 xh1 X xg1 n ds) w95):=F91.out.below hb
 have F105:Hid (qC4 (w59.heap.size) (w70.heap.size) (fun X=>X.ownsRow w59.heap.size 2 1 (.slice raI n1 rcI) n1 (S.map (Value.int .i64))) w95):=F92.out.below hb
 have F106:Hid (qC4 (w70.heap.size) (w70.heap.size+1) (qE3 w70.heap.size [.int .i64 k,.slice raI n1 rcI]) w95):=F93.out.below hb
 clear B83 F85 F86 F87 F88 F89 F90 F91 F92 F93
 clear hb
 have hbl0:w.heap.size < w95.heap.size:=by have:=F98.out.le;omega
 have b0:=F98.out.out 0 _ rfl
 have b1:=F98.out.out 1 _ rfl
 have b2:=F98.out.out 2 _ rfl
 have b3:=F98.out.out 3 _ rfl
 have hxbl:w43.heap.size < w95.heap.size:=by have:=F102.out.le;omega
 have xb0:=F102.out.out 0 _ rfl
 have xb1:=F102.out.out 1 _ rfl
 have xb2:=F102.out.out 2 _ rfl
 have xb3:=F102.out.out 3 _ rfl
 have HBV:Hid (∀ w2,Below w95.heap.size w95 w2→Below w.heap.size w w2):=fun w2 q=>B96.out.trans (q.mono B96.out.size)
 have HCQ:Hid (qJ8 (fun X=>qF6 X Lb42 r y41) w95):=⟨F101.out.out,fun X X' h hb=>h.below hb⟩
 go_upto_region 14 with fail
 refine wp_region_held_drew (S:=fun w'=>(∀ b o,b < w95.heap.size→w'.cell? ⟨b,o,none⟩=w95.cell? ⟨b,o,none⟩)∧Below w95.heap.size w95 w') (by kernel_rfl) (qB6 _) (fun hHeld=>?_)
 refine Zk.go [0,1] ?_
 iterate 2
  refine Zk.st (v:=?_) rfl ?_ ?_
  rotate_left 1
  ·intro w hSw;(try dsimp only at hSw);go_simp;try (with_reducible rfl)
  try simp only [Act.put,zA,zB,zC,zD,zE,zF]
 refine Zk.fin ?_
 refine Zk.rd (i:=2) rfl (fun K hK=>?_)
 go_simp
 refine (qW3 r _ HRL2.out (HRI.out.below (HBV.out _ hHeld.2))).mono ?_
 rintro d wA ⟨y3,L3,rfl,hL3,hy3,hbA⟩
 have hS:=qA7 hHeld hbA
 have Y3:=qD4 hy3
 clear hy3
 refine hK.out _ _ hS (fun hHeld=>?_)
 clear hK K
 try simp only [Act.put,zA,zB,zC,zD,zE,zF]
 refine Zk.rd (i:=3) rfl (fun K hK=>?_)
 go_simp
 refine (eqCopies _ (HCQ.out.below hHeld.2).out Y3.out HSL.out HRL2.out).mono ?_
 rintro d wB ⟨rfl,hbB⟩
 have hS:=qA7 hHeld hbB
 refine hK.out _ _ hS (fun hHeld=>?_)
 clear hK K
 try simp only [Act.put,zA,zB,zC,zD,zE,zF]
 refine Zk.go [4] ?_
 refine Zk.st (v:=?_) rfl ?_ ?_
 rotate_left 1
 ·intro w hSw;(try dsimp only at hSw);go_simp;try (with_reducible rfl)
 try simp only [Act.put,zA,zB,zC,zD,zE,zF]
 refine Zk.fin ?_
 refine wpAnyH_done (by kernel_rfl) ?_ _
 have hbK:=hS.2
 clear hS hbB hbA hHeld Y3 hL3 HBV HCQ b0 b1 b2 b3 hbl0 xb0 xb1 xb2 xb3 hxbl
 have B107:Hid (Below w.heap.size w wB):=B96.out.trans (hbK.mono B96.out.size)
 have hz108:=hbK.size
 have F109:Hid (qC4 (w.heap.size) (w.heap.size+1) (qE3 (w.heap.size) [.int .i64 r.i,.int .i64 r.u,.slice r.sa r.sn r.sc,.slice r.la r.ln r.lc]) wB):=F98.out.below hbK
 have F110:Hid (qC4 (w18.heap.size) (w24.heap.size) (fun X=>X.ownsRow w18.heap.size 2 1 (.slice raW n1 rcW) n1 (S.map (Value.int .i64))) wB):=F99.out.below hbK
 have F111:Hid (qC4 (w24.heap.size) (w24.heap.size+1) (qE3 w24.heap.size [.int .i64 k,.slice raW n1 rcW]) wB):=F100.out.below hbK
 have F112:Hid (qJ8 (fun X=>qF6 X Lb42 r y41) wB):=F101.out.below hbK
 have F113:Hid (qC4 (w43.heap.size) (w43.heap.size+1) (qE3 w43.heap.size [.int .i64 y41.i,.int .i64 y41.u,.slice y41.sa y41.sn y41.sc,.slice y41.la y41.ln y41.lc]) wB):=F102.out.below hbK
 have F114:Hid (qJ8 (CpB xg1 xh1 n cs) wB):=F103.out.below hbK
 have F115:Hid (qC4 (xg1) (xh1) (fun X=>∃ ds,TabL xg1 xh1 X xg1 n ds) wB):=F104.out.below hbK
 have F116:Hid (qC4 (w59.heap.size) (w70.heap.size) (fun X=>X.ownsRow w59.heap.size 2 1 (.slice raI n1 rcI) n1 (S.map (Value.int .i64))) wB):=F105.out.below hbK
 have F117:Hid (qC4 (w70.heap.size) (w70.heap.size+1) (qE3 w70.heap.size [.int .i64 k,.slice raI n1 rcI]) wB):=F106.out.below hbK
 clear B96 F98 F99 F100 F101 F102 F103 F104 F105 F106
 clear hbK
 go_wp2_with fail
 refine (qW4 a n cap cs _ hn HLE1.out (HCI.out.below B107.out)).mono ?_
 rintro e w118 ⟨rfl,dsT,hct⟩
 have hb:=hct.bl
 have hlt:=hct.lt
 have B119:Hid (Below w.heap.size w w118):=B107.out.trans (hb.mono B107.out.size)
 have hz120:=hb.size
 have F121:Hid (qC4 (w.heap.size) (w.heap.size+1) (qE3 (w.heap.size) [.int .i64 r.i,.int .i64 r.u,.slice r.sa r.sn r.sc,.slice r.la r.ln r.lc]) w118):=F109.out.below hb
 have F122:Hid (qC4 (w18.heap.size) (w24.heap.size) (fun X=>X.ownsRow w18.heap.size 2 1 (.slice raW n1 rcW) n1 (S.map (Value.int .i64))) w118):=F110.out.below hb
 have F123:Hid (qC4 (w24.heap.size) (w24.heap.size+1) (qE3 w24.heap.size [.int .i64 k,.slice raW n1 rcW]) w118):=F111.out.below hb
 have F124:Hid (qJ8 (fun X=>qF6 X Lb42 r y41) w118):=F112.out.below hb
 have F125:Hid (qC4 (w43.heap.size) (w43.heap.size+1) (qE3 w43.heap.size [.int .i64 y41.i,.int .i64 y41.u,.slice y41.sa y41.sn y41.sc,.slice y41.la y41.ln y41.lc]) w118):=F113.out.below hb
 have F126:Hid (qJ8 (CpB xg1 xh1 n cs) w118):=F114.out.below hb
 have F127:Hid (qC4 (xg1) (xh1) (fun X=>∃ ds,TabL xg1 xh1 X xg1 n ds) w118):=F115.out.below hb
 have F128:Hid (qC4 (w59.heap.size) (w70.heap.size) (fun X=>X.ownsRow w59.heap.size 2 1 (.slice raI n1 rcI) n1 (S.map (Value.int .i64))) w118):=F116.out.below hb
 have F129:Hid (qC4 (w70.heap.size) (w70.heap.size+1) (qE3 w70.heap.size [.int .i64 k,.slice raI n1 rcI]) w118):=F117.out.below hb
 clear B107 F109 F110 F111 F112 F113 F114 F115 F116 F117
 have F130:Hid (qJ8 (CpB (wB.heap.size) (w118.heap.size) n cs) w118):=hct.cpB hn HCI.out HLE1.out
 clear hb hct hlt
 go_wp2_with fail
 refine (eqCpB_c _ _ hn F126.out.out F130.out.out).mono ?_
 rintro e w131 ⟨rfl,hb⟩
 clear F130
 have B132:Hid (Below w.heap.size w w131):=B119.out.trans (hb.mono B119.out.size)
 have hz133:=hb.size
 have F134:Hid (qC4 (w.heap.size) (w.heap.size+1) (qE3 (w.heap.size) [.int .i64 r.i,.int .i64 r.u,.slice r.sa r.sn r.sc,.slice r.la r.ln r.lc]) w131):=F121.out.below hb
 have F135:Hid (qC4 (w18.heap.size) (w24.heap.size) (fun X=>X.ownsRow w18.heap.size 2 1 (.slice raW n1 rcW) n1 (S.map (Value.int .i64))) w131):=F122.out.below hb
 have F136:Hid (qC4 (w24.heap.size) (w24.heap.size+1) (qE3 w24.heap.size [.int .i64 k,.slice raW n1 rcW]) w131):=F123.out.below hb
 have F137:Hid (qJ8 (fun X=>qF6 X Lb42 r y41) w131):=F124.out.below hb
 have F138:Hid (qC4 (w43.heap.size) (w43.heap.size+1) (qE3 w43.heap.size [.int .i64 y41.i,.int .i64 y41.u,.slice y41.sa y41.sn y41.sc,.slice y41.la y41.ln y41.lc]) w131):=F125.out.below hb
 have F139:Hid (qJ8 (CpB xg1 xh1 n cs) w131):=F126.out.below hb
 have F140:Hid (qC4 (xg1) (xh1) (fun X=>∃ ds,TabL xg1 xh1 X xg1 n ds) w131):=F127.out.below hb
 have F141:Hid (qC4 (w59.heap.size) (w70.heap.size) (fun X=>X.ownsRow w59.heap.size 2 1 (.slice raI n1 rcI) n1 (S.map (Value.int .i64))) w131):=F128.out.below hb
 have F142:Hid (qC4 (w70.heap.size) (w70.heap.size+1) (qE3 w70.heap.size [.int .i64 k,.slice raI n1 rcI]) w131):=F129.out.below hb
 clear B119 F121 F122 F123 F124 F125 F126 F127 F128 F129
 clear hb
 have hNB:w.heap.size≤w131.heap.size:=B132.out.size
 have hxbl:w43.heap.size < w131.heap.size:=by have:=F138.out.le;omega
 have xb0:=F138.out.out 0 _ rfl
 have xb1:=F138.out.out 1 _ rfl
 have xb2:=F138.out.out 2 _ rfl
 have xb3:=F138.out.out 3 _ rfl
 go_wp2_with fail
 refine (markCopy_c xg0 xh0 Lb42 r y41 _ HRL2.out F137.out.out HH0.out.2.2 HH0.out.1 HH0.out.2.1).mono ?_
 rintro e w143 ⟨rfl,hch⟩
 clear xb0 xb1 xb2 xb3 hxbl
 have B144:Hid (Below w.heap.size w w143):=QO3 B132.out hch (by have:=hNB;omega) B132.out.size
 have hz145:=hch.size
 have F146:Hid (qC4 (w.heap.size) (w.heap.size+1) (qE3 (w.heap.size) [.int .i64 r.i,.int .i64 r.u,.slice r.sa r.sn r.sc,.slice r.la r.ln r.lc]) w143):=F134.out.chg hch (by omega)
 have F147:Hid (qC4 (w18.heap.size) (w24.heap.size) (fun X=>X.ownsRow w18.heap.size 2 1 (.slice raW n1 rcW) n1 (S.map (Value.int .i64))) w143):=F135.out.chg hch (by omega)
 have F148:Hid (qC4 (w24.heap.size) (w24.heap.size+1) (qE3 w24.heap.size [.int .i64 k,.slice raW n1 rcW]) w143):=F136.out.chg hch (by omega)
 have F149:Hid (qC4 (w43.heap.size) (w43.heap.size+1) (qE3 w43.heap.size [.int .i64 y41.i,.int .i64 y41.u,.slice y41.sa y41.sn y41.sc,.slice y41.la y41.ln y41.lc]) w143):=F138.out.chg hch (by omega)
 have F150:Hid (qC4 (xg1) (xh1) (fun X=>∃ ds,TabL xg1 xh1 X xg1 n ds) w143):=F140.out.chg hch (by omega)
 have F151:Hid (qC4 (w59.heap.size) (w70.heap.size) (fun X=>X.ownsRow w59.heap.size 2 1 (.slice raI n1 rcI) n1 (S.map (Value.int .i64))) w143):=F141.out.chg hch (by omega)
 have F152:Hid (qC4 (w70.heap.size) (w70.heap.size+1) (qE3 w70.heap.size [.int .i64 k,.slice raI n1 rcI]) w143):=F142.out.chg hch (by omega)
 clear B132 F134 F135 F136 F138 F140 F141 F142 F137
 clear hch F139
 have hsnI:(r.sn:Int)≤1048576:=by omega
 have hlnI:(r.ln:Int)≤1048576:=by omega
 go_wp2_with fail
 refine (markTab_c _ (1+5 * (r.sn:Int)+4 * (r.ln:Int)) hn (by omega) (by omega) F150.out.out).mono ?_
 rintro e w153 ⟨kk,rfl,hkk,hch⟩
 have B154:Hid (Below w.heap.size w w153):=QO3 B144.out hch (by have:=hNB;omega) B144.out.size
 have hz155:=hch.size
 have F156:Hid (qC4 (w.heap.size) (w.heap.size+1) (qE3 (w.heap.size) [.int .i64 r.i,.int .i64 r.u,.slice r.sa r.sn r.sc,.slice r.la r.ln r.lc]) w153):=F146.out.chg hch (by omega)
 have F157:Hid (qC4 (w18.heap.size) (w24.heap.size) (fun X=>X.ownsRow w18.heap.size 2 1 (.slice raW n1 rcW) n1 (S.map (Value.int .i64))) w153):=F147.out.chg hch (by omega)
 have F158:Hid (qC4 (w24.heap.size) (w24.heap.size+1) (qE3 w24.heap.size [.int .i64 k,.slice raW n1 rcW]) w153):=F148.out.chg hch (by omega)
 have F159:Hid (qC4 (w43.heap.size) (w43.heap.size+1) (qE3 w43.heap.size [.int .i64 y41.i,.int .i64 y41.u,.slice y41.sa y41.sn y41.sc,.slice y41.la y41.ln y41.lc]) w153):=F149.out.chg hch (by omega)
 have F160:Hid (qC4 (w59.heap.size) (w70.heap.size) (fun X=>X.ownsRow w59.heap.size 2 1 (.slice raI n1 rcI) n1 (S.map (Value.int .i64))) w153):=F151.out.chg hch (by omega)
 have F161:Hid (qC4 (w70.heap.size) (w70.heap.size+1) (qE3 w70.heap.size [.int .i64 k,.slice raI n1 rcI]) w153):=F152.out.chg hch (by omega)
 clear B144 F146 F147 F148 F149 F151 F152 F150
 clear hch
 have hk0:decide (kk < 0)=false:=by simp;omega
 have hpl:w70.heap.size < w153.heap.size:=by have:=F161.out.le;omega
 have p0:=F161.out.out 0 _ rfl
 have p1:=F161.out.out 1 _ rfl
 have hql:w24.heap.size < w153.heap.size:=by have:=F158.out.le;omega
 have q0:=F158.out.out 0 _ rfl
 have q1:=F158.out.out 1 _ rfl
 go_wp2_with fail
 refine (QD0 k raI raW n1 rcI rcW S _ hn1 (qI8 F160.out.out) (qI8 F157.out.out)).mono ?_
 rintro e w162 ⟨rfl,hb⟩
 clear p0 p1 hpl q0 q1 hql
 have B163:Hid (Below w.heap.size w w162):=B154.out.trans (hb.mono B154.out.size)
 have hz164:=hb.size
 have F165:Hid (qC4 (w.heap.size) (w.heap.size+1) (qE3 (w.heap.size) [.int .i64 r.i,.int .i64 r.u,.slice r.sa r.sn r.sc,.slice r.la r.ln r.lc]) w162):=F156.out.below hb
 have F166:Hid (qC4 (w18.heap.size) (w24.heap.size) (fun X=>X.ownsRow w18.heap.size 2 1 (.slice raW n1 rcW) n1 (S.map (Value.int .i64))) w162):=F157.out.below hb
 have F167:Hid (qC4 (w24.heap.size) (w24.heap.size+1) (qE3 w24.heap.size [.int .i64 k,.slice raW n1 rcW]) w162):=F158.out.below hb
 have F168:Hid (qC4 (w43.heap.size) (w43.heap.size+1) (qE3 w43.heap.size [.int .i64 y41.i,.int .i64 y41.u,.slice y41.sa y41.sn y41.sc,.slice y41.la y41.ln y41.lc]) w162):=F159.out.below hb
 have F169:Hid (qC4 (w59.heap.size) (w70.heap.size) (fun X=>X.ownsRow w59.heap.size 2 1 (.slice raI n1 rcI) n1 (S.map (Value.int .i64))) w162):=F160.out.below hb
 have F170:Hid (qC4 (w70.heap.size) (w70.heap.size+1) (qE3 w70.heap.size [.int .i64 k,.slice raI n1 rcI]) w162):=F161.out.below hb
 clear B154 F156 F157 F158 F159 F160 F161
 clear hb
 have hpl:w70.heap.size < w162.heap.size:=by have:=F170.out.le;omega
 have p0:=F170.out.out 0 _ rfl
 have p1:=F170.out.out 1 _ rfl
 go_wp2_with fail
 refine (mark1 k _ raI n1 rcI _ _ hn1 F169.out.out).mono ?_
 rintro e w171 ⟨rfl,how,hg⟩
 clear p0 p1 hpl
 have hch:Chg w59.heap.size w70.heap.size w162 w171:=Chg.grown hg (fun q e=>HRW.out q e)
 have hzc:=hch.size
 have B172:Hid (Below w.heap.size w w171):=QO3 B163.out hch (by have:=hNB;omega) B163.out.size
 have hz173:=hch.size
 have F174:Hid (qC4 (w.heap.size) (w.heap.size+1) (qE3 (w.heap.size) [.int .i64 r.i,.int .i64 r.u,.slice r.sa r.sn r.sc,.slice r.la r.ln r.lc]) w171):=F165.out.chg hch (by omega)
 have F175:Hid (qC4 (w18.heap.size) (w24.heap.size) (fun X=>X.ownsRow w18.heap.size 2 1 (.slice raW n1 rcW) n1 (S.map (Value.int .i64))) w171):=F166.out.chg hch (by omega)
 have F176:Hid (qC4 (w24.heap.size) (w24.heap.size+1) (qE3 w24.heap.size [.int .i64 k,.slice raW n1 rcW]) w171):=F167.out.chg hch (by omega)
 have F177:Hid (qC4 (w43.heap.size) (w43.heap.size+1) (qE3 w43.heap.size [.int .i64 y41.i,.int .i64 y41.u,.slice y41.sa y41.sn y41.sc,.slice y41.la y41.ln y41.lc]) w171):=F168.out.chg hch (by omega)
 have F178:Hid (qC4 (w70.heap.size) (w70.heap.size+1) (qE3 w70.heap.size [.int .i64 k,.slice raI n1 rcI]) w171):=F170.out.chg hch (by omega)
 clear B163 F165 F166 F167 F168 F170 F169
 have F179:Hid (qC4 (w59.heap.size) (w70.heap.size) (fun X=>X.ownsRow w59.heap.size 2 1 (.slice raI n1 rcI) n1 ((qS4 1 n1).map (Value.int .i64))) w171):=owns_hold how _ (fun q e=>(HRW.out q e).2) (by omega)
 have hl180:=F179.out.le
 clear how hg hch hzc
 have hq0:decide ((1:Int)+(n1:Int) < 0)=false:=by simp;omega
 have hpl:w70.heap.size < w171.heap.size:=by have:=F178.out.le;omega
 have p0:=F178.out.out 0 _ rfl
 have p1:=F178.out.out 1 _ rfl
 go_wp2_with fail
 refine (held1 k raI n1 rcI _ hn1 (qI8 F179.out.out)).mono ?_
 rintro e w181 ⟨rfl,hb⟩
 clear p0 p1 hpl
 have B182:Hid (Below w.heap.size w w181):=B172.out.trans (hb.mono B172.out.size)
 have hz183:=hb.size
 have F184:Hid (qC4 (w.heap.size) (w.heap.size+1) (qE3 (w.heap.size) [.int .i64 r.i,.int .i64 r.u,.slice r.sa r.sn r.sc,.slice r.la r.ln r.lc]) w181):=F174.out.below hb
 have F185:Hid (qC4 (w18.heap.size) (w24.heap.size) (fun X=>X.ownsRow w18.heap.size 2 1 (.slice raW n1 rcW) n1 (S.map (Value.int .i64))) w181):=F175.out.below hb
 have F186:Hid (qC4 (w24.heap.size) (w24.heap.size+1) (qE3 w24.heap.size [.int .i64 k,.slice raW n1 rcW]) w181):=F176.out.below hb
 have F187:Hid (qC4 (w43.heap.size) (w43.heap.size+1) (qE3 w43.heap.size [.int .i64 y41.i,.int .i64 y41.u,.slice y41.sa y41.sn y41.sc,.slice y41.la y41.ln y41.lc]) w181):=F177.out.below hb
 have F188:Hid (qC4 (w70.heap.size) (w70.heap.size+1) (qE3 w70.heap.size [.int .i64 k,.slice raI n1 rcI]) w181):=F178.out.below hb
 have F189:Hid (qC4 (w59.heap.size) (w70.heap.size) (fun X=>X.ownsRow w59.heap.size 2 1 (.slice raI n1 rcI) n1 ((qS4 1 n1).map (Value.int .i64))) w181):=F179.out.below hb
 clear B172 F174 F175 F176 F177 F178 F179
 clear hb
 have hbl0:w.heap.size < w181.heap.size:=by have:=F184.out.le;omega
 have b0:=F184.out.out 0 _ rfl
 have b1:=F184.out.out 1 _ rfl
 have b2:=F184.out.out 2 _ rfl
 have b3:=F184.out.out 3 _ rfl
 go_wp2_with fail
 refine (qW3 r _ HRL2.out (HRI.out.below B182.out)).mono ?_
 rintro e w192 ⟨y190,Lb191,rfl,hLb,hy,hb⟩
 have B193:Hid (Below w.heap.size w w192):=B182.out.trans (hb.mono B182.out.size)
 have hz194:=hb.size
 have F195:Hid (qC4 (w.heap.size) (w.heap.size+1) (qE3 (w.heap.size) [.int .i64 r.i,.int .i64 r.u,.slice r.sa r.sn r.sc,.slice r.la r.ln r.lc]) w192):=F184.out.below hb
 have F196:Hid (qC4 (w18.heap.size) (w24.heap.size) (fun X=>X.ownsRow w18.heap.size 2 1 (.slice raW n1 rcW) n1 (S.map (Value.int .i64))) w192):=F185.out.below hb
 have F197:Hid (qC4 (w24.heap.size) (w24.heap.size+1) (qE3 w24.heap.size [.int .i64 k,.slice raW n1 rcW]) w192):=F186.out.below hb
 have F198:Hid (qC4 (w43.heap.size) (w43.heap.size+1) (qE3 w43.heap.size [.int .i64 y41.i,.int .i64 y41.u,.slice y41.sa y41.sn y41.sc,.slice y41.la y41.ln y41.lc]) w192):=F187.out.below hb
 have F199:Hid (qC4 (w70.heap.size) (w70.heap.size+1) (qE3 w70.heap.size [.int .i64 k,.slice raI n1 rcI]) w192):=F188.out.below hb
 have F200:Hid (qC4 (w59.heap.size) (w70.heap.size) (fun X=>X.ownsRow w59.heap.size 2 1 (.slice raI n1 rcI) n1 ((qS4 1 n1).map (Value.int .i64))) w192):=F189.out.below hb
 clear B182 F184 F185 F186 F187 F188 F189
 clear hb b0 b1 b2 b3 hbl0
 have F201:Hid (qJ8 (fun X=>qF6 X Lb191 r y190) w192):=⟨hy,fun X X' h hb=>h.below hb⟩
 go_wp2_with fail
 refine (qW4 a n cap cs _ hn HLE1.out (HCI.out.below B193.out)).mono ?_
 rintro e w202 ⟨rfl,dsT,hct⟩
 have hb:=hct.bl
 have hlt:=hct.lt
 have B203:Hid (Below w.heap.size w w202):=B193.out.trans (hb.mono B193.out.size)
 have hz204:=hb.size
 have F205:Hid (qC4 (w.heap.size) (w.heap.size+1) (qE3 (w.heap.size) [.int .i64 r.i,.int .i64 r.u,.slice r.sa r.sn r.sc,.slice r.la r.ln r.lc]) w202):=F195.out.below hb
 have F206:Hid (qC4 (w18.heap.size) (w24.heap.size) (fun X=>X.ownsRow w18.heap.size 2 1 (.slice raW n1 rcW) n1 (S.map (Value.int .i64))) w202):=F196.out.below hb
 have F207:Hid (qC4 (w24.heap.size) (w24.heap.size+1) (qE3 w24.heap.size [.int .i64 k,.slice raW n1 rcW]) w202):=F197.out.below hb
 have F208:Hid (qC4 (w43.heap.size) (w43.heap.size+1) (qE3 w43.heap.size [.int .i64 y41.i,.int .i64 y41.u,.slice y41.sa y41.sn y41.sc,.slice y41.la y41.ln y41.lc]) w202):=F198.out.below hb
 have F209:Hid (qC4 (w70.heap.size) (w70.heap.size+1) (qE3 w70.heap.size [.int .i64 k,.slice raI n1 rcI]) w202):=F199.out.below hb
 have F210:Hid (qC4 (w59.heap.size) (w70.heap.size) (fun X=>X.ownsRow w59.heap.size 2 1 (.slice raI n1 rcI) n1 ((qS4 1 n1).map (Value.int .i64))) w202):=F200.out.below hb
 have F211:Hid (qJ8 (fun X=>qF6 X Lb191 r y190) w202):=F201.out.below hb
 clear B193 F195 F196 F197 F198 F199 F200 F201
 have F212:Hid (qJ8 (CpB (w192.heap.size) (w202.heap.size) n cs) w202):=hct.cpB hn HCI.out HLE1.out
 clear hb hct hlt
 go_wp2_with fail
 refine (HIM.out _ _ _ _ _ ⟨HER.out.1.below B203.out,HER.out.2.below B203.out⟩ F211.out.out F212.out.out).mono ?_
 rintro e w213 ⟨raH,rcH,rfl,how,hb⟩
 have B214:Hid (Below w.heap.size w w213):=B203.out.trans (hb.mono B203.out.size)
 have hz215:=hb.size
 have F216:Hid (qC4 (w.heap.size) (w.heap.size+1) (qE3 (w.heap.size) [.int .i64 r.i,.int .i64 r.u,.slice r.sa r.sn r.sc,.slice r.la r.ln r.lc]) w213):=F205.out.below hb
 have F217:Hid (qC4 (w18.heap.size) (w24.heap.size) (fun X=>X.ownsRow w18.heap.size 2 1 (.slice raW n1 rcW) n1 (S.map (Value.int .i64))) w213):=F206.out.below hb
 have F218:Hid (qC4 (w24.heap.size) (w24.heap.size+1) (qE3 w24.heap.size [.int .i64 k,.slice raW n1 rcW]) w213):=F207.out.below hb
 have F219:Hid (qC4 (w43.heap.size) (w43.heap.size+1) (qE3 w43.heap.size [.int .i64 y41.i,.int .i64 y41.u,.slice y41.sa y41.sn y41.sc,.slice y41.la y41.ln y41.lc]) w213):=F208.out.below hb
 have F220:Hid (qC4 (w70.heap.size) (w70.heap.size+1) (qE3 w70.heap.size [.int .i64 k,.slice raI n1 rcI]) w213):=F209.out.below hb
 have F221:Hid (qC4 (w59.heap.size) (w70.heap.size) (fun X=>X.ownsRow w59.heap.size 2 1 (.slice raI n1 rcI) n1 ((qS4 1 n1).map (Value.int .i64))) w213):=F210.out.below hb
 have F222:Hid (qJ8 (fun X=>qF6 X Lb191 r y190) w213):=F211.out.below hb
 have F223:Hid (qJ8 (CpB (w192.heap.size) (w202.heap.size) n cs) w213):=F212.out.below hb
 clear B203 F205 F206 F207 F208 F209 F210 F211 F212
 have ho3:w213.ownsRow w202.heap.size 2 1 (.slice raH n1 rcH) n1 (S.map (Value.int .i64)):=by have:=how;rw [HLN.out] at this;exact this
 have F224:Hid (qC4 (w202.heap.size) (w213.heap.size) (fun X=>X.ownsRow w202.heap.size 2 1 (.slice raH n1 rcH) n1 (S.map (Value.int .i64))) w213):=qV2 ho3
 have hl225:=F224.out.le
 rw [HLN.out]
 clear how ho3 hb
 go_upto_region 32 with fail
 obtain ⟨w226,hX⟩:∃ X,X=w213.alloc (.cells #[.int .i64 k,.slice raH n1 rcH] 31):=⟨_,rfl⟩
 rw [← hX]
 have hb:Below w213.heap.size w213 w226:=by rw [hX];exact zN
 have hbx:qC4 w213.heap.size (w213.heap.size+1) (qE3 w213.heap.size [.int .i64 k,.slice raH n1 rcH]) w226:=by rw [hX];exact qD6 w213 #[.int .i64 k,.slice raH n1 rcH] 31
 clear hX
 have B227:Hid (Below w.heap.size w w226):=B214.out.trans (hb.mono B214.out.size)
 have hz228:=hb.size
 have F229:Hid (qC4 (w.heap.size) (w.heap.size+1) (qE3 (w.heap.size) [.int .i64 r.i,.int .i64 r.u,.slice r.sa r.sn r.sc,.slice r.la r.ln r.lc]) w226):=F216.out.below hb
 have F230:Hid (qC4 (w18.heap.size) (w24.heap.size) (fun X=>X.ownsRow w18.heap.size 2 1 (.slice raW n1 rcW) n1 (S.map (Value.int .i64))) w226):=F217.out.below hb
 have F231:Hid (qC4 (w24.heap.size) (w24.heap.size+1) (qE3 w24.heap.size [.int .i64 k,.slice raW n1 rcW]) w226):=F218.out.below hb
 have F232:Hid (qC4 (w43.heap.size) (w43.heap.size+1) (qE3 w43.heap.size [.int .i64 y41.i,.int .i64 y41.u,.slice y41.sa y41.sn y41.sc,.slice y41.la y41.ln y41.lc]) w226):=F219.out.below hb
 have F233:Hid (qC4 (w70.heap.size) (w70.heap.size+1) (qE3 w70.heap.size [.int .i64 k,.slice raI n1 rcI]) w226):=F220.out.below hb
 have F234:Hid (qC4 (w59.heap.size) (w70.heap.size) (fun X=>X.ownsRow w59.heap.size 2 1 (.slice raI n1 rcI) n1 ((qS4 1 n1).map (Value.int .i64))) w226):=F221.out.below hb
 have F235:Hid (qJ8 (fun X=>qF6 X Lb191 r y190) w226):=F222.out.below hb
 have F236:Hid (qJ8 (CpB (w192.heap.size) (w202.heap.size) n cs) w226):=F223.out.below hb
 have F237:Hid (qC4 (w202.heap.size) (w213.heap.size) (fun X=>X.ownsRow w202.heap.size 2 1 (.slice raH n1 rcH) n1 (S.map (Value.int .i64))) w226):=F224.out.below hb
 clear B214 F216 F217 F218 F219 F220 F221 F222 F223 F224
 have F238:Hid (qC4 (w213.heap.size) (w213.heap.size+1) (qE3 w213.heap.size [.int .i64 k,.slice raH n1 rcH]) w226):=hbx
 have hl239:=F238.out.le
 clear hbx hb
 clear F235 F236
 have hpl:w213.heap.size < w226.heap.size:=by have:=F238.out.le;omega
 have p0:=F238.out.out 0 _ rfl
 have p1:=F238.out.out 1 _ rfl
 have hql:w24.heap.size < w226.heap.size:=by have:=F231.out.le;omega
 have q0:=F231.out.out 0 _ rfl
 have q1:=F231.out.out 1 _ rfl
 go_wp2_with fail
 refine (QD0 k raH raW n1 rcH rcW S _ hn1 (qI8 F237.out.out) (qI8 F230.out.out)).mono ?_
 rintro e w240 ⟨rfl,hb⟩
 clear p0 p1 hpl q0 q1 hql
 have B241:Hid (Below w.heap.size w w240):=B227.out.trans (hb.mono B227.out.size)
 have hz242:=hb.size
 have F243:Hid (qC4 (w.heap.size) (w.heap.size+1) (qE3 (w.heap.size) [.int .i64 r.i,.int .i64 r.u,.slice r.sa r.sn r.sc,.slice r.la r.ln r.lc]) w240):=F229.out.below hb
 have F244:Hid (qC4 (w18.heap.size) (w24.heap.size) (fun X=>X.ownsRow w18.heap.size 2 1 (.slice raW n1 rcW) n1 (S.map (Value.int .i64))) w240):=F230.out.below hb
 have F245:Hid (qC4 (w24.heap.size) (w24.heap.size+1) (qE3 w24.heap.size [.int .i64 k,.slice raW n1 rcW]) w240):=F231.out.below hb
 have F246:Hid (qC4 (w43.heap.size) (w43.heap.size+1) (qE3 w43.heap.size [.int .i64 y41.i,.int .i64 y41.u,.slice y41.sa y41.sn y41.sc,.slice y41.la y41.ln y41.lc]) w240):=F232.out.below hb
 have F247:Hid (qC4 (w70.heap.size) (w70.heap.size+1) (qE3 w70.heap.size [.int .i64 k,.slice raI n1 rcI]) w240):=F233.out.below hb
 have F248:Hid (qC4 (w59.heap.size) (w70.heap.size) (fun X=>X.ownsRow w59.heap.size 2 1 (.slice raI n1 rcI) n1 ((qS4 1 n1).map (Value.int .i64))) w240):=F234.out.below hb
 have F249:Hid (qC4 (w202.heap.size) (w213.heap.size) (fun X=>X.ownsRow w202.heap.size 2 1 (.slice raH n1 rcH) n1 (S.map (Value.int .i64))) w240):=F237.out.below hb
 have F250:Hid (qC4 (w213.heap.size) (w213.heap.size+1) (qE3 w213.heap.size [.int .i64 k,.slice raH n1 rcH]) w240):=F238.out.below hb
 clear B227 F229 F230 F231 F232 F233 F234 F237 F238
 clear hb
 have hpl:w70.heap.size < w240.heap.size:=by have:=F247.out.le;omega
 have p0:=F247.out.out 0 _ rfl
 have p1:=F247.out.out 1 _ rfl
 go_wp2_with fail
 refine (held1 k raI n1 rcI _ hn1 (qI8 F248.out.out)).mono ?_
 rintro e w251 ⟨rfl,hb⟩
 clear p0 p1 hpl
 have B252:Hid (Below w.heap.size w w251):=B241.out.trans (hb.mono B241.out.size)
 have hz253:=hb.size
 have F254:Hid (qC4 (w.heap.size) (w.heap.size+1) (qE3 (w.heap.size) [.int .i64 r.i,.int .i64 r.u,.slice r.sa r.sn r.sc,.slice r.la r.ln r.lc]) w251):=F243.out.below hb
 have F255:Hid (qC4 (w18.heap.size) (w24.heap.size) (fun X=>X.ownsRow w18.heap.size 2 1 (.slice raW n1 rcW) n1 (S.map (Value.int .i64))) w251):=F244.out.below hb
 have F256:Hid (qC4 (w24.heap.size) (w24.heap.size+1) (qE3 w24.heap.size [.int .i64 k,.slice raW n1 rcW]) w251):=F245.out.below hb
 have F257:Hid (qC4 (w43.heap.size) (w43.heap.size+1) (qE3 w43.heap.size [.int .i64 y41.i,.int .i64 y41.u,.slice y41.sa y41.sn y41.sc,.slice y41.la y41.ln y41.lc]) w251):=F246.out.below hb
 have F258:Hid (qC4 (w70.heap.size) (w70.heap.size+1) (qE3 w70.heap.size [.int .i64 k,.slice raI n1 rcI]) w251):=F247.out.below hb
 have F259:Hid (qC4 (w59.heap.size) (w70.heap.size) (fun X=>X.ownsRow w59.heap.size 2 1 (.slice raI n1 rcI) n1 ((qS4 1 n1).map (Value.int .i64))) w251):=F248.out.below hb
 have F260:Hid (qC4 (w202.heap.size) (w213.heap.size) (fun X=>X.ownsRow w202.heap.size 2 1 (.slice raH n1 rcH) n1 (S.map (Value.int .i64))) w251):=F249.out.below hb
 have F261:Hid (qC4 (w213.heap.size) (w213.heap.size+1) (qE3 w213.heap.size [.int .i64 k,.slice raH n1 rcH]) w251):=F250.out.below hb
 clear B241 F243 F244 F245 F246 F247 F248 F249 F250
 clear hb
 go_wp2
 go_ret
 exact ⟨rfl,B252.out⟩

end Go.Proofs.YtdppdbihhlipeaaGreatDoor
