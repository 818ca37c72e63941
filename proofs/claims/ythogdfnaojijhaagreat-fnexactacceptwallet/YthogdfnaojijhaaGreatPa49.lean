/- Contracts. -/
import Derived.Test.YthogdfnaojijhaaGreatPa46
import Derived.Test.YthogdfnaojijhaaGreatPa48
namespace Go.Proofs.YthogdfnaojijhaaGreat
set_option maxRecDepth 100000
set_option maxHeartbeats 8000000
open Go.RowKit
set_option linter.unusedVariables false
set_option linter.unusedSimpArgs false

theorem ac_fr {G:List qA0→List GrI} {c:qA3} {zs:List ShI} {x:WlI} {f:Int} (hf:c.f=f) (hsh:qB9 f zs=0) (hcf:qO7 c=0) (hrn:x.rz.length=x.rn) :
  frI (acR G c zs x)=if 10 < x.rn then 2 else if vfL f zs x.st x.zs≠0 then vfL f zs x.st x.zs else if x.k≠1 then 1 else if x.e≠c.e then 10 else if alW (qA1 c.fs) (G c.zs) x.f x.s=false then 8 else if bkB f zs x.st (chL x.rz)=true then 9 else 0:=by
 have hal:alB (qD3 c.e c.f c.zs (qA1 c.fs) c.cs) (qA1 c.fs) (G c.zs) x.f x.s=alW (qA1 c.fs) (G c.zs) x.f x.s:=by
  unfold alB
  have : qD3 c.e c.f c.zs (qA1 c.fs) c.cs=0:=hcf
  simp [this]
 have hst:vfL f zs x.st x.zs=0→qB8 x.st=0:=fun q=>vfL_st q
 have hrv:qB8 x.st=0→x.rn≤10→rvB f zs x.st (chL x.rz)=bkB f zs x.st (chL x.rz):=fun q r=>by
  unfold rvB
  rw [hsh,q,qV8,hrn,decide_eq_true r]
  simp
 have his:qB8 x.st=0→isC x.st=if x.k=1 then 0 else 1:=fun q=>by unfold isC;rw [if_pos q]
 unfold acR
 rw [hal,hf,vf_eq,if_pos hsh]
 generalize vfL f zs x.st x.zs=v at *
 generalize alW (qA1 c.fs) (G c.zs) x.f x.s=al at *
 generalize bkB f zs x.st (chL x.rz)=bk at *
 generalize rvB f zs x.st (chL x.rz)=rv at *
 generalize isC x.st=t at *
 by_cases h1:10 < x.rn
 ·simp [frI,h1]
 by_cases h2:v=0
 ·have e1:=his (hst h2)
  have e2:=hrv (hst h2) (by omega)
  subst e2 h2
  by_cases h3:x.k=1
  ·rw [if_pos h3] at e1
   subst e1
   by_cases h4:x.e=c.e
   ·cases al <;> cases rv <;> simp [frI,h1,h3,h4]
   ·simp [frI,h1,h3,h4]
  ·rw [if_neg h3] at e1
   subst e1
   simp [frI,h1,h3]
 ·simp [frI,h1,h2]
theorem QC3 (G:List qA0→List GrI) (a:Option Addr) (n cap:Nat) (cs:List qA3) (b:Option Addr) (m cap':Nat) (zs:List ShI) (x:WlI) (w:World) (hn:n≤1048576) (hle:qH4 1048576 cs) (h:qB1 w a n cs) (hm:m≤1048576) (hcap:m≤cap') (hcm:cap'≤maxLen) (h':qD9 w b m zs) (hx:QO8 w x) (hxl:QB9 1048576 x) (hcc:∀ (k:Nat) c,x.cz[k]? = some c→c.gn≤c.gc∧c.gc≤maxLen) (hv:qC7 cs zs (chL x.cz)≠0) :
  QJ4 20 a n cap b m cap' x (qH8 G cs zs x) w:=by
 have e:qH8 G cs zs x=qC7 cs zs (chL x.cz):=by unfold qH8;rw [if_neg hv]
 rw [e]
 obtain ⟨V,hV⟩:∃ V,V=w.alloc (.cells #[.slice x.ca x.cn x.cc,.int .i64 x.k,.int .i64 x.e,.int .i64 x.f,.int .i64 x.s,.int .i64 x.n,.slice x.ga x.gn x.gc,.slice x.ra x.rn x.rc] 34):=⟨_,rfl⟩
 have BV:Hid (Below w.heap.size w V):=by show Below _ _ _;rw [hV];exact zN
 obtain ⟨v,hvv⟩:∃ v,qC7 cs zs (chL x.cz)=v:=⟨_,rfl⟩
 have HV:=qC3 (qM9 a n cap cs b m cap' zs x.ca x.cn x.cc x.cz V hn hle (h.below BV.out) hm hcap hcm (qD9.below h' BV.out) hxl.cn (hx.ch.below BV.out) (fun k c e=>⟨hxl.cl k c e,hcc k c e⟩))
 unfold qQ6 at HV
 rw [hvv] at HV hv ⊢
 have vb:(v != 0)=true:=by simp [hv]
 clear h h' hx hxl hvv hv e hcc
 go_enter Tryz.func20,Tryz.ntmps20
 go_wp2_with fail
 rw [← hV]
 clear hV
 refine HV.out.mono ?_
 rintro e w1 ⟨ra,rc,rfl,how,hb⟩
 have B1:=qC3 (BV.out.trans (hb.mono BV.out.size))
 clear how hb
 go_wp2
 go_ret
 exact ⟨rfl,B1.out.alloc B1.out.size _⟩
theorem QF9 (G:List qA0→List GrI) (hG:∀ zs,qA7 zs=0→QD0 zs (G zs)) (a:Option Addr) (n cap:Nat) (cs:List qA3) (b:Option Addr) (m cap':Nat) (zs:List ShI) (x:WlI) (w:World) (hn:n≤1048576) (hle:qH4 1048576 cs) (h:qB1 w a n cs) (hm:m≤1048576) (hcap:m≤cap') (hcm:cap'≤maxLen) (h':qD9 w b m zs) (hx:QO8 w x) (hxl:QB9 1048576 x) (hcc:∀ (k:Nat) c,x.cz[k]? = some c→c.gn≤c.gc∧c.gc≤maxLen) (hv:qC7 cs zs (chL x.cz)=0) :
  QJ4 20 a n cap b m cap' x (qH8 G cs zs x) w:=by
 obtain ⟨res,hres⟩:∃ r,qH8 G cs zs x=r:=⟨_,rfl⟩
 rw [hres]
 obtain ⟨V,hV⟩:∃ V,V=w.alloc (.cells #[.slice x.ca x.cn x.cc,.int .i64 x.k,.int .i64 x.e,.int .i64 x.f,.int .i64 x.s,.int .i64 x.n,.slice x.ga x.gn x.gc,.slice x.ra x.rn x.rc] 34):=⟨_,rfl⟩
 have BV:Hid (Below w.heap.size w V):=by show Below _ _ _;rw [hV];exact zN
 have X0:Hid (qD6 w.heap.size (w.heap.size+1) (qJ1 w.heap.size [.slice x.ca x.cn x.cc,.int .i64 x.k,.int .i64 x.e,.int .i64 x.f,.int .i64 x.s,.int .i64 x.n,.slice x.ga x.gn x.gc,.slice x.ra x.rn x.rc]) V):=by show qD6 _ _ _ _;rw [hV];exact qD0 w _ _
 have HV:=qC3 (qM9 a n cap cs b m cap' zs x.ca x.cn x.cc x.cz V hn hle (h.below BV.out) hm hcap hcm (qD9.below h' BV.out) hxl.cn (hx.ch.below BV.out) (fun k c e=>⟨hxl.cl k c e,hcc k c e⟩))
 unfold qQ6 at HV
 obtain ⟨k1,k2,k3,k4,p,k5,k6,k7⟩:=QT7 hv
 have hlc:(chL x.cz).length=x.cn:=by rw [qV8];exact hx.ch.len
 rw [hlc] at k3 k4 k5
 obtain ⟨ys,hys⟩:∃ ys,vcL cs zs (chL x.cz)=ys:=⟨_,rfl⟩
 rw [hv,hys] at HV
 rw [hys] at k4 k5
 have hpn:p < n:=by rw [← h.len];exact k6
 obtain ⟨sb,so,c,rfl,hc,hat,hci⟩:=h.at hpn
 obtain ⟨sb',so',c0,e0,hc0,hat0,hci0⟩:=h.at (show 0 < n by omega)
 cases e0
 have hcc':cs[p]?.getD default=c:=by rw [hc];rfl
 have hok:=qW5 k1
 obtain ⟨f,hff⟩:∃ f,fOf cs=f:=⟨_,rfl⟩
 have hcf:c.f=f:=by rw [← hff];exact (hok.2.2 p c hc).2
 have hcf0:c0.f=f:=by rw [← hff];exact (hok.2.2 0 c0 hc0).2
 have hcz:=(hok.2.2 p c hc).1
 rw [hff] at k2
 have hfr:=(sh_ok k2).1
 have HRS:Hid (res=if 10 < x.rn then 2 else if vfL f zs x.st x.zs≠0 then vfL f zs x.st x.zs else if x.k≠1 then 1 else if x.e≠c.e then 10 else if alW (qA1 c.fs) (G c.zs) x.f x.s=false then 8 else if bkB f zs x.st (chL x.rz)=true then 9 else 0):=by
  show _=_
  rw [← hres]
  unfold qH8
  rw [if_pos hv,k7,hcc']
  exact ac_fr hcf k2 hcz hx.rv.len
 have hz0:=QS4 hcz
 obtain ⟨v1,hv1⟩:∃ r,vfL f zs x.st x.zs=r:=⟨_,rfl⟩
 obtain ⟨al,hal⟩:∃ t,alW (qA1 c.fs) (G c.zs) x.f x.s=t:=⟨_,rfl⟩
 obtain ⟨bk,hbk⟩:∃ t,bkB f zs x.st (chL x.rz)=t:=⟨_,rfl⟩
 rw [hv1,hal,hbk] at HRS
 have hcl:=hle.le p c hc
 have HLV:Hid (∀ W:World,Below w.heap.size w W→qX1 W w.heap.size 1 x.st→W.cell? ⟨w.heap.size,6,none⟩=some (.slice x.ga x.gn x.gc)→Calls Tryz.prog 48 #[.slice b m cap',.int .i64 f,.pointer (some ⟨w.heap.size,1,none⟩)] W fun e w'=>e = .returned (.int .i64 v1)∧Below W.heap.size W w'):=fun W hW h1 h2=>by
  have:=qS2 b m cap' zs f w.heap.size 1 x.st x.ga x.gn x.gc x.zs W hm hxl.gn hfr (qD9.below h' hW) ⟨h1,h2,hx.is.below hW⟩
  rw [hv1] at this
  exact this
 have HLA:Hid (∀ W:World,Below w.heap.size w W→Calls Tryz.prog 49 #[.pointer (some ⟨sb,so+p * 5,none⟩),.int .i64 x.f,.int .i64 x.s] W fun e w'=>e = .returned (.bool al)∧Below W.heap.size W w'):=fun W hW=>by
  have:=l6Allows_o sb (so+p * 5) c (G c.zs) x.f x.s W hcl (hat.below hW) (hci.below hW) (hG c.zs hz0.2.2.1) hz0.2.2.1 (fm_zero hz0.2.2.2.1).2
  rw [hal] at this
  exact this
 have HLB:Hid (∀ (g:Nat) (W:World),Below w.heap.size w W→qX1 W g 0 x.st→Calls Tryz.prog 50 #[.slice b m cap',.int .i64 f,.pointer (some ⟨g,0,none⟩),.slice x.ra x.rn x.rc] W fun e w'=>e = .returned (.bool bk)∧Below W.heap.size W w'):=fun g W hW h1=>by
  have:=l14Back_c b m cap' zs f g x.st x.ra x.rn x.rc x.rz W hm hfr (qD9.below h' hW) h1 hxl.rn (hx.rv.below hW) hxl.rl
  rw [hbk] at this
  exact this
 have HAT:=qC3 hat
 have HAT0:=qC3 hat0
 have HYS:Hid (ys.length=x.cn+1∧ys[x.cn]? = some ((p:Nat):Int)):=⟨k4,k5⟩
 have HF0:Hid (c0.f=f):=hcf0
 have hpi:(p:Int) < (n:Int):=by omega
 have hp0:(0:Int)≤(p:Int):=by omega
 have hn0:(0:Int) < (n:Int):=by omega
 have hcn8:(x.cn:Int)≤8:=by omega
 have hci0:(0:Int)≤(x.cn:Int):=by omega
 have hci1:(x.cn:Int) < (x.cn:Int)+1:=by omega
 have hwr:IntKind.i64.wrap ((x.cn:Int)+1 - 1)=(x.cn:Int):=by rw [IntKind.wrap_i64];omega
 clear h h' hx hxl hv hat hat0 hci hci0 hc hc0 hcc hcc' hcl hres k1 k2 k3 k4 k5 k6 k7 hlc hys hal hbk hv1 hle hG hz0 hcz hok hcf hcf0 hff hfr
 have hci0:(0:Int)≤(x.cn:Int):=by omega
 go_enter Tryz.func20,Tryz.ntmps20
 go_wp2_with fail
 rw [← hV]
 clear hV
 refine HV.out.mono ?_
 rintro e w1 ⟨ra,rc,rfl,how,hb⟩
 rw [HYS.out.1] at how ⊢
 obtain ⟨g,gc,e1, -⟩:=qV5 how (by omega)
 cases e1
 have hrow:w1.cell? ⟨g,x.cn,none⟩=some (.int .i64 (p:Int)):=by
  have q:=how.cellAt x.cn (by omega)
  rw [List.getElem?_map,HYS.out.2] at q
  exact q
 obtain ⟨V1,hV1⟩:∃ V,V=w1.alloc (.cells #[.int .i64 0,.slice (some ⟨g,0,none⟩) (x.cn+1) rc] 100):=⟨_,rfl⟩
 have B01:Below w1.heap.size w1 V1:=by rw [hV1];exact zN
 have hgl:=zL w1 _ hrow
 have HROW:Hid (qD6 g (g+1) (qJ1 g (ys.map (Value.int .i64))) V1):=qJ1.hold (fun j u e=>by
  have hj:j < ys.length:=by
   by_cases q:j < ys.length
   ·exact q
   ·rw [List.getElem?_eq_none (by simp;omega)] at e;cases e
  have q:=how.cellAt j (by have:=HYS.out.1;omega)
  rw [e] at q
  exact (B01.cell (p:=⟨g,j,none⟩) hgl).trans q) (Nat.lt_of_lt_of_le hgl B01.size)
 have R1:Hid (qD6 w1.heap.size (w1.heap.size+1) (qJ1 w1.heap.size [.int .i64 0,.slice (some ⟨g,0,none⟩) (x.cn+1) rc]) V1):=by show qD6 _ _ _ _;rw [hV1];exact qD0 w1 _ _
 have X1:=qC3 ((X0.out.below hb).below B01)
 have B1:=qC3 ((BV.out.trans (hb.mono BV.out.size)).trans (B01.mono (Nat.le_trans BV.out.size hb.size)))
 have hz1:=hb.size
 have hz2:=B01.size
 go_upto_region 2 with fail
 rw [← hV1]
 clear hV1 how hb hrow B01 X0 BV HV hgl
 generalize w1.heap.size=R at *
 have hle1:=X1.out.le
 have hwl:w.heap.size < V1.heap.size:=by omega
 have r0:=R1.out.out 0 _ rfl
 have c7:=X1.out.out 7 _ rfl
 have hRl:=R1.out.le
 have hRl':R < V1.heap.size:=by omega
 by_cases h10:10 < x.rn
 ·have hb:decide ((x.rn:Int) > 10)=true:=by simp;omega
  have HE:Hid (res=2):=by show _=_;rw [HRS.out,if_pos h10]
  go_wp2
  go_ret
  exact ⟨by rw [HE.out];rfl,B1.out⟩
 have hb10:decide ((x.rn:Int) > 10)=false:=by simp;omega
 have HR2:Hid (res=if v1≠0 then v1 else if x.k≠1 then 1 else if x.e≠c.e then 10 else if al=false then 8 else if bk=true then 9 else 0):=by show _=_;rw [HRS.out,if_neg h10]
 obtain ⟨-,d1, -⟩:=HAT0.out.below B1.out
 rw [HF0.out,Nat.zero_mul,Nat.add_zero] at d1
 have hsl:=zL V1 _ d1
 have SV:qX1 V1 w.heap.size 1 x.st:=⟨X1.out.out 1 _ rfl,X1.out.out 2 _ rfl,X1.out.out 3 _ rfl,X1.out.out 4 _ rfl,X1.out.out 5 _ rfl⟩
 have HLV2:=qC3 (HLV.out V1 B1.out SV (X1.out.out 6 _ rfl))
 clear h10 SV HLV HRS HAT0 HF0
 go_wp2_with fail
 refine HLV2.out.mono ?_
 rintro e w2 ⟨rfl,hb2⟩
 have X2:=qC3 (X1.out.below hb2)
 have R2:=qC3 (R1.out.below hb2)
 have HROW2:=qC3 (HROW.out.below hb2)
 have B2:=qC3 (B1.out.trans (hb2.mono B1.out.size))
 have hz3:=hb2.size
 clear hb2 r0 c7 d1 hsl HLV2 X1 R1 HROW
 by_cases v0:v1=0
 ·have vb:(v1 != 0)=false:=by simp [v0]
  have HR3:Hid (res=if x.k≠1 then 1 else if x.e≠c.e then 10 else if al=false then 8 else if bk=true then 9 else 0):=by show _=_;rw [HR2.out,if_neg (by simp [v0])]
  have c1:=X2.out.out 1 _ rfl
  have c2:=X2.out.out 2 _ rfl
  have c3:=X2.out.out 3 _ rfl
  have c4:=X2.out.out 4 _ rfl
  have c5:=X2.out.out 5 _ rfl
  have hwl2:w.heap.size < w2.heap.size:=by omega
  obtain ⟨V2,hV2⟩:∃ V,V=w2.alloc (.cells #[.int .i64 x.k,.int .i64 x.e,.int .i64 x.f,.int .i64 x.s,.int .i64 x.n] 29):=⟨_,rfl⟩
  have B23:Below w2.heap.size w2 V2:=by rw [hV2];exact zN
  have S2:Hid (qD6 w2.heap.size (w2.heap.size+1) (qJ1 w2.heap.size [.int .i64 x.k,.int .i64 x.e,.int .i64 x.f,.int .i64 x.s,.int .i64 x.n]) V2):=by show qD6 _ _ _ _;rw [hV2];exact qD0 w2 _ _
  have X3:=qC3 (X2.out.below B23)
  have R3:=qC3 (R2.out.below B23)
  have HROW3:=qC3 (HROW2.out.below B23)
  have B3:=qC3 (B2.out.trans (B23.mono B2.out.size))
  have hz4:=B23.size
  clear B23 v0 X2 R2 HROW2 HR2
  go_upto_region 11 with fail
  rw [← hV2]
  clear hV2 c1 c2 c3 c4 c5
  have hSl:=S2.out.le
  generalize w2.heap.size=T at *
  have s0:=S2.out.out 0 _ rfl
  have hTl:T < V2.heap.size:=by omega
  by_cases k1:x.k=1
  ·have kb:(x.k != 1)=false:=by simp [k1]
   have HR4:Hid (res=if x.e≠c.e then 10 else if al=false then 8 else if bk=true then 9 else 0):=by show _=_;rw [HR3.out,if_neg (by simp [k1])]
   have r1:=R3.out.out 1 _ rfl
   have hRl3:R < V2.heap.size:=by have:=R3.out.le;omega
   have g0:V2.cell? ⟨g,x.cn,none⟩=some (.int .i64 (p:Int)):=HROW3.out.out x.cn _ (by rw [List.getElem?_map,HYS.out.2];rfl)
   have hgl:g < V2.heap.size:=by have:=HROW3.out.le;omega
   have s1:=S2.out.out 1 _ rfl
   have s2:=S2.out.out 2 _ rfl
   have s3:=S2.out.out 3 _ rfl
   obtain ⟨d0,d1,d2,d3,d4⟩:=HAT.out.below B3.out
   have hsl:=zL V2 _ d0
   clear k1 HR3
   by_cases he:x.e=c.e
   ·have heb:(x.e != c.e)=false:=by simp [he]
    have HR5:Hid (res=if al=false then 8 else if bk=true then 9 else 0):=by show _=_;rw [HR4.out,if_neg (by simp [he])]
    clear he HR4
    go_wp2_with fail
    go_quiet (fail)
    have BU:Below V2.heap.size V2 (V2.drewN nq):=below_drewN (Below.refl _ _) _
    have SU:=qC3 (S2.out.below BU)
    have XU:=qC3 (X3.out.below BU)
    have B4:=qC3 (B3.out.trans (BU.mono B3.out.size))
    have hzU:=BU.size
    clear BU s0 s1 s2 s3 r1 g0 d0 d1 d2 d3 d4 hsl hgl hRl3 S2 X3 R3 HROW3
    generalize V2.drewN nq=U at *
    have s2:=SU.out.out 2 _ rfl
    have s3:=SU.out.out 3 _ rfl
    have u7:=XU.out.out 7 _ rfl
    have hTU:T < U.heap.size:=by omega
    have hwU:w.heap.size < U.heap.size:=by omega
    have HLA2:=qC3 (fun (W:World) (q:KW U W)=>HLA.out W (B4.out.trans (q.2.mono B4.out.size)))
    obtain ⟨nal,hnal⟩:∃ t,(!al)=t:=⟨_,rfl⟩
    have HNA:Hid (al = !nal):=by show _=_;rw [← hnal];simp
    go_wp2_with fail
    go_region_held3 (fun w'=>KW U w') (first | exact hS | exact qB6 _)
     (first | (go_at_call 49;refine (HLA2.out _ (by assumption)).mono ?_;rintro e w' ⟨rfl,hb2⟩;have hS:=qA8 (by assumption) hb2))
    have B5:=qC3 (B4.out.trans (hS.2.mono B4.out.size))
    have S5:=qC3 (SU.out.below hS.2)
    have X5:=qC3 (XU.out.below hS.2)
    have hz5:=hS.2.size
    clear hS s2 s3 SU XU HLA2 hnal
    generalize w'=U2 at *
    cases nal
    ·have HR6:Hid (res=if bk=true then 9 else 0):=by show _=_;rw [HR5.out,if_neg (by rw [HNA.out];decide)]
     have c7:=X5.out.out 7 _ rfl
     have hw5:w.heap.size < U2.heap.size:=by omega
     have HBK:=qC3 (HLB.out T U2 B5.out ⟨S5.out.out 0 _ rfl,S5.out.out 1 _ rfl,S5.out.out 2 _ rfl,S5.out.out 3 _ rfl,S5.out.out 4 _ rfl⟩)
     go_wp2_with fail
     refine HBK.out.mono ?_
     rintro e w6 ⟨rfl,hb6⟩
     have B6:=qC3 (B5.out.trans (hb6.mono B5.out.size))
     clear hb6 c7 hw5 HBK
     cases bk
     ·have HE:Hid (res=0):=by show _=_;rw [HR6.out];rfl
      go_wp2
      go_ret
      exact ⟨by rw [HE.out];rfl,B6.out⟩
     ·have HE:Hid (res=9):=by show _=_;rw [HR6.out];rfl
      go_wp2
      go_ret
      exact ⟨by rw [HE.out];rfl,B6.out⟩
    ·have HE:Hid (res=8):=by show _=_;rw [HR5.out,if_pos (by rw [HNA.out];rfl)]
     go_wp2
     go_ret
     exact ⟨by rw [HE.out];rfl,B5.out⟩
   ·have heb:(x.e != c.e)=true:=by simp [he]
    have HE:Hid (res=10):=by show _=_;rw [HR4.out,if_pos he]
    clear he
    go_wp2_with fail
    go_quiet (fail)
    go_wp2
    go_ret
    exact ⟨by rw [HE.out];rfl,below_drewN B3.out _⟩
  ·have kb:(x.k != 1)=true:=by simp [k1]
   have HE:Hid (res=1):=by show _=_;rw [HR3.out,if_pos k1]
   clear k1
   go_wp2
   go_ret
   exact ⟨by rw [HE.out];rfl,B3.out⟩
 ·have vb:(v1 != 0)=true:=by simp [v0]
  have HE:Hid (res=v1):=by show _=_;rw [HR2.out,if_pos v0]
  go_wp2
  go_ret
  exact ⟨by rw [HE.out];rfl,B2.out⟩

theorem qE4.cnt {cs ds:List qA3} (h:qE4 cs ds) (p:Nat):(ds[p]?.getD default).e=(cs[p]?.getD default).e∧(ds[p]?.getD default).f=(cs[p]?.getD default).f∧(ds[p]?.getD default).zs=(cs[p]?.getD default).zs∧qA1 (ds[p]?.getD default).fs=qA1 (cs[p]?.getD default).fs∧(ds[p]?.getD default).cs=(cs[p]?.getD default).cs:=by
 cases e:ds[p]? with
 | none =>
  have : ds.length≤p:=by simpa using e
  have e2:cs[p]? = none:=List.getElem?_eq_none (by rw [← h.ln];exact this)
  rw [e2]
  exact ⟨rfl,rfl,rfl,rfl,rfl⟩
 | some d =>
  obtain ⟨c,hc,hs⟩:=h.get e
  rw [hc]
  exact ⟨hs.e,hs.f,hs.zs,hs.ps,hs.cs⟩
abbrev cpWl (x:WlI) (p:WlP) (d1 d2:List CrI):WlI:=⟨some ⟨p.l,0,none⟩,x.cn,x.cn,d1,x.k,x.e,x.f,x.s,x.n,some ⟨p.g,0,none⟩,x.gn,x.gn,x.zs,some ⟨p.r,0,none⟩,x.rn,x.rn,d2⟩
theorem ac_same {G:List qA0→List GrI} {cs ds:List qA3} (h:qE4 cs ds) (zs:List ShI) (x:WlI) (p:WlP) (d1 d2:List CrI) (h1:chL d1=chL x.cz) (h2:chL d2=chL x.rz):qH8 G ds zs (cpWl x p d1 d2)=qH8 G cs zs x:=by
 unfold qH8 acR acC fOf
 simp only [h1,h2]
 rw [h.vc,h.f0,h.ch]
 obtain ⟨e1,e2,e3,e4,e5⟩:=h.cnt (qP8 (chS cs zs (cs[0]?.getD default).f (chL x.cz) (chL x.cz).length).2)
 rw [e1,e2,e3,e4,e5]
theorem QN9 {x:WlI} {p:WlP} {W:World} (hle:QB9 1048576 x) (hz:x.zs.length=x.gn) (h:CpW p x W):∃ d1 d2,chL d1=chL x.cz∧chL d2=chL x.rz∧QO8 W (cpWl x p d1 d2)∧QB9 1048576 (cpWl x p d1 d2)∧∀ (k:Nat) c,d1[k]? = some c→c.gn≤c.gc∧c.gc≤maxLen:=by
 obtain ⟨d1,k1⟩:=h.ch
 obtain ⟨d2,k2⟩:=h.rv
 exact ⟨d1,d2,k1.chL,k2.chL,⟨k1.isIn,qC1.of hz h.is.1,k2.isIn⟩,⟨hle.cn,fun k c e=>(k1.le k c e).1,hle.gn,hle.rn,fun k c e=>(k2.le k c e).1⟩,fun k c e=>(k1.le k c e).2⟩
theorem qY4 {G:List qA0→List GrI} (hG:∀ zs,qA7 zs=0→QD0 zs (G zs)) {lo hi n:Nat} {cs:List qA3} {b:Option Addr} {m:Nat} {zs:List ShI} {p:WlP} {x:WlI} {W:World} (hn:n≤1048576) (hm:m≤1048576) (hle:QB9 1048576 x) (hz:x.zs.length=x.gn) (h:CpB lo hi n cs W) (h':qD9 W b m zs) (h2:CpW p x W) :
  Calls Tryz.prog 20 #[.slice (some ⟨lo,0,none⟩) n n,.slice b m m,.agg #[.slice (some ⟨p.l,0,none⟩) x.cn x.cn,.int .i64 x.k,.int .i64 x.e,.int .i64 x.f,.int .i64 x.s,.int .i64 x.n,.slice (some ⟨p.g,0,none⟩) x.gn x.gn,.slice (some ⟨p.r,0,none⟩) x.rn x.rn]] W fun e w'=>e = .returned (.int .i64 (qH8 G cs zs x))∧Below W.heap.size W w':=by
 obtain ⟨ds,h1,hs,h3,_,_⟩:=h
 obtain ⟨d1,d2,e1,e2,i1,i2,i3⟩:=QN9 hle hz h2
 rw [← ac_same hs zs x p d1 d2 e1 e2]
 by_cases q:qC7 ds zs (chL d1)=0
 ·exact QF9 G hG (some ⟨lo,0,none⟩) n n ds b m m zs (cpWl x p d1 d2) W hn h3 h1 hm (Nat.le_refl _) (by unfold maxLen;omega) h' i1 i2 i3 q
 ·exact QC3 G (some ⟨lo,0,none⟩) n n ds b m m zs (cpWl x p d1 d2) W hn h3 h1 hm (Nat.le_refl _) (by unfold maxLen;omega) h' i1 i2 i3 q
theorem qZ8 {G:List qA0→List GrI} (hG:∀ zs,qA7 zs=0→QD0 zs (G zs)) {lo hi n:Nat} {cs:List qA3} {b:Option Addr} {m:Nat} {zs:List ShI} {p:WlP} {x:WlI} {W:World} (hn:n≤1048576) (hm:m≤1048576) (hle:QB9 1048576 x) (hz:x.zs.length=x.gn) (h:CpB lo hi n cs W) (h':qD9 W b m zs) (h2:CpW p x W) :
  Calls Tryz.prog 22 #[.slice (some ⟨lo,0,none⟩) n n,.slice b m m,.agg #[.slice (some ⟨p.l,0,none⟩) x.cn x.cn,.int .i64 x.k,.int .i64 x.e,.int .i64 x.f,.int .i64 x.s,.int .i64 x.n,.slice (some ⟨p.g,0,none⟩) x.gn x.gn,.slice (some ⟨p.r,0,none⟩) x.rn x.rn]] W fun e w'=>e = .returned (.int .i64 (qH8 G cs zs x))∧Below W.heap.size W w':=by
 obtain ⟨ds,h1,hs,h3,_,_⟩:=h
 obtain ⟨d1,d2,e1,e2,i1,i2,i3⟩:=QN9 hle hz h2
 rw [← ac_same hs zs x p d1 d2 e1 e2]
 by_cases q:qC7 ds zs (chL d1)=0
 ·exact QH4 G hG (some ⟨lo,0,none⟩) n n ds b m m zs (cpWl x p d1 d2) W hn h3 h1 hm (Nat.le_refl _) (by unfold maxLen;omega) h' i1 i2 i3 q
 ·exact QC5 G (some ⟨lo,0,none⟩) n n ds b m m zs (cpWl x p d1 d2) W hn h3 h1 hm (Nat.le_refl _) (by unfold maxLen;omega) h' i1 i2 i3 q
theorem grants_of:∃ G:List qA0→List GrI,∀ zs,qA7 zs=0→QD0 zs (G zs) :=
 ⟨fun zs=>if h:qA7 zs=0 then Classical.choose (QI8 zs h) else [],fun zs h=>by
  show QD0 zs (if h:qA7 zs=0 then Classical.choose (QI8 zs h) else [])
  rw [dif_pos h]
  exact Classical.choose_spec (QI8 zs h)⟩

end Go.Proofs.YthogdfnaojijhaaGreat
