/- Contracts. -/
import Derived.Test.YthogdfnaojijhaaGreatPa35
import Derived.Test.YthogdfnaojijhaaGreatPa42
import Derived.Test.YthogdfnaojijhaaGreatPa37
import Derived.Test.YthogdfnaojijhaaGreatPa38
import Derived.Test.YthogdfnaojijhaaGreatPa45
namespace Go.Proofs.YthogdfnaojijhaaGreat
set_option maxRecDepth 100000
set_option maxHeartbeats 8000000
open Go.RowKit
set_option linter.unusedVariables false
set_option linter.unusedSimpArgs false

theorem qE4.nf {cs ds:List qA3} (h:qE4 cs ds) (e n:Int):nfC ds e n=nfC cs e n:=by
 have:=h.eAt n.toNat
 unfold Go.Proofs.YthogdfnaojijhaaGreat.eAt at this
 unfold nfC
 rw [h.ln,this]
theorem qE4.st {cs ds:List qA3} (h:qE4 cs ds) (zs:List ShI) (f:Int) (p:Nat) (x:StI) (ys:List Int):stC ds zs f p x ys=stC cs zs f p x ys:=by
 unfold stC
 rw [h.eAt,h.nf]
theorem qE4.ch {cs ds:List qA3} (h:qE4 cs ds) (zs:List ShI) (f:Int) (ch:List (StI × List Int)):∀ k,chS ds zs f ch k=chS cs zs f ch k
 | 0=>rfl
 | k+1=>by
  rw [chS,chS,h.ch zs f ch k]
  split
  ·split
   ·rfl
   ·rw [h.st]
  ·rfl
theorem qE4.vc {cs ds:List qA3} (h:qE4 cs ds) (zs:List ShI) (ch:List (StI × List Int)):qC7 ds zs ch=qC7 cs zs ch:=by
 unfold qC7 fOf
 rw [h.ak,h.f0,h.ch]

def acC (cs:List qA3) (zs:List ShI) (ch:List (StI × List Int)):qA3:=cs[qP8 (chS cs zs (fOf cs) ch ch.length).2]?.getD default
def acR (G:List qA0→List GrI) (c:qA3) (zs:List ShI) (x:WlI):List Int :=
 [if 10 < x.rn then 2 else 0,QD1 c.f zs x.st x.zs,isC x.st,if x.e=c.e then 0 else 10,if alB (qD3 c.e c.f c.zs (qA1 c.fs) c.cs) (qA1 c.fs) (G c.zs) x.f x.s=true then 0 else 8,if rvB c.f zs x.st (chL x.rz)=true then 9 else 0]
def qH8 (G:List qA0→List GrI) (cs:List qA3) (zs:List ShI) (x:WlI):Int:=if qC7 cs zs (chL x.cz)=0 then frI (acR G (acC cs zs (chL x.cz)) zs x) else qC7 cs zs (chL x.cz)
abbrev QJ4 (fn:Nat) (a:Option Addr) (n cap:Nat) (b:Option Addr) (m cap':Nat) (x:WlI) (c:Int) (w:World):Prop:=Calls Tryz.prog fn #[.slice a n cap,.slice b m cap',.agg #[.slice x.ca x.cn x.cc,.int .i64 x.k,.int .i64 x.e,.int .i64 x.f,.int .i64 x.s,.int .i64 x.n,.slice x.ga x.gn x.gc,.slice x.ra x.rn x.rc]] w fun e w'=>e = .returned (.int .i64 c)∧Below w.heap.size w w'
theorem intIn6 {w:World} {g:Nat} {r0 r1 r2 r3 r4 r5:Int} (h0:w.cell? ⟨g,0,none⟩=some (.int .i64 r0)) (h1:w.cell? ⟨g,1,none⟩=some (.int .i64 r1)) (h2:w.cell? ⟨g,2,none⟩=some (.int .i64 r2)) (h3:w.cell? ⟨g,3,none⟩=some (.int .i64 r3)) (h4:w.cell? ⟨g,4,none⟩=some (.int .i64 r4)) (h5:w.cell? ⟨g,5,none⟩=some (.int .i64 r5)):qC1 w (some ⟨g,0,none⟩) 6 [r0,r1,r2,r3,r4,r5]:=by
 refine ⟨rfl,fun _=>⟨g,0,rfl,fun k r e=>?_⟩⟩
 match k,e with
 | 0,e=>simp at e;subst e;exact h0
 | 1,e=>simp at e;subst e;exact h1
 | 2,e=>simp at e;subst e;exact h2
 | 3,e=>simp at e;subst e;exact h3
 | 4,e=>simp at e;subst e;exact h4
 | 5,e=>simp at e;subst e;exact h5
theorem QZ2 (g:Nat) (r0 r1 r2 r3 r4 r5:Int) (w:World) (h0:w.cell? ⟨g,0,none⟩=some (.int .i64 r0)) (h1:w.cell? ⟨g,1,none⟩=some (.int .i64 r1)) (h2:w.cell? ⟨g,2,none⟩=some (.int .i64 r2)) (h3:w.cell? ⟨g,3,none⟩=some (.int .i64 r3)) (h4:w.cell? ⟨g,4,none⟩=some (.int .i64 r4)) (h5:w.cell? ⟨g,5,none⟩=some (.int .i64 r5)) :
  Calls Tryz.prog 33 #[.slice (some ⟨g,0,none⟩) 6 6] w fun e w'=>e = .returned (.int .i64 (frI [r0,r1,r2,r3,r4,r5]))∧w=w' :=
 qU6 _ 6 6 _ w (by omega) (intIn6 h0 h1 h2 h3 h4 h5)
theorem QT7 {cs:List qA3} {zs:List ShI} {ch:List (StI × List Int)} (h:qC7 cs zs ch=0):qB5 cs=0∧qB9 (fOf cs) zs=0∧ch.length≤8∧(vcL cs zs ch).length=ch.length+1∧∃ p,(vcL cs zs ch)[ch.length]? = some ((p:Nat):Int)∧p < cs.length∧acC cs zs ch=cs[p]?.getD default:=by
 have h0:=h
 unfold qC7 at h
 by_cases q:qG0 cs zs=0
 ·rw [if_pos q] at h
  by_cases r:8 < ch.length
  ·rw [if_pos r] at h;omega
  ·rw [if_neg r] at h
   obtain ⟨k1,k2⟩:=ak_ok q
   have hl:=(qW5 k1).1
   obtain ⟨e1,p,e2,e3,e4⟩:=QI1 (f:=fOf cs) (by omega) ch.length (Nat.le_refl _) h
   have hv:vcL cs zs ch=(chS cs zs (fOf cs) ch ch.length).2.map (fun p:Nat=>(p:Int)):=by unfold vcL;rw [if_pos h0]
   refine ⟨k1,k2,by omega,by rw [hv,List.length_map,e1],p,by rw [hv,List.getElem?_map,e2];rfl,e3,?_⟩
   unfold acC
   rw [e4]
 ·rw [if_neg q] at h;exact absurd h q
theorem QC5 (G:List qA0→List GrI) (a:Option Addr) (n cap:Nat) (cs:List qA3) (b:Option Addr) (m cap':Nat) (zs:List ShI) (x:WlI) (w:World) (hn:n≤1048576) (hle:qH4 1048576 cs) (h:qB1 w a n cs) (hm:m≤1048576) (hcap:m≤cap') (hcm:cap'≤maxLen) (h':qD9 w b m zs) (hx:QO8 w x) (hxl:QB9 1048576 x) (hcc:∀ (k:Nat) c,x.cz[k]? = some c→c.gn≤c.gc∧c.gc≤maxLen) (hv:qC7 cs zs (chL x.cz)≠0) :
  QJ4 22 a n cap b m cap' x (qH8 G cs zs x) w:=by
 have e:qH8 G cs zs x=qC7 cs zs (chL x.cz):=by unfold qH8;rw [if_neg hv]
 rw [e]
 obtain ⟨V,hV⟩:∃ V,V=w.alloc (.cells #[.slice x.ca x.cn x.cc,.int .i64 x.k,.int .i64 x.e,.int .i64 x.f,.int .i64 x.s,.int .i64 x.n,.slice x.ga x.gn x.gc,.slice x.ra x.rn x.rc] 34):=⟨_,rfl⟩
 have BV:Hid (Below w.heap.size w V):=by show Below _ _ _;rw [hV];exact zN
 obtain ⟨v,hvv⟩:∃ v,qC7 cs zs (chL x.cz)=v:=⟨_,rfl⟩
 have HV:=qC3 (qN4 a n cap cs b m cap' zs x.ca x.cn x.cc x.cz V hn hle (h.below BV.out) hm hcap hcm (qD9.below h' BV.out) hxl.cn (hx.ch.below BV.out) (fun k c e=>⟨hxl.cl k c e,hcc k c e⟩))
 unfold qQ6 at HV
 rw [hvv] at HV hv ⊢
 have vb:(v != 0)=true:=by simp [hv]
 clear h h' hx hxl hvv hv e hcc
 go_enter Tryz.func22,Tryz.ntmps22
 go_wp2_with fail
 rw [← hV]
 clear hV
 refine HV.out.mono ?_
 rintro e w1 ⟨ra,rc,rfl,how,hb⟩
 have B1:=qC3 (BV.out.trans (hb.mono BV.out.size))
 clear how hb
 go_wp2
 go_ret
 exact ⟨rfl,B1.out.alloc B1.out.size _⟩
theorem QH4 (G:List qA0→List GrI) (hG:∀ zs,qA7 zs=0→QD0 zs (G zs)) (a:Option Addr) (n cap:Nat) (cs:List qA3) (b:Option Addr) (m cap':Nat) (zs:List ShI) (x:WlI) (w:World) (hn:n≤1048576) (hle:qH4 1048576 cs) (h:qB1 w a n cs) (hm:m≤1048576) (hcap:m≤cap') (hcm:cap'≤maxLen) (h':qD9 w b m zs) (hx:QO8 w x) (hxl:QB9 1048576 x) (hcc:∀ (k:Nat) c,x.cz[k]? = some c→c.gn≤c.gc∧c.gc≤maxLen) (hv:qC7 cs zs (chL x.cz)=0) :
  QJ4 22 a n cap b m cap' x (qH8 G cs zs x) w:=by
 obtain ⟨res,hres⟩:∃ r,qH8 G cs zs x=r:=⟨_,rfl⟩
 rw [hres]
 obtain ⟨V,hV⟩:∃ V,V=w.alloc (.cells #[.slice x.ca x.cn x.cc,.int .i64 x.k,.int .i64 x.e,.int .i64 x.f,.int .i64 x.s,.int .i64 x.n,.slice x.ga x.gn x.gc,.slice x.ra x.rn x.rc] 34):=⟨_,rfl⟩
 have BV:Hid (Below w.heap.size w V):=by show Below _ _ _;rw [hV];exact zN
 have X0:Hid (qD6 w.heap.size (w.heap.size+1) (qJ1 w.heap.size [.slice x.ca x.cn x.cc,.int .i64 x.k,.int .i64 x.e,.int .i64 x.f,.int .i64 x.s,.int .i64 x.n,.slice x.ga x.gn x.gc,.slice x.ra x.rn x.rc]) V):=by show qD6 _ _ _ _;rw [hV];exact qD0 w _ _
 have HV:=qC3 (qN4 a n cap cs b m cap' zs x.ca x.cn x.cc x.cz V hn hle (h.below BV.out) hm hcap hcm (qD9.below h' BV.out) hxl.cn (hx.ch.below BV.out) (fun k c e=>⟨hxl.cl k c e,hcc k c e⟩))
 unfold qQ6 at HV
 obtain ⟨k1,k2,k3,k4,p,k5,k6,k7⟩:=QT7 hv
 have hlc:(chL x.cz).length=x.cn:=by rw [qV8];exact hx.ch.len
 rw [hlc] at k3 k4 k5
 obtain ⟨ys,hys⟩:∃ ys,vcL cs zs (chL x.cz)=ys:=⟨_,rfl⟩
 rw [hv,hys] at HV
 rw [hys] at k4 k5
 have hpn:p < n:=by rw [← h.len];exact k6
 obtain ⟨sb,so,c,rfl,hc,hat,hci⟩:=h.at hpn
 have hcc':cs[p]?.getD default=c:=by rw [hc];rfl
 have HRS:Hid (res=frI (acR G c zs x)):=by show _=_;rw [← hres];unfold qH8;rw [if_pos hv,k7,hcc']
 have hcl:=hle.le p c hc
 have hrc:=hle.rc p c hc
 have HCI:=qC3 hci
 have HSH:=qC3 h'
 have HXI:=qC3 hx
 have HXL:=qC3 hxl
 have HCL:=qC3 hcl
 obtain ⟨b0,hb0⟩:∃ b,decide ((x.rn:Int) > 10)=b:=⟨_,rfl⟩
 obtain ⟨r0,hr0⟩:∃ r,(if b0=true then (2:Int) else 0)=r:=⟨_,rfl⟩
 obtain ⟨r1,hr1⟩:∃ r,QD1 c.f zs x.st x.zs=r:=⟨_,rfl⟩
 obtain ⟨r2,hr2⟩:∃ r,isC x.st=r:=⟨_,rfl⟩
 obtain ⟨b3,hb3⟩:∃ b,(x.e != c.e)=b:=⟨_,rfl⟩
 obtain ⟨r3,hr3⟩:∃ r,(if b3=true then (10:Int) else 0)=r:=⟨_,rfl⟩
 obtain ⟨al,hal⟩:∃ t,alB (qD3 c.e c.f c.zs (qA1 c.fs) c.cs) (qA1 c.fs) (G c.zs) x.f x.s=t:=⟨_,rfl⟩
 obtain ⟨b4,hb4⟩:∃ b,(!al)=b:=⟨_,rfl⟩
 obtain ⟨r4,hr4⟩:∃ r,(if b4=true then (8:Int) else 0)=r:=⟨_,rfl⟩
 obtain ⟨rv,hrv⟩:∃ t,rvB c.f zs x.st (chL x.rz)=t:=⟨_,rfl⟩
 obtain ⟨r5,hr5⟩:∃ r,(if rv=true then (9:Int) else 0)=r:=⟨_,rfl⟩
 have HFR:Hid (frI [r0,r1,r2,r3,r4,r5]=res):=by
  show _=_
  rw [HRS.out]
  unfold acR
  have e0:(if 10 < x.rn then (2:Int) else 0)=r0:=by
   rw [← hr0,← hb0]
   by_cases q:10 < x.rn
   ·have : decide ((x.rn:Int) > 10)=true:=by simp;omega
    rw [this,if_pos q];rfl
   ·have : decide ((x.rn:Int) > 10)=false:=by simp;omega
    rw [this,if_neg q];rfl
  have e3:(if x.e=c.e then (0:Int) else 10)=r3:=by
   rw [← hr3,← hb3]
   by_cases q:x.e=c.e <;> simp [q]
  have e4:(if al=true then (0:Int) else 8)=r4:=by
   rw [← hr4,← hb4]
   cases al <;> rfl
  rw [hal,hrv,hr1,hr2,e0,e3,e4,hr5]
 have HR0:Hid (∀ w,Calls Tryz.prog 54 #[.bool b0,.int .i64 2] w fun e w'=>e = .returned (.int .i64 r0)∧w=w'):=fun w=>by rw [← hr0];exact qN1 b0 2 w
 have HR3:Hid (∀ w,Calls Tryz.prog 54 #[.bool b3,.int .i64 10] w fun e w'=>e = .returned (.int .i64 r3)∧w=w'):=fun w=>by rw [← hr3];exact qN1 b3 10 w
 have HR4:Hid (∀ w,Calls Tryz.prog 54 #[.bool b4,.int .i64 8] w fun e w'=>e = .returned (.int .i64 r4)∧w=w'):=fun w=>by rw [← hr4];exact qN1 b4 8 w
 have HR5:Hid (∀ w,Calls Tryz.prog 54 #[.bool rv,.int .i64 9] w fun e w'=>e = .returned (.int .i64 r5)∧w=w'):=fun w=>by rw [← hr5];exact qN1 rv 9 w
 have HF2:Hid (∀ w,Calls Tryz.prog 34 #[.agg #[.int .i64 x.k,.int .i64 x.e,.int .i64 x.f,.int .i64 x.s,.int .i64 x.n]] w fun e w'=>e = .returned (.int .i64 r2)∧Below w.heap.size w w'):=fun w=>by rw [← hr2];exact QM1 x.st w
 have HV1:Hid (∀ W:World,Below w.heap.size w W→Calls Tryz.prog 55 #[.slice b m cap',.int .i64 c.f,.agg #[.int .i64 x.k,.int .i64 x.e,.int .i64 x.f,.int .i64 x.s,.int .i64 x.n,.slice x.ga x.gn x.gc]] W fun e w'=>e = .returned (.int .i64 r1)∧Below W.heap.size W w'):=fun W hW=>by
  have:=qJ4 b m cap' zs c.f x.st x.ga x.gn x.gc x.zs W hm hcap hcm HXL.out.gn (qD9.below HSH.out hW) (HXI.out.is.below hW)
  rw [hr1] at this
  exact this
 have HA4:Hid (∀ W:World,Below w.heap.size w W→Calls Tryz.prog 56 #[.agg #[.int .i64 c.e,.int .i64 c.f,.slice c.ra c.rn c.rc,.slice c.fa c.fn c.fc,.slice c.ca c.cn c.cc],.int .i64 x.f,.int .i64 x.s] W fun e w'=>e = .returned (.bool al)∧Below W.heap.size W w'):=fun W hW=>by
  have:=QM3 c (G c.zs) x.f x.s W HCL.out hrc.1 hrc.2 (HCI.out.below hW) (hG c.zs)
  rw [hal] at this
  exact this
 have HV5:Hid (∀ W:World,Below w.heap.size w W→Calls Tryz.prog 57 #[.slice b m cap',.int .i64 c.f,.agg #[.int .i64 x.k,.int .i64 x.e,.int .i64 x.f,.int .i64 x.s,.int .i64 x.n],.slice x.ra x.rn x.rc] W fun e w'=>e = .returned (.bool rv)∧Below W.heap.size W w'):=fun W hW=>by
  have:=QH2 b m cap' zs c.f x.st x.ra x.rn x.rc x.rz W hm hcap hcm (qD9.below HSH.out hW) HXL.out.rn (HXI.out.rv.below hW) HXL.out.rl
  rw [hrv] at this
  exact this
 have hatV:=hat.below BV.out
 have HAT:=qC3 hatV
 have HYS:Hid (ys.length=x.cn+1∧ys[x.cn]? = some ((p:Nat):Int)):=⟨k4,k5⟩
 have hpi:(p:Int) < (n:Int):=by omega
 have hp0:(0:Int)≤(p:Int):=by omega
 have hci0:(0:Int)≤(x.cn:Int):=by omega
 have hci1:(x.cn:Int) < (x.cn:Int)+1:=by omega
 clear h h' hx hxl hv hat hatV hci hc hcc hcc' hcl hrc hres k1 k2 k3 k4 k5 k6 k7 hlc hys HRS hr0 hr1 hr2 hr3 hr4 hr5 hal hrv hle hG
 go_enter Tryz.func22,Tryz.ntmps22
 go_wp2_with fail
 rw [← hV]
 clear hV
 refine HV.out.mono ?_
 rintro e w1 ⟨ra,rc,rfl,how,hb⟩
 rw [HYS.out.1] at how ⊢
 obtain ⟨g,gc,e1, -⟩:=qV5 how (by omega)
 cases e1
 have hrow:w1.cell? ⟨g,x.cn,none⟩=some (.int .i64 (p:Int)):=by
  have q:=how.cellAt x.cn (by omega)
  rw [List.getElem?_map,HYS.out.2] at q
  exact q
 have X1:=qC3 (X0.out.below hb)
 have B1:=qC3 (BV.out.trans (hb.mono BV.out.size))
 obtain ⟨d0,d1,d2,d3,d4⟩:=HAT.out.below hb
 have hsl:=zL w1 _ d0
 have hgl:=zL w1 _ hrow
 have c0:=X1.out.out 0 _ rfl
 have c1:=X1.out.out 1 _ rfl
 have c2:=X1.out.out 2 _ rfl
 have c3:=X1.out.out 3 _ rfl
 have c4:=X1.out.out 4 _ rfl
 have c5:=X1.out.out 5 _ rfl
 have hwl:w.heap.size < w1.heap.size:=by have:=X1.out.le;omega
 obtain ⟨V2,hV2⟩:∃ V,V=((w1.alloc (.cells #[.int .i64 0,.slice (some ⟨g,0,none⟩) (x.cn+1) rc] 100)).alloc (.cells #[.int .i64 c.e,.int .i64 c.f,.slice c.ra c.rn c.rc,.slice c.fa c.fn c.fc,.slice c.ca c.cn c.cc] 72)).alloc (.cells #[.int .i64 x.k,.int .i64 x.e,.int .i64 x.f,.int .i64 x.s,.int .i64 x.n] 29):=⟨_,rfl⟩
 go_upto_region 6 with fail
 rw [← hV2]
 have B2:Below w1.heap.size w1 V2:=by rw [hV2];exact ((zN).alloc (by simp) _).alloc (by simp;omega) _
 have L0:qJ1 (w1.heap.size+1) [.int .i64 c.e,.int .i64 c.f,.slice c.ra c.rn c.rc,.slice c.fa c.fn c.fc,.slice c.ca c.cn c.cc] V2:=by
  have q:=(qD0 (w1.alloc (.cells #[.int .i64 0,.slice (some ⟨g,0,none⟩) (x.cn+1) rc] 100)) #[.int .i64 c.e,.int .i64 c.f,.slice c.ra c.rn c.rc,.slice c.fa c.fn c.fc,.slice c.ca c.cn c.cc] 72).alloc (.cells #[.int .i64 x.k,.int .i64 x.e,.int .i64 x.f,.int .i64 x.s,.int .i64 x.n] 29)
  rw [hV2]
  have q:=q.out
  simp only [World.size_alloc] at q
  exact q
 have S0:qJ1 (w1.heap.size+1+1) [.int .i64 x.k,.int .i64 x.e,.int .i64 x.f,.int .i64 x.s,.int .i64 x.n] V2:=by
  have q:=(qD0 ((w1.alloc (.cells #[.int .i64 0,.slice (some ⟨g,0,none⟩) (x.cn+1) rc] 100)).alloc (.cells #[.int .i64 c.e,.int .i64 c.f,.slice c.ra c.rn c.rc,.slice c.fa c.fn c.fc,.slice c.ca c.cn c.cc] 72)) #[.int .i64 x.k,.int .i64 x.e,.int .i64 x.f,.int .i64 x.s,.int .i64 x.n] 29).out
  rw [hV2]
  simp only [World.size_alloc] at q
  exact q
 have hz2:w1.heap.size+1+1 < V2.heap.size:=by rw [hV2];simp
 have X2:=X1.out.below B2
 have BW:=qC3 (B1.out.trans (B2.mono B1.out.size))
 clear c0 c1 c2 c3 c4 c5 hrow d0 d1 d2 d3 d4 hsl hgl how hV2 B2
 have c1:=X2.out 1 _ rfl
 have c2:=X2.out 2 _ rfl
 have c3:=X2.out 3 _ rfl
 have c4:=X2.out 4 _ rfl
 have c5:=X2.out 5 _ rfl
 have c6:=X2.out 6 _ rfl
 have c7:=X2.out 7 _ rfl
 have l0:=L0 0 _ rfl
 have l1:=L0 1 _ rfl
 have l2:=L0 2 _ rfl
 have l3:=L0 3 _ rfl
 have l4:=L0 4 _ rfl
 have s0:=S0 0 _ rfl
 have s1:=S0 1 _ rfl
 have s2:=S0 2 _ rfl
 have s3:=S0 3 _ rfl
 have s4:=S0 4 _ rfl
 have hl0:w.heap.size < V2.heap.size:=by omega
 have hl1:w1.heap.size+1 < V2.heap.size:=by omega
 have HV1':=qC3 (fun (W:World) (q:KW V2 W)=>HV1.out W (BW.out.trans (q.2.mono BW.out.size)))
 have HA4':=qC3 (fun (W:World) (q:KW V2 W)=>HA4.out W (BW.out.trans (q.2.mono BW.out.size)))
 have HV5':=qC3 (fun (W:World) (q:KW V2 W)=>HV5.out W (BW.out.trans (q.2.mono BW.out.size)))
 clear X2 L0 S0 X0 X1 B1 BV HV HV1 HA4 HV5 HAT HYS HCI HSH HXI HXL HCL hb
 go_region_held3 (fun w'=>KW V2 w') (first | exact hS | exact qB6 _ | exact qV6 (by assumption) _ | assumption)
  (first
   | (go_at_call 54;(first | refine (HR0.out _).mono ?_ | refine (HR3.out _).mono ?_ | refine (HR4.out _).mono ?_ | refine (HR5.out _).mono ?_);rintro e w' ⟨rfl,rfl⟩)
   | (go_at_call 55;refine (HV1'.out _ (by assumption)).mono ?_;rintro e w' ⟨rfl,hb2⟩;have hS:=qA8 (by assumption) hb2)
   | (go_at_call 34;refine (HF2.out _).mono ?_;rintro e w' ⟨rfl,hb2⟩;have hS:=qA8 (by assumption) hb2)
   | (go_at_call 56;refine (HA4'.out _ (by assumption)).mono ?_;rintro e w' ⟨rfl,hb2⟩;have hS:=qA8 (by assumption) hb2)
   | (go_at_call 57;refine (HV5'.out _ (by assumption)).mono ?_;rintro e w' ⟨rfl,hb2⟩;have hS:=qA8 (by assumption) hb2)
   | (go_at_call 33;refine (QZ2 _ r0 r1 r2 r3 r4 r5 _ ?_ ?_ ?_ ?_ ?_ ?_).mono ?_;(· simp [go_sem]);(· simp [go_sem]);(· simp [go_sem]);(· simp [go_sem]);(· simp [go_sem]);(· simp [go_sem]);rintro e w' ⟨rfl,rfl⟩;rw [HFR.out]))
 have hS3:=qV6 hS (.cells #[.int .i64 r0,.int .i64 r1,.int .i64 r2,.int .i64 r3,.int .i64 r4,.int .i64 r5] 2)
 go_wp2
 go_ret
 exact ⟨rfl,BW.out.trans (hS3.2.mono BW.out.size)⟩

end Go.Proofs.YthogdfnaojijhaaGreat
