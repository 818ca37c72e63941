/- Contracts. -/
import Derived.Test.YthogdfnaojijhaaGreatPa31
import Derived.Test.YthogdfnaojijhaaGreatPa33
namespace Go.Proofs.YthogdfnaojijhaaGreat
set_option maxRecDepth 100000
set_option maxHeartbeats 8000000
open Go.RowKit
set_option linter.unusedVariables false
set_option linter.unusedSimpArgs false

theorem byCert_c (a:Option Addr) (n cap:Nat) (cs:List qA3) (b:Option Addr) (m cap':Nat) (zs:List ShI) (f:Int) (p:Nat) (c:CrI) (w:World) (hf:qB9 f zs=0) (hn:n≤1048576) (h:qB1 w a n cs) (hm:m≤1048576) (hcap:m≤cap') (hcm:cap'≤maxLen) (h':qD9 w b m zs) (hp:p < n) (he:0≤eAt cs p∧eAt cs p≤100) (hgn:c.gn≤1048576) (hgc:c.gn≤c.gc) (hgm:c.gc≤maxLen) (hc:qC1 w c.ga c.gn c.zs) :
  Calls Tryz.prog 96 #[.agg #[.slice a n cap,.slice b m cap',.int .i64 f],.int .i64 (p:Int),.agg #[.int .i64 c.k,.int .i64 c.e,.int .i64 c.f,.int .i64 c.s,.int .i64 c.n,.slice c.ga c.gn c.gc]] w fun d w'=>d = .returned (.tuple #[.int .i64 (toC cs zs f p c.st c.zs),.int .i64 (stC cs zs f p c.st c.zs)])∧Below w.heap.size w w':=by
 have HLN:Hid (cs.length=n):=h.len
 obtain ⟨e,hee⟩:∃ e,eAt cs p=e:=⟨_,rfl⟩
 rw [hee] at he
 obtain ⟨he0,he1⟩:=he
 obtain ⟨b0,off0,cp,rfl,hcpe,hcpa, -⟩:=h.at hp
 have hcpe2:cp.e=e:=by rw [← hee];unfold eAt;rw [hcpe];rfl
 obtain ⟨V,hV⟩:∃ V,V=(w.alloc (.cells #[.slice (some ⟨b0,off0,none⟩) n cap,.slice b m cap',.int .i64 f] 126)).alloc (.cells #[.int .i64 c.k,.int .i64 c.e,.int .i64 c.f,.int .i64 c.s,.int .i64 c.n,.slice c.ga c.gn c.gc] 32):=⟨_,rfl⟩
 have BV:Below w.heap.size w V:=by rw [hV];exact (zN).alloc (by simp) _
 have HG:Hid (qJ1 w.heap.size [.slice (some ⟨b0,off0,none⟩) n cap,.slice b m cap',.int .i64 f] V):=by rw [hV];exact ((qD0 w _ _).alloc _).out
 have HCB:Hid (qJ1 (w.heap.size+1) [.int .i64 c.k,.int .i64 c.e,.int .i64 c.f,.int .i64 c.s,.int .i64 c.n,.slice c.ga c.gn c.gc] V):=by
  rw [hV]
  have q:=(qD0 (w.alloc (.cells #[.slice (some ⟨b0,off0,none⟩) n cap,.slice b m cap',.int .i64 f] 126)) #[.int .i64 c.k,.int .i64 c.e,.int .i64 c.f,.int .i64 c.s,.int .i64 c.n,.slice c.ga c.gn c.gc] 32).out
  simp only [World.size_alloc] at q
  exact q
 have hVs:w.heap.size+1 < V.heap.size:=by rw [hV];simp
 have HBV:=qH5 BV
 have HPA:Hid (qE2 V b0 (off0+p * 5) cp):=hcpa.below BV
 have HC:Hid (qB1 V (some ⟨b0,off0,none⟩) n cs):=h.below BV
 have HS:Hid (qD9 V b m zs):=qD9.below h' BV
 obtain ⟨v,hv⟩:∃ v,vfL f zs c.st c.zs=v:=⟨_,rfl⟩
 have HV:=qJ4 b m cap' zs f c.st c.ga c.gn c.gc c.zs V hm hcap hcm hgn HS.out (hc.below BV)
 have hvf:QD1 f zs c.st c.zs=v:=by rw [vf_eq,if_pos hf];exact hv
 rw [hvf] at HV
 have HV:=qH5 HV
 obtain ⟨r,hr⟩:∃ r,stC cs zs f p c.st c.zs=r:=⟨_,rfl⟩
 have HR:Hid (r=if v=0 then (if c.k≠3 then 1 else if c.e≠e then 10 else nfC cs c.e c.n) else v):=by show r=_;rw [← hr,← hv,← hee];rfl
 obtain ⟨t,ht⟩:∃ t,toC cs zs f p c.st c.zs=t:=⟨_,rfl⟩
 have HT:Hid (t=if v=0 then (if c.k≠3 then 0 else if c.e≠e then 0 else c.n) else 0):=by show t=_;rw [← ht,← hv,← hee];rfl
 rw [ht,hr]
 have hp':(p:Int) < (n:Int):=by omega
 have g1:=HG.out 1 _ rfl
 have g2:=HG.out 2 _ rfl
 have q0:=HCB.out 0 _ rfl
 have q1:=HCB.out 1 _ rfl
 have q2:=HCB.out 2 _ rfl
 have q3:=HCB.out 3 _ rfl
 have q4:=HCB.out 4 _ rfl
 have q5:=HCB.out 5 _ rfl
 have hV0:w.heap.size < V.heap.size:=by omega
 clear hv hvf hr ht hee hcpe hcpa h h' hf BV hc
 by_cases v0:v=0
 ·subst v0
  go_enter Tryz.func96,Tryz.ntmps96
  go_upto_region 1 with fail
  rw [← hV]
  clear hV
  go_wp2_with fail
  refine HV.out.mono ?_
  rintro d w1 ⟨rfl,hb1⟩
  have HB1:=qH5 hb1
  have hw1:w.heap.size+1 < w1.heap.size:=by have:=hb1.size;omega
  have C1:=((qJ1.hold HCB.out hVs).below hb1).out
  have s0:=C1 0 _ rfl
  have s1:=C1 1 _ rfl
  have s2:=C1 2 _ rfl
  have s3:=C1 3 _ rfl
  have s4:=C1 4 _ rfl
  obtain ⟨X,hX⟩:∃ V,V=w1.alloc (.cells #[.int .i64 c.k,.int .i64 c.e,.int .i64 c.f,.int .i64 c.s,.int .i64 c.n] 29):=⟨_,rfl⟩
  have BX:Below w1.heap.size w1 X:=by rw [hX];exact zN
  have HX:Hid (qJ1 w1.heap.size [.int .i64 c.k,.int .i64 c.e,.int .i64 c.f,.int .i64 c.s,.int .i64 c.n] X):=by rw [hX];exact (qD0 w1 _ _).out
  have hXl:w1.heap.size < X.heap.size:=by rw [hX];simp
  have HBX:Hid (Below V.heap.size V X):=HB1.out.trans (BX.mono HB1.out.size)
  clear hb1 BX C1 g1 g2 q0 q1 q2 q3 q4 q5
  go_upto_region 5 with fail
  rw [← hX]
  clear hX s0 s1 s2 s3 s4
  generalize w1.heap.size=Sb at HX hXl ⊢
  have x0:=HX.out 0 _ rfl
  have x1:=HX.out 1 _ rfl
  have x4:=HX.out 4 _ rfl
  have G2:=((qJ1.hold HG.out hV0).below HBX.out).out
  have g0:=G2 0 _ rfl
  have hGX:w.heap.size < X.heap.size:=by have:=HBX.out.size;omega
  clear G2
  have HBW:Hid (Below w.heap.size w X):=HBV.out.trans (HBX.out.mono HBV.out.size)
  by_cases k3:c.k=3
  ·have kb:(c.k != 3)=false:=by simp [k3]
   obtain ⟨y0, -⟩:=HPA.out.below HBX.out
   rw [hcpe2] at y0
   have hyl:=zL X _ y0
   by_cases ke:c.e=e
   ·have eb:(c.e != e)=false:=by simp [ke]
    obtain ⟨z,hz⟩:∃ z,nfC cs c.e c.n=z:=⟨_,rfl⟩
    have HRR:Hid (r=z∧t=c.n):=⟨by rw [HR.out,if_pos trivial,if_neg (by simp [k3]),if_neg (by simp [ke]),hz],by rw [HT.out,if_pos trivial,if_neg (by simp [k3]),if_neg (by simp [ke])]⟩
    have HZ:=qH5 hz
    have hee2:0≤c.e∧c.e≤100:=by rw [ke];exact ⟨he0,he1⟩
    clear k3 ke hz
    go_wp2_with fail
    go_quiet (fail)
    go_wp2_with fail
    have B2:Below X.heap.size X (X.drewN nq):=below_drewN (Below.refl _ _) _
    generalize X.drewN nq=X2 at B2 ⊢
    have HB2:=qH5 B2
    have w1':=(B2.cell (p:=⟨Sb,1,none⟩) hXl).trans x1
    have w4':=(B2.cell (p:=⟨Sb,4,none⟩) hXl).trans x4
    have wg':=(B2.cell (p:=⟨w.heap.size,0,none⟩) hGX).trans g0
    have hS2:Sb < X2.heap.size:=by have:=B2.size;omega
    have hG2:w.heap.size < X2.heap.size:=by have:=B2.size;omega
    have HNF:Hid (∀ W,((∀ b o,b < X2.heap.size→W.cell? ⟨b,o,none⟩=X2.cell? ⟨b,o,none⟩)∧Below X2.heap.size X2 W)→Calls Tryz.prog 112 #[.slice (some ⟨b0,off0,none⟩) n cap,.int .i64 c.e,.int .i64 c.n] W fun d w'=>d = .returned (.int .i64 z)∧Below W.heap.size W w'):=fun W hW=>by
     rw [← HZ.out]
     exact QQ7 (some ⟨b0,off0,none⟩) n cap cs c.e c.n W hn hee2 (HC.out.below ((HBX.out.trans (HB2.out.mono HBX.out.size)).trans (hW.2.mono (by have:=HBX.out.size;have:=HB2.out.size;omega))))
    clear B2 x0 x1 x4 g0 y0 hyl
    go_region_held3 (fun w'=>(∀ b o,b < X2.heap.size→w'.cell? ⟨b,o,none⟩=X2.cell? ⟨b,o,none⟩)∧Below X2.heap.size X2 w') (first | exact hS | exact qB6 _)
     (first
      | (go_at_call 112;refine (HNF.out _ (by assumption)).mono ?_;rintro d w' ⟨rfl,hbz⟩;have hS:=qA8 (by assumption) hbz))
    go_wp2_with fail
    refine bodyPost_ret (v:=.tuple #[.int .i64 c.n,.int .i64 z]) (by simp [results,Tryz.results96,go_sem]) rfl ?_
    exact ⟨by rw [HRR.out.1,HRR.out.2],(HBW.out.trans (HB2.out.mono HBW.out.size)).trans (hS.2.mono (by have:=HBW.out.size;have:=HB2.out.size;omega))⟩
   ·have eb:(c.e != e)=true:=by simp [ke]
    have HRR:Hid (r=10∧t=0):=⟨by rw [HR.out,if_pos trivial,if_neg (by simp [k3]),if_pos ke],by rw [HT.out,if_pos trivial,if_neg (by simp [k3]),if_pos ke]⟩
    clear k3 ke
    go_wp2_with fail
    go_quiet (fail)
    go_wp2_with fail
    refine bodyPost_ret (v:=.tuple #[.int .i64 0,.int .i64 10]) (by simp [results,Tryz.results96,go_sem]) rfl ?_
    exact ⟨by rw [HRR.out.1,HRR.out.2],below_drewN HBW.out _⟩
  ·have kb:(c.k != 3)=true:=by simp [k3]
   have HRR:Hid (r=1∧t=0):=⟨by rw [HR.out,if_pos trivial,if_pos k3],by rw [HT.out,if_pos trivial,if_pos k3]⟩
   clear k3
   go_wp2_with fail
   refine bodyPost_ret (v:=.tuple #[.int .i64 0,.int .i64 1]) (by simp [results,Tryz.results96,go_sem]) rfl ?_
   exact ⟨by rw [HRR.out.1,HRR.out.2],HBW.out⟩
 ·have vb:(v != 0)=true:=by simp [v0]
  have HRR:Hid (r=v∧t=0):=⟨by rw [HR.out,if_neg v0],by rw [HT.out,if_neg v0]⟩
  clear v0
  go_enter Tryz.func96,Tryz.ntmps96
  go_upto_region 1 with fail
  rw [← hV]
  clear hV
  go_wp2_with fail
  refine HV.out.mono ?_
  rintro d w1 ⟨rfl,hb1⟩
  go_wp2_with fail
  refine bodyPost_ret (v:=.tuple #[.int .i64 0,.int .i64 v]) (by simp [results,Tryz.results96,go_sem]) rfl ?_
  exact ⟨by rw [HRR.out.1,HRR.out.2],HBV.out.trans (hb1.mono HBV.out.size)⟩
theorem QS2 (Pb:Nat) (a:Option Addr) (n cap:Nat) (cs:List qA3) (b:Option Addr) (m cap':Nat) (zs:List ShI) (f:Int) (N sc:Nat) (s:Option Addr) (cr:List CrI) (g0 c0:Nat) (w0 w:World) (hf:qB9 f zs=0) (hn0:0 < n) (hn:n≤1048576) (hN:N≤8) (h:qB1 w0 a n cs) (hm:m≤1048576) (hcap:m≤cap') (hcm:cap'≤maxLen) (h':qD9 w0 b m zs) (he:∀ p,p < n→0≤eAt cs p∧eAt cs p≤100) (hs:qK3 w0 s N cr) (hl:∀ (k:Nat) c,cr[k]? = some c→c.gn≤1048576∧c.gn≤c.gc∧c.gc≤maxLen) (hL:w0.heap.size≤Pb) (hp:qM2 w Pb w0.heap.size [0] g0 c0) (hb:Below w0.heap.size w0 w) :
  Calls Tryz.prog 95 #[.pointer (some ⟨Pb,0,none⟩),.slice s N sc,.func (.func 96) #[.agg #[.slice a n cap,.slice b m cap',.int .i64 f]] #[]] w fun e w'=>e = .returned (.int .i64 (chS cs zs f (chL cr) N).1)∧(∃ g c,qM2 w' Pb w0.heap.size (chS cs zs f (chL cr) N).2 g c)∧Below w0.heap.size w0 w':=by
 have HLN:Hid (cs.length=n):=h.len
 have HLC:Hid (cr.length=N):=hs.len
 have HC:=qH5 h
 have HS:=qH5 h'
 have HE:=qH5 he
 have HT:=qH5 hs
 have HL:=qH5 hl
 have HP:=qH5 hp
 have HB:=qH5 hb
 have HF:=qH5 hf
 have hN':(N:Int)≤8:=by omega
 clear h h' he hs hl hp hb hf
 go_enter Tryz.func95,Tryz.ntmps95
 go_wp2_with fail
 go_loopw [13] (fun i wr=>∃ k:Nat,k≤N∧i = .int .i64 (k:Int)∧(chS cs zs f (chL cr) k).1=0∧(∃ g c,qM2 wr Pb w0.heap.size (chS cs zs f (chL cr) k).2 g c)∧Below w0.heap.size w0 wr) (fun i _=>N - (intOf i).toNat)
 case atStart=>exact ⟨0,Nat.zero_le _,rfl,rfl,⟨g0,c0,HP.out⟩,HB.out⟩
 case round =>
  obtain ⟨k,hk,rfl,hns,⟨g,c,hpa⟩,hbr⟩:=hrel
  have HNS:=qH5 hns
  have HPA:=qH5 hpa
  have HBR:=qH5 hbr
  clear hns hpa hbr
  by_cases hlt:k < N
  ·have hlt':(k:Int) < (N:Int):=by omega
   obtain ⟨sb,so,d,rfl,hd,hat,hdi⟩:=HT.out.at hlt
   obtain ⟨⟨y0,y1,y2,y3,y4⟩,y5⟩:=hat.below HBR.out
   have hyl:=zL wr _ y0
   obtain ⟨V,hV⟩:∃ V,V=wr.alloc (.cells #[.int .i64 d.k,.int .i64 d.e,.int .i64 d.f,.int .i64 d.s,.int .i64 d.n,.slice d.ga d.gn d.gc] 32):=⟨_,rfl⟩
   have BV:Below wr.heap.size wr V:=by rw [hV];exact zN
   have HXB:Hid (qJ1 wr.heap.size [.int .i64 d.k,.int .i64 d.e,.int .i64 d.f,.int .i64 d.s,.int .i64 d.n,.slice d.ga d.gn d.gc] V):=by rw [hV];exact (qD0 wr _ _).out
   have hXl:wr.heap.size < V.heap.size:=by rw [hV];simp
   have HBV:Hid (Below w0.heap.size w0 V):=HBR.out.trans (BV.mono HBR.out.size)
   have HPV:Hid (qM2 V Pb w0.heap.size (chS cs zs f (chL cr) k).2 g c):=HPA.out.below BV
   have hqk:(chL cr)[k]? = some (d.st,d.zs):=by unfold chL;rw [List.getElem?_map,hd];rfl
   obtain ⟨wl,p,hpk,hpn,hlast⟩:=QI1 (cs:=cs) (zs:=zs) (f:=f) (ch:=chL cr) (by rw [HLN.out];exact hn0) k (by unfold chL;rw [List.length_map,HLC.out];exact hk) HNS.out
   rw [HLN.out] at hpn
   have HLA:Hid (∀ W,((∀ b o,b < V.heap.size→W.cell? ⟨b,o,none⟩=V.cell? ⟨b,o,none⟩)∧Below V.heap.size V W)→Calls Tryz.prog 110 #[.pointer (some ⟨Pb,0,none⟩)] W fun e w'=>e = .returned (.int .i64 (p:Int))∧Below W.heap.size W w'):=fun W hW=>by
    have:=QZ6 Pb w0.heap.size g c (chS cs zs f (chL cr) k).2 W (by omega) (by omega) (HPV.out.below hW.2)
    rw [hlast] at this
    exact this
   obtain ⟨q,hq⟩:∃ q,stC cs zs f p d.st d.zs=q:=⟨_,rfl⟩
   obtain ⟨t,ht⟩:∃ t,toC cs zs f p d.st d.zs=t:=⟨_,rfl⟩
   have HQ:Hid (stC cs zs f (qP8 (chS cs zs f (chL cr) k).2) d.st d.zs=q):=by show _=_;rw [hlast];exact hq
   have HTN:Hid (q=0→t=d.n∧0≤d.n):=fun q0=>by
    have:=QF8 (hq.trans q0)
    exact ⟨ht.symm.trans this.2.2,this.1⟩
   obtain ⟨hd1,hd2,hd3⟩:=HL.out k d hd
   have HLE:Hid (∀ W,((∀ b o,b < V.heap.size→W.cell? ⟨b,o,none⟩=V.cell? ⟨b,o,none⟩)∧Below V.heap.size V W)→Calls Tryz.prog 96 #[.agg #[.slice a n cap,.slice b m cap',.int .i64 f],.int .i64 (p:Int),.agg #[.int .i64 d.k,.int .i64 d.e,.int .i64 d.f,.int .i64 d.s,.int .i64 d.n,.slice d.ga d.gn d.gc]] W fun e w'=>e = .returned (.tuple #[.int .i64 t,.int .i64 q])∧Below W.heap.size W w'):=fun W hW=>by
    have hW2:Below w0.heap.size w0 W:=HBV.out.trans (hW.2.mono HBV.out.size)
    have:=byCert_c a n cap cs b m cap' zs f p d W HF.out hn (HC.out.below hW2) hm hcap hcm (qD9.below HS.out hW2) hpn (HE.out p hpn) hd1 hd2 hd3 (hdi.below hW2)
    rw [hq,ht] at this
    exact this
   have HWL:Hid ((chS cs zs f (chL cr) k).2.length=k+1):=wl
   have HQK:=qH5 hqk
   have HLC2:Hid ((chL cr).length=N):=by show _=_;unfold chL;rw [List.length_map];exact HLC.out
   clear hd hat hdi wl hpk hlast hq ht BV hqk
   go_upto_region 4 with fail
   rw [← hV]
   clear hV y0 y1 y2 y3 y4 y5 hyl
   generalize wr.heap.size=Sb at HXB hXl ⊢
   have x0:=HXB.out 0 _ rfl
   have x1:=HXB.out 1 _ rfl
   have x2:=HXB.out 2 _ rfl
   have x3:=HXB.out 3 _ rfl
   have x4:=HXB.out 4 _ rfl
   have x5:=HXB.out 5 _ rfl
   by_cases q0:q=0
   ·subst q0
    obtain ⟨htn,hdn⟩:=HTN.out rfl
    obtain ⟨i,hin⟩:∃ i:Nat,d.n=(i:Int):=Int.eq_ofNat_of_zero_le hdn
    have hti:t=(i:Int):=htn.trans hin
    subst hti
    have HIN:Hid (d.n.toNat=i):=by show _=_;rw [hin,Int.toNat_natCast]
    clear htn hdn hin
    go_wp2_with fail
    go_region_held3 (fun w'=>(∀ b o,b < V.heap.size→w'.cell? ⟨b,o,none⟩=V.cell? ⟨b,o,none⟩)∧Below V.heap.size V w') (first | exact hS | exact qB6 _)
     (first
      | (go_at_call 110;refine (HLA.out _ (by assumption)).mono ?_;rintro e w' ⟨rfl,hbz⟩;have hS:=qA8 (by assumption) hbz)
      | (go_at_call 96;refine (HLE.out _ (by assumption)).mono ?_;rintro e w' ⟨rfl,hbz⟩;have hS:=qA8 (by assumption) hbz))
    have HP3:=qH5 (HPV.out.below hS.2)
    have HB3:=qH5 (HBV.out.trans (hS.2.mono HBV.out.size))
    have HAD:=qH5 (QL3 Pb w0.heap.size g c i (chS cs zs f (chL cr) k).2 _ (by rw [HWL.out];omega) (by rw [HWL.out];omega) hL HP3.out)
    go_wp2_with fail
    refine HAD.out.mono ?_
    rintro e w5 ⟨rfl,⟨g',c',hp5⟩,hb5⟩
    have HNX:Hid (chS cs zs f (chL cr) (k+1)=(0,(chS cs zs f (chL cr) k).2++[i])):=by show _=_;rw [chS_ok HNS.out HQK.out HQ.out];simp only;rw [HIN.out]
    have HP5:Hid (qM2 w5 Pb w0.heap.size (chS cs zs f (chL cr) (k+1)).2 g' c'):=by show qM2 _ _ _ _ _ _;rw [HNX.out];exact hp5
    have HB5:=qH5 (HB3.out.trans hb5)
    clear hp5 hb5
    go_wp2_with fail
    exact ⟨⟨k+1,by omega,by go_num,by rw [HNX.out],⟨g',c',HP5.out⟩,HB5.out⟩,by simp [intOf];omega⟩
   ·have qb:(q != 0)=true:=by simp [q0]
    have HBD:Hid (chS cs zs f (chL cr) N=(q,(chS cs zs f (chL cr) k).2)):=by
     show _=_
     have e1:=QS3 HNS.out HQK.out (by rw [HQ.out];exact q0)
     rw [HQ.out] at e1
     rw [QW6 (k:=k+1) (by rw [e1];exact q0) N (by omega),e1]
    clear q0
    go_wp2_with fail
    go_region_held3 (fun w'=>(∀ b o,b < V.heap.size→w'.cell? ⟨b,o,none⟩=V.cell? ⟨b,o,none⟩)∧Below V.heap.size V w') (first | exact hS | exact qB6 _)
     (first
      | (go_at_call 110;refine (HLA.out _ (by assumption)).mono ?_;rintro e w' ⟨rfl,hbz⟩;have hS:=qA8 (by assumption) hbz)
      | (go_at_call 96;refine (HLE.out _ (by assumption)).mono ?_;rintro e w' ⟨rfl,hbz⟩;have hS:=qA8 (by assumption) hbz))
    go_wp2_with fail
    go_ret
    exact ⟨by rw [HBD.out];rfl,⟨g,c,by rw [HBD.out];exact HPV.out.below hS.2⟩,HBV.out.trans (hS.2.mono HBV.out.size)⟩
  ·have hkN:k=N:=by omega
   subst hkN
   go_wp2_with fail
   go_ret
   exact ⟨by rw [HNS.out];rfl,⟨g,c,HPA.out⟩,HBR.out⟩

def qC7 (cs:List qA3) (zs:List ShI) (ch:List (StI × List Int)):Int:=if qG0 cs zs=0 then (if 8 < ch.length then 2 else (chS cs zs (fOf cs) ch ch.length).1) else qG0 cs zs
def vcL (cs:List qA3) (zs:List ShI) (ch:List (StI × List Int)):List Int:=if qC7 cs zs ch=0 then (chS cs zs (fOf cs) ch ch.length).2.map (fun p:Nat=>(p:Int)) else []
def qQ6 (fn:Nat) (a:Option Addr) (n cap:Nat) (b:Option Addr) (m cap':Nat) (s:Option Addr) (N sc:Nat) (c:Int) (ys:List Int) (w:World):Prop:=Calls Tryz.prog fn #[.slice a n cap,.slice b m cap',.slice s N sc] w fun e w'=>∃ (ra:Option Addr) (rc:Nat),e = .returned (.agg #[.int .i64 c,.slice ra ys.length rc])∧w'.ownsRow w.heap.size 2 1 (.slice ra ys.length rc) ys.length (ys.map (Value.int .i64))∧Below w.heap.size w w'
theorem qN4 (a:Option Addr) (n cap:Nat) (cs:List qA3) (b:Option Addr) (m cap':Nat) (zs:List ShI) (s:Option Addr) (N sc:Nat) (cr:List CrI) (w:World) (hn:n≤1048576) (hle:qH4 1048576 cs) (h:qB1 w a n cs) (hm:m≤1048576) (hcap:m≤cap') (hcm:cap'≤maxLen) (h':qD9 w b m zs) (hN:N≤1048576) (hs:qK3 w s N cr) (hl:∀ (k:Nat) c,cr[k]? = some c→c.gn≤1048576∧c.gn≤c.gc∧c.gc≤maxLen):qQ6 53 a n cap b m cap' s N sc (qC7 cs zs (chL cr)) (vcL cs zs (chL cr)) w:=by
  unfold qQ6
  obtain ⟨V,hV⟩:∃ V,V=w.alloc (.cells #[.int .i64 0,.slice none 0 0] 100):=⟨_,rfl⟩
  have BV:Below w.heap.size w V:=by rw [hV];exact zN
  have RB:Hid (qI7 w.heap.size [.int .i64 0,.slice none 0 0] V):=by rw [hV];exact qI5 w _ _
  have hVl:w.heap.size < V.heap.size:=by rw [hV];simp
  have HBV:=qH5 BV
  have HGO:=groundOf_c a n cap cs b m cap' zs V hn hle (h.below BV) hm hcap hcm (qD9.below h' BV)
  have HCL:Hid ((chL cr).length=N):=by show _=_;rw [qV8];exact hs.len
  obtain ⟨v,hv⟩:∃ v,qG0 cs zs=v:=⟨_,rfl⟩
  rw [hv] at HGO
  have hN':(N:Int)≤1048576:=by omega
  by_cases v0:v=0
  · subst v0
    obtain ⟨hk1,hk2⟩:=ak_ok hv
    obtain ⟨hn1,hn8, -⟩:=qW5 hk1
    rw [h.len] at hn1 hn8
    obtain ⟨f,hf⟩:∃ f,fOf cs=f:=⟨_,rfl⟩
    have hgr:grV a n cap b m cap' cs = .agg #[.slice a n cap,.slice b m cap',.int .i64 f]:=by unfold grV;rw [if_pos hk1,hf]
    rw [hgr] at HGO
    have HGO:=qH5 HGO
    have HEO:Hid (∀ p,p < n→0≤eAt cs p∧eAt cs p≤100):=fun p hp=>by
      have:=e_of hk1 (p:=p) (by rw [h.len];exact hp)
      omega
    rw [hf] at hk2
    by_cases h8:8 < N
    · have HVC:Hid (qC7 cs zs (chL cr)=2):=by show _=_;unfold qC7;rw [if_pos hv,HCL.out,if_pos h8]
      have HVL:Hid (vcL cs zs (chL cr)=[]):=by show _=_;unfold vcL;rw [if_neg (by rw [HVC.out];omega)]
      rw [HVC.out,HVL.out]
      have h8b:decide ((N:Int) > 8)=true:=by simp;omega
      clear h h' hs hk1 hk2 hf hgr hv BV hl HEO
      go_enter Tryz.func53,Tryz.ntmps53
      go_upto_region 1 with fail
      rw [← hV]
      clear hV
      go_wp2_with fail
      refine HGO.out.mono ?_
      rintro e w1 ⟨rfl,hb1⟩
      have HB1:=qH5 hb1
      have X2:=qI7.below RB.out hVl HB1.out
      have r0:=X2.1 0 _ rfl
      have r1:=X2.1 1 _ rfl
      have f0:=X2.2 0
      have f1:=X2.2 1
      have hw2:w.heap.size < w1.heap.size:=by have:=HB1.out.size;omega
      clear X2 hb1
      go_wp2_with fail
      refine bodyPost_ret (v:=.agg #[.int .i64 2,.slice none 0 0]) (by simp [results,Tryz.results53,go_sem,r0,r1,hw2]) rfl ⟨none,0,rfl,World.ownsRow_nil _ _ _ _,?_⟩
      have HZ:=HBV.out.trans (HB1.out.mono HBV.out.size)
      refine Below.alloc (Below.setCell (Below.setCell HZ ?_ _) ?_ _) ?_ _
      · exact Nat.le_refl _
      · exact Nat.le_refl _
      · simp;omega
    · have h8':N≤8:=by omega
      have h8b:decide ((N:Int) > 8)=false:=by simp;omega
      obtain ⟨q,hq⟩:∃ q,(chS cs zs f (chL cr) N).1=q:=⟨_,rfl⟩
      have HVC:Hid (qC7 cs zs (chL cr)=q):=by show _=_;unfold qC7;rw [if_pos hv,HCL.out,if_neg h8,hf,hq]
      have HVL:Hid (vcL cs zs (chL cr)=if q=0 then (chS cs zs f (chL cr) N).2.map (fun p:Nat=>(p:Int)) else []):=by show _=_;unfold vcL;rw [HVC.out,HCL.out,hf]
      have HQ:Hid ((chS cs zs f (chL cr) N).1=q):=hq
      have HSH:Hid (qB9 f zs=0):=hk2
      have HC:=qH5 (h.below BV)
      have HS:=qH5 (qD9.below h' BV)
      have HT:=qH5 (hs.below BV)
      have HL:=qH5 hl
      rw [HVC.out]
      clear h h' hs hk1 hk2 hf hgr hv BV hl h8 hq
      go_enter Tryz.func53,Tryz.ntmps53
      go_upto_region 1 with fail
      rw [← hV]
      clear hV
      go_wp2_with fail
      refine HGO.out.mono ?_
      rintro e w1 ⟨rfl,hb1⟩
      obtain ⟨V1,hV1⟩:∃ V1,V1=w1.alloc (.cells #[.slice a n cap,.slice b m cap',.int .i64 f] 126):=⟨_,rfl⟩
      have B1:Below w1.heap.size w1 V1:=by rw [hV1];exact zN
      have HG1:Hid (qJ1 w1.heap.size [.slice a n cap,.slice b m cap',.int .i64 f] V1):=by rw [hV1];exact (qD0 w1 _ _).out
      have hGl:w1.heap.size < V1.heap.size:=by rw [hV1];simp
      have HB1:Hid (Below V.heap.size V V1):=hb1.trans (B1.mono hb1.size)
      clear B1 hb1 HGO
      go_upto_region 2 with fail
      rw [← hV1]
      clear hV1
      generalize w1.heap.size=Gb at HG1 hGl ⊢
      go_wp2_with fail
      refine (QZ7 V1).mono ?_
      rintro e w3 ⟨g,rfl,how,hb3⟩
      obtain ⟨V3,hV3⟩:∃ V3,V3=w3.alloc (.cells #[.slice (some ⟨g,0,none⟩) 1 1] 130):=⟨_,rfl⟩
      have B3:Below w3.heap.size w3 V3:=by rw [hV3];exact zN
      have HPA:Hid (qM2 V3 w3.heap.size V1.heap.size [0] g 1):=by
        refine ⟨?_,?_⟩
        · rw [hV3]
          show (w3.heap.push _)[w3.heap.size]? = _
          simp
        · have:=QG8 how (B':=V1.heap.size) (by omega)
          exact qT4 this (fun q e=>B3.block q (this.lt q e).2)
      have HB3:Hid (Below V1.heap.size V1 V3):=hb3.trans (B3.mono hb3.size)
      have hL3:V1.heap.size≤w3.heap.size:=hb3.size
      have G3:=((qJ1.hold HG1.out hGl).below HB3.out).out
      have g0:=G3 0 _ rfl
      have g1:=G3 1 _ rfl
      have g2:=G3 2 _ rfl
      have hG3:Gb < V3.heap.size:=by have:=HB3.out.size;omega
      clear B3 hb3 how G3
      go_upto_region 7 with fail
      rw [← hV3]
      clear hV3
      generalize w3.heap.size=Pb at HPA hL3 ⊢
      have HFI:Hid (Calls Tryz.prog 95 #[.pointer (some ⟨Pb,0,none⟩),.slice s N sc,.func (.func 96) #[.agg #[.slice a n cap,.slice b m cap',.int .i64 f]] #[]] V3 fun e w'=>e = .returned (.int .i64 q)∧(∃ g c,qM2 w' Pb V1.heap.size (chS cs zs f (chL cr) N).2 g c)∧Below V1.heap.size V1 w'):=by
        have:=QS2 Pb a n cap cs b m cap' zs f N sc s cr g 1 V1 V3 HSH.out hn1 hn h8' (HC.out.below HB1.out) hm hcap hcm (qD9.below HS.out HB1.out) HEO.out (HT.out.below HB1.out) HL.out hL3 HPA.out HB3.out
        rw [HQ.out] at this
        exact this
      go_wp2_with fail
      refine HFI.out.mono ?_
      rintro e w5 ⟨rfl,⟨g',c',hp5⟩,hb5⟩
      have HB5:Hid (Below V.heap.size V w5):=HB1.out.trans (hb5.mono HB1.out.size)
      have X2:=qI7.below RB.out hVl HB5.out
      have r0:=X2.1 0 _ rfl
      have r1:=X2.1 1 _ rfl
      have f0:=X2.2 0
      have f1:=X2.2 1
      have hw2:w.heap.size < w5.heap.size:=by have:=HB5.out.size;omega
      have hz1:=HB1.out.size
      by_cases q0:q=0
      · subst q0
        obtain ⟨ln,hln⟩:∃ l,(chS cs zs f (chL cr) N).2.length=l:=⟨_,rfl⟩
        have hc5:w5.cell? ⟨Pb,0,none⟩=some (.slice (some ⟨g',0,none⟩) ln c'):=by
          have:=hp5.bx
          rw [hln] at this
          unfold World.cell?
          simp only
          rw [this]
          simp
        have hp5l:=zL w5 _ hc5
        have HO5:Hid (w5.ownsRow V1.heap.size 2 1 (.slice (some ⟨g',0,none⟩) ln c') ln ((chS cs zs f (chL cr) N).2.map (fun p:Nat=>Value.int .i64 (p:Int)))):=by rw [← hln];exact hp5.ow
        have HLN:Hid ((chS cs zs f (chL cr) N).2.length=ln):=hln
        have HVL2:Hid (vcL cs zs (chL cr)=(chS cs zs f (chL cr) N).2.map (fun p:Nat=>(p:Int))):=by show _=_;rw [HVL.out,if_pos rfl]
        clear X2 hp5 hb5 hln
        go_wp2_with fail
        refine bodyPost_ret (v:=.agg #[.int .i64 0,.slice (some ⟨g',0,none⟩) ln c']) (by simp [results,Tryz.results53,go_sem,r0,r1,hw2]) rfl ⟨some ⟨g',0,none⟩,c',by rw [HVL2.out,List.length_map,HLN.out],?_,?_⟩
        · rw [HVL2.out,List.length_map,HLN.out,List.map_map]
          exact QG8 (qT5 (qT5 HO5.out (a:=⟨w.heap.size,0,none⟩) (by show w.heap.size < _;omega) _) (a:=⟨w.heap.size,1,none⟩) (by show w.heap.size < _;omega) _) (by omega)
        · exact ((HBV.out.trans (HB5.out.mono HBV.out.size)).setCell (Nat.le_refl _) _).setCell (Nat.le_refl _) _
      · have qb:(q != 0)=true:=by simp [q0]
        have HVL2:Hid (vcL cs zs (chL cr)=[]):=by show _=_;rw [HVL.out,if_neg q0]
        clear X2 hp5 hb5 q0
        go_wp2_with fail
        refine bodyPost_ret (v:=.agg #[.int .i64 q,.slice none 0 0]) (by simp [results,Tryz.results53,go_sem,r0,r1,hw2]) rfl ⟨none,0,by rw [HVL2.out];rfl,by rw [HVL2.out];exact World.ownsRow_nil _ _ _ _,?_⟩
        exact ((HBV.out.trans (HB5.out.mono HBV.out.size)).setCell (Nat.le_refl _) _).setCell (Nat.le_refl _) _
  · have HVC:Hid (qC7 cs zs (chL cr)=v):=by show _=_;unfold qC7;rw [if_neg (by rw [hv];exact v0),hv]
    have HVL:Hid (vcL cs zs (chL cr)=[]):=by show _=_;unfold vcL;rw [if_neg (by rw [HVC.out];exact v0)]
    have vb:(v != 0)=true:=by simp [v0]
    obtain ⟨x0,x1,x2,hgr,hx0,hx1⟩:=gr_agg a n cap b m cap' cs
    rw [hgr] at HGO
    have HGO:=qH5 HGO
    rw [HVC.out,HVL.out]
    clear h h' hs hv v0 BV HVL HVC hgr hl
    rcases hx0 with rfl | rfl <;> rcases hx1 with rfl | rfl <;>
    (go_enter Tryz.func53,Tryz.ntmps53
     go_upto_region 1 with fail
     rw [← hV]
     clear hV
     go_wp2_with fail
     refine HGO.out.mono ?_
     rintro e w1 ⟨rfl,hb1⟩
     have HB1:=qH5 hb1
     have X2:=qI7.below RB.out hVl HB1.out
     have r0:=X2.1 0 _ rfl
     have r1:=X2.1 1 _ rfl
     have f0:=X2.2 0
     have f1:=X2.2 1
     have hw2:w.heap.size < w1.heap.size:=by have:=HB1.out.size;omega
     clear X2 hb1
     go_wp2_with fail
     refine bodyPost_ret (v:=.agg #[.int .i64 v,.slice none 0 0]) (by simp [results,Tryz.results53,go_sem,r0,r1,hw2]) rfl ⟨none,0,rfl,World.ownsRow_nil _ _ _ _,?_⟩
     have HZ:=HBV.out.trans (HB1.out.mono HBV.out.size)
     refine Below.alloc (Below.setCell (Below.setCell HZ ?_ _) ?_ _) ?_ _
     · exact Nat.le_refl _
     · exact Nat.le_refl _
     · simp;omega)

end Go.Proofs.YthogdfnaojijhaaGreat
