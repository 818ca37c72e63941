/- Contracts. -/
import Derived.Test.YtdppdbihhlipeaaGreatDoorPr18
import Derived.Test.YtdppdbihhlipeaaGreatDoorPr45
namespace Go.Proofs.YtdppdbihhlipeaaGreatDoor
set_option maxRecDepth 100000
set_option maxHeartbeats 8000000
open Go.RowKit
set_option linter.unusedVariables false
set_option linter.unusedSimpArgs false

def rcK (E:qH1) (xs:List StI):Nat->Nat
 | 0=>0
 | k+1=>if (qD2 E xs (k+1)).isSome then k+1 else rcK E xs k
theorem qJj {E:qH1} {xs:List StI} {k:Nat} {ls:List LkI} (h:qD2 E xs k=some ls):∀ n,k<=n->(k=n\/qD2 E xs (k+1)=none)->rcK E xs n=k
 | 0,hk,_=>by unfold rcK;omega
 | n+1,hk,he=>by
  unfold rcK;by_cases e:k=n+1
  ·rw [<- e,h];rfl
  ·have hn:qD2 E xs (k+1)=none:=he.resolve_left e;rw [qU7 hn (show k+1<=n+1 by omega)]
   exact qJj h n (by omega) (by
    by_cases e2:k=n
    ·exact .inl e2
    ·exact .inr hn)
abbrev r0I (i:Int):qL4:=⟨i,0,none,0,0,[],none,0,0,[]⟩
def qJ3 (E:qH1) (cs:List qA4) (i:Int) (zs:List Int):Int:=if 240 < zs.length then 2 else qT9 E cs (r0I i)
def qGG (E:qH1) (zs:List Int):Nat:=rcK E (rdL zs) (rdL zs).length
def qFX (E:qH1) (zs:List Int):List StI:=(rdL zs).take (qGG E zs)
def qFY (E:qH1) (zs:List Int):List LkI:=(qD2 E (rdL zs) (qGG E zs)).getD []
theorem qJh {E:qH1} {zs:List Int} {k:Nat} {ls:List LkI} (hk:k<=(rdL zs).length) (h:qD2 E (rdL zs) k=some ls) (he:k=(rdL zs).length\/qD2 E (rdL zs) (k+1)=none):qGG E zs=k/\qFX E zs=(rdL zs).take k/\qFY E zs=ls:=by
 have e:qGG E zs=k:=qJj h _ hk he;unfold qFX qFY;rw [e,h];exact ⟨rfl,rfl,rfl⟩
abbrev QZ3 (fn:Nat) (E:qH1) (i:Int) (a:Option Addr) (m cap:Nat) (cs:List qA4) (b:Option Addr) (n cap':Nat) (zs:List Int) (w:World):Prop:=Calls Tryz.prog fn #[.int .i64 i,.slice a m cap,.slice b n cap'] w fun d w'=>qMx (qJ3 E cs i zs) i (qGG E zs:Int) (qFX E zs) (qFY E zs) w d w'
theorem qB9 {p:Prop} (h:p):Hid p:=h
theorem qLm (w:World) (i:Int):qG1 w (r0I i):=⟨⟨rfl,fun h=>by simp at h⟩,⟨rfl,fun h=>by simp at h⟩⟩
theorem QX2 (E:qH1) (i:Int) (a:Option Addr) (m cap:Nat) (cs:List qA4) (b:Option Addr) (n cap':Nat) (zs:List Int) (w:World) (hc:qA6 w a m cs) (hcl:qG0 1048576 cs) (hm:m<=1048576) (hEr:qG2 1 w) (hH:qE2 w) (hEu:qG2 0 w) (hEC:qC4 cs=0->qN7 E cs) (hn:n<=1048576) (hz:qC9 w b n zs) :
  QZ3 20 E i a m cap cs b n cap' zs w:=by
 obtain ⟨V,hV⟩:∃ V,V=w.alloc (.cells #[.int .i64 0,.int .i64 0,.int .i64 0,.slice none 0 0,.slice none 0 0] 48):=⟨_,rfl⟩;have BV:Hid (Below w.heap.size w V):=by show Below _ _ _;rw [hV];exact zN
 have RV:Hid (qH0 w.heap.size [.int .i64 0,.int .i64 0,.int .i64 0,.slice none 0 0,.slice none 0 0] V):=by show qH0 _ _ _;rw [hV];exact qG7 w _ _
 have hVl:w.heap.size < V.heap.size:=by rw [hV];simp
 have HRD:=qB9 (qFG b n cap' zs V hn (hz.below BV.out) (hEu.below BV.out));unfold qDA at HRD;have HZL:Hid (zs.length=n):=hz.1;obtain ⟨res,hres⟩:∃ c,qJ3 E cs i zs=c:=⟨_,rfl⟩;obtain ⟨N,hN⟩:∃ c,qGG E zs=c:=⟨_,rfl⟩;obtain ⟨XS,hXS⟩:∃ c,qFX E zs=c:=⟨_,rfl⟩;obtain ⟨XL,hXL⟩:∃ c,qFY E zs=c:=⟨_,rfl⟩;obtain ⟨k,hk⟩:∃ c,qT9 E cs (r0I i)=c:=⟨_,rfl⟩;have HRES:Hid (res=if 240 < n then 2 else k):=by show _=_;rw [<- hres,<- hk,<- HZL.out];rfl
 have HOF:Hid (∀ (j:Nat) ls,j<=(rdL zs).length->qD2 E (rdL zs) j=some ls->(j=(rdL zs).length\/qD2 E (rdL zs) (j+1)=none)->N=j/\XS=(rdL zs).take j/\XL=ls):=fun j ls h1 h2 h3=>by
  have:=qJh h1 h2 h3;rw [hN,hXS,hXL] at this;exact this
 have HRB:Hid (∀ W:World,Below w.heap.size w W->Calls Tryz.prog 49 #[.agg #[.int .i64 i,.int .i64 0,.slice none 0 0,.slice none 0 0],.slice a m cap] W fun d w'=>qJW (r0I i) a m cap k W d w'):=fun W hb=>by
  rw [<- hk];exact qGE E (r0I i) a m cap cs W (qLm W i) ⟨Nat.zero_le _,Nat.zero_le _⟩ (hc.below hb) hcl hm (hEr.below hb) (hH.below hb) hEC
 have HCF:Hid (k=0->qN7 E cs/\0 < m/\m<=8):=fun q=>by
  have h0:=(qJf (hk.trans q)).1;obtain ⟨h1,h2, -⟩:=qT4 h0;rw [hc.len] at h1 h2;exact ⟨hEC h0,by omega,h2⟩
 have HST:Hid (∀ W,Below w.heap.size w W->qA6 W a m cs/\qG2 1 W/\qE2 W):=fun W hb=>⟨hc.below hb,hEr.below hb,hH.below hb⟩
 unfold QZ3;rw [hres,hN,hXS,hXL];clear hc hcl hEr hH hEu hEC hz hres hN hXS hXL hk hm;go_enter Tryz.func20,Tryz.ntmps20;go_upto_region 1 with fail
 rw [<- hV];clear hV;go_wp2_with fail
 refine HRD.out.mono ?_;rintro d w1 ⟨la0,lc0,rfl,hown,hb1⟩;have B1:=qB9 (BV.out.trans (hb1.mono BV.out.size));have R1:=qB9 (RV.out.below hVl hb1);have hz1:=hb1.size;have HOW:=qB9 hown;clear hown hb1 HRD RV;by_cases h240:240 < n
 ·have HE:Hid (res=2):=by show _=_;rw [HRES.out,if_pos h240]
  have hwc:whC zs=2:=by unfold whC;rw [HZL.out,if_pos h240]
  rw [hwc];have z0:=R1.out.1 0 _ rfl;have z1:=R1.out.1 1 _ rfl;have z2:=R1.out.1 2 _ rfl;have z3:=R1.out.1 3 _ rfl;have z4:=R1.out.1 4 _ rfl;have f0:=R1.out.2 0;have f1:=R1.out.2 1;have f2:=R1.out.2 2;have f3:=R1.out.2 3;have f4:=R1.out.2 4;have hzl:w.heap.size < w1.heap.size:=by omega
  clear h240 hwc;go_wp2_with fail
  refine bodyPost_ret (v:=.agg #[.int .i64 2,.int .i64 0,.int .i64 0,.slice none 0 0,.slice none 0 0]) (by simp [results,Tryz.results20,go_sem,z0,z1,z2,z3,z4,hzl]) rfl ?_;refine ⟨?_,fun _=>by rw [HE.out],fun q=>by rw [HE.out] at q;exact absurd q (by decide)⟩
  first
   | exact (((((B1.out.alloc B1.out.size _).setCell (Nat.le_refl _) _).setCell (Nat.le_refl _) _).setCell (Nat.le_refl _) _).setCell (Nat.le_refl _) _).setCell (Nat.le_refl _) _
   | exact (((((B1.out.setCell (Nat.le_refl _) _).setCell (Nat.le_refl _) _).setCell (Nat.le_refl _) _).setCell (Nat.le_refl _) _).setCell (Nat.le_refl _) _).alloc (by simp;omega) _
 have HR2:Hid (res=k):=by show _=_;rw [HRES.out,if_neg h240]
 have hwc:whC zs=0:=by unfold whC;rw [HZL.out,if_neg h240]
 have hrx:rdX zs=rdL zs:=by unfold rdX;rw [HZL.out,if_neg h240]
 rw [hwc,hrx];rw [hrx] at HOW;obtain ⟨nx,hnx⟩:∃ q,(rdL zs).length=q:=⟨_,rfl⟩;rw [hnx] at HOF HOW ⊢
 have HNX:Hid ((rdL zs).length=nx):=hnx;have hnx':nx<=1048576:=by have:=QC9 (zs:=zs);have:=HZL.out;omega
 obtain ⟨V2,hV2⟩:∃ V,V=w1.alloc (.cells #[.int .i64 0,.slice la0 nx lc0] 88):=⟨_,rfl⟩;have B12:Below w1.heap.size w1 V2:=by rw [hV2];exact zN
 have L2:Hid (qX3 w1.heap.size (w1.heap.size+1) (qV9 w1.heap.size [.int .i64 0,.slice la0 nx lc0]) V2):=by show qX3 _ _ _ _;rw [hV2];exact qE6 w1 _ _
 have B2:=qB9 (B1.out.trans (B12.mono B1.out.size));have R2:=qB9 (R1.out.below (by omega) B12);have HSI:Hid (∀ W,Below w1.heap.size w1 W->qN8 W la0 nx (rdL zs)):=fun W hb=>((qB2.view HOW.out).isIn HNX.out).below hb
 have HB12:=qB9 B12;have hz2:=B12.size;have l0:=L2.out.out 0 _ rfl;have hll:w1.heap.size < V2.heap.size:=by have:=L2.out.le;omega
 clear h240 hwc hrx hnx B12 R1 HOW HRES;go_upto_region 2 with fail
 rw [<- hV2];clear hV2;go_upto_region 4 with fail
 go_wp2_with fail
 refine (HRB.out V2 B2.out).mono ?_;unfold qJW;rintro d w3 ⟨hb3,h1,h2⟩;have B3:=qB9 (B2.out.trans (hb3.mono B2.out.size));have R3:=qB9 (R2.out.below (by omega) hb3);have L3:=qB9 (L2.out.below hb3);have HB23:=qB9 hb3;have hz3:=hb3.size;clear l0 hll R2 L2 HRB;by_cases hk:k=0
 ·obtain ⟨hEC,hm0,hm8⟩:=HCF.out hk;obtain ⟨sa,sc,la,lc,rfl,ho1,ho2⟩:=h2 hk;have HE:Hid (res=0):=by show _=_;rw [HR2.out,hk]
  obtain ⟨Y,hY⟩:∃ Y,Y=w3.alloc (.cells #[.slice a m cap,.slice sa 0 sc,.slice la 0 lc] 91):=⟨_,rfl⟩;have AY:Below w3.heap.size w3 Y:=by rw [hY];exact zN
  have hbkY:Y.heap[w3.heap.size]? = some (.cells #[.slice a m cap,.slice sa 0 sc,.slice la 0 lc] 91 (0,0)):=by rw [hY];exact QJ4 w3 _
  have SY:qG9 Y w3.heap.size V2.heap.size (.slice a m cap) sa sc [] la lc []:=⟨hbkY,ho1.below AY,ho2.below AY,hb3.size⟩;have B4:=qB9 (B3.out.trans (AY.mono B3.out.size));have R4:=qB9 (R3.out.below (by omega) AY);have L4:=qB9 (L3.out.below AY);have HBY:=qB9 (HB23.out.trans (AY.mono HB23.out.size));have HUP:=qB9 (QE4 E w3.heap.size V2.heap.size a m cap cs sa sc la lc la0 nx lc0 (rdL zs) Y SY hEC (fun W hb=>HST.out W (B4.out.trans (hb.mono (by have:=BV.out.size;omega)))) hm0 hm8 (fun W hb=>HSI.out W ((HB12.out.trans (HBY.out.mono HB12.out.size)).trans (hb.mono hz2))) hnx');have l1:=L4.out.out 1 _ rfl;have hll:w1.heap.size < Y.heap.size:=by have:=L4.out.le;omega
  have hz4:=AY.size;clear h1 h2 ho1 ho2 AY hbkY SY HST HCF hEC R3 L3 hk;go_upto_region 5 with fail
  rw [<- hY];clear hY;go_wp2_with fail
  refine HUP.out.mono ?_;unfold UpR;rintro d w5 ⟨rfl,j,ls,hj,hEU,hend⟩;obtain ⟨ta,tc,tl,tlc,hsp⟩:=hEU.sp;obtain ⟨eN,eS,eL⟩:=HOF.out j ls hj hEU.pl hend;have B5:=qB9 (B4.out.trans (hEU.bl.mono (by have:=BV.out.size;omega)))
  have R5:Hid (qH0 w.heap.size [.int .i64 0,.int .i64 0,.int .i64 0,.slice none 0 0,.slice none 0 0] w5):=by
   have hw:w.heap.size < V2.heap.size:=by omega
   have hbk:=hEU.bl.block w.heap.size hw;exact ⟨fun q v e=>(World.cell?_of_block (a:=⟨w.heap.size,q,none⟩) hbk).trans (R4.out.1 q v e),fun q=>(World.frozen?_of_block (a:=⟨w.heap.size,q,none⟩) hbk).trans (R4.out.2 q)⟩
  have htl:((rdL zs).take j).length=j:=by rw [List.length_take,HNX.out];omega
  have SP:=hsp;rw [<- eS,<- eL] at SP;have HXN:Hid (XS.length=N):=by show _=_;rw [eS,htl,eN]
  have HSP:=qB9 SP;have s1:=SP.spk.c1;rw [HXN.out] at s1;have hsl:=SP.lt;have HRP:=qB9 (qGD w3.heap.size i (N:Int) (.slice a m cap) ta N tc tl XL.length tlc w5 (by have q:=HSP.out.spk;rw [HXN.out] at q;exact q));have hN240:(N:Int)<=1048576:=by omega
  have hz5:V2.heap.size<=w5.heap.size:=by have:=HSP.out.hb;omega
  clear hEU hend hsp htl l1 hll HUP eN eS eL SP HOF R4 L4;go_wp2_with fail
  refine HRP.out.mono ?_;rintro d w6 ⟨rfl,hb6⟩;have B6:=qB9 (B5.out.trans (hb6.mono B5.out.size));have R6:=qB9 (R5.out.below (by omega) hb6)
  have O6:Hid (qB2 w6 V2.heap.size (.slice ta N tc) XS):=by
   have q:=HSP.out.ow.below hb6;rw [HXN.out] at q;exact q
  have P6:Hid (qA7 w6 V2.heap.size (.slice tl XL.length tlc) XL):=HSP.out.lk.below hb6;have hz6:=hb6.size;clear hb6 HRP s1 hsl R5;have z0:=R6.out.1 0 _ rfl;have z1:=R6.out.1 1 _ rfl;have z2:=R6.out.1 2 _ rfl;have z3:=R6.out.1 3 _ rfl;have z4:=R6.out.1 4 _ rfl;have f0:=R6.out.2 0;have f1:=R6.out.2 1;have f2:=R6.out.2 2;have f3:=R6.out.2 3;have f4:=R6.out.2 4;have hzl:w.heap.size < w6.heap.size:=by omega
  have HVL:Hid (w.heap.size < V2.heap.size):=by show _ < _;omega
  go_wp2_with fail
  refine bodyPost_ret (v:=.agg #[.int .i64 0,.int .i64 i,.int .i64 (N:Int),.slice ta N tc,.slice tl XL.length tlc]) (by simp [results,Tryz.results20,go_sem,z0,z1,z2,z3,z4,hzl]) rfl ?_;refine ⟨((((B6.out.setCell (Nat.le_refl _) _).setCell (Nat.le_refl _) _).setCell (Nat.le_refl _) _).setCell (Nat.le_refl _) _).setCell (Nat.le_refl _) _,fun q=>absurd HE.out q,fun _=>?_⟩;rw [HXN.out];refine ⟨ta,tc,tl,tlc,rfl,qA0 (qC0 O6.out (Nat.le_of_lt HVL.out)) (fun g e=>?_),qA0 (qB0 P6.out (Nat.le_of_lt HVL.out)) (fun g e=>?_)⟩
  ·obtain ⟨cur,hcc,hgg⟩:=qC5 O6.out e;have:=HVL.out;rw [zS (by show g≠w.heap.size;omega),zS (by show g≠w.heap.size;omega),zS (by show g≠w.heap.size;omega),zS (by show g≠w.heap.size;omega),zS (by show g≠w.heap.size;omega)]
  ·obtain ⟨cur,hcc,hgg⟩:=qC6 P6.out e;have:=HVL.out;rw [zS (by show g≠w.heap.size;omega),zS (by show g≠w.heap.size;omega),zS (by show g≠w.heap.size;omega),zS (by show g≠w.heap.size;omega),zS (by show g≠w.heap.size;omega)]
 ·have hd:=h1 hk;subst hd;have hkb:(k != 0)=true:=by simp [hk]
  have HE:Hid (res=k):=HR2.out;have z0:=R3.out.1 0 _ rfl;have z1:=R3.out.1 1 _ rfl;have z2:=R3.out.1 2 _ rfl;have z3:=R3.out.1 3 _ rfl;have z4:=R3.out.1 4 _ rfl;have f0:=R3.out.2 0;have f1:=R3.out.2 1;have f2:=R3.out.2 2;have f3:=R3.out.2 3;have f4:=R3.out.2 4;have hzl:w.heap.size < w3.heap.size:=by omega
  have HNK:Hid (k≠0):=hk;clear h1 h2 hk;go_wp2_with fail
  refine bodyPost_ret (v:=.agg #[.int .i64 k,.int .i64 0,.int .i64 0,.slice none 0 0,.slice none 0 0]) (by simp [results,Tryz.results20,go_sem,z0,z1,z2,z3,z4,hzl]) rfl ?_;refine ⟨?_,fun _=>by rw [HE.out],fun q=>by rw [HE.out] at q;exact absurd q HNK.out⟩
  first
   | exact (((((B3.out.alloc B3.out.size _).setCell (Nat.le_refl _) _).setCell (Nat.le_refl _) _).setCell (Nat.le_refl _) _).setCell (Nat.le_refl _) _).setCell (Nat.le_refl _) _
   | exact (((((B3.out.setCell (Nat.le_refl _) _).setCell (Nat.le_refl _) _).setCell (Nat.le_refl _) _).setCell (Nat.le_refl _) _).setCell (Nat.le_refl _) _).alloc (by simp;omega) _
