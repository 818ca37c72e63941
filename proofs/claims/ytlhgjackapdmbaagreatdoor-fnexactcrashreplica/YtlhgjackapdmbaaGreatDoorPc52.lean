/- Contracts. -/
import Derived.Test.YtlhgjackapdmbaaGreatDoorPc51
import Derived.Test.YtlhgjackapdmbaaGreatDoorPc49
namespace Go.Proofs.YtlhgjackapdmbaaGreatDoor
set_option maxRecDepth 100000
set_option maxHeartbeats 8000000
open Go.RowKit
set_option linter.unusedVariables false
set_option linter.unusedSimpArgs false

def qU8 (K n:Nat):List LkI:=(List.range n).map fun j=>(⟨((K+4 * j:Nat):Int),((K+1+4 * j:Nat):Int),((K+2+4 * j:Nat):Int),((K+3+4 * j:Nat):Int)⟩:LkI)
theorem mkLkK_len (K n:Nat):(qU8 K n).length=n:=by simp [qU8]
theorem mkLkK_at (K n j:Nat) (h:j < n):(qU8 K n)[j]? = some (⟨((K+4 * j:Nat):Int),((K+1+4 * j:Nat):Int),((K+2+4 * j:Nat):Int),((K+3+4 * j:Nat):Int)⟩:LkI):=by simp [qU8,h]
theorem QZ8 (K B:Nat) (hK:K≤10000000) (a:Option Addr) (n cap:Nat) (zs:List LkI) (w:World) (hz:n=zs.length) (hn:n≤1048576) (h:qA1 w B (.slice a n cap) zs) :
  Calls Tryz.prog 44 #[.slice a n cap,.int .i64 (K:Int)] w fun e w'=>e = .returned (.int .i64 ((K:Int)+4 * (n:Int)))∧qA1 w' B (.slice a n cap) (qU8 K n)∧w.grownBy w' (Value.slice a n cap).ownBlock:=by
 have HO:Hid (qA1 w B (.slice a n cap) zs):=h
 have HZ:Hid (n=zs.length):=hz
 clear h hz
 have hn':(n:Int)≤1048576:=by omega
 have hK':(K:Int)≤10000000:=by omega
 have hK0:(0:Int)≤(K:Int):=by omega
 go_enter Tryz.func44,Tryz.ntmps44
 go_wp2
 go_loopw [1,5] (fun q i wr=>∃ (j:Nat) (es:List LkI),j≤n∧i = .int .i64 (j:Int)∧q = .int .i64 ((K:Int)+4 * (j:Int))∧n=es.length∧qA1 wr B (.slice a n cap) es∧(∀ m,m < j→es[m]? = some (⟨((K+4 * m:Nat):Int),((K+1+4 * m:Nat):Int),((K+2+4 * m:Nat):Int),((K+3+4 * m:Nat):Int)⟩:LkI))∧w.grownBy wr (Value.slice a n cap).ownBlock)
  (fun _ i _=>n - (intOf i).toNat)
 case atStart=>exact ⟨0,zs,Nat.zero_le _,rfl,rfl,HZ.out,HO.out,fun m hm=>by omega,qM6 _ _⟩
 case round =>
  obtain ⟨j,es,hj,rfl,rfl,hes,hown,hys,hgr⟩:=hrel
  have HE:Hid (n=es.length):=hes
  clear hes
  by_cases hlt:j < n
  ·obtain ⟨g,ha⟩:∃ g,a=some ⟨g,0,none⟩:=by
    rcases hown.form with ⟨h1,h2⟩ | ⟨g,cap',h1,_⟩
    ·have:=HE.out;rw [h2] at this;simp at this;omega
    ·simp at h1;exact ⟨g,h1.1⟩
   subst ha
   obtain ⟨⟨v0,c0⟩,f0⟩:=hown.cell HE.out (j * 4) (by omega)
   obtain ⟨⟨v1,c1⟩,f1⟩:=hown.cell HE.out (j * 4+1) (by omega)
   obtain ⟨⟨v2,c2⟩,f2⟩:=hown.cell HE.out (j * 4+2) (by omega)
   obtain ⟨⟨v3,c3⟩,f3⟩:=hown.cell HE.out (j * 4+3) (by omega)
   have hst:=hown.put HE.out j (⟨(K:Int)+4 * (j:Int),(K:Int)+4 * (j:Int)+1,(K:Int)+4 * (j:Int)+1+1,(K:Int)+4 * (j:Int)+1+1+1⟩:LkI)
   have R:Hid (qA1 ((((wr.setCell ⟨g,j * 4,none⟩ (.int .i64 ((K:Int)+4 * (j:Int)))).setCell ⟨g,j * 4+1,none⟩ (.int .i64 ((K:Int)+4 * (j:Int)+1))).setCell ⟨g,j * 4+2,none⟩ (.int .i64 ((K:Int)+4 * (j:Int)+1+1))).setCell ⟨g,j * 4+3,none⟩ (.int .i64 ((K:Int)+4 * (j:Int)+1+1+1))) B (.slice (some ⟨g,0,none⟩) n cap) (es.set j (⟨(K:Int)+4 * (j:Int),(K:Int)+4 * (j:Int)+1,(K:Int)+4 * (j:Int)+1+1,(K:Int)+4 * (j:Int)+1+1+1⟩:LkI))∧(∀ m,m < j+1→(es.set j (⟨(K:Int)+4 * (j:Int),(K:Int)+4 * (j:Int)+1,(K:Int)+4 * (j:Int)+1+1,(K:Int)+4 * (j:Int)+1+1+1⟩:LkI))[m]? = some (⟨((K+4 * m:Nat):Int),((K+1+4 * m:Nat):Int),((K+2+4 * m:Nat):Int),((K+3+4 * m:Nat):Int)⟩:LkI))∧w.grownBy ((((wr.setCell ⟨g,j * 4,none⟩ (.int .i64 ((K:Int)+4 * (j:Int)))).setCell ⟨g,j * 4+1,none⟩ (.int .i64 ((K:Int)+4 * (j:Int)+1))).setCell ⟨g,j * 4+2,none⟩ (.int .i64 ((K:Int)+4 * (j:Int)+1+1))).setCell ⟨g,j * 4+3,none⟩ (.int .i64 ((K:Int)+4 * (j:Int)+1+1+1))) (some g)):=by
    refine ⟨hst.1,fun m hm=>?_,qF7 hgr hst.2⟩
    have:=HE.out
    by_cases e:m=j
    ·subst e;rw [List.getElem?_set_self (by omega)];simp only [Option.some.injEq,LkI.mk.injEq];omega
    ·rw [List.getElem?_set_ne (by omega)];exact hys m (by omega)
   clear hst hown hys hgr
   have hlt':(j:Int) < (n:Int):=by omega
   go_wp2
   refine ⟨⟨j+1,_,by omega,by go_num,?_,by rw [List.length_set];exact HE.out,R.out.1,R.out.2.1,R.out.2.2⟩,by simp [intOf];omega⟩
   congr 1
  ·have hjn:j=n:=by omega
   subst hjn
   have E:es=qU8 K j:=by
    have:=HE.out
    apply List.ext_getElem?
    intro i
    by_cases hi:i < j
    ·rw [hys i hi,mkLkK_at K j i hi]
    ·rw [List.getElem?_eq_none (by omega),List.getElem?_eq_none (by rw [mkLkK_len];omega)]
   rw [E] at hown
   go_wp2
   go_ret
   exact ⟨rfl,hown,hgr⟩
theorem heldLocksK_c (K:Nat) (hK:K≤10000000) (a:Option Addr) (n cap:Nat) (w:World) (hn:n≤1048576) (h:LkV w a (qU8 K n)) :
  Calls Tryz.prog 73 #[.slice a n cap,.int .i64 (K:Int)] w fun e w'=>e = .returned (.int .i64 ((K:Int)+4 * (n:Int)))∧w=w':=by
 have HR:Hid (LkV w a (qU8 K n)):=h
 clear h
 have hn':(n:Int)≤1048576:=by omega
 have hK':(K:Int)≤10000000:=by omega
 have hK0:(0:Int)≤(K:Int):=by omega
 go_enter Tryz.func73,Tryz.ntmps73
 go_wp2
 go_loop [1,5] (fun q i=>∃ (j:Nat),j≤n∧i = .int .i64 (j:Int)∧q = .int .i64 ((K:Int)+4 * (j:Int))) (fun _ i=>n - (intOf i).toNat)
 case atStart=>exact ⟨0,Nat.zero_le _,rfl,rfl⟩
 case round =>
  obtain ⟨j,hj,rfl,rfl⟩:=hrel
  by_cases hlt:j < n
  ·obtain ⟨g,ha,c0,c1,c2,c3⟩:=HR.out j _ (mkLkK_at K n j hlt)
   subst ha
   simp only [show ((K+4 * j:Nat):Int)=(K:Int)+4 * (j:Int) from by omega,show ((K+1+4 * j:Nat):Int)=(K:Int)+4 * (j:Int)+1 from by omega,show ((K+2+4 * j:Nat):Int)=(K:Int)+4 * (j:Int)+1+1 from by omega,show ((K+3+4 * j:Nat):Int)=(K:Int)+4 * (j:Int)+1+1+1 from by omega] at c0 c1 c2 c3
   have hlt':(j:Int) < (n:Int):=by omega
   go_wp2
   refine ⟨⟨j+1,by omega,by go_num,?_⟩,by simp [intOf];omega⟩
   congr 1
  ·have hjn:j=n:=by omega
   subst hjn
   go_wp2
   go_ret
   exact ⟨rfl,rfl⟩
theorem st_lk_ne {w:World} {B B':Nat} {v v':Value} {S:List StI} {L:List LkI} (h:qB1 w B v S) (h':qA1 w B' v' L) {g g':Nat} (e:v.ownBlock=some g) (e':v'.ownBlock=some g'):g≠g':=by
 obtain ⟨cur,hc,_⟩:=qD1 h e
 obtain ⟨cur',hc',_⟩:=qC6 h' e'
 exact qK8 hc hc' (by decide)
theorem markRep_c (lo hi:Nat) (i u:Int) (sa:Option Addr) (n sc:Nat) (S:List StI) (la:Option Addr) (m lc:Nat) (L:List LkI) (w:World) (hS:n=S.length) (hL:m=L.length) (hn:n≤1048576) (hm:m≤1048576) (h1:qB1 w lo (.slice sa n sc) S) (h2:qA1 w lo (.slice la m lc) L) (g1:∀ g,(Value.slice sa n sc).ownBlock=some g→g < hi) (g2:∀ g,(Value.slice la m lc).ownBlock=some g→g < hi) :
  Calls Tryz.prog 22 #[.agg #[.int .i64 i,.int .i64 u,.slice sa n sc,.slice la m lc],.int .i64 1] w fun e w'=>e = .returned (.int .i64 (1+5 * (n:Int)+4 * (m:Int)))∧qB1 w' lo (.slice sa n sc) (QP1 n)∧qA1 w' lo (.slice la m lc) (qU8 (1+5 * n) m)∧Chg lo hi w w':=by
 obtain ⟨V,hV⟩:∃ V,V=w.alloc (.cells #[.int .i64 i,.int .i64 u,.slice sa n sc,.slice la m lc] 33):=⟨_,rfl⟩
 have BV:Below w.heap.size w V:=by rw [hV];exact zN
 have HX:Hid (qE5 w.heap.size [.int .i64 i,.int .i64 u,.slice sa n sc,.slice la m lc] V):=by rw [hV];exact (qE0 w _ _).out
 have hVl:w.heap.size < V.heap.size:=by rw [hV];simp
 have HBV:=qC2 BV
 have HS1:Hid (qB1 V lo (.slice sa n sc) S):=h1.below BV
 have HL1:Hid (qA1 V lo (.slice la m lc) L):=h2.below BV
 have HNE:Hid (∀ g g',(Value.slice sa n sc).ownBlock=some g→(Value.slice la m lc).ownBlock=some g'→g≠g'):=fun g g' e e'=>st_lk_ne h1 h2 e e'
 have HR1:Hid (∀ g,(Value.slice sa n sc).ownBlock=some g→lo≤g∧g < hi∧g < w.heap.size):=fun g e=>by have:=QD7 h1 g e;exact ⟨this.1,g1 g e,this.2⟩
 have HR2:Hid (∀ g,(Value.slice la m lc).ownBlock=some g→lo≤g∧g < hi∧g < w.heap.size):=fun g e=>by have:=qS4 h2 g e;exact ⟨this.1,g2 g e,this.2⟩
 have HSL:Hid (n=S.length∧m=L.length):=⟨hS,hL⟩
 have x2:=HX.out 2 _ rfl
 have x3:=HX.out 3 _ rfl
 have hn':(n:Int)≤1048576:=by omega
 have hm':(m:Int)≤1048576:=by omega
 clear h1 h2 g1 g2 hS hL BV
 go_enter Tryz.func22,Tryz.ntmps22
 go_upto_region 1 with fail
 rw [← hV]
 clear hV
 go_wp2_with fail
 refine (QH3 lo sa n sc S V HSL.out.1 hn HS1.out).mono ?_
 rintro e w1 ⟨rfl,ho1,hg1⟩
 have C1:Chg lo hi V w1:=Chg.grown hg1 (fun q e=>⟨(HR1.out q e).1,(HR1.out q e).2.1⟩)
 have hk1:∀ b,b < V.heap.size→(Value.slice sa n sc).ownBlock≠some b→w1.heap[b]? = V.heap[b]? := fun b hb hne=>hg1.block b hb (fun e=>hne e.symm)
 have HO1:=qC2 ho1
 have HC1:=qC2 C1
 have HL2:Hid (qA1 w1 lo (.slice la m lc) L):=qA0 HL1.out (fun g e=>hk1 g (by have:=(HR2.out g e).2.2;omega) (fun e'=>HNE.out g g e' e rfl))
 have q3:w1.cell? ⟨w.heap.size,3,none⟩=some (.slice la m lc):=(World.cell?_of_block (a:=⟨w.heap.size,3,none⟩) (hk1 w.heap.size hVl (fun e=>by have:=(HR1.out _ e).2.2;omega))).trans x3
 have hl1:w.heap.size < w1.heap.size:=by have:=hg1.size;omega
 have hz1:=hg1.size
 clear ho1 C1 hk1 x2 x3 hg1
 have HLK:Hid (Calls Tryz.prog 44 #[.slice la m lc,.int .i64 (1+5 * (n:Int))] w1 fun e w'=>e = .returned (.int .i64 (1+5 * (n:Int)+4 * (m:Int)))∧qA1 w' lo (.slice la m lc) (qU8 (1+5 * n) m)∧w1.grownBy w' (Value.slice la m lc).ownBlock):=by
  have:=QZ8 (1+5 * n) lo (by omega) la m lc L w1 HSL.out.2 hm HL2.out
  rw [show ((1+5 * n:Nat):Int)=1+5 * (n:Int) from by omega] at this
  exact this
 go_wp2_with fail
 refine HLK.out.mono ?_
 rintro e w2 ⟨rfl,ho2,hg2⟩
 have C2:Chg lo hi w1 w2:=Chg.grown hg2 (fun q e=>⟨(HR2.out q e).1,(HR2.out q e).2.1⟩)
 have HO3:Hid (qB1 w2 lo (.slice sa n sc) (QP1 n)):=qA0 HO1.out (fun g e=>hg2.block g (by have:=(HR1.out g e).2.2;omega) (fun e'=>HNE.out g g e e'.symm rfl))
 have HO4:=qC2 ho2
 have HC2:Hid (Chg lo hi w w2):=((Chg.calls HBV.out).trans HC1.out).trans C2
 clear ho2 hg2 C2 q3 HLK
 go_wp2_with fail
 go_ret
 exact ⟨rfl,HO3.out,HO4.out,HC2.out⟩
theorem markRepR_c (lo hi:Nat) (k i u:Int) (sa:Option Addr) (n sc:Nat) (S:List StI) (la:Option Addr) (m lc:Nat) (L:List LkI) (w:World) (hS:n=S.length) (hL:m=L.length) (hn:n≤1048576) (hm:m≤1048576) (h1:qB1 w lo (.slice sa n sc) S) (h2:qA1 w lo (.slice la m lc) L) (g1:∀ g,(Value.slice sa n sc).ownBlock=some g→g < hi) (g2:∀ g,(Value.slice la m lc).ownBlock=some g→g < hi) :
  Calls Tryz.prog 24 #[.agg #[.int .i64 k,.int .i64 i,.int .i64 u,.slice sa n sc,.slice la m lc],.int .i64 1] w fun e w'=>e = .returned (.int .i64 (1+5 * (n:Int)+4 * (m:Int)))∧qB1 w' lo (.slice sa n sc) (QP1 n)∧qA1 w' lo (.slice la m lc) (qU8 (1+5 * n) m)∧Chg lo hi w w':=by
 obtain ⟨V,hV⟩:∃ V,V=w.alloc (.cells #[.int .i64 k,.int .i64 i,.int .i64 u,.slice sa n sc,.slice la m lc] 47):=⟨_,rfl⟩
 have BV:Below w.heap.size w V:=by rw [hV];exact zN
 have HM:=qC2 (markRep_c lo hi i u sa n sc S la m lc L V hS hL hn hm (h1.below BV) (h2.below BV) g1 g2)
 have HBV:=qC2 BV
 clear h1 h2 g1 g2 BV hS hL
 go_enter Tryz.func24,Tryz.ntmps24
 go_wp2_with fail
 rw [← hV]
 clear hV
 refine HM.out.mono ?_
 rintro e w1 ⟨rfl,ho1,ho2,hc⟩
 have HO1:=qC2 ho1
 have HO2:=qC2 ho2
 have HC:=qC2 ((Chg.calls HBV.out).trans hc)
 clear ho1 ho2 hc
 go_wp2_with fail
 go_ret
 exact ⟨rfl,HO1.out,HO2.out,HC.out⟩
theorem heldRep_c (i u:Int) (sa:Option Addr) (n sc:Nat) (la:Option Addr) (m lc:Nat) (w:World) (hn:n≤1048576) (hm:m≤1048576) (h1:StV w sa (QP1 n)) (h2:LkV w la (qU8 (1+5 * n) m)) :
  Calls Tryz.prog 48 #[.agg #[.int .i64 i,.int .i64 u,.slice sa n sc,.slice la m lc],.int .i64 1] w fun e w'=>e = .returned (.int .i64 (1+5 * (n:Int)+4 * (m:Int)))∧Below w.heap.size w w':=by
 obtain ⟨V,hV⟩:∃ V,V=w.alloc (.cells #[.int .i64 i,.int .i64 u,.slice sa n sc,.slice la m lc] 33):=⟨_,rfl⟩
 have BV:Below w.heap.size w V:=by rw [hV];exact zN
 have HX:Hid (qE5 w.heap.size [.int .i64 i,.int .i64 u,.slice sa n sc,.slice la m lc] V):=by rw [hV];exact (qE0 w _ _).out
 have hVl:w.heap.size < V.heap.size:=by rw [hV];simp
 have HBV:=qC2 BV
 have HS:=qC2 (QH5 sa n sc V hn (h1.below BV))
 have HLK:Hid (Calls Tryz.prog 73 #[.slice la m lc,.int .i64 (1+5 * (n:Int))] V fun e w'=>e = .returned (.int .i64 (1+5 * (n:Int)+4 * (m:Int)))∧V=w'):=by
  have:=heldLocksK_c (1+5 * n) (by omega) la m lc V hm (h2.below BV)
  rw [show ((1+5 * n:Nat):Int)=1+5 * (n:Int) from by omega] at this
  exact this
 have x2:=HX.out 2 _ rfl
 have x3:=HX.out 3 _ rfl
 have hn':(n:Int)≤1048576:=by omega
 have hm':(m:Int)≤1048576:=by omega
 have d1:decide ((1:Int)+5 * (n:Int) < 0)=false:=by simp;omega
 have d2:decide ((1:Int)+5 * (n:Int)+4 * (m:Int) < 0)=false:=by simp;omega
 clear h1 h2 BV
 go_enter Tryz.func48,Tryz.ntmps48
 go_upto_region 1 with fail
 rw [← hV]
 clear hV
 go_wp2_with fail
 refine HS.out.mono ?_
 rintro e w1 ⟨rfl,rfl⟩
 go_wp2_with fail
 refine HLK.out.mono ?_
 rintro e w1 ⟨rfl,rfl⟩
 go_wp2_with fail
 go_ret
 exact ⟨rfl,HBV.out⟩
theorem QR9 (k i u:Int) (sa:Option Addr) (n sc:Nat) (la:Option Addr) (m lc:Nat) (w:World) (hn:n≤1048576) (hm:m≤1048576) (h1:StV w sa (QP1 n)) (h2:LkV w la (qU8 (1+5 * n) m)) :
  Calls Tryz.prog 25 #[.agg #[.int .i64 k,.int .i64 i,.int .i64 u,.slice sa n sc,.slice la m lc],.int .i64 1] w fun e w'=>e = .returned (.int .i64 (1+5 * (n:Int)+4 * (m:Int)))∧Below w.heap.size w w':=by
 obtain ⟨V,hV⟩:∃ V,V=w.alloc (.cells #[.int .i64 k,.int .i64 i,.int .i64 u,.slice sa n sc,.slice la m lc] 47):=⟨_,rfl⟩
 have BV:Below w.heap.size w V:=by rw [hV];exact zN
 have HM:=qC2 (heldRep_c i u sa n sc la m lc V hn hm (h1.below BV) (h2.below BV))
 have HBV:=qC2 BV
 have hn':(n:Int)≤1048576:=by omega
 have hm':(m:Int)≤1048576:=by omega
 have d2:decide ((1:Int)+5 * (n:Int)+4 * (m:Int) < 0)=false:=by simp;omega
 clear h1 h2 BV
 go_enter Tryz.func25,Tryz.ntmps25
 go_wp2_with fail
 rw [← hV]
 clear hV
 refine HM.out.mono ?_
 rintro e w1 ⟨rfl,hb1⟩
 have HB1:=qC2 (HBV.out.trans (hb1.mono HBV.out.size))
 clear hb1
 go_wp2_with fail
 go_ret
 exact ⟨rfl,HB1.out⟩
theorem markCopy_c (lo hi Lb:Nat) (r y:qF4) (w:World) (hle:qJ6 1048576 r) (h:qF1 w Lb r y) (hlo:lo≤Lb) (hhi:∀ g,y.la=some ⟨g,0,none⟩→g < hi) (hLh:Lb < hi) :
  Calls Tryz.prog 22 #[.agg #[.int .i64 y.i,.int .i64 y.u,.slice y.sa y.sn y.sc,.slice y.la y.ln y.lc],.int .i64 1] w fun e w'=>e = .returned (.int .i64 (1+5 * (r.sn:Int)+4 * (r.ln:Int)))∧Chg lo hi w w':=by
 obtain ⟨yi,yu,ysa,ysn,ysc,yss,yla,yln,ylc,yls⟩:=y
 have hsa:=h.sa
 obtain ⟨g,hg,hg1,hg2,_,hlr⟩:=h.la
 have e1:=h.sn
 have e2:=h.ln
 simp only at hsa hg e1 e2
 subst hsa hg e1 e2
 have hgh:=hhi g rfl
 have hlt:=h.slt
 have hsr:=h.sl.2
 have hn:r.sn≤1048576:=hle.said
 have hm:r.ln≤1048576:=hle.locks
 obtain ⟨V,hV⟩:∃ V,V=w.alloc (.cells #[.int .i64 yi,.int .i64 yu,.slice (some ⟨Lb,0,none⟩) r.sn ysc,.slice (some ⟨g,0,none⟩) r.ln ylc] 33):=⟨_,rfl⟩
 have BV:Below w.heap.size w V:=by rw [hV];exact zN
 have HX:Hid (qE5 w.heap.size [.int .i64 yi,.int .i64 yu,.slice (some ⟨Lb,0,none⟩) r.sn ysc,.slice (some ⟨g,0,none⟩) r.ln ylc] V):=by rw [hV];exact (qE0 w _ _).out
 have hVl:w.heap.size < V.heap.size:=by rw [hV];simp
 have HBV:=qC2 BV
 have HSR:Hid (qJ4 V Lb r.sn):=hsr.below hlt BV
 have HLR:Hid (qJ0 V g r.ln):=hlr.below hg2 BV
 have hgV:g < V.heap.size:=by omega
 have x2:=HX.out 2 _ rfl
 have x3:=HX.out 3 _ rfl
 have hn':(r.sn:Int)≤1048576:=by omega
 have hm':(r.ln:Int)≤1048576:=by omega
 clear h hhi hsr hlr BV
 go_enter Tryz.func22,Tryz.ntmps22
 go_upto_region 1 with fail
 rw [← hV]
 clear hV
 go_wp2_with fail
 refine (QA7 Lb r.sn ysc 1 V hn (by omega) (by omega) HSR.out).mono ?_
 rintro e w1 ⟨rfl,hg1'⟩
 have C1:Chg lo hi V w1:=Chg.grown hg1' (fun q e=>by cases e;omega)
 have HLR2:Hid (qJ0 w1 g r.ln):=HLR.out.grown hgV hg1' (by simp;omega)
 have q3:w1.cell? ⟨w.heap.size,3,none⟩=some (.slice (some ⟨g,0,none⟩) r.ln ylc):=(World.cell?_of_block (a:=⟨w.heap.size,3,none⟩) (hg1'.block w.heap.size hVl (by simp;omega))).trans x3
 have hl1:w.heap.size < w1.heap.size:=by have:=hg1'.size;omega
 have HC1:=qC2 C1
 clear C1 hg1' x2 x3
 go_wp2_with fail
 refine (QL5 g r.ln ylc (1+5 * (r.sn:Int)) w1 hm (by omega) (by omega) HLR2.out).mono ?_
 rintro e w2 ⟨rfl,hg2'⟩
 have HC2:Hid (Chg lo hi w w2):=((Chg.calls HBV.out).trans HC1.out).trans (Chg.grown hg2' (fun q e=>by cases e;omega))
 clear hg2' q3
 go_wp2_with fail
 go_ret
 exact ⟨rfl,HC2.out⟩

def ifz (k v:Int):Int:=if k=0 then v else 0
def ifl {α:Type} (k:Int) (l:List α):List α:=if k=0 then l else []
theorem ifl_len {α:Type} (k:Int) (l:List α):(ifl k l).length≤l.length:=by
 unfold ifl
 split
 ·exact Nat.le_refl _
 ·simp
def RepAll (k i u:Int) (S:List StI) (L:List LkI) (w:World) (d:Ending) (w':World):Prop:=∃ (sa:Option Addr) (sc:Nat) (la:Option Addr) (lc:Nat),d = .returned (.agg #[.int .i64 k,.int .i64 i,.int .i64 u,.slice sa S.length sc,.slice la L.length lc])∧qB1 w' w.heap.size (.slice sa S.length sc) S∧qA1 w' w.heap.size (.slice la L.length lc) L∧Below w.heap.size w w'
theorem RepA.all {k i u:Int} {S:List StI} {L:List LkI} {w:World} {d:Ending} {w':World} (h:RepA k i u S L w d w'):RepAll k (ifz k i) (ifz k u) (ifl k S) (ifl k L) w d w':=by
 obtain ⟨hb,h1,h2⟩:=h
 unfold ifz ifl
 by_cases q:k=0
 ·obtain ⟨sa,sc,la,lc,e,ho1,ho2⟩:=h2 q
  rw [if_pos q,if_pos q,if_pos q,if_pos q]
  exact ⟨sa,sc,la,lc,by rw [e,q],ho1,ho2,hb⟩
 ·rw [if_neg q,if_neg q,if_neg q,if_neg q]
  exact ⟨none,0,none,0,h1 q,World.ownsRow_nil _ _ _ _,World.ownsRow_nil _ _ _ _,hb⟩
def EnvS (E:qH0) (cs:List qA3):Prop:=∀ ds,qP6 cs ds→qE7 1048576 ds→qB5 ds=0→qN0 E ds
theorem envS_of {lo hi n:Nat} {cs:List qA3} {X:World} (h:CpB lo hi n cs X):∃ E,EnvS E cs:=by
 obtain ⟨ds1,_,hs,hl,_,_⟩:=h
 obtain ⟨E,hE⟩:=env_of hl
 refine ⟨E,fun ds h2 hl2 hz=>?_⟩
 exact qP6.env (cs:=ds1) ⟨by rw [hs.ln,h2.ln],QQ6 hs h2⟩ (hE (by rw [hs.cfs,← h2.cfs];exact hz)) hl2
theorem qF1.le {W:World} {Lb:Nat} {r y:qF4} (h:qF1 W Lb r y) (hle:qJ6 1048576 r):qJ6 1048576 y:=⟨by rw [h.sn];exact hle.said,by rw [h.ln];exact hle.locks⟩

theorem QN6 {E:qH0} {cs ds:List qA3} {w:World} {L:Nat} {r y:qF4} (x:Int) (h:qP6 cs ds) (hy:qF1 w L r y):qM7 E ds y x=qM7 E cs r x:=by
 unfold qM7
 rw [QY4 h hy,hy.sn,hy.u]
theorem QN5 {w:World} {L:Nat} {r y:qF4} (x:Int) (hy:qF1 w L r y):qI2 y x=qI2 r x:=by
 unfold qI2 qO1
 rw [hy.ss,hy.u]
theorem QG5 {E:qH0} {w:World} {L:Nat} {r y:qF4} (x:Int) (hy:qF1 w L r y):qG6 E y x=qG6 E r x:=by
 unfold qG6 qO1
 rw [hy.ss,hy.u]
theorem QX8 {E:qH0} {lo hi n:Nat} {r y:qF4} {Lb:Nat} {cs:List qA3} {W:World} (x:Int) (hn:n≤1048576) (hE:EnvS E cs) (hle:qJ6 1048576 r) (hl:r.ss.length=r.sn∧r.ls.length=r.ln) (hy:qF1 W Lb r y) (h:CpB lo hi n cs W) :
  Calls Tryz.prog 28 #[.agg #[.int .i64 y.i,.int .i64 y.u,.slice y.sa y.sn y.sc,.slice y.la y.ln y.lc],.slice (some ⟨lo,0,none⟩) n n,.int .i64 x] W fun d w'=>RepAll (qM7 E cs r x) (ifz (qM7 E cs r x) r.i) (ifz (qM7 E cs r x) (r.u+x)) (ifl (qM7 E cs r x) (qI2 r x)) (ifl (qM7 E cs r x) (qG6 E r x)) W d w':=by
 obtain ⟨ds,h1,hs,h3,_,_⟩:=h
 have:=specCrash_c E y _ n n ds x W (hy.isIn hl.1 hl.2) (by rw [hy.sn,hy.sc];exact Nat.le_refl _) (hy.le hle) h1 h3 hn (hE ds hs h3)
 exact this.mono fun d w' q=>by
  rw [QN6 x hs hy,QN5 x hy,QG5 x hy,hy.i,hy.u] at q
  exact q.all
theorem implCrash_cp {E:qH0} {lo hi n:Nat} {r y:qF4} {Lb:Nat} {cs:List qA3} {W:World} (x:Int) (hn:n≤1048576) (hE:EnvS E cs) (hle:qJ6 1048576 r) (hl:r.ss.length=r.sn∧r.ls.length=r.ln) (hv:qL8 0 W∧qD6 W) (hy:qF1 W Lb r y) (h:CpB lo hi n cs W) :
  Calls Tryz.prog 29 #[.agg #[.int .i64 y.i,.int .i64 y.u,.slice y.sa y.sn y.sc,.slice y.la y.ln y.lc],.slice (some ⟨lo,0,none⟩) n n,.int .i64 x] W fun d w'=>RepAll (qM7 E cs r x) (ifz (qM7 E cs r x) r.i) (ifz (qM7 E cs r x) (r.u+x)) (ifl (qM7 E cs r x) (qI2 r x)) (ifl (qM7 E cs r x) (qG6 E r x)) W d w':=by
 obtain ⟨ds,h1,hs,h3,_,_⟩:=h
 have:=implCrash_c E y _ n n ds x W (hy.isIn hl.1 hl.2) (hy.le hle) h1 h3 hn hv.1 hv.2 (hE ds hs h3)
 exact this.mono fun d w' q=>by
  rw [QN6 x hs hy,QN5 x hy,QG5 x hy,hy.i,hy.u] at q
  exact q.all
theorem crS_len (k:Int) (r:qF4) (x:Int) (hl:r.ss.length=r.sn) (hs:r.sn≤1048576):(ifl k (qI2 r x)).length≤1048576:=by
 have h:=ifl_len k (qI2 r x)
 unfold qI2 at h
 rw [List.length_take] at h
 unfold qI2
 omega
theorem crL_len (E:qH0) (cs:List qA3) (r:qF4) (x:Int) (hl:r.ss.length=r.sn):(ifl (qM7 E cs r x) (qG6 E r x)).length≤1048576:=by
 unfold ifl
 split
 ·rename_i h
  unfold qM7 at h
  by_cases hr:qH3 E cs r=0
  ·rw [if_pos hr] at h
   by_cases hx:0≤x∧x≤(r.sn:Int) - r.u
   ·obtain ⟨h1,h2,h3,h4⟩:=cr_play hr hx.1 hx.2 hl
    exact QU0 _ _ h1 (by rw [h2];exact Nat.le_refl _)
   ·rw [if_neg hx] at h;omega
  ·rw [if_neg hr] at h;exact absurd h hr
 ·simp

theorem Rl4_inner (r:qF4) (a:Option Addr) (n cap:Nat) (cs:List qA3) (x:Int) (w:World) (hr:qD9 w r∧qJ6 maxLen r) (hc:QJ1 w a n cs) (hE:qL8 0 w∧qD6 w) :
  Calls Tryz.prog 7 #[.agg #[.int .i64 r.i,.int .i64 r.u,.slice r.sa r.sn r.sc,.slice r.la r.ln r.lc],.slice a n cap,.int .i64 x] w fun e w'=>e = .returned (.bool true)∧Below w.heap.size w w':=by
 have HRI:Hid (qD9 w r):=hr.1
 have HCI:Hid (qA6 w a n cs):=hc.1
 have HER:Hid (qL8 0 w∧qD6 w):=hE
 have HRL:Hid (qJ6 maxLen r):=hr.2
 have HCL:Hid (n≤maxLen∧∀ (k:Nat) c,cs[k]? = some c→qD8 maxLen c):=hc.2
 clear hr hc hE
 obtain ⟨V,hV⟩:∃ V,V=w.alloc (.cells #[.int .i64 r.i,.int .i64 r.u,.slice r.sa r.sn r.sc,.slice r.la r.ln r.lc] 25):=⟨_,rfl⟩
 have B0:Hid (Below w.heap.size w V):=by rw [hV];exact zN
 have F1:Hid (qB9 (w.heap.size) (w.heap.size+1) (qE5 (w.heap.size) [.int .i64 r.i,.int .i64 r.u,.slice r.sa r.sn r.sc,.slice r.la r.ln r.lc]) V):=by rw [hV];exact qE0 w _ _
 have hl2:=F1.out.le
 have hz0:=B0.out.size
 go_enter Tryz.func7,Tryz.ntmps7
 go_upto_region 2 with fail
 rw [← hV]
 clear hV
 have hbl0:w.heap.size < V.heap.size:=by have:=F1.out.le;omega
 have b0:=F1.out.out 0 _ rfl
 have b1:=F1.out.out 1 _ rfl
 have b2:=F1.out.out 2 _ rfl
 have b3:=F1.out.out 3 _ rfl
 go_wp2_with fail
 refine (szReplica_c r 1048576 _ HRL.out (by omega) (by omega)).mono ?_
 rintro e w3 ⟨⟨s1,rfl,hs1,hs2⟩,hb⟩
 have B4:Hid (Below w.heap.size w w3):=B0.out.trans (hb.mono B0.out.size)
 have hz5:=hb.size
 have F6:Hid (qB9 (w.heap.size) (w.heap.size+1) (qE5 (w.heap.size) [.int .i64 r.i,.int .i64 r.u,.slice r.sa r.sn r.sc,.slice r.la r.ln r.lc]) w3):=F1.out.below hb
 clear B0 F1
 clear hb b0 b1 b2 b3 hbl0
 by_cases hneg:s1 < 0
 ·go_wp2
  go_ret
  exact ⟨rfl,B4.out⟩
 obtain ⟨hsn,hln⟩:=hs2 (by omega)
 have hge:0≤s1:=by omega
 go_wp2_with fail
 refine (szConfigs_c a n cap cs s1 _ HCL.out.1 HCL.out.2 hge (by omega) (HCI.out.below B4.out)).mono ?_
 rintro e w7 ⟨⟨s2,rfl,hs3,hs4⟩,hb⟩
 have B8:Hid (Below w.heap.size w w7):=B4.out.trans (hb.mono B4.out.size)
 have hz9:=hb.size
 have F10:Hid (qB9 (w.heap.size) (w.heap.size+1) (qE5 (w.heap.size) [.int .i64 r.i,.int .i64 r.u,.slice r.sa r.sn r.sc,.slice r.la r.ln r.lc]) w7):=F6.out.below hb
 clear B4 F6
 clear hb
 by_cases hneg2:s2 < 0
 ·go_wp2
  go_ret
  exact ⟨rfl,B8.out⟩
 obtain ⟨hnl,hcl0⟩:=hs4 (by omega)
 have hge2:0≤s2:=by omega
 have hn:n≤1048576:=by omega
 have HLE1:Hid (∀ (k:Nat) c,cs[k]? = some c→qD8 1048576 c):=fun k c e=>QN7 (hcl0 k c e) (by omega)
 have HRL2:Hid (qJ6 1048576 r):=⟨by omega,by omega⟩
 have HSL:Hid (r.ss.length=r.sn∧r.ls.length=r.ln):=⟨HRI.out.said.1,HRI.out.locks.1⟩
 have hsn2:r.sn≤1048576:=by omega
 have hln2:r.ln≤1048576:=by omega
 clear hs4 hcl0 hs2 hs1 HRL HCL hneg hneg2
 have hbl0:w.heap.size < w7.heap.size:=by have:=F10.out.le;omega
 have b0:=F10.out.out 0 _ rfl
 have b1:=F10.out.out 1 _ rfl
 have b2:=F10.out.out 2 _ rfl
 have b3:=F10.out.out 3 _ rfl
 go_wp2_with fail
 refine (qW7 r _ HRL2.out (HRI.out.below B8.out)).mono ?_
 rintro e w13 ⟨y11,Lb12,rfl,hLb,hy,hb⟩
 have B14:Hid (Below w.heap.size w w13):=B8.out.trans (hb.mono B8.out.size)
 have hz15:=hb.size
 have F16:Hid (qB9 (w.heap.size) (w.heap.size+1) (qE5 (w.heap.size) [.int .i64 r.i,.int .i64 r.u,.slice r.sa r.sn r.sc,.slice r.la r.ln r.lc]) w13):=F10.out.below hb
 clear B8 F10
 clear hb b0 b1 b2 b3 hbl0
 have F17:Hid (qK1 (fun X=>qF1 X Lb12 r y11) w13):=⟨hy,fun X X' h hb=>h.below hb⟩
 go_wp2_with fail
 refine (qW8 a n cap cs _ hn HLE1.out (HCI.out.below B14.out)).mono ?_
 rintro e w18 ⟨rfl,dsT,hct⟩
 have hb:=hct.bl
 have hlt:=hct.lt
 have B19:Hid (Below w.heap.size w w18):=B14.out.trans (hb.mono B14.out.size)
 have hz20:=hb.size
 have F21:Hid (qB9 (w.heap.size) (w.heap.size+1) (qE5 (w.heap.size) [.int .i64 r.i,.int .i64 r.u,.slice r.sa r.sn r.sc,.slice r.la r.ln r.lc]) w18):=F16.out.below hb
 have F22:Hid (qK1 (fun X=>qF1 X Lb12 r y11) w18):=F17.out.below hb
 clear B14 F16 F17
 have F23:Hid (qK1 (CpB (w13.heap.size) (w18.heap.size) n cs) w18):=hct.cpB hn HCI.out HLE1.out
 clear hb hct hlt
 obtain ⟨E,hEE⟩:=envS_of F23.out.out
 have HEE:Hid (EnvS E cs):=hEE
 have HSP:=qC2 (QX8 x hn hEE HRL2.out HSL.out F22.out.out F23.out.out)
 obtain ⟨k,hk⟩:∃ k,qM7 E cs r x=k:=⟨_,rfl⟩
 obtain ⟨iv,hiv⟩:∃ v,ifz k r.i=v:=⟨_,rfl⟩
 obtain ⟨uv,huv⟩:∃ v,ifz k (r.u+x)=v:=⟨_,rfl⟩
 obtain ⟨S,hS⟩:∃ S,ifl k (qI2 r x)=S:=⟨_,rfl⟩
 obtain ⟨L,hL⟩:∃ L,ifl k (qG6 E r x)=L:=⟨_,rfl⟩
 obtain ⟨n1,hn1e⟩:∃ m,S.length=m:=⟨_,rfl⟩
 obtain ⟨m1,hm1e⟩:∃ m,L.length=m:=⟨_,rfl⟩
 have HLN:Hid (S.length=n1∧L.length=m1):=⟨hn1e,hm1e⟩
 have hn1:n1≤1048576:=by have:=crS_len k r x HSL.out.1 hsn2;rw [hS] at this;omega
 have hm1:m1≤1048576:=by have:=crL_len E cs r x HSL.out.1;rw [hk,hL] at this;omega
 have hn1':(n1:Int)≤1048576:=by omega
 have hm1':(m1:Int)≤1048576:=by omega
 rw [hk,hiv,huv,hS,hL] at HSP
 have HIM:Hid (∀ (lo hi Lb:Nat) (y:qF4) (W:World),(qL8 0 W∧qD6 W)→qF1 W Lb r y→CpB lo hi n cs W→Calls Tryz.prog 29 #[.agg #[.int .i64 y.i,.int .i64 y.u,.slice y.sa y.sn y.sc,.slice y.la y.ln y.lc],.slice (some ⟨lo,0,none⟩) n n,.int .i64 x] W fun d w'=>RepAll k iv uv S L W d w'):=fun lo hi Lb y W h1 h2 h3=>by
  have:=implCrash_cp x hn HEE.out HRL2.out HSL.out h1 h2 h3
  rw [hk,hiv,huv,hS,hL] at this
  exact this
 clear hEE hk hiv huv hS hL hn1e hm1e
 go_wp2_with fail
 refine (HSP.out).mono ?_
 rintro e w24 ⟨saW,scW,laW,lcW,rfl,ho1,ho2,hb⟩
 have B25:Hid (Below w.heap.size w w24):=B19.out.trans (hb.mono B19.out.size)
 have hz26:=hb.size
 have F27:Hid (qB9 (w.heap.size) (w.heap.size+1) (qE5 (w.heap.size) [.int .i64 r.i,.int .i64 r.u,.slice r.sa r.sn r.sc,.slice r.la r.ln r.lc]) w24):=F21.out.below hb
 have F28:Hid (qK1 (fun X=>qF1 X Lb12 r y11) w24):=F22.out.below hb
 have F29:Hid (qK1 (CpB (w13.heap.size) (w18.heap.size) n cs) w24):=F23.out.below hb
 clear B19 F21 F22 F23
 have ho3:qB1 w24 w18.heap.size (.slice saW n1 scW) S:=by have:=ho1;rw [HLN.out.1] at this;exact this
 have ho4:qA1 w24 w18.heap.size (.slice laW m1 lcW) L:=by have:=ho2;rw [HLN.out.2] at this;exact this
 have F30:Hid (qB9 (w18.heap.size) (w24.heap.size) (fun X=>qB1 X w18.heap.size (.slice saW n1 scW) S) w24):=qR5 (by have:=ho3;exact this)
 have hl31:=F30.out.le
 have F32:Hid (qB9 (w18.heap.size) (w24.heap.size) (fun X=>qA1 X w18.heap.size (.slice laW m1 lcW) L) w24):=qR5 (by have:=ho4;exact this)
 have hl33:=F32.out.le
 rw [HLN.out.1,HLN.out.2]
 clear ho1 ho2 ho3 ho4 hb
 go_upto_region 9 with fail
 obtain ⟨w34,hX⟩:∃ X,X=w24.alloc (.cells #[.int .i64 k,.int .i64 iv,.int .i64 uv,.slice saW n1 scW,.slice laW m1 lcW] 47):=⟨_,rfl⟩
 rw [← hX]
 have hb:Below w24.heap.size w24 w34:=by rw [hX];exact zN
 have hbx:qB9 w24.heap.size (w24.heap.size+1) (qE5 w24.heap.size [.int .i64 k,.int .i64 iv,.int .i64 uv,.slice saW n1 scW,.slice laW m1 lcW]) w34:=by rw [hX];exact qE0 w24 #[.int .i64 k,.int .i64 iv,.int .i64 uv,.slice saW n1 scW,.slice laW m1 lcW] 47
 clear hX
 have B35:Hid (Below w.heap.size w w34):=B25.out.trans (hb.mono B25.out.size)
 have hz36:=hb.size
 have F37:Hid (qB9 (w.heap.size) (w.heap.size+1) (qE5 (w.heap.size) [.int .i64 r.i,.int .i64 r.u,.slice r.sa r.sn r.sc,.slice r.la r.ln r.lc]) w34):=F27.out.below hb
 have F38:Hid (qK1 (fun X=>qF1 X Lb12 r y11) w34):=F28.out.below hb
 have F39:Hid (qK1 (CpB (w13.heap.size) (w18.heap.size) n cs) w34):=F29.out.below hb
 have F40:Hid (qB9 (w18.heap.size) (w24.heap.size) (fun X=>qB1 X w18.heap.size (.slice saW n1 scW) S) w34):=F30.out.below hb
 have F41:Hid (qB9 (w18.heap.size) (w24.heap.size) (fun X=>qA1 X w18.heap.size (.slice laW m1 lcW) L) w34):=F32.out.below hb
 clear B25 F27 F28 F29 F30 F32
 have F42:Hid (qB9 (w24.heap.size) (w24.heap.size+1) (qE5 w24.heap.size [.int .i64 k,.int .i64 iv,.int .i64 uv,.slice saW n1 scW,.slice laW m1 lcW]) w34):=hbx
 have hl43:=F42.out.le
 clear hbx hb
 clear HSP F38 F39
 have hbl0:w.heap.size < w34.heap.size:=by have:=F37.out.le;omega
 have b0:=F37.out.out 0 _ rfl
 have b1:=F37.out.out 1 _ rfl
 have b2:=F37.out.out 2 _ rfl
 have b3:=F37.out.out 3 _ rfl
 go_wp2_with fail
 refine (qW7 r _ HRL2.out (HRI.out.below B35.out)).mono ?_
 rintro e w46 ⟨y44,Lb45,rfl,hLb,hy,hb⟩
 have B47:Hid (Below w.heap.size w w46):=B35.out.trans (hb.mono B35.out.size)
 have hz48:=hb.size
 have F49:Hid (qB9 (w.heap.size) (w.heap.size+1) (qE5 (w.heap.size) [.int .i64 r.i,.int .i64 r.u,.slice r.sa r.sn r.sc,.slice r.la r.ln r.lc]) w46):=F37.out.below hb
 have F50:Hid (qB9 (w18.heap.size) (w24.heap.size) (fun X=>qB1 X w18.heap.size (.slice saW n1 scW) S) w46):=F40.out.below hb
 have F51:Hid (qB9 (w18.heap.size) (w24.heap.size) (fun X=>qA1 X w18.heap.size (.slice laW m1 lcW) L) w46):=F41.out.below hb
 have F52:Hid (qB9 (w24.heap.size) (w24.heap.size+1) (qE5 w24.heap.size [.int .i64 k,.int .i64 iv,.int .i64 uv,.slice saW n1 scW,.slice laW m1 lcW]) w46):=F42.out.below hb
 clear B35 F37 F40 F41 F42
 clear hb b0 b1 b2 b3 hbl0
 have F53:Hid (qK1 (fun X=>qF1 X Lb45 r y44) w46):=⟨hy,fun X X' h hb=>h.below hb⟩
 obtain ⟨xg0,hxg0⟩:∃ g,g=w34.heap.size:=⟨_,rfl⟩
 obtain ⟨xh0,hxh0⟩:∃ g,g=w46.heap.size:=⟨_,rfl⟩
 have HH0:Hid ((∀ g,y44.la=some ⟨g,0,none⟩→g < xh0)∧Lb45 < xh0∧xg0≤Lb45):=⟨fun g e=>by obtain ⟨b0,o0,e1,h1⟩:=newAt hy _ e;cases e1;omega,by have:=hy.slt;omega,by omega⟩
 have hgx0:w34.heap.size≤xg0∧xg0 < xh0∧xh0≤w46.heap.size:=by have:=HH0.out.2;omega
 clear hy hxg0 hxh0 hLb
 go_upto_region 10 with fail
 obtain ⟨w54,hX⟩:∃ X,X=w46.alloc (.cells #[.int .i64 y44.i,.int .i64 y44.u,.slice y44.sa y44.sn y44.sc,.slice y44.la y44.ln y44.lc] 33):=⟨_,rfl⟩
 rw [← hX]
 have hb:Below w46.heap.size w46 w54:=by rw [hX];exact zN
 have hbx:qB9 w46.heap.size (w46.heap.size+1) (qE5 w46.heap.size [.int .i64 y44.i,.int .i64 y44.u,.slice y44.sa y44.sn y44.sc,.slice y44.la y44.ln y44.lc]) w54:=by rw [hX];exact qE0 w46 #[.int .i64 y44.i,.int .i64 y44.u,.slice y44.sa y44.sn y44.sc,.slice y44.la y44.ln y44.lc] 33
 clear hX
 have B55:Hid (Below w.heap.size w w54):=B47.out.trans (hb.mono B47.out.size)
 have hz56:=hb.size
 have F57:Hid (qB9 (w.heap.size) (w.heap.size+1) (qE5 (w.heap.size) [.int .i64 r.i,.int .i64 r.u,.slice r.sa r.sn r.sc,.slice r.la r.ln r.lc]) w54):=F49.out.below hb
 have F58:Hid (qB9 (w18.heap.size) (w24.heap.size) (fun X=>qB1 X w18.heap.size (.slice saW n1 scW) S) w54):=F50.out.below hb
 have F59:Hid (qB9 (w18.heap.size) (w24.heap.size) (fun X=>qA1 X w18.heap.size (.slice laW m1 lcW) L) w54):=F51.out.below hb
 have F60:Hid (qB9 (w24.heap.size) (w24.heap.size+1) (qE5 w24.heap.size [.int .i64 k,.int .i64 iv,.int .i64 uv,.slice saW n1 scW,.slice laW m1 lcW]) w54):=F52.out.below hb
 have F61:Hid (qK1 (fun X=>qF1 X Lb45 r y44) w54):=F53.out.below hb
 clear B47 F49 F50 F51 F52 F53
 have F62:Hid (qB9 (w46.heap.size) (w46.heap.size+1) (qE5 w46.heap.size [.int .i64 y44.i,.int .i64 y44.u,.slice y44.sa y44.sn y44.sc,.slice y44.la y44.ln y44.lc]) w54):=hbx
 have hl63:=F62.out.le
 clear hbx hb
 go_wp2_with fail
 refine (qW8 a n cap cs _ hn HLE1.out (HCI.out.below B55.out)).mono ?_
 rintro e w64 ⟨rfl,dsT,hct⟩
 have hb:=hct.bl
 have hlt:=hct.lt
 have B65:Hid (Below w.heap.size w w64):=B55.out.trans (hb.mono B55.out.size)
 have hz66:=hb.size
 have F67:Hid (qB9 (w.heap.size) (w.heap.size+1) (qE5 (w.heap.size) [.int .i64 r.i,.int .i64 r.u,.slice r.sa r.sn r.sc,.slice r.la r.ln r.lc]) w64):=F57.out.below hb
 have F68:Hid (qB9 (w18.heap.size) (w24.heap.size) (fun X=>qB1 X w18.heap.size (.slice saW n1 scW) S) w64):=F58.out.below hb
 have F69:Hid (qB9 (w18.heap.size) (w24.heap.size) (fun X=>qA1 X w18.heap.size (.slice laW m1 lcW) L) w64):=F59.out.below hb
 have F70:Hid (qB9 (w24.heap.size) (w24.heap.size+1) (qE5 w24.heap.size [.int .i64 k,.int .i64 iv,.int .i64 uv,.slice saW n1 scW,.slice laW m1 lcW]) w64):=F60.out.below hb
 have F71:Hid (qK1 (fun X=>qF1 X Lb45 r y44) w64):=F61.out.below hb
 have F72:Hid (qB9 (w46.heap.size) (w46.heap.size+1) (qE5 w46.heap.size [.int .i64 y44.i,.int .i64 y44.u,.slice y44.sa y44.sn y44.sc,.slice y44.la y44.ln y44.lc]) w64):=F62.out.below hb
 clear B55 F57 F58 F59 F60 F61 F62
 obtain ⟨xg1,hxg1⟩:∃ g,g=w54.heap.size:=⟨_,rfl⟩
 obtain ⟨xh1,hxh1⟩:∃ g,g=w64.heap.size:=⟨_,rfl⟩
 have hgx1:w54.heap.size≤xg1∧xg1 < xh1∧xh1≤w64.heap.size:=by omega
 have F73:Hid (qK1 (CpB xg1 xh1 n cs) w64):=by rw [hxg1,hxh1];exact hct.cpB hn HCI.out HLE1.out
 have F74:Hid (qB9 (xg1) (xh1) (fun X=>∃ ds,TabL xg1 xh1 X xg1 n ds) w64):=by rw [hxg1,hxh1];exact hct.tabH hn HCI.out HLE1.out
 have hl75:=F74.out.le
 rw [← hxg1]
 clear hb hlt hct hxg1 hxh1
 have hxbl:w46.heap.size < w64.heap.size:=by have:=F72.out.le;omega
 have xb0:=F72.out.out 0 _ rfl
 have xb1:=F72.out.out 1 _ rfl
 have xb2:=F72.out.out 2 _ rfl
 have xb3:=F72.out.out 3 _ rfl
 go_wp2_with fail
 refine (HIM.out _ _ _ _ _ ⟨HER.out.1.below B65.out,HER.out.2.below B65.out⟩ F71.out.out F73.out.out).mono ?_
 rintro e w76 ⟨saI,scI,laI,lcI,rfl,ho1,ho2,hb⟩
 have B77:Hid (Below w.heap.size w w76):=B65.out.trans (hb.mono B65.out.size)
 have hz78:=hb.size
 have F79:Hid (qB9 (w.heap.size) (w.heap.size+1) (qE5 (w.heap.size) [.int .i64 r.i,.int .i64 r.u,.slice r.sa r.sn r.sc,.slice r.la r.ln r.lc]) w76):=F67.out.below hb
 have F80:Hid (qB9 (w18.heap.size) (w24.heap.size) (fun X=>qB1 X w18.heap.size (.slice saW n1 scW) S) w76):=F68.out.below hb
 have F81:Hid (qB9 (w18.heap.size) (w24.heap.size) (fun X=>qA1 X w18.heap.size (.slice laW m1 lcW) L) w76):=F69.out.below hb
 have F82:Hid (qB9 (w24.heap.size) (w24.heap.size+1) (qE5 w24.heap.size [.int .i64 k,.int .i64 iv,.int .i64 uv,.slice saW n1 scW,.slice laW m1 lcW]) w76):=F70.out.below hb
 have F83:Hid (qK1 (fun X=>qF1 X Lb45 r y44) w76):=F71.out.below hb
 have F84:Hid (qB9 (w46.heap.size) (w46.heap.size+1) (qE5 w46.heap.size [.int .i64 y44.i,.int .i64 y44.u,.slice y44.sa y44.sn y44.sc,.slice y44.la y44.ln y44.lc]) w76):=F72.out.below hb
 have F85:Hid (qK1 (CpB xg1 xh1 n cs) w76):=F73.out.below hb
 have F86:Hid (qB9 (xg1) (xh1) (fun X=>∃ ds,TabL xg1 xh1 X xg1 n ds) w76):=F74.out.below hb
 clear B65 F67 F68 F69 F70 F71 F72 F73 F74
 have ho3:qB1 w76 w64.heap.size (.slice saI n1 scI) S:=by have:=ho1;rw [HLN.out.1] at this;exact this
 have ho4:qA1 w76 w64.heap.size (.slice laI m1 lcI) L:=by have:=ho2;rw [HLN.out.2] at this;exact this
 have F87:Hid (qB9 (w64.heap.size) (w76.heap.size) (fun X=>qB1 X w64.heap.size (.slice saI n1 scI) S) w76):=qR5 (by have:=ho3;exact this)
 have hl88:=F87.out.le
 have F89:Hid (qB9 (w64.heap.size) (w76.heap.size) (fun X=>qA1 X w64.heap.size (.slice laI m1 lcI) L) w76):=qR5 (by have:=ho4;exact this)
 have hl90:=F89.out.le
 rw [HLN.out.1,HLN.out.2]
 have HGI:(∀ g,(Value.slice saI n1 scI).ownBlock=some g→g < w76.heap.size)∧∀ g,(Value.slice laI m1 lcI).ownBlock=some g→g < w76.heap.size:=⟨fun g e=>(QD7 ho3 g e).2,fun g e=>(qS4 ho4 g e).2⟩
 clear ho1 ho2 ho3 ho4 hb
 go_upto_region 12 with fail
 obtain ⟨w91,hX⟩:∃ X,X=w76.alloc (.cells #[.int .i64 k,.int .i64 iv,.int .i64 uv,.slice saI n1 scI,.slice laI m1 lcI] 47):=⟨_,rfl⟩
 rw [← hX]
 have hb:Below w76.heap.size w76 w91:=by rw [hX];exact zN
 have hbx:qB9 w76.heap.size (w76.heap.size+1) (qE5 w76.heap.size [.int .i64 k,.int .i64 iv,.int .i64 uv,.slice saI n1 scI,.slice laI m1 lcI]) w91:=by rw [hX];exact qE0 w76 #[.int .i64 k,.int .i64 iv,.int .i64 uv,.slice saI n1 scI,.slice laI m1 lcI] 47
 clear hX
 have B92:Hid (Below w.heap.size w w91):=B77.out.trans (hb.mono B77.out.size)
 have hz93:=hb.size
 have F94:Hid (qB9 (w.heap.size) (w.heap.size+1) (qE5 (w.heap.size) [.int .i64 r.i,.int .i64 r.u,.slice r.sa r.sn r.sc,.slice r.la r.ln r.lc]) w91):=F79.out.below hb
 have F95:Hid (qB9 (w18.heap.size) (w24.heap.size) (fun X=>qB1 X w18.heap.size (.slice saW n1 scW) S) w91):=F80.out.below hb
 have F96:Hid (qB9 (w18.heap.size) (w24.heap.size) (fun X=>qA1 X w18.heap.size (.slice laW m1 lcW) L) w91):=F81.out.below hb
 have F97:Hid (qB9 (w24.heap.size) (w24.heap.size+1) (qE5 w24.heap.size [.int .i64 k,.int .i64 iv,.int .i64 uv,.slice saW n1 scW,.slice laW m1 lcW]) w91):=F82.out.below hb
 have F98:Hid (qK1 (fun X=>qF1 X Lb45 r y44) w91):=F83.out.below hb
 have F99:Hid (qB9 (w46.heap.size) (w46.heap.size+1) (qE5 w46.heap.size [.int .i64 y44.i,.int .i64 y44.u,.slice y44.sa y44.sn y44.sc,.slice y44.la y44.ln y44.lc]) w91):=F84.out.below hb
 have F100:Hid (qK1 (CpB xg1 xh1 n cs) w91):=F85.out.below hb
 have F101:Hid (qB9 (xg1) (xh1) (fun X=>∃ ds,TabL xg1 xh1 X xg1 n ds) w91):=F86.out.below hb
 have F102:Hid (qB9 (w64.heap.size) (w76.heap.size) (fun X=>qB1 X w64.heap.size (.slice saI n1 scI) S) w91):=F87.out.below hb
 have F103:Hid (qB9 (w64.heap.size) (w76.heap.size) (fun X=>qA1 X w64.heap.size (.slice laI m1 lcI) L) w91):=F89.out.below hb
 clear B77 F79 F80 F81 F82 F83 F84 F85 F86 F87 F89
 have F104:Hid (qB9 (w76.heap.size) (w76.heap.size+1) (qE5 w76.heap.size [.int .i64 k,.int .i64 iv,.int .i64 uv,.slice saI n1 scI,.slice laI m1 lcI]) w91):=hbx
 have hl105:=F104.out.le
 clear hbx hb
 clear xb0 xb1 xb2 xb3 hxbl
 have hpl:w76.heap.size < w91.heap.size:=by have:=F104.out.le;omega
 have p0:=F104.out.out 0 _ rfl
 have p1:=F104.out.out 1 _ rfl
 have p2:=F104.out.out 2 _ rfl
 have p3:=F104.out.out 3 _ rfl
 have p4:=F104.out.out 4 _ rfl
 have hql:w24.heap.size < w91.heap.size:=by have:=F97.out.le;omega
 have q0:=F97.out.out 0 _ rfl
 have q1:=F97.out.out 1 _ rfl
 have q2:=F97.out.out 2 _ rfl
 have q3:=F97.out.out 3 _ rfl
 have q4:=F97.out.out 4 _ rfl
 go_wp2_with fail
 refine (qZ4 k iv uv saI saW n1 scI scW S laI laW m1 lcI lcW L _ hn1 hm1 ((qB1.view F102.out.out).isIn HLN.out.1) ((qB1.view F95.out.out).isIn HLN.out.1) ((qA1.view F103.out.out).isIn HLN.out.2) ((qA1.view F96.out.out).isIn HLN.out.2)).mono ?_
 rintro e w106 ⟨rfl,hb⟩
 clear p0 p1 p2 p3 p4 hpl q0 q1 q2 q3 q4 hql
 have B107:Hid (Below w.heap.size w w106):=B92.out.trans (hb.mono B92.out.size)
 have hz108:=hb.size
 have F109:Hid (qB9 (w.heap.size) (w.heap.size+1) (qE5 (w.heap.size) [.int .i64 r.i,.int .i64 r.u,.slice r.sa r.sn r.sc,.slice r.la r.ln r.lc]) w106):=F94.out.below hb
 have F110:Hid (qB9 (w18.heap.size) (w24.heap.size) (fun X=>qB1 X w18.heap.size (.slice saW n1 scW) S) w106):=F95.out.below hb
 have F111:Hid (qB9 (w18.heap.size) (w24.heap.size) (fun X=>qA1 X w18.heap.size (.slice laW m1 lcW) L) w106):=F96.out.below hb
 have F112:Hid (qB9 (w24.heap.size) (w24.heap.size+1) (qE5 w24.heap.size [.int .i64 k,.int .i64 iv,.int .i64 uv,.slice saW n1 scW,.slice laW m1 lcW]) w106):=F97.out.below hb
 have F113:Hid (qK1 (fun X=>qF1 X Lb45 r y44) w106):=F98.out.below hb
 have F114:Hid (qB9 (w46.heap.size) (w46.heap.size+1) (qE5 w46.heap.size [.int .i64 y44.i,.int .i64 y44.u,.slice y44.sa y44.sn y44.sc,.slice y44.la y44.ln y44.lc]) w106):=F99.out.below hb
 have F115:Hid (qK1 (CpB xg1 xh1 n cs) w106):=F100.out.below hb
 have F116:Hid (qB9 (xg1) (xh1) (fun X=>∃ ds,TabL xg1 xh1 X xg1 n ds) w106):=F101.out.below hb
 have F117:Hid (qB9 (w64.heap.size) (w76.heap.size) (fun X=>qB1 X w64.heap.size (.slice saI n1 scI) S) w106):=F102.out.below hb
 have F118:Hid (qB9 (w64.heap.size) (w76.heap.size) (fun X=>qA1 X w64.heap.size (.slice laI m1 lcI) L) w106):=F103.out.below hb
 have F119:Hid (qB9 (w76.heap.size) (w76.heap.size+1) (qE5 w76.heap.size [.int .i64 k,.int .i64 iv,.int .i64 uv,.slice saI n1 scI,.slice laI m1 lcI]) w106):=F104.out.below hb
 clear B92 F94 F95 F96 F97 F98 F99 F100 F101 F102 F103 F104
 clear hb
 have hbl0:w.heap.size < w106.heap.size:=by have:=F109.out.le;omega
 have b0:=F109.out.out 0 _ rfl
 have b1:=F109.out.out 1 _ rfl
 have b2:=F109.out.out 2 _ rfl
 have b3:=F109.out.out 3 _ rfl
 have hxbl:w46.heap.size < w106.heap.size:=by have:=F114.out.le;omega
 have xb0:=F114.out.out 0 _ rfl
 have xb1:=F114.out.out 1 _ rfl
 have xb2:=F114.out.out 2 _ rfl
 have xb3:=F114.out.out 3 _ rfl
 have HBV:Hid (∀ w2,Below w106.heap.size w106 w2→Below w.heap.size w w2):=fun w2 q=>B107.out.trans (q.mono B107.out.size)
 have HCQ:Hid (qK1 (fun X=>qF1 X Lb45 r y44) w106):=⟨F113.out.out,fun X X' h hb=>h.below hb⟩
 go_upto_region 14 with fail
 refine wp_region_held_drew (S:=fun w'=>(∀ b o,b < w106.heap.size→w'.cell? ⟨b,o,none⟩=w106.cell? ⟨b,o,none⟩)∧Below w106.heap.size w106 w') (by kernel_rfl) (qB6 _) (fun hHeld=>?_)
 refine Zk.go [0,1] ?_
 iterate 2
  refine Zk.st (v:=?_) rfl ?_ ?_
  rotate_left 1
  ·intro w hSw;(try dsimp only at hSw);go_simp;try (with_reducible rfl)
  try simp only [Act.put,zA,zB,zC,zD,zE,zF]
 refine Zk.fin ?_
 refine Zk.rd (i:=2) rfl (fun K hK=>?_)
 go_simp
 refine (qW7 r _ HRL2.out (HRI.out.below (HBV.out _ hHeld.2))).mono ?_
 rintro d wA ⟨y3,L3,rfl,hL3,hy3,hbA⟩
 have hS:=qA7 hHeld hbA
 have Y3:=qC2 hy3
 clear hy3
 refine hK.out _ _ hS (fun hHeld=>?_)
 clear hK K
 try simp only [Act.put,zA,zB,zC,zD,zE,zF]
 refine Zk.rd (i:=3) rfl (fun K hK=>?_)
 go_simp
 refine (eqCopies _ (HCQ.out.below hHeld.2).out Y3.out HSL.out HRL2.out).mono ?_
 rintro d wB ⟨rfl,hbB⟩
 have hS:=qA7 hHeld hbB
 refine hK.out _ _ hS (fun hHeld=>?_)
 clear hK K
 try simp only [Act.put,zA,zB,zC,zD,zE,zF]
 refine Zk.go [4] ?_
 refine Zk.st (v:=?_) rfl ?_ ?_
 rotate_left 1
 ·intro w hSw;(try dsimp only at hSw);go_simp;try (with_reducible rfl)
 try simp only [Act.put,zA,zB,zC,zD,zE,zF]
 refine Zk.fin ?_
 refine wpAnyH_done (by kernel_rfl) ?_ _
 have hbK:=hS.2
 clear hS hbB hbA hHeld Y3 hL3 HBV HCQ b0 b1 b2 b3 hbl0 xb0 xb1 xb2 xb3 hxbl
 have B120:Hid (Below w.heap.size w wB):=B107.out.trans (hbK.mono B107.out.size)
 have hz121:=hbK.size
 have F122:Hid (qB9 (w.heap.size) (w.heap.size+1) (qE5 (w.heap.size) [.int .i64 r.i,.int .i64 r.u,.slice r.sa r.sn r.sc,.slice r.la r.ln r.lc]) wB):=F109.out.below hbK
 have F123:Hid (qB9 (w18.heap.size) (w24.heap.size) (fun X=>qB1 X w18.heap.size (.slice saW n1 scW) S) wB):=F110.out.below hbK
 have F124:Hid (qB9 (w18.heap.size) (w24.heap.size) (fun X=>qA1 X w18.heap.size (.slice laW m1 lcW) L) wB):=F111.out.below hbK
 have F125:Hid (qB9 (w24.heap.size) (w24.heap.size+1) (qE5 w24.heap.size [.int .i64 k,.int .i64 iv,.int .i64 uv,.slice saW n1 scW,.slice laW m1 lcW]) wB):=F112.out.below hbK
 have F126:Hid (qK1 (fun X=>qF1 X Lb45 r y44) wB):=F113.out.below hbK
 have F127:Hid (qB9 (w46.heap.size) (w46.heap.size+1) (qE5 w46.heap.size [.int .i64 y44.i,.int .i64 y44.u,.slice y44.sa y44.sn y44.sc,.slice y44.la y44.ln y44.lc]) wB):=F114.out.below hbK
 have F128:Hid (qK1 (CpB xg1 xh1 n cs) wB):=F115.out.below hbK
 have F129:Hid (qB9 (xg1) (xh1) (fun X=>∃ ds,TabL xg1 xh1 X xg1 n ds) wB):=F116.out.below hbK
 have F130:Hid (qB9 (w64.heap.size) (w76.heap.size) (fun X=>qB1 X w64.heap.size (.slice saI n1 scI) S) wB):=F117.out.below hbK
 have F131:Hid (qB9 (w64.heap.size) (w76.heap.size) (fun X=>qA1 X w64.heap.size (.slice laI m1 lcI) L) wB):=F118.out.below hbK
 have F132:Hid (qB9 (w76.heap.size) (w76.heap.size+1) (qE5 w76.heap.size [.int .i64 k,.int .i64 iv,.int .i64 uv,.slice saI n1 scI,.slice laI m1 lcI]) wB):=F119.out.below hbK
 clear B107 F109 F110 F111 F112 F113 F114 F115 F116 F117 F118 F119
 clear hbK
 go_wp2_with fail
 refine (qW8 a n cap cs _ hn HLE1.out (HCI.out.below B120.out)).mono ?_
 rintro e w133 ⟨rfl,dsT,hct⟩
 have hb:=hct.bl
 have hlt:=hct.lt
 have B134:Hid (Below w.heap.size w w133):=B120.out.trans (hb.mono B120.out.size)
 have hz135:=hb.size
 have F136:Hid (qB9 (w.heap.size) (w.heap.size+1) (qE5 (w.heap.size) [.int .i64 r.i,.int .i64 r.u,.slice r.sa r.sn r.sc,.slice r.la r.ln r.lc]) w133):=F122.out.below hb
 have F137:Hid (qB9 (w18.heap.size) (w24.heap.size) (fun X=>qB1 X w18.heap.size (.slice saW n1 scW) S) w133):=F123.out.below hb
 have F138:Hid (qB9 (w18.heap.size) (w24.heap.size) (fun X=>qA1 X w18.heap.size (.slice laW m1 lcW) L) w133):=F124.out.below hb
 have F139:Hid (qB9 (w24.heap.size) (w24.heap.size+1) (qE5 w24.heap.size [.int .i64 k,.int .i64 iv,.int .i64 uv,.slice saW n1 scW,.slice laW m1 lcW]) w133):=F125.out.below hb
 have F140:Hid (qK1 (fun X=>qF1 X Lb45 r y44) w133):=F126.out.below hb
 have F141:Hid (qB9 (w46.heap.size) (w46.heap.size+1) (qE5 w46.heap.size [.int .i64 y44.i,.int .i64 y44.u,.slice y44.sa y44.sn y44.sc,.slice y44.la y44.ln y44.lc]) w133):=F127.out.below hb
 have F142:Hid (qK1 (CpB xg1 xh1 n cs) w133):=F128.out.below hb
 have F143:Hid (qB9 (xg1) (xh1) (fun X=>∃ ds,TabL xg1 xh1 X xg1 n ds) w133):=F129.out.below hb
 have F144:Hid (qB9 (w64.heap.size) (w76.heap.size) (fun X=>qB1 X w64.heap.size (.slice saI n1 scI) S) w133):=F130.out.below hb
 have F145:Hid (qB9 (w64.heap.size) (w76.heap.size) (fun X=>qA1 X w64.heap.size (.slice laI m1 lcI) L) w133):=F131.out.below hb
 have F146:Hid (qB9 (w76.heap.size) (w76.heap.size+1) (qE5 w76.heap.size [.int .i64 k,.int .i64 iv,.int .i64 uv,.slice saI n1 scI,.slice laI m1 lcI]) w133):=F132.out.below hb
 clear B120 F122 F123 F124 F125 F126 F127 F128 F129 F130 F131 F132
 have F147:Hid (qK1 (CpB (wB.heap.size) (w133.heap.size) n cs) w133):=hct.cpB hn HCI.out HLE1.out
 clear hb hct hlt
 go_wp2_with fail
 refine (eqCpB_c _ _ hn F142.out.out F147.out.out).mono ?_
 rintro e w148 ⟨rfl,hb⟩
 clear F147
 have B149:Hid (Below w.heap.size w w148):=B134.out.trans (hb.mono B134.out.size)
 have hz150:=hb.size
 have F151:Hid (qB9 (w.heap.size) (w.heap.size+1) (qE5 (w.heap.size) [.int .i64 r.i,.int .i64 r.u,.slice r.sa r.sn r.sc,.slice r.la r.ln r.lc]) w148):=F136.out.below hb
 have F152:Hid (qB9 (w18.heap.size) (w24.heap.size) (fun X=>qB1 X w18.heap.size (.slice saW n1 scW) S) w148):=F137.out.below hb
 have F153:Hid (qB9 (w18.heap.size) (w24.heap.size) (fun X=>qA1 X w18.heap.size (.slice laW m1 lcW) L) w148):=F138.out.below hb
 have F154:Hid (qB9 (w24.heap.size) (w24.heap.size+1) (qE5 w24.heap.size [.int .i64 k,.int .i64 iv,.int .i64 uv,.slice saW n1 scW,.slice laW m1 lcW]) w148):=F139.out.below hb
 have F155:Hid (qK1 (fun X=>qF1 X Lb45 r y44) w148):=F140.out.below hb
 have F156:Hid (qB9 (w46.heap.size) (w46.heap.size+1) (qE5 w46.heap.size [.int .i64 y44.i,.int .i64 y44.u,.slice y44.sa y44.sn y44.sc,.slice y44.la y44.ln y44.lc]) w148):=F141.out.below hb
 have F157:Hid (qK1 (CpB xg1 xh1 n cs) w148):=F142.out.below hb
 have F158:Hid (qB9 (xg1) (xh1) (fun X=>∃ ds,TabL xg1 xh1 X xg1 n ds) w148):=F143.out.below hb
 have F159:Hid (qB9 (w64.heap.size) (w76.heap.size) (fun X=>qB1 X w64.heap.size (.slice saI n1 scI) S) w148):=F144.out.below hb
 have F160:Hid (qB9 (w64.heap.size) (w76.heap.size) (fun X=>qA1 X w64.heap.size (.slice laI m1 lcI) L) w148):=F145.out.below hb
 have F161:Hid (qB9 (w76.heap.size) (w76.heap.size+1) (qE5 w76.heap.size [.int .i64 k,.int .i64 iv,.int .i64 uv,.slice saI n1 scI,.slice laI m1 lcI]) w148):=F146.out.below hb
 clear B134 F136 F137 F138 F139 F140 F141 F142 F143 F144 F145 F146
 clear hb
 have hNB:w.heap.size≤w148.heap.size:=B149.out.size
 have hxbl:w46.heap.size < w148.heap.size:=by have:=F156.out.le;omega
 have xb0:=F156.out.out 0 _ rfl
 have xb1:=F156.out.out 1 _ rfl
 have xb2:=F156.out.out 2 _ rfl
 have xb3:=F156.out.out 3 _ rfl
 go_wp2_with fail
 refine (markCopy_c xg0 xh0 Lb45 r y44 _ HRL2.out F155.out.out HH0.out.2.2 HH0.out.1 HH0.out.2.1).mono ?_
 rintro e w162 ⟨rfl,hch⟩
 clear xb0 xb1 xb2 xb3 hxbl
 have B163:Hid (Below w.heap.size w w162):=QN9 B149.out hch (by have:=hNB;omega) B149.out.size
 have hz164:=hch.size
 have F165:Hid (qB9 (w.heap.size) (w.heap.size+1) (qE5 (w.heap.size) [.int .i64 r.i,.int .i64 r.u,.slice r.sa r.sn r.sc,.slice r.la r.ln r.lc]) w162):=F151.out.chg hch (by omega)
 have F166:Hid (qB9 (w18.heap.size) (w24.heap.size) (fun X=>qB1 X w18.heap.size (.slice saW n1 scW) S) w162):=F152.out.chg hch (by omega)
 have F167:Hid (qB9 (w18.heap.size) (w24.heap.size) (fun X=>qA1 X w18.heap.size (.slice laW m1 lcW) L) w162):=F153.out.chg hch (by omega)
 have F168:Hid (qB9 (w24.heap.size) (w24.heap.size+1) (qE5 w24.heap.size [.int .i64 k,.int .i64 iv,.int .i64 uv,.slice saW n1 scW,.slice laW m1 lcW]) w162):=F154.out.chg hch (by omega)
 have F169:Hid (qB9 (w46.heap.size) (w46.heap.size+1) (qE5 w46.heap.size [.int .i64 y44.i,.int .i64 y44.u,.slice y44.sa y44.sn y44.sc,.slice y44.la y44.ln y44.lc]) w162):=F156.out.chg hch (by omega)
 have F170:Hid (qB9 (xg1) (xh1) (fun X=>∃ ds,TabL xg1 xh1 X xg1 n ds) w162):=F158.out.chg hch (by omega)
 have F171:Hid (qB9 (w64.heap.size) (w76.heap.size) (fun X=>qB1 X w64.heap.size (.slice saI n1 scI) S) w162):=F159.out.chg hch (by omega)
 have F172:Hid (qB9 (w64.heap.size) (w76.heap.size) (fun X=>qA1 X w64.heap.size (.slice laI m1 lcI) L) w162):=F160.out.chg hch (by omega)
 have F173:Hid (qB9 (w76.heap.size) (w76.heap.size+1) (qE5 w76.heap.size [.int .i64 k,.int .i64 iv,.int .i64 uv,.slice saI n1 scI,.slice laI m1 lcI]) w162):=F161.out.chg hch (by omega)
 clear B149 F151 F152 F153 F154 F156 F158 F159 F160 F161 F155
 clear hch F157
 have hsnI:(r.sn:Int)≤1048576:=by omega
 have hlnI:(r.ln:Int)≤1048576:=by omega
 go_wp2_with fail
 refine (markTab_c _ (1+5 * (r.sn:Int)+4 * (r.ln:Int)) hn (by omega) (by omega) F170.out.out).mono ?_
 rintro e w174 ⟨kk,rfl,hkk,hch⟩
 have B175:Hid (Below w.heap.size w w174):=QN9 B163.out hch (by have:=hNB;omega) B163.out.size
 have hz176:=hch.size
 have F177:Hid (qB9 (w.heap.size) (w.heap.size+1) (qE5 (w.heap.size) [.int .i64 r.i,.int .i64 r.u,.slice r.sa r.sn r.sc,.slice r.la r.ln r.lc]) w174):=F165.out.chg hch (by omega)
 have F178:Hid (qB9 (w18.heap.size) (w24.heap.size) (fun X=>qB1 X w18.heap.size (.slice saW n1 scW) S) w174):=F166.out.chg hch (by omega)
 have F179:Hid (qB9 (w18.heap.size) (w24.heap.size) (fun X=>qA1 X w18.heap.size (.slice laW m1 lcW) L) w174):=F167.out.chg hch (by omega)
 have F180:Hid (qB9 (w24.heap.size) (w24.heap.size+1) (qE5 w24.heap.size [.int .i64 k,.int .i64 iv,.int .i64 uv,.slice saW n1 scW,.slice laW m1 lcW]) w174):=F168.out.chg hch (by omega)
 have F181:Hid (qB9 (w46.heap.size) (w46.heap.size+1) (qE5 w46.heap.size [.int .i64 y44.i,.int .i64 y44.u,.slice y44.sa y44.sn y44.sc,.slice y44.la y44.ln y44.lc]) w174):=F169.out.chg hch (by omega)
 have F182:Hid (qB9 (w64.heap.size) (w76.heap.size) (fun X=>qB1 X w64.heap.size (.slice saI n1 scI) S) w174):=F171.out.chg hch (by omega)
 have F183:Hid (qB9 (w64.heap.size) (w76.heap.size) (fun X=>qA1 X w64.heap.size (.slice laI m1 lcI) L) w174):=F172.out.chg hch (by omega)
 have F184:Hid (qB9 (w76.heap.size) (w76.heap.size+1) (qE5 w76.heap.size [.int .i64 k,.int .i64 iv,.int .i64 uv,.slice saI n1 scI,.slice laI m1 lcI]) w174):=F173.out.chg hch (by omega)
 clear B163 F165 F166 F167 F168 F169 F171 F172 F173 F170
 clear hch
 have hk0:decide (kk < 0)=false:=by simp;omega
 have hpl:w76.heap.size < w174.heap.size:=by have:=F184.out.le;omega
 have p0:=F184.out.out 0 _ rfl
 have p1:=F184.out.out 1 _ rfl
 have p2:=F184.out.out 2 _ rfl
 have p3:=F184.out.out 3 _ rfl
 have p4:=F184.out.out 4 _ rfl
 have hql:w24.heap.size < w174.heap.size:=by have:=F180.out.le;omega
 have q0:=F180.out.out 0 _ rfl
 have q1:=F180.out.out 1 _ rfl
 have q2:=F180.out.out 2 _ rfl
 have q3:=F180.out.out 3 _ rfl
 have q4:=F180.out.out 4 _ rfl
 go_wp2_with fail
 refine (qZ4 k iv uv saI saW n1 scI scW S laI laW m1 lcI lcW L _ hn1 hm1 ((qB1.view F182.out.out).isIn HLN.out.1) ((qB1.view F178.out.out).isIn HLN.out.1) ((qA1.view F183.out.out).isIn HLN.out.2) ((qA1.view F179.out.out).isIn HLN.out.2)).mono ?_
 rintro e w185 ⟨rfl,hb⟩
 clear p0 p1 p2 p3 p4 hpl q0 q1 q2 q3 q4 hql
 have B186:Hid (Below w.heap.size w w185):=B175.out.trans (hb.mono B175.out.size)
 have hz187:=hb.size
 have F188:Hid (qB9 (w.heap.size) (w.heap.size+1) (qE5 (w.heap.size) [.int .i64 r.i,.int .i64 r.u,.slice r.sa r.sn r.sc,.slice r.la r.ln r.lc]) w185):=F177.out.below hb
 have F189:Hid (qB9 (w18.heap.size) (w24.heap.size) (fun X=>qB1 X w18.heap.size (.slice saW n1 scW) S) w185):=F178.out.below hb
 have F190:Hid (qB9 (w18.heap.size) (w24.heap.size) (fun X=>qA1 X w18.heap.size (.slice laW m1 lcW) L) w185):=F179.out.below hb
 have F191:Hid (qB9 (w24.heap.size) (w24.heap.size+1) (qE5 w24.heap.size [.int .i64 k,.int .i64 iv,.int .i64 uv,.slice saW n1 scW,.slice laW m1 lcW]) w185):=F180.out.below hb
 have F192:Hid (qB9 (w46.heap.size) (w46.heap.size+1) (qE5 w46.heap.size [.int .i64 y44.i,.int .i64 y44.u,.slice y44.sa y44.sn y44.sc,.slice y44.la y44.ln y44.lc]) w185):=F181.out.below hb
 have F193:Hid (qB9 (w64.heap.size) (w76.heap.size) (fun X=>qB1 X w64.heap.size (.slice saI n1 scI) S) w185):=F182.out.below hb
 have F194:Hid (qB9 (w64.heap.size) (w76.heap.size) (fun X=>qA1 X w64.heap.size (.slice laI m1 lcI) L) w185):=F183.out.below hb
 have F195:Hid (qB9 (w76.heap.size) (w76.heap.size+1) (qE5 w76.heap.size [.int .i64 k,.int .i64 iv,.int .i64 uv,.slice saI n1 scI,.slice laI m1 lcI]) w185):=F184.out.below hb
 clear B175 F177 F178 F179 F180 F181 F182 F183 F184
 clear hb
 have hpl:w76.heap.size < w185.heap.size:=by have:=F195.out.le;omega
 have p0:=F195.out.out 0 _ rfl
 have p1:=F195.out.out 1 _ rfl
 have p2:=F195.out.out 2 _ rfl
 have p3:=F195.out.out 3 _ rfl
 have p4:=F195.out.out 4 _ rfl
 have GI:Hid ((∀ g,(Value.slice saI n1 scI).ownBlock=some g→g < w76.heap.size)∧∀ g,(Value.slice laI m1 lcI).ownBlock=some g→g < w76.heap.size):=HGI
 go_wp2_with fail
 refine (markRepR_c w64.heap.size w76.heap.size k iv uv saI n1 scI S laI m1 lcI L _ HLN.out.1.symm HLN.out.2.symm hn1 hm1 F193.out.out F194.out.out GI.out.1 GI.out.2).mono ?_
 rintro e w196 ⟨rfl,ho1,ho2,hch⟩
 clear p0 p1 p2 p3 p4 hpl
 have B197:Hid (Below w.heap.size w w196):=QN9 B186.out hch (by have:=hNB;omega) B186.out.size
 have hz198:=hch.size
 have F199:Hid (qB9 (w.heap.size) (w.heap.size+1) (qE5 (w.heap.size) [.int .i64 r.i,.int .i64 r.u,.slice r.sa r.sn r.sc,.slice r.la r.ln r.lc]) w196):=F188.out.chg hch (by omega)
 have F200:Hid (qB9 (w18.heap.size) (w24.heap.size) (fun X=>qB1 X w18.heap.size (.slice saW n1 scW) S) w196):=F189.out.chg hch (by omega)
 have F201:Hid (qB9 (w18.heap.size) (w24.heap.size) (fun X=>qA1 X w18.heap.size (.slice laW m1 lcW) L) w196):=F190.out.chg hch (by omega)
 have F202:Hid (qB9 (w24.heap.size) (w24.heap.size+1) (qE5 w24.heap.size [.int .i64 k,.int .i64 iv,.int .i64 uv,.slice saW n1 scW,.slice laW m1 lcW]) w196):=F191.out.chg hch (by omega)
 have F203:Hid (qB9 (w46.heap.size) (w46.heap.size+1) (qE5 w46.heap.size [.int .i64 y44.i,.int .i64 y44.u,.slice y44.sa y44.sn y44.sc,.slice y44.la y44.ln y44.lc]) w196):=F192.out.chg hch (by omega)
 have F204:Hid (qB9 (w76.heap.size) (w76.heap.size+1) (qE5 w76.heap.size [.int .i64 k,.int .i64 iv,.int .i64 uv,.slice saI n1 scI,.slice laI m1 lcI]) w196):=F195.out.chg hch (by omega)
 clear B186 F188 F189 F190 F191 F192 F195 F193 F194
 have F205:Hid (qB9 (w64.heap.size) (w76.heap.size) (fun X=>qB1 X w64.heap.size (.slice saI n1 scI) (QP1 n1)) w196):=QK7 (by have:=ho1;exact this) _ GI.out.1 (by omega)
 have hl206:=F205.out.le
 have F207:Hid (qB9 (w64.heap.size) (w76.heap.size) (fun X=>qA1 X w64.heap.size (.slice laI m1 lcI) (qU8 (1+5 * n1) m1)) w196):=QK7 (by have:=ho2;exact this) _ GI.out.2 (by omega)
 have hl208:=F207.out.le
 clear ho1 ho2 hch
 have hq0:decide ((1:Int)+5 * (n1:Int)+4 * (m1:Int) < 0)=false:=by simp;omega
 have hpl:w76.heap.size < w196.heap.size:=by have:=F204.out.le;omega
 have p0:=F204.out.out 0 _ rfl
 have p1:=F204.out.out 1 _ rfl
 have p2:=F204.out.out 2 _ rfl
 have p3:=F204.out.out 3 _ rfl
 have p4:=F204.out.out 4 _ rfl
 go_wp2_with fail
 refine (QR9 k iv uv saI n1 scI laI m1 lcI _ hn1 hm1 (qB1.view F205.out.out) (qA1.view F207.out.out)).mono ?_
 rintro e w209 ⟨rfl,hb⟩
 clear p0 p1 p2 p3 p4 hpl
 have B210:Hid (Below w.heap.size w w209):=B197.out.trans (hb.mono B197.out.size)
 have hz211:=hb.size
 have F212:Hid (qB9 (w.heap.size) (w.heap.size+1) (qE5 (w.heap.size) [.int .i64 r.i,.int .i64 r.u,.slice r.sa r.sn r.sc,.slice r.la r.ln r.lc]) w209):=F199.out.below hb
 have F213:Hid (qB9 (w18.heap.size) (w24.heap.size) (fun X=>qB1 X w18.heap.size (.slice saW n1 scW) S) w209):=F200.out.below hb
 have F214:Hid (qB9 (w18.heap.size) (w24.heap.size) (fun X=>qA1 X w18.heap.size (.slice laW m1 lcW) L) w209):=F201.out.below hb
 have F215:Hid (qB9 (w24.heap.size) (w24.heap.size+1) (qE5 w24.heap.size [.int .i64 k,.int .i64 iv,.int .i64 uv,.slice saW n1 scW,.slice laW m1 lcW]) w209):=F202.out.below hb
 have F216:Hid (qB9 (w46.heap.size) (w46.heap.size+1) (qE5 w46.heap.size [.int .i64 y44.i,.int .i64 y44.u,.slice y44.sa y44.sn y44.sc,.slice y44.la y44.ln y44.lc]) w209):=F203.out.below hb
 have F217:Hid (qB9 (w76.heap.size) (w76.heap.size+1) (qE5 w76.heap.size [.int .i64 k,.int .i64 iv,.int .i64 uv,.slice saI n1 scI,.slice laI m1 lcI]) w209):=F204.out.below hb
 have F218:Hid (qB9 (w64.heap.size) (w76.heap.size) (fun X=>qB1 X w64.heap.size (.slice saI n1 scI) (QP1 n1)) w209):=F205.out.below hb
 have F219:Hid (qB9 (w64.heap.size) (w76.heap.size) (fun X=>qA1 X w64.heap.size (.slice laI m1 lcI) (qU8 (1+5 * n1) m1)) w209):=F207.out.below hb
 clear B197 F199 F200 F201 F202 F203 F204 F205 F207
 clear hb
 have hbl0:w.heap.size < w209.heap.size:=by have:=F212.out.le;omega
 have b0:=F212.out.out 0 _ rfl
 have b1:=F212.out.out 1 _ rfl
 have b2:=F212.out.out 2 _ rfl
 have b3:=F212.out.out 3 _ rfl
 go_wp2_with fail
 refine (qW7 r _ HRL2.out (HRI.out.below B210.out)).mono ?_
 rintro e w222 ⟨y220,Lb221,rfl,hLb,hy,hb⟩
 have B223:Hid (Below w.heap.size w w222):=B210.out.trans (hb.mono B210.out.size)
 have hz224:=hb.size
 have F225:Hid (qB9 (w.heap.size) (w.heap.size+1) (qE5 (w.heap.size) [.int .i64 r.i,.int .i64 r.u,.slice r.sa r.sn r.sc,.slice r.la r.ln r.lc]) w222):=F212.out.below hb
 have F226:Hid (qB9 (w18.heap.size) (w24.heap.size) (fun X=>qB1 X w18.heap.size (.slice saW n1 scW) S) w222):=F213.out.below hb
 have F227:Hid (qB9 (w18.heap.size) (w24.heap.size) (fun X=>qA1 X w18.heap.size (.slice laW m1 lcW) L) w222):=F214.out.below hb
 have F228:Hid (qB9 (w24.heap.size) (w24.heap.size+1) (qE5 w24.heap.size [.int .i64 k,.int .i64 iv,.int .i64 uv,.slice saW n1 scW,.slice laW m1 lcW]) w222):=F215.out.below hb
 have F229:Hid (qB9 (w46.heap.size) (w46.heap.size+1) (qE5 w46.heap.size [.int .i64 y44.i,.int .i64 y44.u,.slice y44.sa y44.sn y44.sc,.slice y44.la y44.ln y44.lc]) w222):=F216.out.below hb
 have F230:Hid (qB9 (w76.heap.size) (w76.heap.size+1) (qE5 w76.heap.size [.int .i64 k,.int .i64 iv,.int .i64 uv,.slice saI n1 scI,.slice laI m1 lcI]) w222):=F217.out.below hb
 have F231:Hid (qB9 (w64.heap.size) (w76.heap.size) (fun X=>qB1 X w64.heap.size (.slice saI n1 scI) (QP1 n1)) w222):=F218.out.below hb
 have F232:Hid (qB9 (w64.heap.size) (w76.heap.size) (fun X=>qA1 X w64.heap.size (.slice laI m1 lcI) (qU8 (1+5 * n1) m1)) w222):=F219.out.below hb
 clear B210 F212 F213 F214 F215 F216 F217 F218 F219
 clear hb b0 b1 b2 b3 hbl0
 have F233:Hid (qK1 (fun X=>qF1 X Lb221 r y220) w222):=⟨hy,fun X X' h hb=>h.below hb⟩
 go_wp2_with fail
 refine (qW8 a n cap cs _ hn HLE1.out (HCI.out.below B223.out)).mono ?_
 rintro e w234 ⟨rfl,dsT,hct⟩
 have hb:=hct.bl
 have hlt:=hct.lt
 have B235:Hid (Below w.heap.size w w234):=B223.out.trans (hb.mono B223.out.size)
 have hz236:=hb.size
 have F237:Hid (qB9 (w.heap.size) (w.heap.size+1) (qE5 (w.heap.size) [.int .i64 r.i,.int .i64 r.u,.slice r.sa r.sn r.sc,.slice r.la r.ln r.lc]) w234):=F225.out.below hb
 have F238:Hid (qB9 (w18.heap.size) (w24.heap.size) (fun X=>qB1 X w18.heap.size (.slice saW n1 scW) S) w234):=F226.out.below hb
 have F239:Hid (qB9 (w18.heap.size) (w24.heap.size) (fun X=>qA1 X w18.heap.size (.slice laW m1 lcW) L) w234):=F227.out.below hb
 have F240:Hid (qB9 (w24.heap.size) (w24.heap.size+1) (qE5 w24.heap.size [.int .i64 k,.int .i64 iv,.int .i64 uv,.slice saW n1 scW,.slice laW m1 lcW]) w234):=F228.out.below hb
 have F241:Hid (qB9 (w46.heap.size) (w46.heap.size+1) (qE5 w46.heap.size [.int .i64 y44.i,.int .i64 y44.u,.slice y44.sa y44.sn y44.sc,.slice y44.la y44.ln y44.lc]) w234):=F229.out.below hb
 have F242:Hid (qB9 (w76.heap.size) (w76.heap.size+1) (qE5 w76.heap.size [.int .i64 k,.int .i64 iv,.int .i64 uv,.slice saI n1 scI,.slice laI m1 lcI]) w234):=F230.out.below hb
 have F243:Hid (qB9 (w64.heap.size) (w76.heap.size) (fun X=>qB1 X w64.heap.size (.slice saI n1 scI) (QP1 n1)) w234):=F231.out.below hb
 have F244:Hid (qB9 (w64.heap.size) (w76.heap.size) (fun X=>qA1 X w64.heap.size (.slice laI m1 lcI) (qU8 (1+5 * n1) m1)) w234):=F232.out.below hb
 have F245:Hid (qK1 (fun X=>qF1 X Lb221 r y220) w234):=F233.out.below hb
 clear B223 F225 F226 F227 F228 F229 F230 F231 F232 F233
 have F246:Hid (qK1 (CpB (w222.heap.size) (w234.heap.size) n cs) w234):=hct.cpB hn HCI.out HLE1.out
 clear hb hct hlt
 go_wp2_with fail
 refine (HIM.out _ _ _ _ _ ⟨HER.out.1.below B235.out,HER.out.2.below B235.out⟩ F245.out.out F246.out.out).mono ?_
 rintro e w247 ⟨saH,scH,laH,lcH,rfl,ho1,ho2,hb⟩
 have B248:Hid (Below w.heap.size w w247):=B235.out.trans (hb.mono B235.out.size)
 have hz249:=hb.size
 have F250:Hid (qB9 (w.heap.size) (w.heap.size+1) (qE5 (w.heap.size) [.int .i64 r.i,.int .i64 r.u,.slice r.sa r.sn r.sc,.slice r.la r.ln r.lc]) w247):=F237.out.below hb
 have F251:Hid (qB9 (w18.heap.size) (w24.heap.size) (fun X=>qB1 X w18.heap.size (.slice saW n1 scW) S) w247):=F238.out.below hb
 have F252:Hid (qB9 (w18.heap.size) (w24.heap.size) (fun X=>qA1 X w18.heap.size (.slice laW m1 lcW) L) w247):=F239.out.below hb
 have F253:Hid (qB9 (w24.heap.size) (w24.heap.size+1) (qE5 w24.heap.size [.int .i64 k,.int .i64 iv,.int .i64 uv,.slice saW n1 scW,.slice laW m1 lcW]) w247):=F240.out.below hb
 have F254:Hid (qB9 (w46.heap.size) (w46.heap.size+1) (qE5 w46.heap.size [.int .i64 y44.i,.int .i64 y44.u,.slice y44.sa y44.sn y44.sc,.slice y44.la y44.ln y44.lc]) w247):=F241.out.below hb
 have F255:Hid (qB9 (w76.heap.size) (w76.heap.size+1) (qE5 w76.heap.size [.int .i64 k,.int .i64 iv,.int .i64 uv,.slice saI n1 scI,.slice laI m1 lcI]) w247):=F242.out.below hb
 have F256:Hid (qB9 (w64.heap.size) (w76.heap.size) (fun X=>qB1 X w64.heap.size (.slice saI n1 scI) (QP1 n1)) w247):=F243.out.below hb
 have F257:Hid (qB9 (w64.heap.size) (w76.heap.size) (fun X=>qA1 X w64.heap.size (.slice laI m1 lcI) (qU8 (1+5 * n1) m1)) w247):=F244.out.below hb
 have F258:Hid (qK1 (fun X=>qF1 X Lb221 r y220) w247):=F245.out.below hb
 have F259:Hid (qK1 (CpB (w222.heap.size) (w234.heap.size) n cs) w247):=F246.out.below hb
 clear B235 F237 F238 F239 F240 F241 F242 F243 F244 F245 F246
 have ho3:qB1 w247 w234.heap.size (.slice saH n1 scH) S:=by have:=ho1;rw [HLN.out.1] at this;exact this
 have ho4:qA1 w247 w234.heap.size (.slice laH m1 lcH) L:=by have:=ho2;rw [HLN.out.2] at this;exact this
 have F260:Hid (qB9 (w234.heap.size) (w247.heap.size) (fun X=>qB1 X w234.heap.size (.slice saH n1 scH) S) w247):=qR5 (by have:=ho3;exact this)
 have hl261:=F260.out.le
 have F262:Hid (qB9 (w234.heap.size) (w247.heap.size) (fun X=>qA1 X w234.heap.size (.slice laH m1 lcH) L) w247):=qR5 (by have:=ho4;exact this)
 have hl263:=F262.out.le
 rw [HLN.out.1,HLN.out.2]
 clear ho1 ho2 ho3 ho4 hb
 go_upto_region 32 with fail
 obtain ⟨w264,hX⟩:∃ X,X=w247.alloc (.cells #[.int .i64 k,.int .i64 iv,.int .i64 uv,.slice saH n1 scH,.slice laH m1 lcH] 47):=⟨_,rfl⟩
 rw [← hX]
 have hb:Below w247.heap.size w247 w264:=by rw [hX];exact zN
 have hbx:qB9 w247.heap.size (w247.heap.size+1) (qE5 w247.heap.size [.int .i64 k,.int .i64 iv,.int .i64 uv,.slice saH n1 scH,.slice laH m1 lcH]) w264:=by rw [hX];exact qE0 w247 #[.int .i64 k,.int .i64 iv,.int .i64 uv,.slice saH n1 scH,.slice laH m1 lcH] 47
 clear hX
 have B265:Hid (Below w.heap.size w w264):=B248.out.trans (hb.mono B248.out.size)
 have hz266:=hb.size
 have F267:Hid (qB9 (w.heap.size) (w.heap.size+1) (qE5 (w.heap.size) [.int .i64 r.i,.int .i64 r.u,.slice r.sa r.sn r.sc,.slice r.la r.ln r.lc]) w264):=F250.out.below hb
 have F268:Hid (qB9 (w18.heap.size) (w24.heap.size) (fun X=>qB1 X w18.heap.size (.slice saW n1 scW) S) w264):=F251.out.below hb
 have F269:Hid (qB9 (w18.heap.size) (w24.heap.size) (fun X=>qA1 X w18.heap.size (.slice laW m1 lcW) L) w264):=F252.out.below hb
 have F270:Hid (qB9 (w24.heap.size) (w24.heap.size+1) (qE5 w24.heap.size [.int .i64 k,.int .i64 iv,.int .i64 uv,.slice saW n1 scW,.slice laW m1 lcW]) w264):=F253.out.below hb
 have F271:Hid (qB9 (w46.heap.size) (w46.heap.size+1) (qE5 w46.heap.size [.int .i64 y44.i,.int .i64 y44.u,.slice y44.sa y44.sn y44.sc,.slice y44.la y44.ln y44.lc]) w264):=F254.out.below hb
 have F272:Hid (qB9 (w76.heap.size) (w76.heap.size+1) (qE5 w76.heap.size [.int .i64 k,.int .i64 iv,.int .i64 uv,.slice saI n1 scI,.slice laI m1 lcI]) w264):=F255.out.below hb
 have F273:Hid (qB9 (w64.heap.size) (w76.heap.size) (fun X=>qB1 X w64.heap.size (.slice saI n1 scI) (QP1 n1)) w264):=F256.out.below hb
 have F274:Hid (qB9 (w64.heap.size) (w76.heap.size) (fun X=>qA1 X w64.heap.size (.slice laI m1 lcI) (qU8 (1+5 * n1) m1)) w264):=F257.out.below hb
 have F275:Hid (qK1 (fun X=>qF1 X Lb221 r y220) w264):=F258.out.below hb
 have F276:Hid (qK1 (CpB (w222.heap.size) (w234.heap.size) n cs) w264):=F259.out.below hb
 have F277:Hid (qB9 (w234.heap.size) (w247.heap.size) (fun X=>qB1 X w234.heap.size (.slice saH n1 scH) S) w264):=F260.out.below hb
 have F278:Hid (qB9 (w234.heap.size) (w247.heap.size) (fun X=>qA1 X w234.heap.size (.slice laH m1 lcH) L) w264):=F262.out.below hb
 clear B248 F250 F251 F252 F253 F254 F255 F256 F257 F258 F259 F260 F262
 have F279:Hid (qB9 (w247.heap.size) (w247.heap.size+1) (qE5 w247.heap.size [.int .i64 k,.int .i64 iv,.int .i64 uv,.slice saH n1 scH,.slice laH m1 lcH]) w264):=hbx
 have hl280:=F279.out.le
 clear hbx hb
 clear F275 F276
 have hpl:w247.heap.size < w264.heap.size:=by have:=F279.out.le;omega
 have p0:=F279.out.out 0 _ rfl
 have p1:=F279.out.out 1 _ rfl
 have p2:=F279.out.out 2 _ rfl
 have p3:=F279.out.out 3 _ rfl
 have p4:=F279.out.out 4 _ rfl
 have hql:w24.heap.size < w264.heap.size:=by have:=F270.out.le;omega
 have q0:=F270.out.out 0 _ rfl
 have q1:=F270.out.out 1 _ rfl
 have q2:=F270.out.out 2 _ rfl
 have q3:=F270.out.out 3 _ rfl
 have q4:=F270.out.out 4 _ rfl
 go_wp2_with fail
 refine (qZ4 k iv uv saH saW n1 scH scW S laH laW m1 lcH lcW L _ hn1 hm1 ((qB1.view F277.out.out).isIn HLN.out.1) ((qB1.view F268.out.out).isIn HLN.out.1) ((qA1.view F278.out.out).isIn HLN.out.2) ((qA1.view F269.out.out).isIn HLN.out.2)).mono ?_
 rintro e w281 ⟨rfl,hb⟩
 clear p0 p1 p2 p3 p4 hpl q0 q1 q2 q3 q4 hql
 have B282:Hid (Below w.heap.size w w281):=B265.out.trans (hb.mono B265.out.size)
 have hz283:=hb.size
 have F284:Hid (qB9 (w.heap.size) (w.heap.size+1) (qE5 (w.heap.size) [.int .i64 r.i,.int .i64 r.u,.slice r.sa r.sn r.sc,.slice r.la r.ln r.lc]) w281):=F267.out.below hb
 have F285:Hid (qB9 (w18.heap.size) (w24.heap.size) (fun X=>qB1 X w18.heap.size (.slice saW n1 scW) S) w281):=F268.out.below hb
 have F286:Hid (qB9 (w18.heap.size) (w24.heap.size) (fun X=>qA1 X w18.heap.size (.slice laW m1 lcW) L) w281):=F269.out.below hb
 have F287:Hid (qB9 (w24.heap.size) (w24.heap.size+1) (qE5 w24.heap.size [.int .i64 k,.int .i64 iv,.int .i64 uv,.slice saW n1 scW,.slice laW m1 lcW]) w281):=F270.out.below hb
 have F288:Hid (qB9 (w46.heap.size) (w46.heap.size+1) (qE5 w46.heap.size [.int .i64 y44.i,.int .i64 y44.u,.slice y44.sa y44.sn y44.sc,.slice y44.la y44.ln y44.lc]) w281):=F271.out.below hb
 have F289:Hid (qB9 (w76.heap.size) (w76.heap.size+1) (qE5 w76.heap.size [.int .i64 k,.int .i64 iv,.int .i64 uv,.slice saI n1 scI,.slice laI m1 lcI]) w281):=F272.out.below hb
 have F290:Hid (qB9 (w64.heap.size) (w76.heap.size) (fun X=>qB1 X w64.heap.size (.slice saI n1 scI) (QP1 n1)) w281):=F273.out.below hb
 have F291:Hid (qB9 (w64.heap.size) (w76.heap.size) (fun X=>qA1 X w64.heap.size (.slice laI m1 lcI) (qU8 (1+5 * n1) m1)) w281):=F274.out.below hb
 have F292:Hid (qB9 (w234.heap.size) (w247.heap.size) (fun X=>qB1 X w234.heap.size (.slice saH n1 scH) S) w281):=F277.out.below hb
 have F293:Hid (qB9 (w234.heap.size) (w247.heap.size) (fun X=>qA1 X w234.heap.size (.slice laH m1 lcH) L) w281):=F278.out.below hb
 have F294:Hid (qB9 (w247.heap.size) (w247.heap.size+1) (qE5 w247.heap.size [.int .i64 k,.int .i64 iv,.int .i64 uv,.slice saH n1 scH,.slice laH m1 lcH]) w281):=F279.out.below hb
 clear B265 F267 F268 F269 F270 F271 F272 F273 F274 F277 F278 F279
 clear hb
 have hpl:w76.heap.size < w281.heap.size:=by have:=F289.out.le;omega
 have p0:=F289.out.out 0 _ rfl
 have p1:=F289.out.out 1 _ rfl
 have p2:=F289.out.out 2 _ rfl
 have p3:=F289.out.out 3 _ rfl
 have p4:=F289.out.out 4 _ rfl
 go_wp2_with fail
 refine (QR9 k iv uv saI n1 scI laI m1 lcI _ hn1 hm1 (qB1.view F290.out.out) (qA1.view F291.out.out)).mono ?_
 rintro e w295 ⟨rfl,hb⟩
 clear p0 p1 p2 p3 p4 hpl
 have B296:Hid (Below w.heap.size w w295):=B282.out.trans (hb.mono B282.out.size)
 have hz297:=hb.size
 have F298:Hid (qB9 (w.heap.size) (w.heap.size+1) (qE5 (w.heap.size) [.int .i64 r.i,.int .i64 r.u,.slice r.sa r.sn r.sc,.slice r.la r.ln r.lc]) w295):=F284.out.below hb
 have F299:Hid (qB9 (w18.heap.size) (w24.heap.size) (fun X=>qB1 X w18.heap.size (.slice saW n1 scW) S) w295):=F285.out.below hb
 have F300:Hid (qB9 (w18.heap.size) (w24.heap.size) (fun X=>qA1 X w18.heap.size (.slice laW m1 lcW) L) w295):=F286.out.below hb
 have F301:Hid (qB9 (w24.heap.size) (w24.heap.size+1) (qE5 w24.heap.size [.int .i64 k,.int .i64 iv,.int .i64 uv,.slice saW n1 scW,.slice laW m1 lcW]) w295):=F287.out.below hb
 have F302:Hid (qB9 (w46.heap.size) (w46.heap.size+1) (qE5 w46.heap.size [.int .i64 y44.i,.int .i64 y44.u,.slice y44.sa y44.sn y44.sc,.slice y44.la y44.ln y44.lc]) w295):=F288.out.below hb
 have F303:Hid (qB9 (w76.heap.size) (w76.heap.size+1) (qE5 w76.heap.size [.int .i64 k,.int .i64 iv,.int .i64 uv,.slice saI n1 scI,.slice laI m1 lcI]) w295):=F289.out.below hb
 have F304:Hid (qB9 (w64.heap.size) (w76.heap.size) (fun X=>qB1 X w64.heap.size (.slice saI n1 scI) (QP1 n1)) w295):=F290.out.below hb
 have F305:Hid (qB9 (w64.heap.size) (w76.heap.size) (fun X=>qA1 X w64.heap.size (.slice laI m1 lcI) (qU8 (1+5 * n1) m1)) w295):=F291.out.below hb
 have F306:Hid (qB9 (w234.heap.size) (w247.heap.size) (fun X=>qB1 X w234.heap.size (.slice saH n1 scH) S) w295):=F292.out.below hb
 have F307:Hid (qB9 (w234.heap.size) (w247.heap.size) (fun X=>qA1 X w234.heap.size (.slice laH m1 lcH) L) w295):=F293.out.below hb
 have F308:Hid (qB9 (w247.heap.size) (w247.heap.size+1) (qE5 w247.heap.size [.int .i64 k,.int .i64 iv,.int .i64 uv,.slice saH n1 scH,.slice laH m1 lcH]) w295):=F294.out.below hb
 clear B282 F284 F285 F286 F287 F288 F289 F290 F291 F292 F293 F294
 clear hb
 go_wp2
 go_ret
 exact ⟨rfl,B296.out⟩

end Go.Proofs.YtlhgjackapdmbaaGreatDoor
