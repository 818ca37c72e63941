/- Contracts. -/
import Derived.Test.YtdppdbihhlipeaaGreatDoorPr48
import Derived.Test.YtdppdbihhlipeaaGreatDoorPr50
namespace Go.Proofs.YtdppdbihhlipeaaGreatDoor
set_option maxRecDepth 100000
set_option maxHeartbeats 8000000
open Go.RowKit
set_option linter.unusedVariables false
set_option linter.unusedSimpArgs false

theorem qP9.env {cs ds:List qA4} {E:qH1} (h:qP9 cs ds) (hE:qN7 E cs) (hl:qG0 1048576 ds):qN7 E ds:=by
 refine ⟨?_,fun p d hd=>?_⟩
 ·rw [hE.es];refine List.ext_getElem? (fun j=>?_);rw [List.getElem?_map,List.getElem?_map];cases e:ds[j]? with
  | none =>
   have : ds.length<=j:=by simpa using e
   rw [List.getElem?_eq_none (by rw [<- h.ln];exact this)]
  | some d =>
   obtain ⟨c,hc,hs⟩:=h.get e;rw [hc];simp [hs.e]
 ·obtain ⟨c,hc,hs⟩:=h.get hd;obtain ⟨⟨_,_,_,h4⟩,gs,g1,g2,g3⟩:=hE.cf p c hc;exact ⟨⟨hl.le p d hd,(hl.rc p d hd).1,(hl.rc p d hd).2,(qBI hs).trans h4⟩,gs,by rw [hs.zs];exact g1,fun f s=>by rw [hs.ps];exact g2 f s,by rw [hs.cs];exact g3⟩

def QD7 (K n:Nat):List LkI:=(List.range n).map fun j=>(⟨((K+4 * j:Nat):Int),((K+1+4 * j:Nat):Int),((K+2+4 * j:Nat):Int),((K+3+4 * j:Nat):Int)⟩:LkI)
theorem qGg (K n:Nat):(QD7 K n).length=n:=by simp [QD7]
theorem qDe (K n j:Nat) (h:j < n):(QD7 K n)[j]? = some (⟨((K+4 * j:Nat):Int),((K+1+4 * j:Nat):Int),((K+2+4 * j:Nat):Int),((K+3+4 * j:Nat):Int)⟩:LkI):=by simp [QD7,h]
theorem qAU (K B:Nat) (hK:K<=10000000) (a:Option Addr) (n cap:Nat) (zs:List LkI) (w:World) (hz:n=zs.length) (hn:n<=1048576) (h:qA7 w B (.slice a n cap) zs) :
  Calls Tryz.prog 40 #[.slice a n cap,.int .i64 (K:Int)] w fun e w'=>e = .returned (.int .i64 ((K:Int)+4 * (n:Int)))/\qA7 w' B (.slice a n cap) (QD7 K n)/\w.grownBy w' (Value.slice a n cap).ownBlock:=by
 have HO:Hid (qA7 w B (.slice a n cap) zs):=h;have HZ:Hid (n=zs.length):=hz;clear h hz;have hn':(n:Int)<=1048576:=by omega
 have hK':(K:Int)<=10000000:=by omega
 have hK0:(0:Int)<=(K:Int):=by omega
 go_enter Tryz.func40,Tryz.ntmps40;go_wp2
 go_loopw [1,5] (fun q i wr=>∃ (j:Nat) (es:List LkI),j<=n/\i = .int .i64 (j:Int)/\q = .int .i64 ((K:Int)+4 * (j:Int))/\n=es.length/\qA7 wr B (.slice a n cap) es/\(∀ m,m < j->es[m]? = some (⟨((K+4 * m:Nat):Int),((K+1+4 * m:Nat):Int),((K+2+4 * m:Nat):Int),((K+3+4 * m:Nat):Int)⟩:LkI))/\w.grownBy wr (Value.slice a n cap).ownBlock)
  (fun _ i _=>n - (intOf i).toNat)
 case atStart=>exact ⟨0,zs,Nat.zero_le _,rfl,rfl,HZ.out,HO.out,fun m hm=>by omega,qR1 _ _⟩
 case round =>
  obtain ⟨j,es,hj,rfl,rfl,hes,hown,hys,hgr⟩:=hrel;have HE:Hid (n=es.length):=hes;clear hes;by_cases hlt:j < n
  ·obtain ⟨g,ha⟩:∃ g,a=some ⟨g,0,none⟩:=by
    rcases hown.form with ⟨h1,h2⟩ | ⟨g,cap',h1,_⟩
    ·have:=HE.out;rw [h2] at this;simp at this;omega
    ·simp at h1;exact ⟨g,h1.1⟩
   subst ha;obtain ⟨⟨v0,c0⟩,f0⟩:=hown.cell HE.out (j * 4) (by omega);obtain ⟨⟨v1,c1⟩,f1⟩:=hown.cell HE.out (j * 4+1) (by omega);obtain ⟨⟨v2,c2⟩,f2⟩:=hown.cell HE.out (j * 4+2) (by omega);obtain ⟨⟨v3,c3⟩,f3⟩:=hown.cell HE.out (j * 4+3) (by omega);have hst:=hown.put HE.out j (⟨(K:Int)+4 * (j:Int),(K:Int)+4 * (j:Int)+1,(K:Int)+4 * (j:Int)+1+1,(K:Int)+4 * (j:Int)+1+1+1⟩:LkI)
   have R:Hid (qA7 ((((wr.setCell ⟨g,j * 4,none⟩ (.int .i64 ((K:Int)+4 * (j:Int)))).setCell ⟨g,j * 4+1,none⟩ (.int .i64 ((K:Int)+4 * (j:Int)+1))).setCell ⟨g,j * 4+2,none⟩ (.int .i64 ((K:Int)+4 * (j:Int)+1+1))).setCell ⟨g,j * 4+3,none⟩ (.int .i64 ((K:Int)+4 * (j:Int)+1+1+1))) B (.slice (some ⟨g,0,none⟩) n cap) (es.set j (⟨(K:Int)+4 * (j:Int),(K:Int)+4 * (j:Int)+1,(K:Int)+4 * (j:Int)+1+1,(K:Int)+4 * (j:Int)+1+1+1⟩:LkI))/\(∀ m,m < j+1->(es.set j (⟨(K:Int)+4 * (j:Int),(K:Int)+4 * (j:Int)+1,(K:Int)+4 * (j:Int)+1+1,(K:Int)+4 * (j:Int)+1+1+1⟩:LkI))[m]? = some (⟨((K+4 * m:Nat):Int),((K+1+4 * m:Nat):Int),((K+2+4 * m:Nat):Int),((K+3+4 * m:Nat):Int)⟩:LkI))/\w.grownBy ((((wr.setCell ⟨g,j * 4,none⟩ (.int .i64 ((K:Int)+4 * (j:Int)))).setCell ⟨g,j * 4+1,none⟩ (.int .i64 ((K:Int)+4 * (j:Int)+1))).setCell ⟨g,j * 4+2,none⟩ (.int .i64 ((K:Int)+4 * (j:Int)+1+1))).setCell ⟨g,j * 4+3,none⟩ (.int .i64 ((K:Int)+4 * (j:Int)+1+1+1))) (some g)):=by
    refine ⟨hst.1,fun m hm=>?_,qM2 hgr hst.2⟩;have:=HE.out;by_cases e:m=j
    ·subst e;rw [List.getElem?_set_self (by omega)];simp only [Option.some.injEq,LkI.mk.injEq];omega
    ·rw [List.getElem?_set_ne (by omega)];exact hys m (by omega)
   clear hst hown hys hgr;have hlt':(j:Int) < (n:Int):=by omega
   go_wp2;refine ⟨⟨j+1,_,by omega,by go_num,?_,by rw [List.length_set];exact HE.out,R.out.1,R.out.2.1,R.out.2.2⟩,by simp [intOf];omega⟩;congr 1
  ·have hjn:j=n:=by omega
   subst hjn
   have E:es=QD7 K j:=by
    have:=HE.out;apply List.ext_getElem?;intro i;by_cases hi:i < j
    ·rw [hys i hi,qDe K j i hi]
    ·rw [List.getElem?_eq_none (by omega),List.getElem?_eq_none (by rw [qGg];omega)]
   rw [E] at hown;go_wp2;go_ret;exact ⟨rfl,hown,hgr⟩
theorem qAl (K:Nat) (hK:K<=10000000) (a:Option Addr) (n cap:Nat) (w:World) (hn:n<=1048576) (h:LkV w a (QD7 K n)) :
  Calls Tryz.prog 86 #[.slice a n cap,.int .i64 (K:Int)] w fun e w'=>e = .returned (.int .i64 ((K:Int)+4 * (n:Int)))/\w=w':=by
 have HR:Hid (LkV w a (QD7 K n)):=h;clear h;have hn':(n:Int)<=1048576:=by omega
 have hK':(K:Int)<=10000000:=by omega
 have hK0:(0:Int)<=(K:Int):=by omega
 go_enter Tryz.func86,Tryz.ntmps86;go_wp2;go_loop [1,5] (fun q i=>∃ (j:Nat),j<=n/\i = .int .i64 (j:Int)/\q = .int .i64 ((K:Int)+4 * (j:Int))) (fun _ i=>n - (intOf i).toNat)
 case atStart=>exact ⟨0,Nat.zero_le _,rfl,rfl⟩
 case round =>
  obtain ⟨j,hj,rfl,rfl⟩:=hrel;by_cases hlt:j < n
  ·obtain ⟨g,ha,c0,c1,c2,c3⟩:=HR.out j _ (qDe K n j hlt);subst ha;simp only [show ((K+4 * j:Nat):Int)=(K:Int)+4 * (j:Int) from by omega,show ((K+1+4 * j:Nat):Int)=(K:Int)+4 * (j:Int)+1 from by omega,show ((K+2+4 * j:Nat):Int)=(K:Int)+4 * (j:Int)+1+1 from by omega,show ((K+3+4 * j:Nat):Int)=(K:Int)+4 * (j:Int)+1+1+1 from by omega] at c0 c1 c2 c3;have hlt':(j:Int) < (n:Int):=by omega
   go_wp2;refine ⟨⟨j+1,by omega,by go_num,?_⟩,by simp [intOf];omega⟩;congr 1
  ·have hjn:j=n:=by omega
   subst hjn;go_wp2;go_ret;exact ⟨rfl,rfl⟩
theorem qIF {w:World} {B B':Nat} {v v':Value} {S:List StI} {L:List LkI} (h:qB2 w B v S) (h':qA7 w B' v' L) {g g':Nat} (e:v.ownBlock=some g) (e':v'.ownBlock=some g'):g≠g':=by
 obtain ⟨cur,hc,_⟩:=qC5 h e;obtain ⟨cur',hc',_⟩:=qC6 h' e';exact qK7 hc hc' (by decide)
theorem qGk (lo hi:Nat) (i u:Int) (sa:Option Addr) (n sc:Nat) (S:List StI) (la:Option Addr) (m lc:Nat) (L:List LkI) (w:World) (hS:n=S.length) (hL:m=L.length) (hn:n<=1048576) (hm:m<=1048576) (h1:qB2 w lo (.slice sa n sc) S) (h2:qA7 w lo (.slice la m lc) L) (g1:∀ g,(Value.slice sa n sc).ownBlock=some g->g < hi) (g2:∀ g,(Value.slice la m lc).ownBlock=some g->g < hi) :
  Calls Tryz.prog 14 #[.agg #[.int .i64 i,.int .i64 u,.slice sa n sc,.slice la m lc],.int .i64 1] w fun e w'=>e = .returned (.int .i64 (1+5 * (n:Int)+4 * (m:Int)))/\qB2 w' lo (.slice sa n sc) (qDd n)/\qA7 w' lo (.slice la m lc) (QD7 (1+5 * n) m)/\Chg lo hi w w':=by
 obtain ⟨V,hV⟩:∃ V,V=w.alloc (.cells #[.int .i64 i,.int .i64 u,.slice sa n sc,.slice la m lc] 36):=⟨_,rfl⟩;have BV:Below w.heap.size w V:=by rw [hV];exact zN
 have HX:Hid (qV9 w.heap.size [.int .i64 i,.int .i64 u,.slice sa n sc,.slice la m lc] V):=by rw [hV];exact (qE6 w _ _).out
 have hVl:w.heap.size < V.heap.size:=by rw [hV];simp
 have HBV:=qD7 BV;have HS1:Hid (qB2 V lo (.slice sa n sc) S):=h1.below BV;have HL1:Hid (qA7 V lo (.slice la m lc) L):=h2.below BV;have HNE:Hid (∀ g g',(Value.slice sa n sc).ownBlock=some g->(Value.slice la m lc).ownBlock=some g'->g≠g'):=fun g g' e e'=>qIF h1 h2 e e'
 have HR1:Hid (∀ g,(Value.slice sa n sc).ownBlock=some g->lo<=g/\g < hi/\g < w.heap.size):=fun g e=>by have:=QM2 h1 g e;exact ⟨this.1,g1 g e,this.2⟩
 have HR2:Hid (∀ g,(Value.slice la m lc).ownBlock=some g->lo<=g/\g < hi/\g < w.heap.size):=fun g e=>by have:=qY4 h2 g e;exact ⟨this.1,g2 g e,this.2⟩
 have HSL:Hid (n=S.length/\m=L.length):=⟨hS,hL⟩;have x2:=HX.out 2 _ rfl;have x3:=HX.out 3 _ rfl;have hn':(n:Int)<=1048576:=by omega
 have hm':(m:Int)<=1048576:=by omega
 clear h1 h2 g1 g2 hS hL BV;go_enter Tryz.func14,Tryz.ntmps14;go_upto_region 1 with fail
 rw [<- hV];clear hV;go_wp2_with fail
 refine (QH9 lo sa n sc S V HSL.out.1 hn HS1.out).mono ?_;rintro e w1 ⟨rfl,ho1,hg1⟩;have C1:Chg lo hi V w1:=Chg.grown hg1 (fun q e=>⟨(HR1.out q e).1,(HR1.out q e).2.1⟩);have hk1:∀ b,b < V.heap.size->(Value.slice sa n sc).ownBlock≠some b->w1.heap[b]? = V.heap[b]? := fun b hb hne=>hg1.block b hb (fun e=>hne e.symm)
 have HO1:=qD7 ho1;have HC1:=qD7 C1;have HL2:Hid (qA7 w1 lo (.slice la m lc) L):=qA0 HL1.out (fun g e=>hk1 g (by have:=(HR2.out g e).2.2;omega) (fun e'=>HNE.out g g e' e rfl));have q3:w1.cell? ⟨w.heap.size,3,none⟩=some (.slice la m lc):=(World.cell?_of_block (a:=⟨w.heap.size,3,none⟩) (hk1 w.heap.size hVl (fun e=>by have:=(HR1.out _ e).2.2;omega))).trans x3;have hl1:w.heap.size < w1.heap.size:=by have:=hg1.size;omega
 have hz1:=hg1.size;clear ho1 C1 hk1 x2 x3 hg1
 have HLK:Hid (Calls Tryz.prog 40 #[.slice la m lc,.int .i64 (1+5 * (n:Int))] w1 fun e w'=>e = .returned (.int .i64 (1+5 * (n:Int)+4 * (m:Int)))/\qA7 w' lo (.slice la m lc) (QD7 (1+5 * n) m)/\w1.grownBy w' (Value.slice la m lc).ownBlock):=by
  have:=qAU (1+5 * n) lo (by omega) la m lc L w1 HSL.out.2 hm HL2.out;rw [show ((1+5 * n:Nat):Int)=1+5 * (n:Int) from by omega] at this;exact this
 go_wp2_with fail
 refine HLK.out.mono ?_;rintro e w2 ⟨rfl,ho2,hg2⟩;have C2:Chg lo hi w1 w2:=Chg.grown hg2 (fun q e=>⟨(HR2.out q e).1,(HR2.out q e).2.1⟩);have HO3:Hid (qB2 w2 lo (.slice sa n sc) (qDd n)):=qA0 HO1.out (fun g e=>hg2.block g (by have:=(HR1.out g e).2.2;omega) (fun e'=>HNE.out g g e e'.symm rfl));have HO4:=qD7 ho2;have HC2:Hid (Chg lo hi w w2):=((Chg.calls HBV.out).trans HC1.out).trans C2;clear ho2 hg2 C2 q3 HLK;go_wp2_with fail
 go_ret;exact ⟨rfl,HO3.out,HO4.out,HC2.out⟩
theorem qEo (lo hi:Nat) (k i u:Int) (sa:Option Addr) (n sc:Nat) (S:List StI) (la:Option Addr) (m lc:Nat) (L:List LkI) (w:World) (hS:n=S.length) (hL:m=L.length) (hn:n<=1048576) (hm:m<=1048576) (h1:qB2 w lo (.slice sa n sc) S) (h2:qA7 w lo (.slice la m lc) L) (g1:∀ g,(Value.slice sa n sc).ownBlock=some g->g < hi) (g2:∀ g,(Value.slice la m lc).ownBlock=some g->g < hi) :
  Calls Tryz.prog 24 #[.agg #[.int .i64 k,.int .i64 i,.int .i64 u,.slice sa n sc,.slice la m lc],.int .i64 1] w fun e w'=>e = .returned (.int .i64 (1+5 * (n:Int)+4 * (m:Int)))/\qB2 w' lo (.slice sa n sc) (qDd n)/\qA7 w' lo (.slice la m lc) (QD7 (1+5 * n) m)/\Chg lo hi w w':=by
 obtain ⟨V,hV⟩:∃ V,V=w.alloc (.cells #[.int .i64 k,.int .i64 i,.int .i64 u,.slice sa n sc,.slice la m lc] 48):=⟨_,rfl⟩;have BV:Below w.heap.size w V:=by rw [hV];exact zN
 have HM:=qD7 (qGk lo hi i u sa n sc S la m lc L V hS hL hn hm (h1.below BV) (h2.below BV) g1 g2);have HBV:=qD7 BV;clear h1 h2 g1 g2 BV hS hL;go_enter Tryz.func24,Tryz.ntmps24;go_wp2_with fail
 rw [<- hV];clear hV;refine HM.out.mono ?_;rintro e w1 ⟨rfl,ho1,ho2,hc⟩;have HO1:=qD7 ho1;have HO2:=qD7 ho2;have HC:=qD7 ((Chg.calls HBV.out).trans hc);clear ho1 ho2 hc;go_wp2_with fail
 go_ret;exact ⟨rfl,HO1.out,HO2.out,HC.out⟩
theorem qHJ (i u:Int) (sa:Option Addr) (n sc:Nat) (la:Option Addr) (m lc:Nat) (w:World) (hn:n<=1048576) (hm:m<=1048576) (h1:StV w sa (qDd n)) (h2:LkV w la (QD7 (1+5 * n) m)) :
  Calls Tryz.prog 52 #[.agg #[.int .i64 i,.int .i64 u,.slice sa n sc,.slice la m lc],.int .i64 1] w fun e w'=>e = .returned (.int .i64 (1+5 * (n:Int)+4 * (m:Int)))/\Below w.heap.size w w':=by
 obtain ⟨V,hV⟩:∃ V,V=w.alloc (.cells #[.int .i64 i,.int .i64 u,.slice sa n sc,.slice la m lc] 36):=⟨_,rfl⟩;have BV:Below w.heap.size w V:=by rw [hV];exact zN
 have HX:Hid (qV9 w.heap.size [.int .i64 i,.int .i64 u,.slice sa n sc,.slice la m lc] V):=by rw [hV];exact (qE6 w _ _).out
 have hVl:w.heap.size < V.heap.size:=by rw [hV];simp
 have HBV:=qD7 BV;have HS:=qD7 (QI1 sa n sc V hn (h1.below BV))
 have HLK:Hid (Calls Tryz.prog 86 #[.slice la m lc,.int .i64 (1+5 * (n:Int))] V fun e w'=>e = .returned (.int .i64 (1+5 * (n:Int)+4 * (m:Int)))/\V=w'):=by
  have:=qAl (1+5 * n) (by omega) la m lc V hm (h2.below BV);rw [show ((1+5 * n:Nat):Int)=1+5 * (n:Int) from by omega] at this;exact this
 have x2:=HX.out 2 _ rfl;have x3:=HX.out 3 _ rfl;have hn':(n:Int)<=1048576:=by omega
 have hm':(m:Int)<=1048576:=by omega
 have d1:decide ((1:Int)+5 * (n:Int) < 0)=false:=by simp;omega
 have d2:decide ((1:Int)+5 * (n:Int)+4 * (m:Int) < 0)=false:=by simp;omega
 clear h1 h2 BV;go_enter Tryz.func52,Tryz.ntmps52;go_upto_region 1 with fail
 rw [<- hV];clear hV;go_wp2_with fail
 refine HS.out.mono ?_;rintro e w1 ⟨rfl,rfl⟩;go_wp2_with fail
 refine HLK.out.mono ?_;rintro e w1 ⟨rfl,rfl⟩;go_wp2_with fail
 go_ret;exact ⟨rfl,HBV.out⟩
theorem QT6 (k i u:Int) (sa:Option Addr) (n sc:Nat) (la:Option Addr) (m lc:Nat) (w:World) (hn:n<=1048576) (hm:m<=1048576) (h1:StV w sa (qDd n)) (h2:LkV w la (QD7 (1+5 * n) m)) :
  Calls Tryz.prog 25 #[.agg #[.int .i64 k,.int .i64 i,.int .i64 u,.slice sa n sc,.slice la m lc],.int .i64 1] w fun e w'=>e = .returned (.int .i64 (1+5 * (n:Int)+4 * (m:Int)))/\Below w.heap.size w w':=by
 obtain ⟨V,hV⟩:∃ V,V=w.alloc (.cells #[.int .i64 k,.int .i64 i,.int .i64 u,.slice sa n sc,.slice la m lc] 48):=⟨_,rfl⟩;have BV:Below w.heap.size w V:=by rw [hV];exact zN
 have HM:=qD7 (qHJ i u sa n sc la m lc V hn hm (h1.below BV) (h2.below BV));have HBV:=qD7 BV;have hn':(n:Int)<=1048576:=by omega
 have hm':(m:Int)<=1048576:=by omega
 have d2:decide ((1:Int)+5 * (n:Int)+4 * (m:Int) < 0)=false:=by simp;omega
 clear h1 h2 BV;go_enter Tryz.func25,Tryz.ntmps25;go_wp2_with fail
 rw [<- hV];clear hV;refine HM.out.mono ?_;rintro e w1 ⟨rfl,hb1⟩;have HB1:=qD7 (HBV.out.trans (hb1.mono HBV.out.size));clear hb1;go_wp2_with fail
 go_ret;exact ⟨rfl,HB1.out⟩

def ifz (k v:Int):Int:=if k=0 then v else 0
def ifl {α:Type} (k:Int) (l:List α):List α:=if k=0 then l else []
theorem qHH {α:Type} (k:Int) (l:List α):(ifl k l).length<=l.length:=by
 unfold ifl;split
 ·exact Nat.le_refl _
 ·simp
def qED (k i u:Int) (S:List StI) (L:List LkI) (w:World) (d:Ending) (w':World):Prop:=∃ (sa:Option Addr) (sc:Nat) (la:Option Addr) (lc:Nat),d = .returned (.agg #[.int .i64 k,.int .i64 i,.int .i64 u,.slice sa S.length sc,.slice la L.length lc])/\qB2 w' w.heap.size (.slice sa S.length sc) S/\qA7 w' w.heap.size (.slice la L.length lc) L/\Below w.heap.size w w'
theorem qMx.all {k i u:Int} {S:List StI} {L:List LkI} {w:World} {d:Ending} {w':World} (h:qMx k i u S L w d w'):qED k (ifz k i) (ifz k u) (ifl k S) (ifl k L) w d w':=by
 obtain ⟨hb,h1,h2⟩:=h;unfold ifz ifl;by_cases q:k=0
 ·obtain ⟨sa,sc,la,lc,e,ho1,ho2⟩:=h2 q;rw [if_pos q,if_pos q,if_pos q,if_pos q];exact ⟨sa,sc,la,lc,by rw [e,q],ho1,ho2,hb⟩
 ·rw [if_neg q,if_neg q,if_neg q,if_neg q];exact ⟨none,0,none,0,h1 q,World.ownsRow_nil _ _ _ _,World.ownsRow_nil _ _ _ _,hb⟩
def qMk (E:qH1) (cs:List qA4):Prop:=∀ ds,qP9 cs ds->qG0 1048576 ds->qC4 ds=0->qN7 E ds
theorem qLE {lo hi n:Nat} {cs:List qA4} {X:World} (h:CpB lo hi n cs X):∃ E,qMk E cs:=by
 obtain ⟨ds1,_,hs,hl,_,_⟩:=h;obtain ⟨E,hE⟩:=qME hl;refine ⟨E,fun ds h2 hl2 hz=>?_⟩;exact qP9.env (cs:=ds1) ⟨by rw [hs.ln,h2.ln],QS3 hs h2⟩ (hE (by rw [hs.cfs,<- h2.cfs];exact hz)) hl2
