/- Contracts. -/
import Derived.Test.YthogdfnaojijhaaGreatPa18
import Derived.Test.YthogdfnaojijhaaGreatPa19
import Derived.Test.YthogdfnaojijhaaGreatPa27
import Derived.Test.YthogdfnaojijhaaGreatPa14
import Derived.ArgAppend
namespace Go.Proofs.YthogdfnaojijhaaGreat
set_option maxRecDepth 100000
set_option maxHeartbeats 8000000
open Go.RowKit
set_option linter.unusedVariables false
set_option linter.unusedSimpArgs false

section
open Go.RowKit Go.Maps
attribute [local go_sem] fldN0 fldN1
attribute [local go_sem ↓] QK5
theorem QC4 (a:Option Addr) (n cap:Nat) (ys:List Int) (f:Int) (w:World) (hn:n≤1048576) (hf:inR f 1 2=true) (h:qC1 w a n ys) :
  Calls Tryz.prog 98 #[.slice a n cap,.int .i64 f] w fun e w'=>e = .returned (.int .i64 (qG9 f ys))∧Below w.heap.size w w':=by
 have H:Hid (qC1 w a n ys):=h
 have HZ:Hid (ys.length=n):=h.1
 have hn':(n:Int)≤1048576:=by omega
 obtain ⟨hf1,hf2⟩:=(qD2 f 1 2).1 hf
 have e1:qL9 f=0:=by unfold qL9;rw [if_pos hf]
 have e2:qP6 2 f=2 * f+1:=by unfold qP6;rw [if_pos hf]
 have e3:qP6 3 f=3 * f+1:=by unfold qP6;rw [if_pos hf]
 have HNF:Hid (∀ w:World,qL4 80 f (qL9 f) (qP6 2 f) w):=qW3 f
 have HRF:Hid (∀ w:World,qL4 117 f (qL9 f) (qP6 3 f) w):=qP0 f
 rw [e1,e2] at HNF
 rw [e1,e3] at HRF
 unfold qL4 at HNF HRF
 clear e1 e2 e3 hf
 cases hr:qP5 ys
 ·have HC:Hid (qG9 f ys=1):=by show qG9 f ys=1;unfold qG9;rw [if_neg (by rw [hr];simp)]
  have HRB:Hid (qP5 ys=false):=hr
  clear hr
  rw [HC.out]
  go_enter Tryz.func98,Tryz.ntmps98
  go_wp2_with fail
  refine (rise_c a n cap ys _ hn H.out).mono ?_
  rintro e w1 ⟨rfl,hb1⟩
  rw [HRB.out]
  go_wp2
  go_ret
  exact ⟨rfl,hb1⟩
 ·have HRB:Hid (qP5 ys=true):=hr
  obtain ⟨c,hc⟩:∃ c,c=qG9 f ys:=⟨_,rfl⟩
  have HC:Hid (c=if qH7 f ys=true then (if (n:Int) < 2 * f+1 then 7 else 0) else 3):=by show c=_;rw [hc];unfold qG9;rw [if_pos hr,HZ.out]
  rw [← hc]
  clear hc
  clear hr
  obtain ⟨v,hv⟩:∃ v,v=3 * f+1:=⟨_,rfl⟩
  rw [← hv] at HRF
  have HV:Hid (v=3 * f+1):=hv
  clear hv
  go_enter Tryz.func98,Tryz.ntmps98
  go_wp2_with fail
  refine (rise_c a n cap ys _ hn H.out).mono ?_
  rintro e w1 ⟨rfl,hb1⟩
  rw [HRB.out]
  go_wp2_with fail
  refine (HRF.out _).mono ?_
  rintro e w2 ⟨rfl,hb2⟩
  have hb12:Below w.heap.size w w2:=hb1.trans (hb2.mono hb1.size)
  obtain ⟨V,hV⟩:∃ V,V=w2.alloc (.cells #[.int .i64 0,.int .i64 v] 139):=⟨_,rfl⟩
  have BV:Hid (Below w.heap.size w V):=by rw [hV];exact hb12.alloc hb12.size _
  have XV:Hid (QT6 V w2.heap.size (.int .i64 0) (.int .i64 v)):=by rw [hV];exact QT6.new _ _ _ _
  go_wp2_with fail
  rw [← hV]
  clear hV hb1 hb2 hb12
  go_loopw [15] (fun i wr=>∃ k:Nat,k≤n∧i = .int .i64 (k:Int)∧(∀ j y,j < k→ys[j]? = some y→inR y 1 v=true)∧Below V.heap.size V wr) (fun i _=>n - (intOf i).toNat)
  case atStart=>exact ⟨0,Nat.zero_le _,rfl,fun j y h=>by omega,Below.refl _ _⟩
  case round =>
   obtain ⟨k,hk,rfl,hz,hvx⟩:=hrel
   have hnx:Below w.heap.size w wr:=BV.out.trans (hvx.mono BV.out.size)
   have HK0:Hid (∀ j y,j < k→ys[j]? = some y→inR y 1 v=true):=hz
   clear hz
   by_cases hlt:k < n
   ·obtain ⟨b,off,x,rfl,hx,hxa,hbl⟩:=H.out.at hlt
    have hlt':(k:Int) < (n:Int):=by omega
    have x0:=(hnx.cell (p:=⟨b,off+k,none⟩) hbl).trans hxa
    obtain ⟨y0,y1⟩:=XV.out.below hvx
    have hYl:w2.heap.size < wr.heap.size:=(XV.out.below hvx).lt
    obtain ⟨t,ht⟩:∃ t,inR x 1 v=t:=⟨_,rfl⟩
    have HX:Hid (ys[k]? = some x∧inR x 1 v=t):=⟨hx,ht⟩
    have HID:Hid (∀ w:World,Calls Tryz.prog 118 #[.int .i64 x,.agg #[.int .i64 0,.int .i64 v]] w fun e w'=>e = .returned (.bool t)∧Below w.heap.size w w'):=fun w=>by
     have:=qU2 x 0 v w
     rw [ht] at this
     simpa using this
    clear hx hxa ht
    go_wp2_with fail
    refine (HID.out _).mono ?_
    rintro e w3 ⟨rfl,hb3⟩
    have B3:=hnx.trans (hb3.mono hnx.size)
    have V3:=hvx.trans (hb3.mono hvx.size)
    cases t
    ·have HE:Hid (qH7 f ys=false):=by
      show qH7 f ys=false
      cases q:qH7 f ys
      ·rfl
      ·unfold qH7 at q
       have:=List.all_eq_true.1 q x (List.mem_of_getElem? HX.out.1)
       rw [← HV.out,HX.out.2] at this
       cases this
     have HE3:Hid (c=3):=by show c=3;rw [HC.out,HE.out];rfl
     go_wp2
     go_ret
     exact ⟨by rw [HE3.out];rfl,B3⟩
    ·have HN:Hid (∀ j y,j < k+1→ys[j]? = some y→inR y 1 v=true):=fun j y h1 e1=>by
      by_cases q:j=k
      ·subst q
       rw [HX.out.1] at e1
       cases e1
       exact HX.out.2
      ·exact HK0.out j y (by omega) e1
     go_wp2
     exact ⟨⟨k+1,by omega,by go_num,HN.out,V3⟩,by simp [intOf];omega⟩
   ·have hkn:k=n:=by omega
    have hlt':¬ ((k:Int) < (n:Int)):=by omega
    have HE:Hid (qH7 f ys=true):=by
     show qH7 f ys=true
     unfold qH7
     refine List.all_eq_true.2 (fun y hy=>?_)
     obtain ⟨j,hj,e⟩:=List.mem_iff_getElem.1 hy
     rw [← HV.out]
     exact HK0.out j y (by have:=HZ.out;omega) (by rw [List.getElem?_eq_getElem hj,e])
    have HF:c=if (n:Int) < 2 * f+1 then 7 else 0:=by rw [HC.out,HE.out,if_pos rfl]
    obtain ⟨m,hm⟩:∃ m,m=2 * f+1:=⟨_,rfl⟩
    rw [← hm] at HNF HF
    clear hkn HE HC hm
    by_cases hq:(n:Int) < m
    ·have H7:Hid (c=7):=by show c=7;rw [HF,if_pos hq]
     clear HF
     go_wp2_with fail
     refine (HNF.out _).mono ?_
     rintro e w3 ⟨rfl,hb3⟩
     go_wp2
     go_ret
     exact ⟨by rw [H7.out];rfl,hnx.trans (hb3.mono hnx.size)⟩
    ·have H7:Hid (c=0):=by show c=0;rw [HF,if_neg hq]
     clear HF
     go_wp2_with fail
     refine (HNF.out _).mono ?_
     rintro e w3 ⟨rfl,hb3⟩
     go_wp2
     go_ret
     exact ⟨by rw [H7.out];rfl,hnx.trans (hb3.mono hnx.size)⟩
def qS4 (zs:List ShI) (x:StI) (ys:List Int) (k:Nat):Int→Bool:=fun i=>decide (i∈ys) && !decide (QY6 i x∈zs.take k)
theorem SM.cong {w:World} {b N:Nat} {p q:Int→Bool} (h:SM w b N p) (e:∀ i,p i=q i):SM w b N q:=by
 have : p=q:=funext e
 rw [← this];exact h
theorem have_end {zs:List ShI} {x:StI} {ys:List Int} {n m:Nat} (hz:zs.length=n) (hy:∀ y∈ys,QM5 y) (h:m=0↔∀ i,QM5 i→qS4 zs x ys n i=false):((m:Int)==0)=qG8 zs x ys:=by
 have ht:zs.take n=zs:=List.take_of_length_le (by omega)
 rw [Bool.eq_iff_iff]
 unfold qG8
 rw [List.all_eq_true]
 simp only [beq_iff_eq]
 constructor
 ·intro h0 y hyy
  have:=h.1 (by omega) y (hy y hyy)
  unfold qS4 at this
  rw [ht] at this
  simp [hyy] at this
  exact qN7.2 this
 ·intro hall
  have : m=0:=h.2 (fun i hi=>by
   unfold qS4
   rw [ht]
   by_cases q:i∈ys
   ·have:=qN7.1 (hall i q)
    simp [this]
   ·simp [q])
  omega
theorem haveP_next {zs:List ShI} {x:StI} {ys:List Int} {k:Nat} {z:ShI} (hz:zs[k]? = some z) (h:qE3 z.st x=true) (i:Int):delP (qS4 zs x ys k) z.r i=qS4 zs x ys (k+1) i:=by
 have hst:z.st=x:=by unfold qE3 at h;exact of_decide_eq_true h
 have hm:QY6 i x∈zs.take (k+1)↔(QY6 i x∈zs.take k∨i=z.r):=by
  rw [qJ0,qJ0]
  constructor
  ·rintro ⟨j,hj,e⟩
   by_cases q:j=k
   ·subst q
    rw [hz] at e
    exact .inr (sh_eq.1 (Option.some.inj e)).2.symm
   ·exact .inl ⟨j,by omega,e⟩
  ·rintro (⟨j,hj,e⟩ | e)
   ·exact ⟨j,by omega,e⟩
   ·exact ⟨k,by omega,by rw [hz,sh_eq.2 ⟨hst,e.symm⟩]⟩
 unfold delP qS4
 rw [Bool.eq_iff_iff]
 simp only [Bool.and_eq_true,Bool.not_eq_true',decide_eq_false_iff_not,decide_eq_true_eq,hm]
 constructor
 ·rintro ⟨h1,h2,h3⟩;exact ⟨h2,fun q=>by rcases q with q | q;exact h3 q;exact h1 q⟩
 ·rintro ⟨h2,h3⟩;exact ⟨fun q=>h3 (.inr q),h2,fun q=>h3 (.inl q)⟩
theorem haveP_stay {zs:List ShI} {x:StI} {ys:List Int} {k:Nat} {z:ShI} (hz:zs[k]? = some z) (h:qE3 z.st x=false) (i:Int):qS4 zs x ys k i=qS4 zs x ys (k+1) i:=by
 have hst:¬ z.st=x:=by unfold qE3 at h;exact of_decide_eq_false h
 have hm:QY6 i x∈zs.take (k+1)↔QY6 i x∈zs.take k:=by
  rw [qJ0,qJ0]
  constructor
  ·rintro ⟨j,hj,e⟩
   by_cases q:j=k
   ·subst q
    rw [hz] at e
    exact absurd (sh_eq.1 (Option.some.inj e)).1 hst
   ·exact ⟨j,by omega,e⟩
  ·rintro ⟨j,hj,e⟩
   exact ⟨j,by omega,e⟩
 unfold qS4
 simp only [hm]
theorem QM6 (a:Option Addr) (n cap:Nat) (zs:List ShI) (x:StI) (ga:Option Addr) (gn gc:Nat) (ys:List Int) (w:World) (hn:n≤1000) (hgn:gn≤1000) (h:qD9 w a n zs) (hg:qC1 w ga gn ys) (hr:∀ z∈zs,QM5 z.r) (hy:∀ y∈ys,QM5 y) :
  Calls Tryz.prog 99 #[.slice a n cap,.agg #[.int .i64 x.k,.int .i64 x.e,.int .i64 x.f,.int .i64 x.s,.int .i64 x.n,.slice ga gn gc]] w fun e w'=>e = .returned (.bool (qG8 zs x ys))∧Below w.heap.size w w':=by
 have hn':(n:Int)≤1000:=by omega
 have hgn':(gn:Int)≤1000:=by omega
 obtain ⟨V,hV⟩:∃ V,V=w.alloc (.cells #[.int .i64 x.k,.int .i64 x.e,.int .i64 x.f,.int .i64 x.s,.int .i64 x.n,.slice ga gn gc] 32):=⟨_,rfl⟩
 have BV:Below w.heap.size w V:=by rw [hV];exact zN
 have hwV:w.heap.size < V.heap.size:=by rw [hV];simp
 have q0:V.cell? ⟨w.heap.size,0,none⟩=some (.int .i64 x.k):=by rw [hV];simp
 have q1:V.cell? ⟨w.heap.size,1,none⟩=some (.int .i64 x.e):=by rw [hV];simp
 have q2:V.cell? ⟨w.heap.size,2,none⟩=some (.int .i64 x.f):=by rw [hV];simp
 have q3:V.cell? ⟨w.heap.size,3,none⟩=some (.int .i64 x.s):=by rw [hV];simp
 have q4:V.cell? ⟨w.heap.size,4,none⟩=some (.int .i64 x.n):=by rw [hV];simp
 have q5:V.cell? ⟨w.heap.size,5,none⟩=some (.slice ga gn gc):=by rw [hV];simp
 have HQ:Hid (qX1 V w.heap.size 0 x):=⟨q0,by simpa using q1,by simpa using q2,by simpa using q3,by simpa using q4⟩
 have hmk:(Instr.makeMap 186 none).run Tryz.prog V = .ok (.map (some V.heap.size)) (V.alloc (.map #[] 0)):=run_makeMap _ V
 have HBV:Hid (Below w.heap.size w V):=BV
 obtain ⟨M,hM⟩:∃ M,M=V.alloc (.map #[] 0):=⟨_,rfl⟩
 have BM:Hid (Below V.heap.size V M):=by rw [hM];exact zN
 have SM0:Hid (SM M V.heap.size 0 (fun _=>false)):=by rw [hM];exact sm_made V
 have p5:M.cell? ⟨w.heap.size,5,none⟩=some (.slice ga gn gc):=(BM.out.cell (p:=⟨w.heap.size,5,none⟩) hwV).trans q5
 have HS:Hid (qD9 V a n zs):=h.below BV
 have HG:Hid (qC1 V ga gn ys):=hg.below BV
 have HZ:Hid (zs.length=n∧ys.length=gn):=⟨h.1,hg.1⟩
 have HW:Hid ((∀ z∈zs,QM5 z.r)∧∀ y∈ys,QM5 y):=⟨hr,hy⟩
 have hVM:V.heap.size < M.heap.size:=SM0.out.lt
 rw [← hM] at hmk
 clear h hg hr hy BV q0 q1 q2 q3 q4
 go_enter Tryz.func99,Tryz.ntmps99
 go_upto_region 1 with fail
 rw [← hV]
 clear hV hM
 go_wp2_with fail
 go_loopw [14] (fun i wr=>∃ k:Nat,k≤gn∧i = .int .i64 (k:Int)∧SM wr V.heap.size k (fun i=>decide (i∈ys.take k))∧Below V.heap.size V wr) (fun i _=>gn - (intOf i).toNat)
 case atStart=>exact ⟨0,Nat.zero_le _,rfl,SM0.out.cong (fun i=>by simp),BM.out⟩
 case round =>
  obtain ⟨k,hk,rfl,hsm,hvx⟩:=hrel
  by_cases hlt:k < gn
  ·obtain ⟨b,off,y,rfl,hyk,hya,hbl⟩:=HG.out.at hlt
   have hlt':(k:Int) < (gn:Int):=by omega
   have x0:=(hvx.cell (p:=⟨b,off+k,none⟩) hbl).trans hya
   have HP:Hid (∀ w:World,SM w V.heap.size k (fun i=>decide (i∈ys.take k))→Calls Tryz.prog 120 #[.map (some V.heap.size),.int .i64 y] w fun e w'=>e = .returned (.tuple #[])∧SM w' V.heap.size (k+1) (fun i=>decide (i∈ys.take (k+1)))∧w.grownBy w' (some V.heap.size)):=fun w hw =>
    (snPut_c V.heap.size k _ y w hw (by omega) (HW.out.2 y (List.mem_of_getElem? hyk))).mono fun e w' hh=>⟨hh.1,hh.2.1.cong (fun i=>by
     have hkl:k < ys.length:=by rw [HZ.out.2];exact hlt
     have ey:ys[k]=y:=by rw [List.getElem?_eq_getElem hkl] at hyk;exact Option.some.inj hyk
     unfold putP
     rw [List.take_succ_eq_append_getElem hkl,ey,Bool.eq_iff_iff]
     simp only [Bool.or_eq_true,decide_eq_true_eq,List.mem_append,List.mem_singleton]
     exact or_comm),hh.2.2⟩
   clear hyk hya
   go_wp2_with fail
   refine (HP.out _ hsm).mono ?_
   rintro e w1 ⟨rfl,hsm1,hg1⟩
   have B1:=hvx.grown hg1 hvx.size (fun q e=>by cases e;exact Nat.le_refl _)
   clear hsm hg1
   go_wp2
   exact ⟨⟨k+1,by omega,by go_num,hsm1,B1⟩,by simp [intOf];omega⟩
  ·have hkn:k=gn:=by omega
   subst hkn
   have SM1:Hid (SM wr V.heap.size k (qS4 zs x ys 0)):=hsm.cong (fun i=>by unfold qS4;rw [List.take_of_length_le (by rw [HZ.out.2];exact Nat.le_refl _)];simp)
   obtain ⟨U,hU⟩:∃ U,U=wr:=⟨_,rfl⟩
   rw [← hU] at SM1 hvx ⊢
   clear hsm hU
   go_wp2
   go_loopw [24] (fun i wr=>∃ j:Nat,j≤n∧i = .int .i64 (j:Int)∧SM wr V.heap.size k (qS4 zs x ys j)∧Below V.heap.size V wr) (fun i _=>n - (intOf i).toNat)
   case atStart=>exact ⟨0,Nat.zero_le _,rfl,SM1.out,hvx⟩
   case round =>
    obtain ⟨j,hj,rfl,hsm,hwx⟩:=hrel
    by_cases hlt:j < n
    ·obtain ⟨b,off,z,rfl,hz,hza,hbl⟩:=HS.out.at hlt
     have hlt':(j:Int) < (n:Int):=by omega
     obtain ⟨x0,x1,x2,x3,x4,x5⟩:=hza.below hwx hbl
     obtain ⟨Y,hY⟩:∃ Y,Y=wr.alloc (.cells #[.int .i64 z.r,.int .i64 z.k,.int .i64 z.e,.int .i64 z.f,.int .i64 z.s,.int .i64 z.n] 77):=⟨_,rfl⟩
     have hsl:=hsm.lt
     have SY:SM Y V.heap.size k (qS4 zs x ys j):=by rw [hY];exact hsm.below hsl (zN)
     have BY:Below V.heap.size V Y:=by rw [hY];exact hwx.alloc hwx.size _
     obtain ⟨y0,y1,y2,y3,y4⟩:=HQ.out.below hwx hwV
     simp only [Nat.zero_add] at y0 y1 y2 y3 y4
     have hwl:w.heap.size < wr.heap.size:=Nat.lt_of_lt_of_le hwV hwx.size
     cases hsame:qE3 z.st x
     ·have HN:Hid (SM Y V.heap.size k (qS4 zs x ys (j+1))):=SY.cong (fun i=>haveP_stay hz hsame i)
      have HSA:Hid (qE3 z.st x=false):=hsame
      have hse:∀ w:World,(binOp .eql 29 (.agg #[.int .i64 z.k,.int .i64 z.e,.int .i64 z.f,.int .i64 z.s,.int .i64 z.n]) (.agg #[.int .i64 x.k,.int .i64 x.e,.int .i64 x.f,.int .i64 x.s,.int .i64 x.n])).run Tryz.prog w = .ok (.bool false) w:=fun w=>by have:=QK5 z.st x w;rw [hsame] at this;exact this
      clear hz hza hsame SY hsm
      go_wp2
      rw [← hY]
      exact ⟨⟨j+1,by omega,by go_num,HN.out,BY⟩,by simp [intOf];omega⟩
     ·obtain ⟨w2,hdel,hs2,hg2⟩:=sm_del SY (HW.out.1 z (List.mem_of_getElem? hz)) 0
      have HN:Hid (SM w2 V.heap.size k (qS4 zs x ys (j+1))):=hs2.cong (fun i=>haveP_next hz hsame i)
      have B2:Below V.heap.size V w2:=BY.grown hg2 BY.size (fun q e=>by cases e;exact Nat.le_refl _)
      have hse:∀ w:World,(binOp .eql 29 (.agg #[.int .i64 z.k,.int .i64 z.e,.int .i64 z.f,.int .i64 z.s,.int .i64 z.n]) (.agg #[.int .i64 x.k,.int .i64 x.e,.int .i64 x.f,.int .i64 x.s,.int .i64 x.n])).run Tryz.prog w = .ok (.bool true) w:=fun w=>by have:=QK5 z.st x w;rw [hsame] at this;exact this
      rw [hY] at hdel
      clear hz hza hsame SY hsm hs2 hg2
      go_wp2
      exact ⟨⟨j+1,by omega,by go_num,HN.out,B2⟩,by simp [intOf];omega⟩
    ·have hkn:j=n:=by omega
     subst hkn
     obtain ⟨m,hlen,hm1,hm2⟩:=sm_len hsm 3
     have HE:Hid (((m:Int)==0)=qG8 zs x ys):=have_end HZ.out.1 HW.out.2 hm2
     clear hm2 hsm
     go_wp2
     go_ret
     exact ⟨by rw [← HE.out];rfl,HBV.out.trans (hwx.mono HBV.out.size)⟩
end

section
open Go.RowKit Go.Maps
attribute [local go_sem] fldN0 fldN1
def vfL (f:Int) (zs:List ShI) (x:StI) (ys:List Int):Int:=if qB8 x=0 then (if qG9 f ys=0 then (if qG8 zs x ys=true then 0 else 7) else qG9 f ys) else qB8 x
theorem vf_eq (f:Int) (zs:List ShI) (x:StI) (ys:List Int):QD1 f zs x ys=if qB9 f zs=0 then vfL f zs x ys else qB9 f zs:=rfl
structure CrAt (w:World) (b:Nat) (x:StI) (ga:Option Addr) (gn gc:Nat) (ys:List Int):Prop where
 st:qX1 w b 0 x
 sl:w.cell? ⟨b,5,none⟩=some (.slice ga gn gc)
 row:qC1 w ga gn ys
theorem CrAt.lt {w:World} {b:Nat} {x:StI} {ga:Option Addr} {gn gc:Nat} {ys:List Int} (h:CrAt w b x ga gn gc ys):b < w.heap.size:=zL w ⟨b,5,none⟩ h.sl
theorem CrAt.below {w w':World} {b:Nat} {x:StI} {ga:Option Addr} {gn gc:Nat} {ys:List Int} (h:CrAt w b x ga gn gc ys) (hb:Below w.heap.size w w'):CrAt w' b x ga gn gc ys :=
 ⟨h.st.below hb h.lt,(hb.cell (p:=⟨b,5,none⟩) h.lt).trans h.sl,h.row.below hb⟩
end

section
open Go.RowKit Go.Maps
attribute [local go_sem] fldN0 fldN1
def orS (c d:Int):Int:=if c=0 then d else c
theorem or264_c (g:Nat) (c d:Int) (w:World) (h0:w.cell? ⟨g,0,none⟩=some (.int .i64 c)) (h1:w.cell? ⟨g,1,none⟩=some (.int .i64 d)) :
  Calls Tryz.prog 97 #[.slice (some ⟨g,0,none⟩) 2 2] w fun e w'=>e = .returned (.int .i64 (orS c d))∧w=w':=by
 go_enter Tryz.func97,Tryz.ntmps97
 go_wp2
 go_loop [8] (fun i=>∃ k:Nat,k≤2∧i = .int .i64 (k:Int)∧(1≤k→c=0)∧(2≤k→d=0)) (fun i=>2 - (intOf i).toNat)
 case atStart=>exact ⟨0,by omega,rfl,fun h=>by omega,fun h=>by omega⟩
 case round =>
  obtain ⟨k,hk,rfl,hc,hd⟩:=hrel
  have hk':k=0∨k=1∨k=2:=by omega
  rcases hk' with rfl | rfl | rfl
  ·clear hc hd
   by_cases e:c=0
   ·have b:(c != 0)=false:=by simp [e]
    have HE:Hid (c=0):=e
    clear e
    go_wp2
    exact ⟨⟨1,by omega,by go_num,fun _=>HE.out,fun h=>by omega⟩,by simp [intOf]⟩
   ·have b:(c != 0)=true:=by simp [e]
    go_wp2
    go_ret
    exact ⟨by simp [orS,e],rfl⟩
  ·have HC:Hid (c=0):=hc (by omega)
   clear hc hd
   by_cases e:d=0
   ·have b:(d != 0)=false:=by simp [e]
    have HE:Hid (d=0):=e
    clear e
    go_wp2
    exact ⟨⟨2,by omega,by go_num,fun _=>HC.out,fun _=>HE.out⟩,by simp [intOf]⟩
   ·have b:(d != 0)=true:=by simp [e]
    go_wp2
    go_ret
    exact ⟨by simp [orS,HC.out],rfl⟩
  ·have HC:Hid (c=0):=hc (by omega)
   have HD:Hid (d=0):=hd (by omega)
   clear hc hd
   go_wp2
   go_ret
   exact ⟨by simp [orS,HC.out,HD.out],rfl⟩
def GivesVC (fn:Nat) (a:Option Addr) (n cap:Nat) (f:Int) (x:StI) (ga:Option Addr) (gn gc:Nat) (c:Int) (w:World):Prop:=Calls Tryz.prog fn #[.slice a n cap,.int .i64 f,.agg #[.int .i64 x.k,.int .i64 x.e,.int .i64 x.f,.int .i64 x.s,.int .i64 x.n,.slice ga gn gc]] w fun e w'=>e = .returned (.int .i64 c)∧Below w.heap.size w w'
theorem QW5 (w:World) (x:StI) (ga:Option Addr) (gn gc:Nat) (ys:List Int) (t:TypeId) (h:qC1 w ga gn ys):CrAt (w.alloc (.cells #[.int .i64 x.k,.int .i64 x.e,.int .i64 x.f,.int .i64 x.s,.int .i64 x.n,.slice ga gn gc] t)) w.heap.size x ga gn gc ys:=by
 refine ⟨⟨?_,?_,?_,?_,?_⟩,?_,h.below (zN)⟩ <;> simp
theorem qJ4 (a:Option Addr) (n cap:Nat) (zs:List ShI) (f:Int) (x:StI) (ga:Option Addr) (gn gc:Nat) (ys:List Int) (w:World) (hn:n≤1048576) (hcap:n≤cap) (hcm:cap≤maxLen) (hgn:gn≤1048576) (h:qD9 w a n zs) (hg:qC1 w ga gn ys):GivesVC 55 a n cap f x ga gn gc (QD1 f zs x ys) w:=by
 unfold GivesVC
 obtain ⟨V,hV⟩:∃ V,V=w.alloc (.cells #[.int .i64 x.k,.int .i64 x.e,.int .i64 x.f,.int .i64 x.s,.int .i64 x.n,.slice ga gn gc] 32):=⟨_,rfl⟩
 have BV:Below w.heap.size w V:=by rw [hV];exact zN
 have HC:Hid (CrAt V w.heap.size x ga gn gc ys):=by rw [hV];exact QW5 w x ga gn gc ys _ hg
 have HS:Hid (qD9 V a n zs):=h.below BV
 have hVl:w.heap.size < V.heap.size:=HC.out.lt
 obtain ⟨s,hs⟩:∃ s,qB9 f zs=s:=⟨_,rfl⟩
 obtain ⟨t,ht⟩:∃ t,qB8 x=t:=⟨_,rfl⟩
 have HF:Hid (∀ w:World,KC V w→Calls Tryz.prog 78 #[.slice a n cap,.int .i64 f] w fun e w'=>e = .returned (.int .i64 s)∧Below w.heap.size w w'):=fun w hw=>by have:=qI1 a n cap zs f w hn hcap hcm (HS.out.below hw.2);rw [hs] at this;exact this
 have HT:Hid (∀ w:World,Calls Tryz.prog 77 #[.agg #[.int .i64 x.k,.int .i64 x.e,.int .i64 x.f,.int .i64 x.s,.int .i64 x.n]] w fun e w'=>e = .returned (.int .i64 t)∧Below w.heap.size w w'):=by rw [← ht];exact qD7 x
 obtain ⟨c,hc⟩:∃ c,c=QD1 f zs x ys:=⟨_,rfl⟩
 rw [← hc]
 have HV:Hid (c=if s=0 then vfL f zs x ys else s):=by show c=_;rw [hc,vf_eq,hs]
 have HL:Hid (vfL f zs x ys=if t=0 then (if qG9 f ys=0 then (if qG8 zs x ys=true then 0 else 7) else qG9 f ys) else t):=by show _=_;unfold vfL;rw [ht]
 have HOK:Hid (s=0→inR f 1 2=true∧zs.length≤120∧∀ x∈zs,inR x.r 1 (3 * f+1)=true∧qB8 x.st=0):=fun q=>sh_ok (hs.trans q)
 have HZ:Hid (zs.length=n∧ys.length=gn):=⟨h.1,hg.1⟩
 obtain ⟨u,hu⟩:∃ u,orS s t=u:=⟨_,rfl⟩
 have HU:Hid (orS s t=u):=hu
 obtain ⟨z0,z1,z2,z3,z4⟩:=HC.out.st
 have z5:=HC.out.sl
 simp only [Nat.zero_add] at z0 z1 z2 z3 z4
 clear h hg hs ht hc hu
 go_enter Tryz.func55,Tryz.ntmps55
 go_upto_region 1 with fail
 rw [← hV]
 clear hV
 go_region_held3 (fun w'=>KC V w') (first | exact hS | exact qB6 _ | exact qV6 (by assumption) _ | assumption)
  (first | (go_at_call 78;refine (HF.out _ (by assumption)).mono ?_;rintro e w' ⟨rfl,hb2⟩;have hS:=qA8 (by assumption) hb2) | (go_at_call 77;refine (HT.out _).mono ?_;rintro e w' ⟨rfl,hb2⟩;have hS:=qA8 (by assumption) hb2) | (go_at_call 97;refine (or264_c _ s t _ ?_ ?_).mono ?_;(· simp [go_sem]);(· simp [go_sem]);rintro e w' ⟨rfl,rfl⟩;rw [HU.out]))
 have hS3:=qV6 hS (.cells #[.int .i64 s,.int .i64 t] 2)
 generalize w'.alloc (.cells #[.int .i64 s,.int .i64 t] 2)=w3 at hS3 ⊢
 have B3:Below w.heap.size w w3:=BV.trans (hS3.2.mono BV.size)
 have C3:Hid (CrAt w3 w.heap.size x ga gn gc ys):=HC.out.below hS3.2
 have S3:Hid (qD9 w3 a n zs):=HS.out.below hS3.2
 clear hS hS3 z0 z1 z2 z3 z4 z5
 by_cases u0:u=0
 ·have ub:(u != 0)=false:=by simp [u0]
  have hst:s=0∧t=0:=by
   have:=HU.out
   unfold orS at this
   by_cases q:s=0
   ·rw [if_pos q] at this;exact ⟨q,by omega⟩
   ·rw [if_neg q] at this;exact absurd (this.trans u0) q
  have hok:=HOK.out hst.1
  obtain ⟨v,hv⟩:∃ v,qG9 f ys=v:=⟨_,rfl⟩
  have HV2:Hid (c=if v=0 then (if qG8 zs x ys=true then 0 else 7) else v):=by show c=_;rw [HV.out,if_pos hst.1,HL.out,if_pos hst.2,hv]
  have HSF:Hid (∀ w:World,qC1 w ga gn ys→Calls Tryz.prog 98 #[.slice ga gn gc,.int .i64 f] w fun e w'=>e = .returned (.int .i64 v)∧Below w.heap.size w w'):=fun w hw=>by rw [← hv];exact QC4 ga gn gc ys f w hgn hok.1 hw
  have HWF:Hid (v=0→n≤1000∧gn≤1000∧(∀ z∈zs,QM5 z.r)∧∀ y∈ys,QM5 y):=fun q=>by
   have hfr:=(qD2 _ _ _).1 hok.1
   rw [← hv] at q
   unfold qG9 at q
   by_cases r1:qP5 ys=true
   ·rw [if_pos r1] at q
    by_cases r2:qH7 f ys=true
    ·have hrg:∀ y∈ys,1≤y∧y≤3 * f+1:=fun y hy=>by
      unfold qH7 at r2
      exact (qD2 _ _ _).1 (List.all_eq_true.1 r2 y hy)
     refine ⟨by have:=HZ.out.1;omega,?_,fun z hz=>?_,fun y hy=>?_⟩
     ·unfold qP5 at r1
      have hup:Up ys:=of_decide_eq_true r1
      have:=nodup_lenI ys ((List.range 100).map (fun k:Nat=>(k:Int))) (up_nodup hup) (fun y hy=>by
       have:=hrg y hy
       exact List.mem_map.2 ⟨y.toNat,List.mem_range.2 (by omega),by omega⟩)
      have hz2:=HZ.out.2
      simp at this
      omega
     ·have:=(qD2 _ _ _).1 (hok.2.2 z hz).1
      exact i64W_of (by omega) (by omega)
     ·have:=hrg y hy
      exact i64W_of (by omega) (by omega)
    ·rw [if_neg r2] at q;omega
   ·rw [if_neg r1] at q;omega
  clear hst hok hv u0 HV HL HOK
  have z5:=C3.out.sl
  go_wp2_with fail
  refine (HSF.out _ C3.out.row).mono ?_
  rintro e w4 ⟨rfl,hb4⟩
  have B4:=B3.trans (hb4.mono B3.size)
  have C4:Hid (CrAt w4 w.heap.size x ga gn gc ys):=C3.out.below hb4
  have S4:Hid (qD9 w4 a n zs):=S3.out.below hb4
  clear z5 hb4
  by_cases v0:v=0
  ·have vb:(v != 0)=false:=by simp [v0]
   obtain ⟨k1,k2,k3,k4⟩:=HWF.out v0
   have HH:Hid (∀ w:World,qD9 w a n zs→qC1 w ga gn ys→Calls Tryz.prog 99 #[.slice a n cap,.agg #[.int .i64 x.k,.int .i64 x.e,.int .i64 x.f,.int .i64 x.s,.int .i64 x.n,.slice ga gn gc]] w fun e w'=>e = .returned (.bool (qG8 zs x ys))∧Below w.heap.size w w'):=fun w h1 h2=>QM6 a n cap zs x ga gn gc ys w k1 k2 h1 h2 k3 k4
   obtain ⟨g,hg⟩:∃ g,qG8 zs x ys=g:=⟨_,rfl⟩
   have HV3:Hid (c=if g=true then 0 else 7):=by show c=_;rw [HV2.out,if_pos v0,hg]
   rw [hg] at HH
   clear k1 k2 k3 k4 v0 hg HV2
   obtain ⟨z0,z1,z2,z3,z4⟩:=C4.out.st
   have z5:=C4.out.sl
   simp only [Nat.zero_add] at z0 z1 z2 z3 z4
   go_wp2_with fail
   refine (HH.out _ S4.out C4.out.row).mono ?_
   rintro e w5 ⟨rfl,hb5⟩
   have B5:=B4.trans (hb5.mono B4.size)
   clear z0 z1 z2 z3 z4 z5 hb5
   cases g
   ·have H7:Hid (c=7):=by show c=7;rw [HV3.out];rfl
    go_wp2
    go_ret
    exact ⟨by rw [H7.out];rfl,B5⟩
   ·have H7:Hid (c=0):=by show c=0;rw [HV3.out];rfl
    go_wp2
    go_ret
    exact ⟨by rw [H7.out];rfl,B5⟩
  ·have vb:(v != 0)=true:=by simp [v0]
   have HE:Hid (c=v):=by show c=v;rw [HV2.out,if_neg v0]
   clear v0
   go_wp2
   go_ret
   exact ⟨by rw [HE.out];rfl,B4⟩
 ·have ub:(u != 0)=true:=by simp [u0]
  have HE:Hid (c=u):=by
   show c=u
   rw [HV.out,HL.out,← HU.out]
   have h2:=HU.out
   unfold orS at h2 ⊢
   by_cases q:s=0
   ·rw [if_pos q] at h2 ⊢
    rw [if_pos q,if_neg (by rw [h2];exact u0)]
   ·rw [if_neg q,if_neg q]
  clear u0
  go_wp2
  go_ret
  exact ⟨by rw [HE.out];rfl,B3⟩
end

section
open Go.RowKit Go.Maps
attribute [local go_sem] fldN0 fldN1
theorem QG8 {w:World} {B B':Nat} {t:TypeId} {sz:Nat} {v:Value} {n:Nat} {xs:List Value} (h:w.ownsRow B t sz v n xs) (hB:B'≤B):w.ownsRow B' t sz v n xs:=by
 refine ⟨h.1,?_⟩
 rcases h.2 with q | ⟨g,cap,cur,e,hg,rest⟩
 ·exact .inl q
 ·exact .inr ⟨g,cap,cur,e,Nat.le_trans hB hg,rest⟩
end

end Go.Proofs.YthogdfnaojijhaaGreat
