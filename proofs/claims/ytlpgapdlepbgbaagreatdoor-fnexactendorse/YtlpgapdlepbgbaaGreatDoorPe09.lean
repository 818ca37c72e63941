/- Contracts. -/
import Derived.Test.YtlpgapdlepbgbaaGreatDoorPe07
import Derived.Deep.CutBlock
namespace Go.Proofs.YtlpgapdlepbgbaaGreatDoor
set_option maxRecDepth 100000
set_option maxHeartbeats 8000000
open Go.RowKit
set_option linter.unusedVariables false
set_option linter.unusedSimpArgs false

theorem QC7.new (w:World) (x:LkI) (t:TypeId):QC7 (w.alloc (.cells #[.int .i64 x.e,.int .i64 x.c,.int .i64 x.p,.int .i64 x.f] t)) w.heap.size 0 x:=⟨by simp,by simp,by simp,by simp⟩
theorem cmp64_c (x y:Int) (w:World):Calls Tryz.prog 181 #[.int .i64 x,.int .i64 y] w fun e w'=>e = .returned (.int .i64 (cmpJ x y))∧w=w':=by
 unfold cmpJ
 by_cases h1:x < y
 ·go_enter Tryz.func181,Tryz.ntmps181
  go_wp2
  go_ret
  exact ⟨by simp [h1],rfl⟩
 ·by_cases h2:y < x
  ·go_enter Tryz.func181,Tryz.ntmps181
   go_wp2
   go_ret
   exact ⟨by simp [h1,h2],rfl⟩
  ·go_enter Tryz.func181,Tryz.ntmps181
   go_wp2
   go_ret
   exact ⟨by simp [h1,h2],rfl⟩
theorem or3_c (g:Nat) (c d f:Int) (w:World) (h0:w.cell? ⟨g,0,none⟩=some (.int .i64 c)) (h1:w.cell? ⟨g,1,none⟩=some (.int .i64 d)) (h2:w.cell? ⟨g,2,none⟩=some (.int .i64 f)) :
  Calls Tryz.prog 180 #[.slice (some ⟨g,0,none⟩) 3 3] w fun e w'=>e = .returned (.int .i64 (orJ c (orJ d f)))∧w=w':=by
 go_enter Tryz.func180,Tryz.ntmps180
 go_wp2
 go_loop [8] (fun i=>∃ k:Nat,k≤3∧i = .int .i64 (k:Int)∧(1≤k→c=0)∧(2≤k→d=0)∧(3≤k→f=0)) (fun i=>3 - (intOf i).toNat)
 case atStart=>exact ⟨0,by omega,rfl,fun h=>by omega,fun h=>by omega,fun h=>by omega⟩
 case round =>
  obtain ⟨k,hk,rfl,hc,hd,hf⟩:=hrel
  have hk':k=0∨k=1∨k=2∨k=3:=by omega
  rcases hk' with rfl | rfl | rfl | rfl
  ·clear hc hd hf
   by_cases e:c=0
   ·have b:(c != 0)=false:=by simp [e]
    have HE:Hid (c=0):=e
    clear e
    go_wp2
    exact ⟨⟨1,by omega,by go_num,fun _=>HE.out,fun h=>by omega,fun h=>by omega⟩,by simp [intOf]⟩
   ·have b:(c != 0)=true:=by simp [e]
    go_wp2
    go_ret
    exact ⟨by simp [orJ,e],rfl⟩
  ·have HC:Hid (c=0):=hc (by omega)
   clear hc hd hf
   by_cases e:d=0
   ·have b:(d != 0)=false:=by simp [e]
    have HE:Hid (d=0):=e
    clear e
    go_wp2
    exact ⟨⟨2,by omega,by go_num,fun _=>HC.out,fun _=>HE.out,fun h=>by omega⟩,by simp [intOf]⟩
   ·have b:(d != 0)=true:=by simp [e]
    go_wp2
    go_ret
    exact ⟨by simp [orJ,HC.out,e],rfl⟩
  ·have HC:Hid (c=0):=hc (by omega)
   have HD:Hid (d=0):=hd (by omega)
   clear hc hd hf
   by_cases e:f=0
   ·have b:(f != 0)=false:=by simp [e]
    have HE:Hid (f=0):=e
    clear e
    go_wp2
    exact ⟨⟨3,by omega,by go_num,fun _=>HC.out,fun _=>HD.out,fun _=>HE.out⟩,by simp [intOf]⟩
   ·have b:(f != 0)=true:=by simp [e]
    go_wp2
    go_ret
    exact ⟨by simp [orJ,HC.out,HD.out],rfl⟩
  ·have HC:Hid (c=0):=hc (by omega)
   have HD:Hid (d=0):=hd (by omega)
   have HF:Hid (f=0):=hf (by omega)
   clear hc hd hf
   go_wp2
   go_ret
   exact ⟨by simp [orJ,HC.out,HD.out,HF.out],rfl⟩
theorem qU7 (x y:LkI) (W:World):Calls Tryz.prog 159 #[.agg #[.int .i64 x.e,.int .i64 x.c,.int .i64 x.p,.int .i64 x.f],.agg #[.int .i64 y.e,.int .i64 y.c,.int .i64 y.p,.int .i64 y.f]] W fun e w'=>e = .returned (.int .i64 (cfL x y))∧Below W.heap.size W w':=by
 have HF:Hid (cfL x y=orJ (cmpJ x.e y.e) (orJ (cmpJ x.c y.c) (cmpJ x.p y.p))):=rfl
 go_enter Tryz.func159,Tryz.ntmps159
 go_wp2
 go_region_held3 (fun w'=>((w'.cell? ⟨W.heap.size,0,none⟩=some (.int .i64 x.e)∧w'.cell? ⟨W.heap.size,1,none⟩=some (.int .i64 x.c)∧w'.cell? ⟨W.heap.size,2,none⟩=some (.int .i64 x.p))∧(w'.cell? ⟨W.heap.size+1,0,none⟩=some (.int .i64 y.e)∧w'.cell? ⟨W.heap.size+1,1,none⟩=some (.int .i64 y.c)∧w'.cell? ⟨W.heap.size+1,2,none⟩=some (.int .i64 y.p)))) (first | assumption | (refine ⟨⟨?_,?_,?_⟩,?_,?_,?_⟩ <;> simp [go_sem]))
  (first | (go_at_call 181;refine (cmp64_c _ _ _).mono ?_;rintro e w' ⟨rfl,rfl⟩) | (go_at_call 180;refine (or3_c _ (cmpJ x.e y.e) (cmpJ x.c y.c) (cmpJ x.p y.p) _ ?_ ?_ ?_).mono ?_;(· simp [go_sem]);(· simp [go_sem]);(· simp [go_sem]);rintro e w' ⟨rfl,rfl⟩))
 all_goals go_wp2
 all_goals go_ret
 all_goals exact ⟨by rw [HF.out];rfl,by go_grown⟩
theorem l5Ahead_c (x y:LkI) (w:World):Calls Tryz.prog 154 #[.agg #[.int .i64 x.e,.int .i64 x.c,.int .i64 x.p,.int .i64 x.f],.agg #[.int .i64 y.e,.int .i64 y.c,.int .i64 y.p,.int .i64 y.f]] w fun e w'=>e = .returned (.bool (ltL x y))∧Below w.heap.size w w':=by
 by_cases q1:x.e=y.e
 ·have b1:(x.e != y.e)=false:=by simp [q1]
  by_cases q2:x.c=y.c
  ·have b2:(x.c != y.c)=false:=by simp [q2]
   have HV:Hid (ltL x y=decide (x.p < y.p)):=by show ltL x y=_;simp [ltL,q1,q2]
   clear q1 q2
   go_enter Tryz.func154,Tryz.ntmps154
   go_wp2
   go_ret
   exact ⟨by rw [HV.out];rfl,by go_grown⟩
  ·have b2:(x.c != y.c)=true:=by simp [q2]
   have HV:Hid (ltL x y=decide (x.c < y.c)):=by show ltL x y=_;simp [ltL,q1,q2]
   clear q1 q2
   go_enter Tryz.func154,Tryz.ntmps154
   go_wp2
   go_ret
   exact ⟨by rw [HV.out];rfl,by go_grown⟩
 ·have b1:(x.e != y.e)=true:=by simp [q1]
  have HV:Hid (ltL x y=decide (x.e < y.e)):=by show ltL x y=_;simp [ltL,q1]
  clear q1
  go_enter Tryz.func154,Tryz.ntmps154
  go_wp2
  go_ret
  exact ⟨by rw [HV.out];rfl,by go_grown⟩
theorem isLock_c (x:LkI) (w:World):Calls Tryz.prog 158 #[.agg #[.int .i64 x.e,.int .i64 x.c,.int .i64 x.p,.int .i64 x.f]] w fun e w'=>e = .returned (.bool (okL x))∧Below w.heap.size w w':=by
 obtain ⟨t1,h1⟩:∃ t,inR x.e 1 9=t:=⟨_,rfl⟩
 obtain ⟨t2,h2⟩:∃ t,inR x.c 0 3=t:=⟨_,rfl⟩
 obtain ⟨t3,h3⟩:∃ t,inR x.p 1 8=t:=⟨_,rfl⟩
 obtain ⟨t4,h4⟩:∃ t,inR x.f 1 4=t:=⟨_,rfl⟩
 have HV:Hid (okL x=(t1&&t2&&t3&&t4)):=by show okL x=_;rw [okL,h1,h2,h3,h4]
 have H1:Hid (inR x.e 1 9=t1):=h1
 have H2:Hid (inR x.c 0 3=t2):=h2
 have H3:Hid (inR x.p 1 8=t3):=h3
 have H4:Hid (inR x.f 1 4=t4):=h4
 clear h1 h2 h3 h4
 cases t1
 ·go_enter Tryz.func158,Tryz.ntmps158
  go_wp2_with (first | (go_at_call 131;refine (qI4 _ _).mono ?_;rintro e w' ⟨rfl,rfl⟩;rw [H1.out]))
  go_ret
  exact ⟨by rw [HV.out];rfl,by go_grown⟩
 ·cases t2
  ·go_enter Tryz.func158,Tryz.ntmps158
   go_wp2_with (first | (go_at_call 131;refine (qI4 _ _).mono ?_;rintro e w' ⟨rfl,rfl⟩;rw [H1.out]) | (go_at_call 178;refine (QV1 _ _).mono ?_;rintro e w' ⟨rfl,rfl⟩;rw [H2.out]))
   go_ret
   exact ⟨by rw [HV.out];rfl,by go_grown⟩
  ·cases t3
   ·go_enter Tryz.func158,Tryz.ntmps158
    go_wp2_with (first | (go_at_call 131;refine (qI4 _ _).mono ?_;rintro e w' ⟨rfl,rfl⟩;rw [H1.out]) | (go_at_call 178;refine (QV1 _ _).mono ?_;rintro e w' ⟨rfl,rfl⟩;rw [H2.out]) | (go_at_call 179;refine (iPrin_c _ _).mono ?_;rintro e w' ⟨rfl,rfl⟩;rw [H3.out]))
    go_ret
    exact ⟨by rw [HV.out];rfl,by go_grown⟩
   ·cases t4
    all_goals
     go_enter Tryz.func158,Tryz.ntmps158
     go_wp2_with (first | (go_at_call 131;refine (qI4 _ _).mono ?_;rintro e w' ⟨rfl,rfl⟩;rw [H1.out]) | (go_at_call 178;refine (QV1 _ _).mono ?_;rintro e w' ⟨rfl,rfl⟩;rw [H2.out]) | (go_at_call 179;refine (iPrin_c _ _).mono ?_;rintro e w' ⟨rfl,rfl⟩;rw [H3.out]) | (go_at_call 132;refine (QC3 _ _).mono ?_;rintro e w' ⟨rfl,rfl⟩;rw [H4.out]))
     go_ret
     exact ⟨by rw [HV.out];rfl,by go_grown⟩

theorem prevL_of {gs:List LkI} {j:Nat} {x y:LkI} (h:gs[j]? = some y):prevL gs (j+1) x=ltL y x:=by simp [prevL,h]
theorem lk_three {gs:List LkI} {k n:Nat} {x:LkI} {c:Int} (hc:QI2 gs n=c) (hn:QI2 gs (k+1)=QP1 gs k x) (hk:k < n) (h:okL x=false):c=3 :=
 hc.symm.trans (QL8 gs (k+1) n 3 (by decide) (by rw [hn];simp [QP1,h]) (by omega))
theorem QP0 (a:Option Addr) (n cap:Nat) (gs:List LkI) (c:Int) (w:World) (h200:n≤200) (h:qK1 w a n gs) (hc:QI2 gs n=c) :
  Calls Tryz.prog 138 #[.slice a n cap] w fun e w'=>e = .returned (.int .i64 c)∧Below w.heap.size w w':=by
 have H:Hid (qK1 w a n gs):=h
 have HC:Hid (QI2 gs n=c):=hc
 clear h hc
 have h':¬ ((200:Int) < (n:Int)):=by omega
 have hn':(n:Int)≤200:=by omega
 go_enter Tryz.func138,Tryz.ntmps138
 go_wp2
 go_loopw [10] (fun i wr=>∃ k:Nat,k≤n∧i = .int .i64 (k:Int)∧QI2 gs k=0∧Below w.heap.size w wr) (fun i _=>n - (intOf i).toNat)
 case atStart=>exact ⟨0,Nat.zero_le _,rfl,rfl,Below.refl _ _⟩
 case round =>
  obtain ⟨k,hk,rfl,hp,hnx⟩:=hrel
  have HP:Hid (QI2 gs k=0):=hp
  clear hp
  by_cases hlt:k < n
  ·obtain ⟨b,off,x,rfl,hs,hx,hbl⟩:=H.out.at hlt
   have HN:Hid (QI2 gs (k+1)=QP1 gs k x):=QL9 hs HP.out
   clear hs
   obtain ⟨g0,g1,g2,g3⟩:=hx.below hnx hbl
   have hbw:b < wr.heap.size:=Nat.lt_of_lt_of_le hbl hnx.size
   have hlt':(k:Int) < (n:Int):=by omega
   obtain ⟨t,ht⟩:∃ t,okL x=t:=⟨_,rfl⟩
   have HT:Hid (okL x=t):=ht
   clear ht
   go_wp2_with fail
   refine (isLock_c x _).mono ?_
   rintro e w1 ⟨rfl,hb1⟩
   rw [HT.out]
   have hz1:=hb1.size
   simp only [World.size_alloc] at hz1
   have hnx1:Below w.heap.size w w1:=hnx.trans ((qD5 hb1).mono hnx.size)
   have hlt1:wr.heap.size < w1.heap.size:=by omega
   have b0:w1.cell? ⟨wr.heap.size,0,none⟩=some (.int .i64 x.e):=(hb1.cell (p:=⟨wr.heap.size,0,none⟩) (by simp)).trans (by simp)
   have b1:w1.cell? ⟨wr.heap.size,1,none⟩=some (.int .i64 x.c):=(hb1.cell (p:=⟨wr.heap.size,1,none⟩) (by simp)).trans (by simp)
   have b2:w1.cell? ⟨wr.heap.size,2,none⟩=some (.int .i64 x.p):=(hb1.cell (p:=⟨wr.heap.size,2,none⟩) (by simp)).trans (by simp)
   have b3:w1.cell? ⟨wr.heap.size,3,none⟩=some (.int .i64 x.f):=(hb1.cell (p:=⟨wr.heap.size,3,none⟩) (by simp)).trans (by simp)
   have hold:∀ o,w1.cell? ⟨b,o,none⟩=wr.cell? ⟨b,o,none⟩:=fun o=>((qD5 hb1).cell (p:=⟨b,o,none⟩) hbw)
   clear hb1 g0 g1 g2 g3
   cases t
   ·have E:Hid (c=3):=lk_three HC.out HN.out hlt HT.out
    clear hold
    go_wp2
    go_ret
    exact ⟨by rw [E.out];rfl,hnx1⟩
   obtain rfl | ⟨j,rfl⟩:k=0∨∃ j,k=j+1:=by cases k;exact .inl rfl;exact .inr ⟨_,rfl⟩
   ·have HE:Hid (QI2 gs 1=0):=HN.out.trans (QF6.2 ⟨HT.out,rfl⟩)
    clear hold
    go_wp2
    go_quiet (fail)
    go_wp2
    exact ⟨⟨0+1,by omega,by go_num,HE.out,below_drewN hnx1 _⟩,by simp [intOf];omega⟩
   ·obtain ⟨b',off',y,e',hy,hyx,_⟩:=H.out.at (k:=j) (by omega)
    cases e'
    obtain ⟨q0,q1,q2,q3⟩:=hyx.below hnx hbl
    have HV2:Hid (QP1 gs (j+1) x=if ltL y x=false then 1 else 0):=by show QP1 gs (j+1) x=_;simp [QP1,HT.out,prevL_of hy]
    have y0:=(hold _).trans q0
    have y1:=(hold _).trans q1
    have y2:=(hold _).trans q2
    have y3:=(hold _).trans q3
    clear hyx hy hold q0 q1 q2 q3
    have hbv:b < w1.heap.size:=by omega
    have hj1:(j:Int) < (n:Int):=by omega
    have hj0:(0:Int)≤(j:Int):=by omega
    have hjw:IntKind.i64.wrap ((j:Int)+1 - 1)=(j:Int):=by rw [IntKind.wrap_i64];omega
    have hjw2:IntKind.i64.wrap (j:Int)=(j:Int):=by rw [IntKind.wrap_i64];omega
    have hjw3:IntKind.i64.wrap (((j+1:Nat):Int) - 1)=(j:Int):=by rw [IntKind.wrap_i64];omega
    have hpos1:(0:Int) < (j:Int)+1:=by omega
    go_wp2
    obtain ⟨v,hv⟩:∃ v,cfL y x=v:=⟨_,rfl⟩
    have HCm:Hid (∀ w2:World,Calls Tryz.prog 159 #[.agg #[.int .i64 y.e,.int .i64 y.c,.int .i64 y.p,.int .i64 y.f],.agg #[.int .i64 x.e,.int .i64 x.c,.int .i64 x.p,.int .i64 x.f]] w2 fun e w'=>e = .returned (.int .i64 v)∧Below w2.heap.size w2 w'):=fun w2=>by rw [← hv];exact qU7 y x w2
    have hge:(v < 0)↔ltL y x=true:=by rw [← hv];exact cfL_neg y x
    by_cases hpos:0≤v
    ·have E:Hid (c=1):=HC.out.symm.trans (QL8 gs (j+1+1) n 1 (by decide) (by rw [HN.out,HV2.out,if_pos (by cases q:ltL y x;rfl;have:=hge.2 q;omega)]) (by omega))
     clear hge hv
     go_region_held3 (fun w'=>(∀ b o,b < w1.heap.size→w'.cell? ⟨b,o,none⟩=w1.cell? ⟨b,o,none⟩)∧Below w1.heap.size w1 w') (first | exact hS | exact qB4 _)
      (first | (go_at_call 159;refine (HCm.out _).mono ?_;rintro e w' ⟨rfl,hb2⟩;have hS:=qA0 (by assumption) hb2))
     go_wp2
     go_ret
     exact ⟨by rw [E.out];rfl,hnx1.trans (hS.2.mono hnx1.size)⟩
    ·have hneg:v < 0:=by omega
     have HE:Hid (QI2 gs (j+1+1)=0):=by show QI2 gs (j+1+1)=0;rw [HN.out,HV2.out,if_neg (by rw [hge.1 hneg];simp)]
     clear hge hv hpos
     go_region_held3 (fun w'=>(∀ b o,b < w1.heap.size→w'.cell? ⟨b,o,none⟩=w1.cell? ⟨b,o,none⟩)∧Below w1.heap.size w1 w') (first | exact hS | exact qB4 _)
      (first | (go_at_call 159;refine (HCm.out _).mono ?_;rintro e w' ⟨rfl,hb2⟩;have hS:=qA0 (by assumption) hb2))
     go_wp2
     exact ⟨⟨j+1+1,by omega,by go_num,HE.out,hnx1.trans (hS.2.mono hnx1.size)⟩,by simp [intOf];omega⟩
  ·have hkn:k=n:=by omega
   subst hkn
   have E:Hid (c=0):=HC.out.symm.trans HP.out
   go_wp2
   go_ret
   exact ⟨by rw [E.out];rfl,hnx⟩
theorem QL6 (a:Option Addr) (n cap:Nat) (w:World) (h200:200 < n) :
  Calls Tryz.prog 138 #[.slice a n cap] w fun e w'=>e = .returned (.int .i64 2)∧Below w.heap.size w w':=by
 have h':(200:Int) < (n:Int):=by omega
 go_enter Tryz.func138,Tryz.ntmps138
 go_wp2
 go_ret
 exact ⟨rfl,Below.refl _ _⟩
theorem qX4 (a:Option Addr) (n cap:Nat) (gs:List LkI) (w:World) (h:qK1 w a n gs) :
  Calls Tryz.prog 138 #[.slice a n cap] w fun e w'=>e = .returned (.int .i64 (qJ8 gs))∧Below w.heap.size w w':=by
 have hz:=h.1
 by_cases h40:200 < n
 ·have e:qJ8 gs=2:=by simp [qJ8,hz,h40]
  rw [e]
  exact QL6 a n cap w h40
 ·have e:qJ8 gs=QI2 gs n:=by simp [qJ8,hz,h40]
  rw [e]
  exact QP0 a n cap gs _ w (by omega) h rfl

theorem cut_lo {gs:List LkI} (hs:SL gs) {m:Nat} {x t:LkI} (hx:gs[m]? = some x) (h:ltL x t=true):∀ (k:Nat) (y:LkI),k < m+1→gs[k]? = some y→ltL y t=true:=by
 intro k y hk hy
 by_cases e:k=m
 ·subst e
  rw [hx] at hy
  cases hy
  exact h
 ·have hm:m < gs.length:=by
   by_cases q:m < gs.length
   ·exact q
   ·rw [List.getElem?_eq_none (by omega)] at hx;cases hx
  have h1:=List.pairwise_iff_getElem.1 hs k m (by omega) hm (by omega)
  rw [List.getElem?_eq_getElem hm] at hx
  rw [List.getElem?_eq_getElem (by omega)] at hy
  rw [Option.some.inj hx,Option.some.inj hy] at h1
  exact QE0 h1 h
theorem cut_hi {gs:List LkI} (hs:SL gs) {m:Nat} {x t:LkI} (hx:gs[m]? = some x) (h:ltL x t=false):∀ (k:Nat) (y:LkI),m≤k→gs[k]? = some y→ltL y t=false:=by
 intro k y hk hy
 by_cases e:k=m
 ·subst e
  rw [hx] at hy
  cases hy
  exact h
 ·have hk2:k < gs.length:=by
   by_cases q:k < gs.length
   ·exact q
   ·rw [List.getElem?_eq_none (by omega)] at hy;cases hy
  have h1:=List.pairwise_iff_getElem.1 hs m k (by omega) hk2 (by omega)
  rw [List.getElem?_eq_getElem (by omega)] at hx
  rw [List.getElem?_eq_getElem hk2] at hy
  rw [Option.some.inj hx,Option.some.inj hy] at h1
  cases q:ltL y t
  ·rfl
  ·rw [QE0 h1 q] at h;cases h
def Found (gs:List LkI) (t:LkI) (w:World) (e:Ending) (w':World):Prop:=∃ (i:Nat) (b:Bool),e = .returned (.tuple #[.int .i64 (i:Int),.bool b])∧QO4 gs t i∧(b=true↔∃ x,gs[i]? = some x∧cfL x t=0)∧Below w.heap.size w w'
theorem search_c (a:Option Addr) (n cap:Nat) (gs:List LkI) (t:LkI) (w:World) (h:qK1 w a n gs) (hs:SL gs) (hn:n≤1048576) :
  Calls Tryz.prog 164 #[.slice a n cap,.agg #[.int .i64 t.e,.int .i64 t.c,.int .i64 t.p,.int .i64 t.f],.func (.func 159) #[] #[]] w fun e w'=>Found gs t w e w':=by
 have HZ:Hid (gs.length=n):=h.1
 have HL:Hid (SL gs):=hs
 have hn':(n:Int)≤1048576:=by omega
 obtain ⟨w0,hw0⟩:∃ w0,w0=w.alloc (.cells #[.int .i64 t.e,.int .i64 t.c,.int .i64 t.p,.int .i64 t.f] 98):=⟨_,rfl⟩
 have hb0:Below w.heap.size w w0:=by rw [hw0];exact zN
 have hs0:w.heap.size < w0.heap.size:=by rw [hw0];simp
 have H:Hid (qK1 w0 a n gs):=h.below hb0
 have HB0:Hid (Below w.heap.size w w0):=hb0
 have HT:Hid (QC7 w0 w.heap.size 0 t):=by rw [hw0];exact QC7.new _ _ _
 clear h hs hb0
 go_enter Tryz.func164,Tryz.ntmps164
 go_wp2_with fail
 rw [← hw0]
 clear hw0
 go_loopw [9,10] (fun p q wr=>∃ (i j:Nat),i≤j∧j≤n∧p = .int .i64 (i:Int)∧q = .int .i64 (j:Int)∧(∀ (k:Nat) (x:LkI),k < i→gs[k]? = some x→ltL x t=true)∧(∀ (k:Nat) (x:LkI),j≤k→gs[k]? = some x→ltL x t=false)∧Below w0.heap.size w0 wr) (fun p q _=>(intOf q).toNat - (intOf p).toNat)
 case atStart=>exact ⟨0,n,Nat.zero_le _,Nat.le_refl _,rfl,rfl,fun k x hk=>by omega,(fun k x hk hx=>by rw [List.getElem?_eq_none (by rw [HZ.out];exact hk)] at hx;cases hx),Below.refl _ _⟩
 case round =>
  obtain ⟨i,j,hij,hjn,rfl,rfl,hlo,hhi,hnx⟩:=hrel
  have HLO:Hid (∀ (k:Nat) (x:LkI),k < i→gs[k]? = some x→ltL x t=true):=hlo
  have HHI:Hid (∀ (k:Nat) (x:LkI),j≤k→gs[k]? = some x→ltL x t=false):=hhi
  clear hlo hhi
  obtain ⟨t0,t1,t2,t3⟩:=HT.out.below hnx hs0
  rw [Nat.zero_add] at t1 t2 t3
  by_cases hlt:i < j
  ·obtain ⟨b,off,x,rfl,hx,hxa,hbl⟩:=H.out.at (show (i+j) / 2 < n by omega)
   obtain ⟨x0,x1,x2,x3⟩:=hxa.below hnx hbl
   have HX:Hid (gs[(i+j) / 2]? = some x):=hx
   have hbw:b < wr.heap.size:=Nat.lt_of_lt_of_le hbl hnx.size
   have hwl:w.heap.size < wr.heap.size:=Nat.lt_of_lt_of_le hs0 hnx.size
   clear hx hxa
   have hlt':(i:Int) < (j:Int):=by omega
   have hj':(j:Int)≤1048576:=by omega
   have hm0:(0:Int)≤((i:Int)+(j:Int)) / 2:=by omega
   have hm1:((i:Int)+(j:Int)) / 2 < (n:Int):=by omega
   have hmN:(((i:Int)+(j:Int)) / 2).toNat=(i+j) / 2:=by omega
   rw [← hmN] at x0 x1 x2 x3
   clear hmN
   obtain ⟨v,hv⟩:∃ v,cfL x t=v:=⟨_,rfl⟩
   have HCm:Hid (∀ w2:World,Calls Tryz.prog 159 #[.agg #[.int .i64 x.e,.int .i64 x.c,.int .i64 x.p,.int .i64 x.f],.agg #[.int .i64 t.e,.int .i64 t.c,.int .i64 t.p,.int .i64 t.f]] w2 fun e w'=>e = .returned (.int .i64 v)∧Below w2.heap.size w2 w'):=fun w2=>by rw [← hv];exact qU7 x t w2
   have hge:(v < 0)↔ltL x t=true:=by rw [← hv];exact cfL_neg x t
   have HGE:Hid ((v < 0)↔ltL x t=true):=hge
   clear hv hge
   go_upto_region 5 with fail
   by_cases hneg:v < 0
   ·have HLO2:Hid (∀ (k:Nat) (y:LkI),k < (i+j) / 2+1→gs[k]? = some y→ltL y t=true):=cut_lo HL.out HX.out (HGE.out.1 hneg)
    go_region_held3 (fun w'=>(∀ b o,b < wr.heap.size→w'.cell? ⟨b,o,none⟩=wr.cell? ⟨b,o,none⟩)∧Below wr.heap.size wr w') (first | exact hS | exact qB4 _)
     (first | (go_at_call 159;refine (HCm.out _).mono ?_;rintro e w' ⟨rfl,hb2⟩;have hS:=qA0 (by assumption) hb2))
    go_wp2
    exact ⟨⟨(i+j) / 2+1,j,by omega,hjn,by rw [show ((i:Int)+(j:Int)) / 2+1=(((i+j) / 2+1:Nat):Int) by omega],rfl,HLO2.out,HHI.out,hnx.trans (hS.2.mono hnx.size)⟩,by simp [intOf];omega⟩
   ·have HHI2:Hid (∀ (k:Nat) (y:LkI),(i+j) / 2≤k→gs[k]? = some y→ltL y t=false):=cut_hi HL.out HX.out (by cases q:ltL x t;rfl;exact absurd (HGE.out.2 q) hneg)
    go_region_held3 (fun w'=>(∀ b o,b < wr.heap.size→w'.cell? ⟨b,o,none⟩=wr.cell? ⟨b,o,none⟩)∧Below wr.heap.size wr w') (first | exact hS | exact qB4 _)
     (first | (go_at_call 159;refine (HCm.out _).mono ?_;rintro e w' ⟨rfl,hb2⟩;have hS:=qA0 (by assumption) hb2))
    go_wp2
    exact ⟨⟨i,(i+j) / 2,by omega,by omega,rfl,by rw [show ((i:Int)+(j:Int)) / 2=(((i+j) / 2:Nat):Int) by omega],HLO.out,HHI2.out,hnx.trans (hS.2.mono hnx.size)⟩,by simp [intOf];omega⟩
  ·obtain rfl:j=i:=by omega
   have HCU:Hid (QO4 gs t j):=⟨by rw [HZ.out];exact hjn,HLO.out,HHI.out⟩
   clear HLO HHI
   by_cases hlt2:j < n
   ·obtain ⟨b,off,x,rfl,hx,hxa,hbl⟩:=H.out.at hlt2
    obtain ⟨x0,x1,x2,x3⟩:=hxa.below hnx hbl
    have HX:Hid (gs[j]? = some x):=hx
    have hbw:b < wr.heap.size:=Nat.lt_of_lt_of_le hbl hnx.size
    have hwl:w.heap.size < wr.heap.size:=Nat.lt_of_lt_of_le hs0 hnx.size
    clear hx hxa
    have hlt':(j:Int) < (n:Int):=by omega
    obtain ⟨v,hv⟩:∃ v,cfL x t=v:=⟨_,rfl⟩
    have HCm:Hid (∀ w2:World,Calls Tryz.prog 159 #[.agg #[.int .i64 x.e,.int .i64 x.c,.int .i64 x.p,.int .i64 x.f],.agg #[.int .i64 t.e,.int .i64 t.c,.int .i64 t.p,.int .i64 t.f]] w2 fun e w'=>e = .returned (.int .i64 v)∧Below w2.heap.size w2 w'):=fun w2=>by rw [← hv];exact qU7 x t w2
    have HF:Hid ((v==0)=true↔∃ y,gs[j]? = some y∧cfL y t=0):=by
     refine ⟨fun q=>⟨x,HX.out,by rw [hv];simpa using q⟩,fun ⟨y,hy,q⟩=>?_⟩
     rw [HX.out] at hy
     cases hy
     rw [hv] at q
     simp [q]
    clear hv
    go_upto_region 8 with fail
    go_region_held3 (fun w'=>(∀ b o,b < wr.heap.size→w'.cell? ⟨b,o,none⟩=wr.cell? ⟨b,o,none⟩)∧Below wr.heap.size wr w') (first | exact hS | exact qB4 _)
     (first | (go_at_call 159;refine (HCm.out _).mono ?_;rintro e w' ⟨rfl,hb2⟩;have hS:=qA0 (by assumption) hb2))
    go_wp2
    refine bodyPost_ret (v:=.tuple #[.int .i64 (j:Int),.bool (v==0)]) (by simp [results,Tryz.results164,go_sem]) rfl ?_
    exact ⟨j,v==0,rfl,HCU.out,HF.out,HB0.out.trans ((hnx.trans (hS.2.mono hnx.size)).mono (by omega))⟩
   ·have HF:Hid (false=true↔∃ y,gs[j]? = some y∧cfL y t=0):=by
     refine ⟨(fun q=>by cases q),fun ⟨y,hy,q⟩=>?_⟩
     rw [List.getElem?_eq_none (by rw [HZ.out];omega)] at hy
     cases hy
    have hlt':¬ ((j:Int) < (n:Int)):=by omega
    go_upto_region 8 with fail
    go_quiet (fail)
    go_wp2
    refine bodyPost_ret (v:=.tuple #[.int .i64 (j:Int),.bool false]) (by simp [results,Tryz.results164,go_sem]) rfl ?_
    exact ⟨j,false,rfl,HCU.out,HF.out,HB0.out.trans ((below_drewN hnx _).mono (by omega))⟩

theorem l5Of_c (a:Option Addr) (n cap:Nat) (gs:List LkI) (e0 c0 p0:Int) (w:World) (h:qK1 w a n gs) (hn:n≤1048576) :
  Calls Tryz.prog 126 #[.slice a n cap,.int .i64 e0,.int .i64 c0,.int .i64 p0] w fun e w'=>e = .returned (.int .i64 (qE7 gs e0 c0 p0))∧Below w.heap.size w w':=by
 have HZ:Hid (gs.length=n):=h.1
 have H:Hid (qK1 w a n gs):=h
 clear h
 have hn':(n:Int)≤1048576:=by omega
 obtain ⟨r,hr⟩:∃ r,qE7 gs e0 c0 p0=r:=⟨_,rfl⟩
 have HR:Hid (qE7 gs e0 c0 p0=r):=hr
 rw [hr]
 clear hr
 go_enter Tryz.func126,Tryz.ntmps126
 go_wp2
 go_loopw [9] (fun i wr=>∃ k:Nat,k≤n∧i = .int .i64 (k:Int)∧qE7 (gs.drop k) e0 c0 p0=r∧Below w.heap.size w wr) (fun i _=>n - (intOf i).toNat)
 case atStart=>exact ⟨0,Nat.zero_le _,rfl,HR.out,Below.refl _ _⟩
 case round =>
  obtain ⟨k,hk,rfl,hp,hnx⟩:=hrel
  by_cases hlt:k < n
  ·obtain ⟨b,off,x,rfl,hs,hx,hbl⟩:=H.out.at hlt
   rw [formL_drop hs] at hp
   obtain ⟨g0,g1,g2,g3⟩:=hx.below hnx hbl
   have hbw:b < wr.heap.size:=Nat.lt_of_lt_of_le hbl hnx.size
   have hlt':(k:Int) < (n:Int):=by omega
   clear hs hx
   by_cases q1:x.e=e0
   ·have b1:(x.e==e0)=true:=by simp [q1]
    by_cases q2:x.c=c0
    ·have b2:(x.c==c0)=true:=by simp [q2]
     by_cases q3:x.p=p0
     ·have b3:(x.p==p0)=true:=by simp [q3]
      rw [if_pos ⟨q1,q2,q3⟩] at hp
      have HP:Hid (x.f=r):=hp
      clear hp q1 q2 q3
      go_wp2
      go_ret
      exact ⟨by rw [← HP.out];rfl,hnx.alloc hnx.size _⟩
     ·have b3:(x.p==p0)=false:=by simp [q3]
      rw [if_neg (fun q=>q3 q.2.2)] at hp
      have HP:Hid (qE7 (gs.drop (k+1)) e0 c0 p0=r):=hp
      clear hp q1 q2 q3
      go_wp2
      exact ⟨⟨k+1,by omega,by go_num,HP.out,hnx.alloc hnx.size _⟩,by simp [intOf];omega⟩
    ·have b2:(x.c==c0)=false:=by simp [q2]
     rw [if_neg (fun q=>q2 q.2.1)] at hp
     have HP:Hid (qE7 (gs.drop (k+1)) e0 c0 p0=r):=hp
     clear hp q1 q2
     go_wp2
     exact ⟨⟨k+1,by omega,by go_num,HP.out,hnx.alloc hnx.size _⟩,by simp [intOf];omega⟩
   ·have b1:(x.e==e0)=false:=by simp [q1]
    rw [if_neg (fun q=>q1 q.1)] at hp
    have HP:Hid (qE7 (gs.drop (k+1)) e0 c0 p0=r):=hp
    clear hp q1
    go_wp2
    exact ⟨⟨k+1,by omega,by go_num,HP.out,hnx.alloc hnx.size _⟩,by simp [intOf];omega⟩
  ·have hkn:k=n:=by omega
   subst hkn
   rw [List.drop_of_length_le (by rw [HZ.out];exact Nat.le_refl _)] at hp
   have HP:Hid ((0:Int)=r):=hp
   clear hp
   go_wp2
   go_ret
   exact ⟨by rw [← HP.out];rfl,hnx⟩

end Go.Proofs.YtlpgapdlepbgbaaGreatDoor
