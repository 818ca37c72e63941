/- Contracts. -/
import Derived.Test.YthogdfnaojijhaaGreatPa17
namespace Go.Proofs.YthogdfnaojijhaaGreat
set_option maxRecDepth 100000
set_option maxHeartbeats 8000000
open Go.RowKit
set_option linter.unusedVariables false
set_option linter.unusedSimpArgs false

def QJ2 (fn:Nat) (a:Option Addr) (n cap:Nat) (f c:Int) (w:World):Prop:=Calls Tryz.prog fn #[.slice a n cap,.int .i64 f] w fun e w'=>e = .returned (.int .i64 c)∧Below w.heap.size w w'
theorem l9Fault_c (a:Option Addr) (n cap:Nat) (zs:List ShI) (f:Int) (w:World) (hn:n≤1048576) (hcap:n≤cap) (hcm:cap≤maxLen) (h:qD9 w a n zs):QJ2 64 a n cap f (qB9 f zs) w:=by
 have H:Hid (qD9 w a n zs):=h
 have HZ:Hid (zs.length=n):=h.1
 have hn':(n:Int)≤1048576:=by omega
 unfold QJ2
 clear h
 cases hf:inR f 1 2
 ·have HC:Hid (qB9 f zs=3):=by show qB9 f zs=3;unfold qB9;rw [if_neg (by rw [hf];simp)]
  have HF:Hid (inR f 1 2=false):=hf
  clear hf
  rw [HC.out]
  go_enter Tryz.func64,Tryz.ntmps64
  go_wp2_with (first | (go_at_call 106;refine (l6F_c _ _).mono ?_;rintro e w' ⟨rfl,rfl⟩;rw [HF.out]))
  go_ret
  exact ⟨rfl,Below.refl _ _⟩
 ·obtain ⟨hf1,hf2⟩:=(qD2 f 1 2).1 hf
  have HF:Hid (inR f 1 2=true):=hf
  by_cases hl:120 < n
  ·have HC:Hid (qB9 f zs=2):=by show qB9 f zs=2;unfold qB9;rw [if_pos hf,if_pos (by rw [HZ.out];exact hl)]
   have hl':(120:Int) < (n:Int):=by omega
   clear hf
   rw [HC.out]
   go_enter Tryz.func64,Tryz.ntmps64
   go_wp2_with (first | (go_at_call 106;refine (l6F_c _ _).mono ?_;rintro e w' ⟨rfl,rfl⟩;rw [HF.out]))
   go_ret
   exact ⟨rfl,Below.refl _ _⟩
  ·have HC:Hid (qB9 f zs=qP3 f zs n):=by show qB9 f zs=_;unfold qB9;rw [if_pos hf,if_neg (by rw [HZ.out];exact hl),HZ.out]
   have hl':¬ ((120:Int) < (n:Int)):=by omega
   clear hf
   rw [HC.out]
   go_enter Tryz.func64,Tryz.ntmps64
   go_wp2_with (first | (go_at_call 106;refine (l6F_c _ _).mono ?_;rintro e w' ⟨rfl,rfl⟩;rw [HF.out]))
   go_loopw [5] (fun i wr=>∃ k:Nat,k≤n∧i = .int .i64 (k:Int)∧qP3 f zs k=0∧Below w.heap.size w wr) (fun i _=>n - (intOf i).toNat)
   case atStart=>exact ⟨0,Nat.zero_le _,rfl,rfl,Below.refl _ _⟩
   case round =>
    obtain ⟨k,hk,rfl,hz,hnx⟩:=hrel
    have HK0:Hid (qP3 f zs k=0):=hz
    clear hz
    by_cases hlt:k < n
    ·obtain ⟨b,off,x,rfl,hx,hxa,hbl⟩:=H.out.at hlt
     have hlt':(k:Int) < (n:Int):=by omega
     have hxw:=hxa.below hnx hbl
     have HX:Hid (QC1 wr b (off+k * 6) x):=hxw
     have hbw:b < wr.heap.size:=Nat.lt_of_lt_of_le hbl hnx.size
     have HN:Hid (qP3 f zs (k+1)=QP7 f (zs.take k) x):=qY5 hx HK0.out
     have HT:Hid (qD9 wr (some ⟨b,off,none⟩) k (zs.take k)):=(H.out.below hnx).take hk
     obtain ⟨x0,x1,x2,x3,x4,x5⟩:=hxw
     clear hx hxa
     obtain ⟨t,ht⟩:∃ t,inR x.r 1 (3 * f+1)=t:=⟨_,rfl⟩
     have HTR:Hid (inR x.r 1 (3 * f+1)=t):=ht
     obtain ⟨c,hc⟩:∃ c,qB8 x.st=c:=⟨_,rfl⟩
     have HSC:Hid (qB8 x.st=c):=hc
     obtain ⟨u,hu⟩:∃ u,qL0 (zs.take k) x=u:=⟨_,rfl⟩
     have HU:Hid (qL0 (zs.take k) x=u):=hu
     have HN2:Hid (qP3 f zs (k+1)=if t=true then (if c=0 then (if u=true then 6 else 0) else c) else 3):=by show _=_;rw [HN.out];unfold QP7;rw [ht,hc,hu]
     clear ht hc hu HN
     cases t
     ·have HE:Hid (qP3 f zs n=3):=qI8 f zs (k+1) n 3 (by omega) (by rw [HN2.out];rfl) (by omega)
      go_wp2_with (first | (go_at_call 65;refine (qL2 _ _ _ _).mono ?_;rintro e w' ⟨rfl,rfl⟩;rw [HTR.out]))
      go_ret
      exact ⟨by rw [HE.out];rfl,hnx⟩
     ·by_cases c0:c=0
      ·have cb:(c != 0)=false:=by simp [c0]
       have HE0:Hid (u=false→qP3 f zs (k+1)=0):=fun q=>by rw [HN2.out,if_pos rfl,if_pos c0,q];rfl
       have HE6:Hid (u=true→qP3 f zs n=6):=fun q=>qI8 f zs (k+1) n 6 (by omega) (by rw [HN2.out,if_pos rfl,if_pos c0,q];rfl) (by omega)
       clear c0 HN2
       have hkc:(k:Int)≤(cap:Int):=by omega
       have hk0:(0:Int)≤(k:Int):=by omega
       go_wp2_with (first | (go_at_call 65;refine (qL2 _ _ _ _).mono ?_;rintro e w' ⟨rfl,rfl⟩;rw [HTR.out]) | (go_at_call 26;refine (qU0 _ _ x.st _ HX.out.stat).mono ?_;rintro e w' ⟨rfl,rfl⟩;rw [HSC.out]))
       have HQ:Hid (∀ w2:World,(∀ b o,b < wr.heap.size→w2.cell? ⟨b,o,none⟩=wr.cell? ⟨b,o,none⟩)∧Below wr.heap.size wr w2→Calls Tryz.prog 92 #[.slice (some ⟨b,off,none⟩) k cap,.agg #[.int .i64 x.r,.int .i64 x.k,.int .i64 x.e,.int .i64 x.f,.int .i64 x.s,.int .i64 x.n]] w2 fun e w'=>e = .returned (.bool u)∧Below w2.heap.size w2 w'):=fun w2 hb=>by
        have:=l9Has_c (some ⟨b,off,none⟩) k cap (zs.take k) x w2 (by omega) (HT.out.below hb.2)
        rw [HU.out] at this
        exact this
       go_region_held3 (fun w'=>(∀ b o,b < wr.heap.size→w'.cell? ⟨b,o,none⟩=wr.cell? ⟨b,o,none⟩)∧Below wr.heap.size wr w') (first | exact hS | exact qB6 _)
        (first | (go_at_call 92;refine (HQ.out _ (by assumption)).mono ?_;rintro e w' ⟨rfl,hb1⟩;have hS:=qA8 (by assumption) hb1))
       have B1:=hnx.trans (hS.2.mono hnx.size)
       cases u
       ·have HX0:Hid (qP3 f zs (k+1)=0):=HE0.out rfl
        go_wp2
        exact ⟨⟨k+1,by omega,by go_num,HX0.out,B1⟩,by simp [intOf];omega⟩
       ·have HX6:Hid (qP3 f zs n=6):=HE6.out rfl
        go_wp2
        go_ret
        exact ⟨by rw [HX6.out];rfl,B1⟩
      ·have cb:(c != 0)=true:=by simp [c0]
       have HE:Hid (qP3 f zs n=c):=qI8 f zs (k+1) n c c0 (by rw [HN2.out,if_pos rfl,if_neg c0]) (by omega)
       clear c0
       go_wp2_with (first | (go_at_call 65;refine (qL2 _ _ _ _).mono ?_;rintro e w' ⟨rfl,rfl⟩;rw [HTR.out]) | (go_at_call 26;refine (qU0 _ _ x.st _ HX.out.stat).mono ?_;rintro e w' ⟨rfl,rfl⟩;rw [HSC.out]))
       go_ret
       exact ⟨by rw [HE.out];rfl,hnx⟩
    ·have hkn:k=n:=by omega
     have hlt':¬ ((k:Int) < (n:Int)):=by omega
     have HE:Hid (qP3 f zs n=0):=by rw [← hkn];exact HK0.out
     clear hkn
     go_wp2
     go_ret
     exact ⟨by rw [HE.out];rfl,hnx⟩

section
attribute [local go_sem] fldN0 fldN1
theorem qI1 (a:Option Addr) (n cap:Nat) (zs:List ShI) (f:Int) (w:World) (hn:n≤1048576) (hcap:n≤cap) (hcm:cap≤maxLen) (h:qD9 w a n zs):QJ2 78 a n cap f (qB9 f zs) w:=by
 have H:Hid (qD9 w a n zs):=h
 have HZ:Hid (zs.length=n):=h.1
 have hn':(n:Int)≤1048576:=by omega
 unfold QJ2
 clear h
 have HNF:Hid (∀ w:World,qL4 80 f (qL9 f) (qP6 2 f) w):=qW3 f
 cases hf:inR f 1 2
 ·have HC:Hid (qB9 f zs=3):=by show qB9 f zs=3;unfold qB9;rw [if_neg (by rw [hf];simp)]
  have e1:qL9 f=3:=by unfold qL9;rw [if_neg (by rw [hf];simp)]
  have e2:qP6 2 f=0:=by unfold qP6;rw [if_neg (by rw [hf];simp)]
  rw [e1,e2] at HNF
  unfold qL4 at HNF
  clear hf e1 e2
  rw [HC.out]
  go_enter Tryz.func78,Tryz.ntmps78
  go_wp2_with fail
  refine (HNF.out _).mono ?_
  rintro e w1 ⟨rfl,hb1⟩
  go_wp2
  go_ret
  exact ⟨rfl,hb1⟩
 ·obtain ⟨hf1,hf2⟩:=(qD2 f 1 2).1 hf
  have e1:qL9 f=0:=by unfold qL9;rw [if_pos hf]
  have e2:qP6 2 f=2 * f+1:=by unfold qP6;rw [if_pos hf]
  have e3:qP6 3 f=3 * f+1:=by unfold qP6;rw [if_pos hf]
  have HRF:Hid (∀ w:World,qL4 117 f (qL9 f) (qP6 3 f) w):=qP0 f
  rw [e1,e2] at HNF
  rw [e1,e3] at HRF
  unfold qL4 at HNF HRF
  by_cases hl:120 < n
  ·have HC:Hid (qB9 f zs=2):=by show qB9 f zs=2;unfold qB9;rw [if_pos hf,if_pos (by rw [HZ.out];exact hl)]
   have hl':(120:Int) < (n:Int):=by omega
   clear hf e1 e2 e3
   rw [HC.out]
   go_enter Tryz.func78,Tryz.ntmps78
   go_wp2_with fail
   refine (HNF.out _).mono ?_
   rintro e w1 ⟨rfl,hb1⟩
   go_wp2
   go_ret
   exact ⟨rfl,hb1⟩
  ·have HC:Hid (qB9 f zs=qP3 f zs n):=by show qB9 f zs=_;unfold qB9;rw [if_pos hf,if_neg (by rw [HZ.out];exact hl),HZ.out]
   have hl':¬ ((120:Int) < (n:Int)):=by omega
   clear hf e1 e2 e3
   rw [HC.out]
   obtain ⟨v,hv⟩:∃ v,v=3 * f+1:=⟨_,rfl⟩
   rw [← hv] at HRF
   have HV:Hid (v=3 * f+1):=hv
   clear hv
   go_enter Tryz.func78,Tryz.ntmps78
   go_wp2_with fail
   refine (HNF.out _).mono ?_
   rintro e w1 ⟨rfl,hb1⟩
   go_wp2_with fail
   refine (HRF.out _).mono ?_
   rintro e w2 ⟨rfl,hb2⟩
   have hb12:Below w.heap.size w w2:=hb1.trans (hb2.mono hb1.size)
   obtain ⟨V,hV⟩:∃ V,V=w2.alloc (.cells #[.int .i64 0,.int .i64 v] 139):=⟨_,rfl⟩
   have BV:Hid (Below w.heap.size w V):=by rw [hV];exact hb12.alloc hb12.size _
   have XV:Hid (QT6 V w2.heap.size (.int .i64 0) (.int .i64 v)):=by rw [hV];exact QT6.new _ _ _ _
   go_wp2_with fail
   rw [← hV]
   clear hV hb1 hb2 hb12
   go_loopw [23] (fun i wr=>∃ k:Nat,k≤n∧i = .int .i64 (k:Int)∧qP3 f zs k=0∧Below V.heap.size V wr) (fun i _=>n - (intOf i).toNat)
   case atStart=>exact ⟨0,Nat.zero_le _,rfl,rfl,Below.refl _ _⟩
   case round =>
    obtain ⟨k,hk,rfl,hz,hvx⟩:=hrel
    have hnx:Below w.heap.size w wr:=BV.out.trans (hvx.mono BV.out.size)
    have HK0:Hid (qP3 f zs k=0):=hz
    clear hz
    by_cases hlt:k < n
    ·obtain ⟨b,off,x,rfl,hx,hxa,hbl⟩:=H.out.at hlt
     have hlt':(k:Int) < (n:Int):=by omega
     have HN:Hid (qP3 f zs (k+1)=QP7 f (zs.take k) x):=qY5 hx HK0.out
     obtain ⟨x0,x1,x2,x3,x4,x5⟩:=hxa.below hnx hbl
     obtain ⟨U,hU⟩:∃ U,U=wr.alloc (.cells #[.int .i64 x.r,.int .i64 x.k,.int .i64 x.e,.int .i64 x.f,.int .i64 x.s,.int .i64 x.n] 77):=⟨_,rfl⟩
     have BU:Below wr.heap.size wr U:=by rw [hU];exact zN
     have KU:Hid (QC1 U wr.heap.size 0 x):=by rw [hU];exact QC1.new wr x _
     have hUl:wr.heap.size < U.heap.size:=by rw [hU];simp
     have YU:Hid (QT6 U w2.heap.size (.int .i64 0) (.int .i64 v)):=(XV.out.below hvx).below BU
     have BWU:Below w.heap.size w U:=hnx.trans (BU.mono hnx.size)
     have BVU:Below V.heap.size V U:=hvx.trans (BU.mono hvx.size)
     have HT:Hid (qD9 U (some ⟨b,off,none⟩) k (zs.take k)):=(H.out.below BWU).take hk
     clear hx hxa
     obtain ⟨t,ht⟩:∃ t,inR x.r 1 v=t:=⟨_,rfl⟩
     have HTR:Hid (inR x.r 1 v=t):=ht
     obtain ⟨c,hc⟩:∃ c,qB8 x.st=c:=⟨_,rfl⟩
     have HSC:Hid (∀ w:World,Calls Tryz.prog 77 #[.agg #[.int .i64 x.k,.int .i64 x.e,.int .i64 x.f,.int .i64 x.s,.int .i64 x.n]] w fun e w'=>e = .returned (.int .i64 c)∧Below w.heap.size w w'):=by rw [← hc];exact qD7 x.st
     have HID:Hid (∀ w:World,Calls Tryz.prog 118 #[.int .i64 x.r,.agg #[.int .i64 0,.int .i64 v]] w fun e w'=>e = .returned (.bool t)∧Below w.heap.size w w'):=fun w=>by
      have:=qU2 x.r 0 v w
      rw [ht] at this
      simpa using this
     obtain ⟨u,hu⟩:∃ u,qL0 (zs.take k) x=u:=⟨_,rfl⟩
     have HU:Hid (qL0 (zs.take k) x=u):=hu
     have HN2:Hid (qP3 f zs (k+1)=if t=true then (if c=0 then (if u=true then 6 else 0) else c) else 3):=by show _=_;rw [HN.out];unfold QP7;rw [← HV.out,ht,hc,hu]
     clear ht hc hu HN
     obtain ⟨z0,z1,z2,z3,z4,z5⟩:=KU.out
     simp only [Nat.zero_add] at z0 z1 z2 z3 z4 z5
     obtain ⟨y0,y1⟩:=XV.out.below hvx
     have hYl:w2.heap.size < wr.heap.size:=(XV.out.below hvx).lt
     cases t
     ·have HE:Hid (qP3 f zs n=3):=qI8 f zs (k+1) n 3 (by omega) (by rw [HN2.out];rfl) (by omega)
      go_wp2_with fail
      rw [← hU]
      clear hU
      refine (HID.out _).mono ?_
      rintro e w3 ⟨rfl,hb3⟩
      go_wp2
      go_ret
      exact ⟨by rw [HE.out];rfl,BWU.trans (hb3.mono BWU.size)⟩
     ·by_cases c0:c=0
      ·have cb:(c != 0)=false:=by simp [c0]
       have HE0:Hid (u=false→qP3 f zs (k+1)=0):=fun q=>by rw [HN2.out,if_pos rfl,if_pos c0,q];rfl
       have HE6:Hid (u=true→qP3 f zs n=6):=fun q=>qI8 f zs (k+1) n 6 (by omega) (by rw [HN2.out,if_pos rfl,if_pos c0,q];rfl) (by omega)
       clear c0 HN2
       have hkc:(k:Int)≤(cap:Int):=by omega
       have hk0:(0:Int)≤(k:Int):=by omega
       go_wp2_with fail
       rw [← hU]
       clear hU
       refine (HID.out _).mono ?_
       rintro e w3 ⟨rfl,hb3⟩
       have K3:Hid (QC1 w3 wr.heap.size 0 x):=KU.out.below hb3 hUl
       have hs3:=hb3.size
       clear z0 z1 z2 z3 z4 z5 y0 y1
       obtain ⟨z0,z1,z2,z3,z4,z5⟩:=K3.out
       simp only [Nat.zero_add] at z0 z1 z2 z3 z4 z5
       go_wp2_with fail
       refine (HSC.out _).mono ?_
       rintro e w4 ⟨rfl,hb4⟩
       have K4:Hid (QC1 w4 wr.heap.size 0 x):=K3.out.below hb4 (by omega)
       have hs4:=hb4.size
       have BU4:Below U.heap.size U w4:=hb3.trans (hb4.mono hs3)
       have BW4:Below w.heap.size w w4:=BWU.trans (BU4.mono BWU.size)
       have BV4:Below V.heap.size V w4:=BVU.trans (BU4.mono BVU.size)
       have hl4:wr.heap.size < w4.heap.size:=by omega
       clear z0 z1 z2 z3 z4 z5
       obtain ⟨z0,z1,z2,z3,z4,z5⟩:=K4.out
       simp only [Nat.zero_add] at z0 z1 z2 z3 z4 z5
       have HQ:Hid (∀ w2:World,(∀ b o,b < w4.heap.size→w2.cell? ⟨b,o,none⟩=w4.cell? ⟨b,o,none⟩)∧Below w4.heap.size w4 w2→Calls Tryz.prog 119 #[.slice (some ⟨b,off,none⟩) k cap,.agg #[.int .i64 x.r,.int .i64 x.k,.int .i64 x.e,.int .i64 x.f,.int .i64 x.s,.int .i64 x.n]] w2 fun e w'=>e = .returned (.bool u)∧Below w2.heap.size w2 w'):=fun w2 hb=>by
        have:=QG1 (some ⟨b,off,none⟩) k cap (zs.take k) x w2 (by omega) ((HT.out.below BU4).below hb.2)
        rw [HU.out] at this
        exact this
       clear hb3 hb4 hs3 hs4
       go_wp2_with fail
       go_region_held3 (fun w'=>(∀ b o,b < w4.heap.size→w'.cell? ⟨b,o,none⟩=w4.cell? ⟨b,o,none⟩)∧Below w4.heap.size w4 w') (first | exact hS | exact qB6 _)
        (first | (go_at_call 119;refine (HQ.out _ (by assumption)).mono ?_;rintro e w' ⟨rfl,hb1⟩;have hS:=qA8 (by assumption) hb1))
       have B1:=BW4.trans (hS.2.mono BW4.size)
       have B2:=BV4.trans (hS.2.mono BV4.size)
       cases u
       ·have HX0:Hid (qP3 f zs (k+1)=0):=HE0.out rfl
        go_wp2
        exact ⟨⟨k+1,by omega,by go_num,HX0.out,B2⟩,by simp [intOf];omega⟩
       ·have HX6:Hid (qP3 f zs n=6):=HE6.out rfl
        go_wp2
        go_ret
        exact ⟨by rw [HX6.out];rfl,B1⟩
      ·have cb:(c != 0)=true:=by simp [c0]
       have HE:Hid (qP3 f zs n=c):=qI8 f zs (k+1) n c c0 (by rw [HN2.out,if_pos rfl,if_neg c0]) (by omega)
       clear c0 HN2
       go_wp2_with fail
       rw [← hU]
       clear hU
       refine (HID.out _).mono ?_
       rintro e w3 ⟨rfl,hb3⟩
       have K3:Hid (QC1 w3 wr.heap.size 0 x):=KU.out.below hb3 hUl
       have hs3:=hb3.size
       clear z0 z1 z2 z3 z4 z5 y0 y1
       obtain ⟨z0,z1,z2,z3,z4,z5⟩:=K3.out
       simp only [Nat.zero_add] at z0 z1 z2 z3 z4 z5
       go_wp2_with fail
       refine (HSC.out _).mono ?_
       rintro e w4 ⟨rfl,hb4⟩
       go_wp2
       go_ret
       exact ⟨by rw [HE.out];rfl,BWU.trans ((hb3.trans (hb4.mono hs3)).mono BWU.size)⟩
    ·have hkn:k=n:=by omega
     have hlt':¬ ((k:Int) < (n:Int)):=by omega
     have HE:Hid (qP3 f zs n=0):=by rw [← hkn];exact HK0.out
     clear hkn
     go_wp2
     go_ret
     exact ⟨by rw [HE.out];rfl,hnx⟩
end

end Go.Proofs.YthogdfnaojijhaaGreat
