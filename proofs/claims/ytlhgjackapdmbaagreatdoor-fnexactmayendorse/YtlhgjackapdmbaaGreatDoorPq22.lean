/- Contracts. -/
import Derived.Test.YtlhgjackapdmbaaGreatDoorPq21
import Derived.Test.YtlhgjackapdmbaaGreatDoorPq08
import Derived.Deep.AppendLies
import Derived.Deep.DeepCutAuto
import Derived.Deep.CutBlock
import Derived.Laws.AppendOwnNone
import Derived.Shelf.SlSortCmp.WholeK
import Derived.Sort.OwnSorted
namespace Go.Proofs.YtlhgjackapdmbaaGreatDoor
set_option maxRecDepth 100000
set_option maxHeartbeats 8000000
open Go.RowKit
set_option linter.unusedVariables false
set_option linter.unusedSimpArgs false

theorem code_1 (r:qA0) (h:r.k=1) (hr:qC8 r.ho r.hn=true) (hb:QL9 r=true):qA7 r=if qT1 r.w=true then 0 else 3:=by
 have : 1≤r.k∧r.k≤4:=by omega
 have e:QC7 r=qT1 r.w:=by simp [QC7,h]
 simp [qA7,this,hr,hb,e]
 cases qT1 r.w <;> rfl
theorem code_2 (r:qA0) (h:r.k=2) (hr:qC8 r.ho r.hn=true) (hb:QL9 r=true):qA7 r=if qC8 r.oo r.on=true then 0 else 3:=by
 have : 1≤r.k∧r.k≤4:=by omega
 have e:QC7 r=qC8 r.oo r.on:=by simp [QC7,h]
 simp [qA7,this,hr,hb,e]
 cases qC8 r.oo r.on <;> rfl
theorem code_3 (r:qA0) (h:r.k=3) (hr:qC8 r.ho r.hn=true) (hb:QL9 r=true):qA7 r=if (qC8 r.oo r.on&&qU0 r.tn)=true then 0 else 3:=by
 have : 1≤r.k∧r.k≤4:=by omega
 have e:QC7 r=(qC8 r.oo r.on&&qU0 r.tn):=by simp [QC7,h]
 simp only [qA7,this,hr,hb,e]
 cases qC8 r.oo r.on <;> cases qU0 r.tn <;> rfl
theorem code_4 (r:qA0) (h:r.k=4) (hr:qC8 r.ho r.hn=true) (hb:QL9 r=true):qA7 r=if (qC8 r.oo r.on&&qC8 r.to r.tn)=true then 0 else 3:=by
 have : 1≤r.k∧r.k≤4:=by omega
 have e:QC7 r=(qC8 r.oo r.on&&qC8 r.to r.tn):=by simp [QC7,h]
 simp only [qA7,this,hr,hb,e]
 cases qC8 r.oo r.on <;> cases qC8 r.to r.tn <;> rfl
theorem l2Rule_c (g off:Nat) (r:qA0) (w:World) (h:qC3 w g off r) :
  Calls Tryz.prog 143 #[.pointer (some ⟨g,off,none⟩)] w fun e w'=>e = .returned (.int .i64 (qA7 r))∧Below w.heap.size w w':=by
 have hB:Hid (∀ w':World,Below w.heap.size w w'→1≤r.k∧r.k≤4→Calls Tryz.prog 168 #[.pointer (some ⟨g,off,none⟩)] w' fun e w''=>e = .returned (.bool (QL9 r))∧Below w'.heap.size w' w''):=fun w' hb hk=>l2Bare_c g off r w' (h.below hb) hk
 have hX:Hid (qC3 w g off r):=h
 clear h
 by_cases hk:1≤r.k∧r.k≤4
 ·have HK:Hid (1≤r.k∧r.k≤4):=hk
  cases hr:qC8 r.ho r.hn
  ·have E:Hid (qA7 r=3):=by show qA7 r=3;simp [qA7,hk,hr]
   clear hB
   obtain ⟨k,ho,hn,wh,oo,on,tw,tn⟩:=r
   have hb:Below w.heap.size w w:=Below.refl _ _
   obtain ⟨h0,h1,h2,h3,h4,h5,h6,h7⟩:=hX.out.below hb
   simp only at h0 h1 h2 h3 h4 h5 h6 h7
   simp only at hk hr 
   go_enter Tryz.func143,Tryz.ntmps143
   go_wp2_with (first | (go_at_call 144;refine (qP6 _ _ _).mono ?_;rintro e w1 ⟨rfl,hb1⟩;replace hb:=hb.trans (hb1.mono hb.size);clear h0 h1 h2 h3 h4 h5 h6 h7 hb1;obtain ⟨h0,h1,h2,h3,h4,h5,h6,h7⟩:=hX.out.below hb;simp only at h0 h1 h2 h3 h4 h5 h6 h7;(first | rw [hr])) | go_in)
   go_ret
   exact ⟨by rw [E.out];rfl,hb⟩
  ·cases hbr:QL9 r
   ·have E:Hid (qA7 r=1):=by show qA7 r=1;simp [qA7,hk,hr,hbr]
    rw [hbr] at hB
    clear hbr
    obtain ⟨k,ho,hn,wh,oo,on,tw,tn⟩:=r
    have hb:Below w.heap.size w w:=Below.refl _ _
    obtain ⟨h0,h1,h2,h3,h4,h5,h6,h7⟩:=hX.out.below hb
    simp only at h0 h1 h2 h3 h4 h5 h6 h7
    simp only at hk hr 
    go_enter Tryz.func143,Tryz.ntmps143
    go_wp2_with (first | (go_at_call 144;refine (qP6 _ _ _).mono ?_;rintro e w1 ⟨rfl,hb1⟩;replace hb:=hb.trans (hb1.mono hb.size);clear h0 h1 h2 h3 h4 h5 h6 h7 hb1;obtain ⟨h0,h1,h2,h3,h4,h5,h6,h7⟩:=hX.out.below hb;simp only at h0 h1 h2 h3 h4 h5 h6 h7;(first | rw [hr])) | (go_at_call 168;refine (hB.out _ hb HK.out).mono ?_;rintro e w1 ⟨rfl,hb1⟩;replace hb:=hb.trans (hb1.mono hb.size);clear h0 h1 h2 h3 h4 h5 h6 h7 hb1;obtain ⟨h0,h1,h2,h3,h4,h5,h6,h7⟩:=hX.out.below hb;simp only at h0 h1 h2 h3 h4 h5 h6 h7) | go_in)
    go_ret
    exact ⟨by rw [E.out];rfl,hb⟩
   ·have hk':r.k=1∨r.k=2∨r.k=3∨r.k=4:=by omega
    rw [hbr] at hB
    rcases hk' with e | e | e | e
    ·have E2:=code_1 r e hr hbr
     clear hbr
     cases hq:qC8 r.oo r.on <;> cases hp:qT1 r.w
     all_goals
      rw [hp] at E2
      have E:Hid (qA7 r=_):=E2
      clear E2
      obtain ⟨k,ho,hn,wh,oo,on,tw,tn⟩:=r
      have hb:Below w.heap.size w w:=Below.refl _ _
      obtain ⟨h0,h1,h2,h3,h4,h5,h6,h7⟩:=hX.out.below hb
      simp only at h0 h1 h2 h3 h4 h5 h6 h7
      simp only at hk hr hq hp e
      subst e
      go_enter Tryz.func143,Tryz.ntmps143
      go_wp2_with (first | (go_at_call 144;refine (qP6 _ _ _).mono ?_;rintro e w1 ⟨rfl,hb1⟩;replace hb:=hb.trans (hb1.mono hb.size);clear h0 h1 h2 h3 h4 h5 h6 h7 hb1;obtain ⟨h0,h1,h2,h3,h4,h5,h6,h7⟩:=hX.out.below hb;simp only at h0 h1 h2 h3 h4 h5 h6 h7;(first | rw [hr] | rw [hq])) | (go_at_call 168;refine (hB.out _ hb HK.out).mono ?_;rintro e w1 ⟨rfl,hb1⟩;replace hb:=hb.trans (hb1.mono hb.size);clear h0 h1 h2 h3 h4 h5 h6 h7 hb1;obtain ⟨h0,h1,h2,h3,h4,h5,h6,h7⟩:=hX.out.below hb;simp only at h0 h1 h2 h3 h4 h5 h6 h7) | (go_at_call 169;refine (QC5 _ _).mono ?_;rintro e w1 ⟨rfl,rfl⟩;rw [hp]) | go_in)
      go_ret
      exact ⟨by rw [E.out];rfl,hb⟩
    ·have E2:=code_2 r e hr hbr
     clear hbr
     cases hq:qC8 r.oo r.on
     all_goals
      rw [hq] at E2
      have E:Hid (qA7 r=_):=E2
      clear E2
      obtain ⟨k,ho,hn,wh,oo,on,tw,tn⟩:=r
      have hb:Below w.heap.size w w:=Below.refl _ _
      obtain ⟨h0,h1,h2,h3,h4,h5,h6,h7⟩:=hX.out.below hb
      simp only at h0 h1 h2 h3 h4 h5 h6 h7
      simp only at hk hr hq e
      subst e
      go_enter Tryz.func143,Tryz.ntmps143
      go_wp2_with (first | (go_at_call 144;refine (qP6 _ _ _).mono ?_;rintro e w1 ⟨rfl,hb1⟩;replace hb:=hb.trans (hb1.mono hb.size);clear h0 h1 h2 h3 h4 h5 h6 h7 hb1;obtain ⟨h0,h1,h2,h3,h4,h5,h6,h7⟩:=hX.out.below hb;simp only at h0 h1 h2 h3 h4 h5 h6 h7;(first | rw [hr] | rw [hq])) | (go_at_call 168;refine (hB.out _ hb HK.out).mono ?_;rintro e w1 ⟨rfl,hb1⟩;replace hb:=hb.trans (hb1.mono hb.size);clear h0 h1 h2 h3 h4 h5 h6 h7 hb1;obtain ⟨h0,h1,h2,h3,h4,h5,h6,h7⟩:=hX.out.below hb;simp only at h0 h1 h2 h3 h4 h5 h6 h7) | go_in)
      go_ret
      exact ⟨by rw [E.out];rfl,hb⟩
    ·have E2:=code_3 r e hr hbr
     clear hbr
     cases hq:qC8 r.oo r.on <;> cases hp:qU0 r.tn
     all_goals
      rw [hq,hp] at E2
      have E:Hid (qA7 r=_):=E2
      clear E2
      obtain ⟨k,ho,hn,wh,oo,on,tw,tn⟩:=r
      have hb:Below w.heap.size w w:=Below.refl _ _
      obtain ⟨h0,h1,h2,h3,h4,h5,h6,h7⟩:=hX.out.below hb
      simp only at h0 h1 h2 h3 h4 h5 h6 h7
      simp only at hk hr hq hp e
      subst e
      go_enter Tryz.func143,Tryz.ntmps143
      go_wp2_with (first | (go_at_call 144;refine (qP6 _ _ _).mono ?_;rintro e w1 ⟨rfl,hb1⟩;replace hb:=hb.trans (hb1.mono hb.size);clear h0 h1 h2 h3 h4 h5 h6 h7 hb1;obtain ⟨h0,h1,h2,h3,h4,h5,h6,h7⟩:=hX.out.below hb;simp only at h0 h1 h2 h3 h4 h5 h6 h7;(first | rw [hr] | rw [hq])) | (go_at_call 168;refine (hB.out _ hb HK.out).mono ?_;rintro e w1 ⟨rfl,hb1⟩;replace hb:=hb.trans (hb1.mono hb.size);clear h0 h1 h2 h3 h4 h5 h6 h7 hb1;obtain ⟨h0,h1,h2,h3,h4,h5,h6,h7⟩:=hX.out.below hb;simp only at h0 h1 h2 h3 h4 h5 h6 h7) | (go_at_call 170;refine (l2Name_c _ _).mono ?_;rintro e w1 ⟨rfl,rfl⟩;rw [hp]) | go_in)
      go_ret
      exact ⟨by rw [E.out];rfl,hb⟩
    ·have E2:=code_4 r e hr hbr
     clear hbr
     cases hq:qC8 r.oo r.on <;> cases ht:qC8 r.to r.tn
     all_goals
      rw [hq,ht] at E2
      have E:Hid (qA7 r=_):=E2
      clear E2
      obtain ⟨k,ho,hn,wh,oo,on,tw,tn⟩:=r
      have hb:Below w.heap.size w w:=Below.refl _ _
      obtain ⟨h0,h1,h2,h3,h4,h5,h6,h7⟩:=hX.out.below hb
      simp only at h0 h1 h2 h3 h4 h5 h6 h7
      simp only at hk hr hq ht e
      subst e
      go_enter Tryz.func143,Tryz.ntmps143
      go_wp2_with (first | (go_at_call 144;refine (qP6 _ _ _).mono ?_;rintro e w1 ⟨rfl,hb1⟩;replace hb:=hb.trans (hb1.mono hb.size);clear h0 h1 h2 h3 h4 h5 h6 h7 hb1;obtain ⟨h0,h1,h2,h3,h4,h5,h6,h7⟩:=hX.out.below hb;simp only at h0 h1 h2 h3 h4 h5 h6 h7;(first | rw [hr] | rw [hq] | rw [ht])) | (go_at_call 168;refine (hB.out _ hb HK.out).mono ?_;rintro e w1 ⟨rfl,hb1⟩;replace hb:=hb.trans (hb1.mono hb.size);clear h0 h1 h2 h3 h4 h5 h6 h7 hb1;obtain ⟨h0,h1,h2,h3,h4,h5,h6,h7⟩:=hX.out.below hb;simp only at h0 h1 h2 h3 h4 h5 h6 h7) | go_in)
      go_ret
      exact ⟨by rw [E.out];rfl,hb⟩
 ·have E:Hid (qA7 r=1):=by show qA7 r=1;simp [qA7,hk]
  clear hB
  obtain ⟨k,ho,hn,wh,oo,on,tw,tn⟩:=r
  obtain ⟨h0,h1,h2,h3,h4,h5,h6,h7⟩:=hX.out
  simp only at h0 h1 h2 h3 h4 h5 h6 h7 hk
  by_cases k1:1≤k
  ·have k4:decide (k≤4)=false:=by simp;omega
   go_enter Tryz.func143,Tryz.ntmps143
   go_wp2
   go_ret
   exact ⟨by rw [E.out];rfl,Below.refl _ _⟩
  ·have k4:decide (1≤k)=false:=by simp;omega
   go_enter Tryz.func143,Tryz.ntmps143
   go_wp2
   go_ret
   exact ⟨by rw [E.out];rfl,Below.refl _ _⟩

section
attribute [local go_sem ↓] rule_eql
theorem QX2 (a:Option Addr) (n cap:Nat) (w:World) (hn:n≤1048576) (h16:16 < n) :
  Calls Tryz.prog 114 #[.slice a n cap] w fun e w'=>e = .returned (.int .i64 2)∧Below w.heap.size w w':=by
 have h':(16:Int) < (n:Int):=by omega
 go_enter Tryz.func114,Tryz.ntmps114
 go_wp2
 go_ret
 exact ⟨rfl,Below.refl _ _⟩
theorem l2Fault_few (a:Option Addr) (n cap:Nat) (zs:List qA0) (c:Int) (w:World) (h16:n≤16) (h:qB5 w a n zs) (hc:qJ9 zs n=c) :
  Calls Tryz.prog 114 #[.slice a n cap] w fun e w'=>e = .returned (.int .i64 c)∧Below w.heap.size w w':=by
 have H:Hid (qB5 w a n zs):=h
 have hz:Hid (zs.length=n):=h.1
 have HC:Hid (qJ9 zs n=c):=hc
 clear h hc
 have h':¬ ((16:Int) < (n:Int)):=by omega
 go_enter Tryz.func114,Tryz.ntmps114
 go_wp2
 go_loopw [3] (fun i wr=>∃ k:Nat,k≤n∧i = .int .i64 (k:Int)∧qJ9 zs k=0∧Below w.heap.size w wr) (fun i _=>n - (intOf i).toNat)
 case atStart=>exact ⟨0,Nat.zero_le _,rfl,rfl,Below.refl _ _⟩
 case round =>
  obtain ⟨k,hk,rfl,hp,hnx⟩:=hrel
  have HP:Hid (qJ9 zs k=0):=hp
  clear hp
  by_cases hlt:k < n
  ·obtain ⟨b,off,r,rfl,hs,hr⟩:=H.out.at hlt
   have HS:Hid (zs[k]? = some r):=hs
   clear hs
   have hr1:Hid (qC3 wr b (off+k * 8) r):=hr.below hnx
   clear hr
   have hlt':(k:Int) < (n:Int):=by omega
   go_wp2_with fail
   refine (l2Rule_c b (off+k * 8) r _ hr1.out).mono ?_
   rintro e w1 ⟨rfl,hb1⟩
   have hnx1:Below w.heap.size w w1:=hnx.trans (hb1.mono hnx.size)
   have hr2:Hid (qC3 w1 b (off+k * 8) r):=hr1.out.below hb1
   clear hr1 hb1 hnx
   by_cases hcode:qA7 r=0
   ·rw [hcode]
    have HO:Hid (qA7 r=0):=hcode
    clear hcode
    go_wp2
    go_loopw [5] (fun i2 wq=>∃ j:Nat,j≤k∧i2 = .int .i64 (j:Int)∧¬ r∈zs.take j∧∃ m,wq=w1.drewN m) (fun i2 _=>k - (intOf i2).toNat)
    case atStart=>exact ⟨0,Nat.zero_le _,rfl,by simp,0,rfl⟩
    case round =>
     obtain ⟨j,hj,rfl,hm,m,rfl⟩:=hrel
     have HM:Hid (¬ r∈zs.take j):=hm
     clear hm
     by_cases hjk:j < k
     ·obtain ⟨s,hs2,hq⟩:=H.out.here (show j < n by omega)
      have HS2:Hid (zs[j]? = some s):=hs2
      clear hs2
      obtain ⟨h0,h1,h2,h3,h4,h5,h6,h7⟩:=hr2.out
      obtain ⟨g0,g1,g2,g3,g4,g5,g6,g7⟩:=hq.below hnx1
      clear hq
      have hjk':(j:Int) < (k:Int):=by omega
      cases hsame:QD4 s r
      ·have HF:Hid (QD4 s r=false):=hsame
       have HN:Hid (¬ r∈zs.take (j+1)):=by
        show ¬ r∈zs.take (j+1)
        rw [qO1]
        rintro ⟨i,hi,his⟩
        by_cases e:i=j
        ·subst e
         rw [HS2.out] at his
         simp [QD4] at hsame
         exact hsame (Option.some.inj his)
        ·exact HM.out ((qO1 _ _ _).2 ⟨i,by omega,his⟩)
       clear hsame
       have hsame:QD4 s r=false:=HF.out
       go_wp2
       go_quiet (fail)
       go_wp2
       exact ⟨⟨j+1,by omega,by go_num,HN.out,_,rfl⟩,by simp [intOf];omega⟩
      ·have HI:Hid (c=6):=by
        show c=6
        simp [QD4] at hsame
        subst hsame
        exact HC.out.symm.trans (qQ2 zs (k+1) n 6 (by decide) (QD5 zs k s HS.out HP.out HO.out ((qO1 _ _ _).2 ⟨j,hjk,HS2.out⟩)) (by omega))
       go_wp2
       go_quiet (fail)
       go_wp2
       go_ret
       exact ⟨by rw [HI.out];rfl,by first | exact bdN hnx1 _ | exact bdN (bdN hnx1 _) _⟩
     ·have hjn:j=k:=by omega
      subst hjn
      have HN:Hid (qJ9 zs (j+1)=0):=QO7 zs j r HS.out HP.out HO.out HM.out
      go_wp2
      exact ⟨⟨j+1,by omega,by go_num,HN.out,by first | exact hnx1 | exact bdN hnx1 _⟩,by simp [intOf];omega⟩
   ·have E:Hid (c=qA7 r):=(HC.out.symm.trans (qQ2 zs (k+1) n _ hcode (QB9 zs k r HS.out HP.out hcode) (by omega)))
    obtain ⟨d,hd⟩:∃ d,d=qA7 r:=⟨_,rfl⟩
    rw [← hd] at hcode E ⊢
    clear hd
    have hne:(d != 0)=true:=by simpa using hcode
    go_wp2
    go_ret
    exact ⟨by rw [E.out];rfl,hnx1⟩
  ·have hkn:k=n:=by omega
   subst hkn
   have E:Hid (c=0):=HC.out.symm.trans HP.out
   go_wp2
   go_ret
   exact ⟨by rw [E.out];rfl,hnx⟩
theorem l2Fault_c (a:Option Addr) (n cap:Nat) (zs:List qA0) (w:World) (hn:n≤1048576) (h:qB5 w a n zs) :
  Calls Tryz.prog 114 #[.slice a n cap] w fun e w'=>e = .returned (.int .i64 (qC4 zs))∧Below w.heap.size w w':=by
 have hz:=h.1
 by_cases h16:16 < n
 ·have e:qC4 zs=2:=by simp [qC4,hz,h16]
  rw [e]
  exact QX2 a n cap w hn h16
 ·have e:qC4 zs=qJ9 zs n:=by simp [qC4,hz,h16]
  rw [e]
  exact l2Fault_few a n cap zs _ w (by omega) h rfl
end

section
attribute [local go_sem ↓] rule_eql
theorem slIndex_c (a:Option Addr) (n cap:Nat) (zs:List qA0) (r:qA0) (w:World) (hn:n≤1048576) (h:qB5 w a n zs) :
  Calls Tryz.prog 195 #[.slice a n cap,.agg #[.int .i64 r.k,.int .i64 r.ho,.int .i64 r.hn,.int .i64 r.w,.int .i64 r.oo,.int .i64 r.on,.int .i64 r.to,.int .i64 r.tn]] w fun e w'=>(∃ i:Int,e = .returned (.int .i64 i)∧((0≤i∧r∈zs)∨(i = -1∧¬ r∈zs)))∧Below w.heap.size w w':=by
 have H:Hid (qB5 w a n zs):=h
 have hz:Hid (zs.length=n):=h.1
 clear h
 have hn':(n:Int)≤1048576:=by omega
 have HB:Hid (qC3 (w.alloc (.cells #[.int .i64 r.k,.int .i64 r.ho,.int .i64 r.hn,.int .i64 r.w,.int .i64 r.oo,.int .i64 r.on,.int .i64 r.to,.int .i64 r.tn] 114)) w.heap.size 0 r):=qC3.new w r _
 go_enter Tryz.func195,Tryz.ntmps195
 go_wp2
 go_loopw [8] (fun i wr=>∃ k:Nat,k≤n∧i = .int .i64 (k:Int)∧¬ r∈zs.take k∧∃ m,wr=(w.alloc (.cells #[.int .i64 r.k,.int .i64 r.ho,.int .i64 r.hn,.int .i64 r.w,.int .i64 r.oo,.int .i64 r.on,.int .i64 r.to,.int .i64 r.tn] 114)).drewN m) (fun i _=>n - (intOf i).toNat)
 case atStart=>exact ⟨0,Nat.zero_le _,rfl,by simp,0,rfl⟩
 case round =>
  obtain ⟨k,hk,rfl,hm,m,rfl⟩:=hrel
  have HM:Hid (¬ r∈zs.take k):=hm
  clear hm
  by_cases hlt:k < n
  ·obtain ⟨b,off,s,rfl,hs,hr⟩:=H.out.at hlt
   have HS:Hid (zs[k]? = some s):=hs
   clear hs
   have hb:b < w.heap.size:=zL w ⟨b,off+k * 8,none⟩ hr.1
   obtain ⟨h0,h1,h2,h3,h4,h5,h6,h7⟩:=hr
   obtain ⟨b0,b1,b2,b3,b4,b5,b6,b7⟩:=HB.out
   simp only [Nat.zero_add] at b0 b1 b2 b3 b4 b5 b6 b7
   have hlt':(k:Int) < (n:Int):=by omega
   cases hsame:QD4 r s
   ·have HF:Hid (QD4 r s=false):=hsame
    have HN:Hid (¬ r∈zs.take (k+1)):=by
     show ¬ r∈zs.take (k+1)
     rw [qO1]
     rintro ⟨j,hj,hjs⟩
     by_cases e:j=k
     ·subst e
      rw [HS.out] at hjs
      simp [QD4] at hsame
      exact hsame (Option.some.inj hjs).symm
     ·exact HM.out ((qO1 _ _ _).2 ⟨j,by omega,hjs⟩)
    clear hsame
    have hsame:QD4 r s=false:=HF.out
    go_wp2
    go_quiet (fail)
    go_wp2
    exact ⟨⟨k+1,by omega,by go_num,HN.out,_,rfl⟩,by simp [intOf];omega⟩
   ·have HI:Hid (r∈zs):=by
     show r∈zs
     simp [QD4] at hsame
     subst hsame
     exact List.mem_of_getElem? HS.out
    go_wp2
    go_quiet (fail)
    go_wp2
    go_ret
    exact ⟨⟨_,rfl,Or.inl ⟨by omega,HI.out⟩⟩,by first | exact bdN (zN) _ | exact bdN (bdN (zN) _) _⟩
  ·have hkn:k=n:=by omega
   subst hkn
   have HN:Hid (¬ r∈zs):=by
    have:=HM.out
    rw [List.take_of_length_le (by rw [hz.out];exact Nat.le_refl _)] at this
    exact this
   go_wp2
   go_ret
   exact ⟨⟨_,rfl,Or.inr ⟨rfl,HN.out⟩⟩,bdN (by go_grown) _⟩
theorem QE4 (a:Option Addr) (n cap:Nat) (zs:List qA0) (r:qA0) (w:World) (hn:n≤1048576) (h:qB5 w a n zs) :
  Calls Tryz.prog 172 #[.slice a n cap,.agg #[.int .i64 r.k,.int .i64 r.ho,.int .i64 r.hn,.int .i64 r.w,.int .i64 r.oo,.int .i64 r.on,.int .i64 r.to,.int .i64 r.tn]] w fun e w'=>e = .returned (.bool (decide (r∈zs)))∧Below w.heap.size w w':=by
 have H:Hid (qB5 (w.alloc (.cells #[.int .i64 r.k,.int .i64 r.ho,.int .i64 r.hn,.int .i64 r.w,.int .i64 r.oo,.int .i64 r.on,.int .i64 r.to,.int .i64 r.tn] 114)) a n zs):=h.below (zN)
 clear h
 have HB:Hid (qC3 (w.alloc (.cells #[.int .i64 r.k,.int .i64 r.ho,.int .i64 r.hn,.int .i64 r.w,.int .i64 r.oo,.int .i64 r.on,.int .i64 r.to,.int .i64 r.tn] 114)) w.heap.size 0 r):=qC3.new w r _
 obtain ⟨b0,b1,b2,b3,b4,b5,b6,b7⟩:=HB.out
 simp only [Nat.zero_add] at b0 b1 b2 b3 b4 b5 b6 b7
 go_enter Tryz.func172,Tryz.ntmps172
 go_wp2_with fail
 refine (slIndex_c a n cap zs r _ hn H.out).mono ?_
 rintro e w1 ⟨⟨i,rfl,hi⟩,hb1⟩
 have HX:Hid (decide (0≤i)=decide (r∈zs)):=by
  show decide (0≤i)=decide (r∈zs)
  rcases hi with ⟨h1,h2⟩ | ⟨rfl,h2⟩
  ·simp [h1,h2]
  ·simp [h2]
 clear hi b0 b1 b2 b3 b4 b5 b6 b7
 go_wp2
 go_ret
 exact ⟨by rw [HX.out];rfl,qD1 hb1⟩
end

theorem keep8 {w w':World} {g:Nat} {k ho hn wh oo on tw tn:Int} (h:w.cell? ⟨g,0,none⟩=some (.int .i64 k)∧w.cell? ⟨g,1,none⟩=some (.int .i64 ho)∧w.cell? ⟨g,2,none⟩=some (.int .i64 hn)∧w.cell? ⟨g,3,none⟩=some (.int .i64 wh)∧w.cell? ⟨g,4,none⟩=some (.int .i64 oo)∧w.cell? ⟨g,5,none⟩=some (.int .i64 on)∧w.cell? ⟨g,6,none⟩=some (.int .i64 tw)∧w.cell? ⟨g,7,none⟩=some (.int .i64 tn)) (hb:Below w.heap.size w w'):w'.cell? ⟨g,0,none⟩=some (.int .i64 k)∧w'.cell? ⟨g,1,none⟩=some (.int .i64 ho)∧w'.cell? ⟨g,2,none⟩=some (.int .i64 hn)∧w'.cell? ⟨g,3,none⟩=some (.int .i64 wh)∧w'.cell? ⟨g,4,none⟩=some (.int .i64 oo)∧w'.cell? ⟨g,5,none⟩=some (.int .i64 on)∧w'.cell? ⟨g,6,none⟩=some (.int .i64 tw)∧w'.cell? ⟨g,7,none⟩=some (.int .i64 tn):=by
 have key:∀ (o:Nat) (v:Value),w.cell? ⟨g,o,none⟩=some v→w'.cell? ⟨g,o,none⟩=some v:=fun o v e=>(hb.cell (p:=⟨g,o,none⟩) (zL w ⟨g,o,none⟩ e)).trans e
 obtain ⟨h0,h1,h2,h3,h4,h5,h6,h7⟩:=h
 exact ⟨key _ _ h0,key _ _ h1,key _ _ h2,key _ _ h3,key _ _ h4,key _ _ h5,key _ _ h6,key _ _ h7⟩
theorem qW8 (ho hn wh oo on tw tn:Int) (g:Nat) (w:World) (hS:w.cell? ⟨g,0,none⟩=some (.int .i64 1)∧w.cell? ⟨g,1,none⟩=some (.int .i64 ho)∧w.cell? ⟨g,2,none⟩=some (.int .i64 hn)∧w.cell? ⟨g,3,none⟩=some (.int .i64 wh)∧w.cell? ⟨g,4,none⟩=some (.int .i64 oo)∧w.cell? ⟨g,5,none⟩=some (.int .i64 on)∧w.cell? ⟨g,6,none⟩=some (.int .i64 tw)∧w.cell? ⟨g,7,none⟩=some (.int .i64 tn)) :
  Calls Tryz.prog 209 #[.agg #[.int .i64 1,.int .i64 ho,.int .i64 hn,.int .i64 wh,.int .i64 oo,.int .i64 on,.int .i64 tw,.int .i64 tn]] w fun e w' =>
   e = .returned (.agg #[.int .i64 1,.int .i64 ho,.int .i64 hn,.int .i64 0,.int .i64 oo,.int .i64 on,.int .i64 tw,.int .i64 tn])∧(w'.cell? ⟨g,0,none⟩=some (.int .i64 1)∧w'.cell? ⟨g,1,none⟩=some (.int .i64 ho)∧w'.cell? ⟨g,2,none⟩=some (.int .i64 hn)∧w'.cell? ⟨g,3,none⟩=some (.int .i64 wh)∧w'.cell? ⟨g,4,none⟩=some (.int .i64 oo)∧w'.cell? ⟨g,5,none⟩=some (.int .i64 on)∧w'.cell? ⟨g,6,none⟩=some (.int .i64 tw)∧w'.cell? ⟨g,7,none⟩=some (.int .i64 tn))∧Below w.heap.size w w':=by
 have hS':Hid (w.cell? ⟨g,0,none⟩=some (.int .i64 1)∧w.cell? ⟨g,1,none⟩=some (.int .i64 ho)∧w.cell? ⟨g,2,none⟩=some (.int .i64 hn)∧w.cell? ⟨g,3,none⟩=some (.int .i64 wh)∧w.cell? ⟨g,4,none⟩=some (.int .i64 oo)∧w.cell? ⟨g,5,none⟩=some (.int .i64 on)∧w.cell? ⟨g,6,none⟩=some (.int .i64 tw)∧w.cell? ⟨g,7,none⟩=some (.int .i64 tn)):=hS
 have hg:g < w.heap.size:=zL w ⟨g,0,none⟩ hS.1
 clear hS
 go_enter Tryz.func209,Tryz.ntmps209
 go_wp2
 go_returns
 exact ⟨rfl,keep8 hS'.out (by go_grown),by go_grown⟩
theorem QB1 (ho hn wh oo on tw tn:Int) (g:Nat) (w:World) (hS:w.cell? ⟨g,0,none⟩=some (.int .i64 2)∧w.cell? ⟨g,1,none⟩=some (.int .i64 ho)∧w.cell? ⟨g,2,none⟩=some (.int .i64 hn)∧w.cell? ⟨g,3,none⟩=some (.int .i64 wh)∧w.cell? ⟨g,4,none⟩=some (.int .i64 oo)∧w.cell? ⟨g,5,none⟩=some (.int .i64 on)∧w.cell? ⟨g,6,none⟩=some (.int .i64 tw)∧w.cell? ⟨g,7,none⟩=some (.int .i64 tn)) :
  Calls Tryz.prog 209 #[.agg #[.int .i64 2,.int .i64 ho,.int .i64 hn,.int .i64 wh,.int .i64 oo,.int .i64 on,.int .i64 tw,.int .i64 tn]] w fun e w' =>
   e = .returned (.agg #[.int .i64 2,.int .i64 ho,.int .i64 hn,.int .i64 wh,.int .i64 0,.int .i64 0,.int .i64 tw,.int .i64 tn])∧(w'.cell? ⟨g,0,none⟩=some (.int .i64 2)∧w'.cell? ⟨g,1,none⟩=some (.int .i64 ho)∧w'.cell? ⟨g,2,none⟩=some (.int .i64 hn)∧w'.cell? ⟨g,3,none⟩=some (.int .i64 wh)∧w'.cell? ⟨g,4,none⟩=some (.int .i64 oo)∧w'.cell? ⟨g,5,none⟩=some (.int .i64 on)∧w'.cell? ⟨g,6,none⟩=some (.int .i64 tw)∧w'.cell? ⟨g,7,none⟩=some (.int .i64 tn))∧Below w.heap.size w w':=by
 have hS':Hid (w.cell? ⟨g,0,none⟩=some (.int .i64 2)∧w.cell? ⟨g,1,none⟩=some (.int .i64 ho)∧w.cell? ⟨g,2,none⟩=some (.int .i64 hn)∧w.cell? ⟨g,3,none⟩=some (.int .i64 wh)∧w.cell? ⟨g,4,none⟩=some (.int .i64 oo)∧w.cell? ⟨g,5,none⟩=some (.int .i64 on)∧w.cell? ⟨g,6,none⟩=some (.int .i64 tw)∧w.cell? ⟨g,7,none⟩=some (.int .i64 tn)):=hS
 have hg:g < w.heap.size:=zL w ⟨g,0,none⟩ hS.1
 clear hS
 go_enter Tryz.func209,Tryz.ntmps209
 go_wp2
 go_returns
 exact ⟨rfl,keep8 hS'.out (by go_grown),by go_grown⟩
theorem QH5 (ho hn wh oo on tw tn:Int) (g:Nat) (w:World) (hS:w.cell? ⟨g,0,none⟩=some (.int .i64 3)∧w.cell? ⟨g,1,none⟩=some (.int .i64 ho)∧w.cell? ⟨g,2,none⟩=some (.int .i64 hn)∧w.cell? ⟨g,3,none⟩=some (.int .i64 wh)∧w.cell? ⟨g,4,none⟩=some (.int .i64 oo)∧w.cell? ⟨g,5,none⟩=some (.int .i64 on)∧w.cell? ⟨g,6,none⟩=some (.int .i64 tw)∧w.cell? ⟨g,7,none⟩=some (.int .i64 tn)) :
  Calls Tryz.prog 209 #[.agg #[.int .i64 3,.int .i64 ho,.int .i64 hn,.int .i64 wh,.int .i64 oo,.int .i64 on,.int .i64 tw,.int .i64 tn]] w fun e w' =>
   e = .returned (.agg #[.int .i64 3,.int .i64 ho,.int .i64 hn,.int .i64 wh,.int .i64 0,.int .i64 0,.int .i64 tw,.int .i64 0])∧(w'.cell? ⟨g,0,none⟩=some (.int .i64 3)∧w'.cell? ⟨g,1,none⟩=some (.int .i64 ho)∧w'.cell? ⟨g,2,none⟩=some (.int .i64 hn)∧w'.cell? ⟨g,3,none⟩=some (.int .i64 wh)∧w'.cell? ⟨g,4,none⟩=some (.int .i64 oo)∧w'.cell? ⟨g,5,none⟩=some (.int .i64 on)∧w'.cell? ⟨g,6,none⟩=some (.int .i64 tw)∧w'.cell? ⟨g,7,none⟩=some (.int .i64 tn))∧Below w.heap.size w w':=by
 have hS':Hid (w.cell? ⟨g,0,none⟩=some (.int .i64 3)∧w.cell? ⟨g,1,none⟩=some (.int .i64 ho)∧w.cell? ⟨g,2,none⟩=some (.int .i64 hn)∧w.cell? ⟨g,3,none⟩=some (.int .i64 wh)∧w.cell? ⟨g,4,none⟩=some (.int .i64 oo)∧w.cell? ⟨g,5,none⟩=some (.int .i64 on)∧w.cell? ⟨g,6,none⟩=some (.int .i64 tw)∧w.cell? ⟨g,7,none⟩=some (.int .i64 tn)):=hS
 have hg:g < w.heap.size:=zL w ⟨g,0,none⟩ hS.1
 clear hS
 go_enter Tryz.func209,Tryz.ntmps209
 go_wp2
 go_returns
 exact ⟨rfl,keep8 hS'.out (by go_grown),by go_grown⟩
theorem QU9 (ho hn wh oo on tw tn:Int) (g:Nat) (w:World) (hS:w.cell? ⟨g,0,none⟩=some (.int .i64 4)∧w.cell? ⟨g,1,none⟩=some (.int .i64 ho)∧w.cell? ⟨g,2,none⟩=some (.int .i64 hn)∧w.cell? ⟨g,3,none⟩=some (.int .i64 wh)∧w.cell? ⟨g,4,none⟩=some (.int .i64 oo)∧w.cell? ⟨g,5,none⟩=some (.int .i64 on)∧w.cell? ⟨g,6,none⟩=some (.int .i64 tw)∧w.cell? ⟨g,7,none⟩=some (.int .i64 tn)) :
  Calls Tryz.prog 209 #[.agg #[.int .i64 4,.int .i64 ho,.int .i64 hn,.int .i64 wh,.int .i64 oo,.int .i64 on,.int .i64 tw,.int .i64 tn]] w fun e w' =>
   e = .returned (.agg #[.int .i64 4,.int .i64 ho,.int .i64 hn,.int .i64 wh,.int .i64 0,.int .i64 0,.int .i64 0,.int .i64 0])∧(w'.cell? ⟨g,0,none⟩=some (.int .i64 4)∧w'.cell? ⟨g,1,none⟩=some (.int .i64 ho)∧w'.cell? ⟨g,2,none⟩=some (.int .i64 hn)∧w'.cell? ⟨g,3,none⟩=some (.int .i64 wh)∧w'.cell? ⟨g,4,none⟩=some (.int .i64 oo)∧w'.cell? ⟨g,5,none⟩=some (.int .i64 on)∧w'.cell? ⟨g,6,none⟩=some (.int .i64 tw)∧w'.cell? ⟨g,7,none⟩=some (.int .i64 tn))∧Below w.heap.size w w':=by
 have hS':Hid (w.cell? ⟨g,0,none⟩=some (.int .i64 4)∧w.cell? ⟨g,1,none⟩=some (.int .i64 ho)∧w.cell? ⟨g,2,none⟩=some (.int .i64 hn)∧w.cell? ⟨g,3,none⟩=some (.int .i64 wh)∧w.cell? ⟨g,4,none⟩=some (.int .i64 oo)∧w.cell? ⟨g,5,none⟩=some (.int .i64 on)∧w.cell? ⟨g,6,none⟩=some (.int .i64 tw)∧w.cell? ⟨g,7,none⟩=some (.int .i64 tn)):=hS
 have hg:g < w.heap.size:=zL w ⟨g,0,none⟩ hS.1
 clear hS
 go_enter Tryz.func209,Tryz.ntmps209
 go_wp2
 go_returns
 exact ⟨rfl,keep8 hS'.out (by go_grown),by go_grown⟩
theorem qF6 {w w1:World} {o:Obj} (h:Below (w.alloc o).drew.heap.size (w.alloc o).drew w1):Below w.heap.size w w1:=((zN).drew).trans (h.mono (by simp))
theorem stray_1 (ho hn wh oo on tw tn:Int) (w:World) :
  Calls Tryz.prog 193 #[.agg #[.int .i64 1,.int .i64 ho,.int .i64 hn,.int .i64 wh,.int .i64 oo,.int .i64 on,.int .i64 tw,.int .i64 tn]] w fun e w'=>e = .returned (.bool (!(oo==0&&on==0&&tw==0&&tn==0)))∧Below w.heap.size w w':=by
 cases e1:(oo==0)
 ·skip
  go_enter Tryz.func193,Tryz.ntmps193
  go_wp2
  go_region_held3 (fun w'=>w'.cell? ⟨w.heap.size,0,none⟩=some (.int .i64 1)∧w'.cell? ⟨w.heap.size,1,none⟩=some (.int .i64 ho)∧w'.cell? ⟨w.heap.size,2,none⟩=some (.int .i64 hn)∧w'.cell? ⟨w.heap.size,3,none⟩=some (.int .i64 wh)∧w'.cell? ⟨w.heap.size,4,none⟩=some (.int .i64 oo)∧w'.cell? ⟨w.heap.size,5,none⟩=some (.int .i64 on)∧w'.cell? ⟨w.heap.size,6,none⟩=some (.int .i64 tw)∧w'.cell? ⟨w.heap.size,7,none⟩=some (.int .i64 tn)) (first | go_keep | exact hS) (first | (go_at_call 209;refine (qW8 ho hn wh oo on tw tn w.heap.size _ ?_).mono ?_;(first | assumption | simp [*]);rintro e w1 ⟨rfl,hS,hb⟩))
  go_wp2
  go_ret
  exact ⟨by simp,qF6 hb⟩
 ·skip
  cases e2:(on==0)
  ·skip
   go_enter Tryz.func193,Tryz.ntmps193
   go_wp2
   go_region_held3 (fun w'=>w'.cell? ⟨w.heap.size,0,none⟩=some (.int .i64 1)∧w'.cell? ⟨w.heap.size,1,none⟩=some (.int .i64 ho)∧w'.cell? ⟨w.heap.size,2,none⟩=some (.int .i64 hn)∧w'.cell? ⟨w.heap.size,3,none⟩=some (.int .i64 wh)∧w'.cell? ⟨w.heap.size,4,none⟩=some (.int .i64 oo)∧w'.cell? ⟨w.heap.size,5,none⟩=some (.int .i64 on)∧w'.cell? ⟨w.heap.size,6,none⟩=some (.int .i64 tw)∧w'.cell? ⟨w.heap.size,7,none⟩=some (.int .i64 tn)) (first | go_keep | exact hS) (first | (go_at_call 209;refine (qW8 ho hn wh oo on tw tn w.heap.size _ ?_).mono ?_;(first | assumption | simp [*]);rintro e w1 ⟨rfl,hS,hb⟩))
   go_wp2
   go_ret
   exact ⟨by simp,qF6 hb⟩
  ·skip
   cases e3:(tw==0)
   ·skip
    go_enter Tryz.func193,Tryz.ntmps193
    go_wp2
    go_region_held3 (fun w'=>w'.cell? ⟨w.heap.size,0,none⟩=some (.int .i64 1)∧w'.cell? ⟨w.heap.size,1,none⟩=some (.int .i64 ho)∧w'.cell? ⟨w.heap.size,2,none⟩=some (.int .i64 hn)∧w'.cell? ⟨w.heap.size,3,none⟩=some (.int .i64 wh)∧w'.cell? ⟨w.heap.size,4,none⟩=some (.int .i64 oo)∧w'.cell? ⟨w.heap.size,5,none⟩=some (.int .i64 on)∧w'.cell? ⟨w.heap.size,6,none⟩=some (.int .i64 tw)∧w'.cell? ⟨w.heap.size,7,none⟩=some (.int .i64 tn)) (first | go_keep | exact hS) (first | (go_at_call 209;refine (qW8 ho hn wh oo on tw tn w.heap.size _ ?_).mono ?_;(first | assumption | simp [*]);rintro e w1 ⟨rfl,hS,hb⟩))
    go_wp2
    go_ret
    exact ⟨by simp,qF6 hb⟩
   ·skip
    cases e4:(tn==0)
    ·skip
     go_enter Tryz.func193,Tryz.ntmps193
     go_wp2
     go_region_held3 (fun w'=>w'.cell? ⟨w.heap.size,0,none⟩=some (.int .i64 1)∧w'.cell? ⟨w.heap.size,1,none⟩=some (.int .i64 ho)∧w'.cell? ⟨w.heap.size,2,none⟩=some (.int .i64 hn)∧w'.cell? ⟨w.heap.size,3,none⟩=some (.int .i64 wh)∧w'.cell? ⟨w.heap.size,4,none⟩=some (.int .i64 oo)∧w'.cell? ⟨w.heap.size,5,none⟩=some (.int .i64 on)∧w'.cell? ⟨w.heap.size,6,none⟩=some (.int .i64 tw)∧w'.cell? ⟨w.heap.size,7,none⟩=some (.int .i64 tn)) (first | go_keep | exact hS) (first | (go_at_call 209;refine (qW8 ho hn wh oo on tw tn w.heap.size _ ?_).mono ?_;(first | assumption | simp [*]);rintro e w1 ⟨rfl,hS,hb⟩))
     go_wp2
     go_ret
     exact ⟨by simp,qF6 hb⟩
    ·skip
     go_enter Tryz.func193,Tryz.ntmps193
     go_wp2
     go_region_held3 (fun w'=>w'.cell? ⟨w.heap.size,0,none⟩=some (.int .i64 1)∧w'.cell? ⟨w.heap.size,1,none⟩=some (.int .i64 ho)∧w'.cell? ⟨w.heap.size,2,none⟩=some (.int .i64 hn)∧w'.cell? ⟨w.heap.size,3,none⟩=some (.int .i64 wh)∧w'.cell? ⟨w.heap.size,4,none⟩=some (.int .i64 oo)∧w'.cell? ⟨w.heap.size,5,none⟩=some (.int .i64 on)∧w'.cell? ⟨w.heap.size,6,none⟩=some (.int .i64 tw)∧w'.cell? ⟨w.heap.size,7,none⟩=some (.int .i64 tn)) (first | go_keep | exact hS) (first | (go_at_call 209;refine (qW8 ho hn wh oo on tw tn w.heap.size _ ?_).mono ?_;(first | assumption | simp [*]);rintro e w1 ⟨rfl,hS,hb⟩))
     go_wp2
     go_ret
     exact ⟨by simp,qF6 hb⟩
theorem stray_2 (ho hn wh oo on tw tn:Int) (w:World) :
  Calls Tryz.prog 193 #[.agg #[.int .i64 2,.int .i64 ho,.int .i64 hn,.int .i64 wh,.int .i64 oo,.int .i64 on,.int .i64 tw,.int .i64 tn]] w fun e w'=>e = .returned (.bool (!(wh==0&&tw==0&&tn==0)))∧Below w.heap.size w w':=by
 cases e1:(wh==0)
 ·skip
  go_enter Tryz.func193,Tryz.ntmps193
  go_wp2
  go_region_held3 (fun w'=>w'.cell? ⟨w.heap.size,0,none⟩=some (.int .i64 2)∧w'.cell? ⟨w.heap.size,1,none⟩=some (.int .i64 ho)∧w'.cell? ⟨w.heap.size,2,none⟩=some (.int .i64 hn)∧w'.cell? ⟨w.heap.size,3,none⟩=some (.int .i64 wh)∧w'.cell? ⟨w.heap.size,4,none⟩=some (.int .i64 oo)∧w'.cell? ⟨w.heap.size,5,none⟩=some (.int .i64 on)∧w'.cell? ⟨w.heap.size,6,none⟩=some (.int .i64 tw)∧w'.cell? ⟨w.heap.size,7,none⟩=some (.int .i64 tn)) (first | go_keep | exact hS) (first | (go_at_call 209;refine (QB1 ho hn wh oo on tw tn w.heap.size _ ?_).mono ?_;(first | assumption | simp [*]);rintro e w1 ⟨rfl,hS,hb⟩))
  go_wp2
  go_ret
  exact ⟨by simp,qF6 hb⟩
 ·skip
  cases e2:(tw==0)
  ·skip
   go_enter Tryz.func193,Tryz.ntmps193
   go_wp2
   go_region_held3 (fun w'=>w'.cell? ⟨w.heap.size,0,none⟩=some (.int .i64 2)∧w'.cell? ⟨w.heap.size,1,none⟩=some (.int .i64 ho)∧w'.cell? ⟨w.heap.size,2,none⟩=some (.int .i64 hn)∧w'.cell? ⟨w.heap.size,3,none⟩=some (.int .i64 wh)∧w'.cell? ⟨w.heap.size,4,none⟩=some (.int .i64 oo)∧w'.cell? ⟨w.heap.size,5,none⟩=some (.int .i64 on)∧w'.cell? ⟨w.heap.size,6,none⟩=some (.int .i64 tw)∧w'.cell? ⟨w.heap.size,7,none⟩=some (.int .i64 tn)) (first | go_keep | exact hS) (first | (go_at_call 209;refine (QB1 ho hn wh oo on tw tn w.heap.size _ ?_).mono ?_;(first | assumption | simp [*]);rintro e w1 ⟨rfl,hS,hb⟩))
   go_wp2
   go_ret
   exact ⟨by simp,qF6 hb⟩
  ·skip
   cases e3:(tn==0)
   ·skip
    go_enter Tryz.func193,Tryz.ntmps193
    go_wp2
    go_region_held3 (fun w'=>w'.cell? ⟨w.heap.size,0,none⟩=some (.int .i64 2)∧w'.cell? ⟨w.heap.size,1,none⟩=some (.int .i64 ho)∧w'.cell? ⟨w.heap.size,2,none⟩=some (.int .i64 hn)∧w'.cell? ⟨w.heap.size,3,none⟩=some (.int .i64 wh)∧w'.cell? ⟨w.heap.size,4,none⟩=some (.int .i64 oo)∧w'.cell? ⟨w.heap.size,5,none⟩=some (.int .i64 on)∧w'.cell? ⟨w.heap.size,6,none⟩=some (.int .i64 tw)∧w'.cell? ⟨w.heap.size,7,none⟩=some (.int .i64 tn)) (first | go_keep | exact hS) (first | (go_at_call 209;refine (QB1 ho hn wh oo on tw tn w.heap.size _ ?_).mono ?_;(first | assumption | simp [*]);rintro e w1 ⟨rfl,hS,hb⟩))
    go_wp2
    go_ret
    exact ⟨by simp,qF6 hb⟩
   ·skip
    go_enter Tryz.func193,Tryz.ntmps193
    go_wp2
    go_region_held3 (fun w'=>w'.cell? ⟨w.heap.size,0,none⟩=some (.int .i64 2)∧w'.cell? ⟨w.heap.size,1,none⟩=some (.int .i64 ho)∧w'.cell? ⟨w.heap.size,2,none⟩=some (.int .i64 hn)∧w'.cell? ⟨w.heap.size,3,none⟩=some (.int .i64 wh)∧w'.cell? ⟨w.heap.size,4,none⟩=some (.int .i64 oo)∧w'.cell? ⟨w.heap.size,5,none⟩=some (.int .i64 on)∧w'.cell? ⟨w.heap.size,6,none⟩=some (.int .i64 tw)∧w'.cell? ⟨w.heap.size,7,none⟩=some (.int .i64 tn)) (first | go_keep | exact hS) (first | (go_at_call 209;refine (QB1 ho hn wh oo on tw tn w.heap.size _ ?_).mono ?_;(first | assumption | simp [*]);rintro e w1 ⟨rfl,hS,hb⟩))
    go_wp2
    go_ret
    exact ⟨by simp,qF6 hb⟩
theorem stray_3 (ho hn wh oo on tw tn:Int) (w:World) :
  Calls Tryz.prog 193 #[.agg #[.int .i64 3,.int .i64 ho,.int .i64 hn,.int .i64 wh,.int .i64 oo,.int .i64 on,.int .i64 tw,.int .i64 tn]] w fun e w'=>e = .returned (.bool (!(wh==0&&tw==0)))∧Below w.heap.size w w':=by
 cases e1:(wh==0)
 ·skip
  go_enter Tryz.func193,Tryz.ntmps193
  go_wp2
  go_region_held3 (fun w'=>w'.cell? ⟨w.heap.size,0,none⟩=some (.int .i64 3)∧w'.cell? ⟨w.heap.size,1,none⟩=some (.int .i64 ho)∧w'.cell? ⟨w.heap.size,2,none⟩=some (.int .i64 hn)∧w'.cell? ⟨w.heap.size,3,none⟩=some (.int .i64 wh)∧w'.cell? ⟨w.heap.size,4,none⟩=some (.int .i64 oo)∧w'.cell? ⟨w.heap.size,5,none⟩=some (.int .i64 on)∧w'.cell? ⟨w.heap.size,6,none⟩=some (.int .i64 tw)∧w'.cell? ⟨w.heap.size,7,none⟩=some (.int .i64 tn)) (first | go_keep | exact hS) (first | (go_at_call 209;refine (QH5 ho hn wh oo on tw tn w.heap.size _ ?_).mono ?_;(first | assumption | simp [*]);rintro e w1 ⟨rfl,hS,hb⟩))
  go_wp2
  go_ret
  exact ⟨by simp,qF6 hb⟩
 ·skip
  cases e2:(tw==0)
  ·skip
   go_enter Tryz.func193,Tryz.ntmps193
   go_wp2
   go_region_held3 (fun w'=>w'.cell? ⟨w.heap.size,0,none⟩=some (.int .i64 3)∧w'.cell? ⟨w.heap.size,1,none⟩=some (.int .i64 ho)∧w'.cell? ⟨w.heap.size,2,none⟩=some (.int .i64 hn)∧w'.cell? ⟨w.heap.size,3,none⟩=some (.int .i64 wh)∧w'.cell? ⟨w.heap.size,4,none⟩=some (.int .i64 oo)∧w'.cell? ⟨w.heap.size,5,none⟩=some (.int .i64 on)∧w'.cell? ⟨w.heap.size,6,none⟩=some (.int .i64 tw)∧w'.cell? ⟨w.heap.size,7,none⟩=some (.int .i64 tn)) (first | go_keep | exact hS) (first | (go_at_call 209;refine (QH5 ho hn wh oo on tw tn w.heap.size _ ?_).mono ?_;(first | assumption | simp [*]);rintro e w1 ⟨rfl,hS,hb⟩))
   go_wp2
   go_ret
   exact ⟨by simp,qF6 hb⟩
  ·skip
   go_enter Tryz.func193,Tryz.ntmps193
   go_wp2
   go_region_held3 (fun w'=>w'.cell? ⟨w.heap.size,0,none⟩=some (.int .i64 3)∧w'.cell? ⟨w.heap.size,1,none⟩=some (.int .i64 ho)∧w'.cell? ⟨w.heap.size,2,none⟩=some (.int .i64 hn)∧w'.cell? ⟨w.heap.size,3,none⟩=some (.int .i64 wh)∧w'.cell? ⟨w.heap.size,4,none⟩=some (.int .i64 oo)∧w'.cell? ⟨w.heap.size,5,none⟩=some (.int .i64 on)∧w'.cell? ⟨w.heap.size,6,none⟩=some (.int .i64 tw)∧w'.cell? ⟨w.heap.size,7,none⟩=some (.int .i64 tn)) (first | go_keep | exact hS) (first | (go_at_call 209;refine (QH5 ho hn wh oo on tw tn w.heap.size _ ?_).mono ?_;(first | assumption | simp [*]);rintro e w1 ⟨rfl,hS,hb⟩))
   go_wp2
   go_ret
   exact ⟨by simp,qF6 hb⟩
theorem stray_4 (ho hn wh oo on tw tn:Int) (w:World) :
  Calls Tryz.prog 193 #[.agg #[.int .i64 4,.int .i64 ho,.int .i64 hn,.int .i64 wh,.int .i64 oo,.int .i64 on,.int .i64 tw,.int .i64 tn]] w fun e w'=>e = .returned (.bool (!(wh==0)))∧Below w.heap.size w w':=by
 cases e1:(wh==0)
 ·skip
  go_enter Tryz.func193,Tryz.ntmps193
  go_wp2
  go_region_held3 (fun w'=>w'.cell? ⟨w.heap.size,0,none⟩=some (.int .i64 4)∧w'.cell? ⟨w.heap.size,1,none⟩=some (.int .i64 ho)∧w'.cell? ⟨w.heap.size,2,none⟩=some (.int .i64 hn)∧w'.cell? ⟨w.heap.size,3,none⟩=some (.int .i64 wh)∧w'.cell? ⟨w.heap.size,4,none⟩=some (.int .i64 oo)∧w'.cell? ⟨w.heap.size,5,none⟩=some (.int .i64 on)∧w'.cell? ⟨w.heap.size,6,none⟩=some (.int .i64 tw)∧w'.cell? ⟨w.heap.size,7,none⟩=some (.int .i64 tn)) (first | go_keep | exact hS) (first | (go_at_call 209;refine (QU9 ho hn wh oo on tw tn w.heap.size _ ?_).mono ?_;(first | assumption | simp [*]);rintro e w1 ⟨rfl,hS,hb⟩))
  go_wp2
  go_ret
  exact ⟨by simp,qF6 hb⟩
 ·skip
  go_enter Tryz.func193,Tryz.ntmps193
  go_wp2
  go_region_held3 (fun w'=>w'.cell? ⟨w.heap.size,0,none⟩=some (.int .i64 4)∧w'.cell? ⟨w.heap.size,1,none⟩=some (.int .i64 ho)∧w'.cell? ⟨w.heap.size,2,none⟩=some (.int .i64 hn)∧w'.cell? ⟨w.heap.size,3,none⟩=some (.int .i64 wh)∧w'.cell? ⟨w.heap.size,4,none⟩=some (.int .i64 oo)∧w'.cell? ⟨w.heap.size,5,none⟩=some (.int .i64 on)∧w'.cell? ⟨w.heap.size,6,none⟩=some (.int .i64 tw)∧w'.cell? ⟨w.heap.size,7,none⟩=some (.int .i64 tn)) (first | go_keep | exact hS) (first | (go_at_call 209;refine (QU9 ho hn wh oo on tw tn w.heap.size _ ?_).mono ?_;(first | assumption | simp [*]);rintro e w1 ⟨rfl,hS,hb⟩))
  go_wp2
  go_ret
  exact ⟨by simp,qF6 hb⟩
theorem QP5 (r:qA0) (hk:1≤r.k∧r.k≤4) (w:World) :
  Calls Tryz.prog 193 #[.agg #[.int .i64 r.k,.int .i64 r.ho,.int .i64 r.hn,.int .i64 r.w,.int .i64 r.oo,.int .i64 r.on,.int .i64 r.to,.int .i64 r.tn]] w fun e w' =>
   e = .returned (.bool (!QL9 r))∧Below w.heap.size w w':=by
 obtain ⟨k,ho,hn,wh,oo,on,tw,tn⟩:=r
 simp only at hk ⊢
 have hk':k=1∨k=2∨k=3∨k=4:=by omega
 rcases hk' with rfl | rfl | rfl | rfl
 ·exact stray_1 ho hn wh oo on tw tn w
 ·exact stray_2 ho hn wh oo on tw tn w
 ·exact stray_3 ho hn wh oo on tw tn w
 ·exact stray_4 ho hn wh oo on tw tn w

theorem qS1 (r:qA0) (t:TypeId) (v:Value) (w:World) (hk:1≤r.k∧r.k≤4)
  (HO:Hid (∀ w:World,Calls Tryz.prog 191 #[.agg #[.int .i64 r.k,.int .i64 r.ho,.int .i64 r.hn,.int .i64 r.w,.int .i64 r.oo,.int .i64 r.on,.int .i64 r.to,.int .i64 r.tn]] w fun e w'=>e = .returned (.iface t v)∧Below w.heap.size w w'))
  (HF:Hid (∀ w:World,Calls Tryz.prog 194 #[.iface t v] w fun e w'=>e = .returned (.int .i64 (if QC7 r=true then 0 else 3))∧Below w.heap.size w w')) :
  Calls Tryz.prog 171 #[.agg #[.int .i64 r.k,.int .i64 r.ho,.int .i64 r.hn,.int .i64 r.w,.int .i64 r.oo,.int .i64 r.on,.int .i64 r.to,.int .i64 r.tn]] w fun e w'=>e = .returned (.int .i64 (qA7 r))∧Below w.heap.size w w':=by
 have hX:Hid (qC3 (w.alloc (Obj.cells #[.int .i64 r.k,.int .i64 r.ho,.int .i64 r.hn,.int .i64 r.w,.int .i64 r.oo,.int .i64 r.on,.int .i64 r.to,.int .i64 r.tn] 114)) w.heap.size 0 r):=qC3.new w r _
 cases hr:qC8 r.ho r.hn
 ·have E:Hid (qA7 r=3):=by show qA7 r=3;simp [qA7,hk,hr]
  have hc:qE4 r.ho r.hn=3:=by simp [qE4,hr]
  have hb:Below (w.alloc (Obj.cells #[.int .i64 r.k,.int .i64 r.ho,.int .i64 r.hn,.int .i64 r.w,.int .i64 r.oo,.int .i64 r.on,.int .i64 r.to,.int .i64 r.tn] 114)).heap.size (w.alloc (Obj.cells #[.int .i64 r.k,.int .i64 r.ho,.int .i64 r.hn,.int .i64 r.w,.int .i64 r.oo,.int .i64 r.on,.int .i64 r.to,.int .i64 r.tn] 114)) (w.alloc (Obj.cells #[.int .i64 r.k,.int .i64 r.ho,.int .i64 r.hn,.int .i64 r.w,.int .i64 r.oo,.int .i64 r.on,.int .i64 r.to,.int .i64 r.tn] 114)):=Below.refl _ _
  obtain ⟨h0,h1,h2,h3,h4,h5,h6,h7⟩:=hX.out
  simp only [Nat.zero_add] at h0 h1 h2 h3 h4 h5 h6 h7
  go_enter Tryz.func171,Tryz.ntmps171
  go_wp2_with (first | (go_at_call 191;refine (HO.out _).mono ?_;rintro e w1 ⟨rfl,hb1⟩;replace hb:=hb.trans (hb1.mono hb.size);clear h0 h1 h2 h3 h4 h5 h6 h7 hb1;obtain ⟨h0,h1,h2,h3,h4,h5,h6,h7⟩:=hX.out.below hb;simp only [Nat.zero_add] at h0 h1 h2 h3 h4 h5 h6 h7) | (go_at_call 192;refine (qC5 _ _ _).mono ?_;rintro e w1 ⟨rfl,hb1⟩;replace hb:=hb.trans (hb1.mono hb.size);clear h0 h1 h2 h3 h4 h5 h6 h7 hb1;obtain ⟨h0,h1,h2,h3,h4,h5,h6,h7⟩:=hX.out.below hb;simp only [Nat.zero_add] at h0 h1 h2 h3 h4 h5 h6 h7;rw [hc]))
  go_ret
  exact ⟨by rw [E.out];rfl,qD1 hb⟩
 ·have hc:qE4 r.ho r.hn=0:=by simp [qE4,hr]
  cases hbr:QL9 r
  ·have E:Hid (qA7 r=1):=by show qA7 r=1;simp [qA7,hk,hr,hbr]
   have hb:Below (w.alloc (Obj.cells #[.int .i64 r.k,.int .i64 r.ho,.int .i64 r.hn,.int .i64 r.w,.int .i64 r.oo,.int .i64 r.on,.int .i64 r.to,.int .i64 r.tn] 114)).heap.size (w.alloc (Obj.cells #[.int .i64 r.k,.int .i64 r.ho,.int .i64 r.hn,.int .i64 r.w,.int .i64 r.oo,.int .i64 r.on,.int .i64 r.to,.int .i64 r.tn] 114)) (w.alloc (Obj.cells #[.int .i64 r.k,.int .i64 r.ho,.int .i64 r.hn,.int .i64 r.w,.int .i64 r.oo,.int .i64 r.on,.int .i64 r.to,.int .i64 r.tn] 114)):=Below.refl _ _
   obtain ⟨h0,h1,h2,h3,h4,h5,h6,h7⟩:=hX.out
   simp only [Nat.zero_add] at h0 h1 h2 h3 h4 h5 h6 h7
   go_enter Tryz.func171,Tryz.ntmps171
   go_wp2_with (first | (go_at_call 191;refine (HO.out _).mono ?_;rintro e w1 ⟨rfl,hb1⟩;replace hb:=hb.trans (hb1.mono hb.size);clear h0 h1 h2 h3 h4 h5 h6 h7 hb1;obtain ⟨h0,h1,h2,h3,h4,h5,h6,h7⟩:=hX.out.below hb;simp only [Nat.zero_add] at h0 h1 h2 h3 h4 h5 h6 h7) | (go_at_call 192;refine (qC5 _ _ _).mono ?_;rintro e w1 ⟨rfl,hb1⟩;replace hb:=hb.trans (hb1.mono hb.size);clear h0 h1 h2 h3 h4 h5 h6 h7 hb1;obtain ⟨h0,h1,h2,h3,h4,h5,h6,h7⟩:=hX.out.below hb;simp only [Nat.zero_add] at h0 h1 h2 h3 h4 h5 h6 h7;rw [hc]) | (go_at_call 193;refine (QP5 r hk _).mono ?_;rintro e w1 ⟨rfl,hb1⟩;replace hb:=hb.trans (hb1.mono hb.size);clear h0 h1 h2 h3 h4 h5 h6 h7 hb1;obtain ⟨h0,h1,h2,h3,h4,h5,h6,h7⟩:=hX.out.below hb;simp only [Nat.zero_add] at h0 h1 h2 h3 h4 h5 h6 h7;rw [hbr]))
   go_ret
   exact ⟨by rw [E.out];rfl,qD1 hb⟩
  ·have E:Hid (qA7 r=if QC7 r=true then 0 else 3):=by show qA7 r=if QC7 r=true then 0 else 3;simp [qA7,hk,hr,hbr];cases QC7 r <;> rfl
   obtain ⟨c,hcc⟩:∃ c:Int,c=if QC7 r=true then 0 else 3:=⟨_,rfl⟩
   rw [← hcc] at HF E
   clear hcc
   have hb:Below (w.alloc (Obj.cells #[.int .i64 r.k,.int .i64 r.ho,.int .i64 r.hn,.int .i64 r.w,.int .i64 r.oo,.int .i64 r.on,.int .i64 r.to,.int .i64 r.tn] 114)).heap.size (w.alloc (Obj.cells #[.int .i64 r.k,.int .i64 r.ho,.int .i64 r.hn,.int .i64 r.w,.int .i64 r.oo,.int .i64 r.on,.int .i64 r.to,.int .i64 r.tn] 114)) (w.alloc (Obj.cells #[.int .i64 r.k,.int .i64 r.ho,.int .i64 r.hn,.int .i64 r.w,.int .i64 r.oo,.int .i64 r.on,.int .i64 r.to,.int .i64 r.tn] 114)):=Below.refl _ _
   obtain ⟨h0,h1,h2,h3,h4,h5,h6,h7⟩:=hX.out
   simp only [Nat.zero_add] at h0 h1 h2 h3 h4 h5 h6 h7
   go_enter Tryz.func171,Tryz.ntmps171
   go_wp2_with (first | (go_at_call 191;refine (HO.out _).mono ?_;rintro e w1 ⟨rfl,hb1⟩;replace hb:=hb.trans (hb1.mono hb.size);clear h0 h1 h2 h3 h4 h5 h6 h7 hb1;obtain ⟨h0,h1,h2,h3,h4,h5,h6,h7⟩:=hX.out.below hb;simp only [Nat.zero_add] at h0 h1 h2 h3 h4 h5 h6 h7) | (go_at_call 192;refine (qC5 _ _ _).mono ?_;rintro e w1 ⟨rfl,hb1⟩;replace hb:=hb.trans (hb1.mono hb.size);clear h0 h1 h2 h3 h4 h5 h6 h7 hb1;obtain ⟨h0,h1,h2,h3,h4,h5,h6,h7⟩:=hX.out.below hb;simp only [Nat.zero_add] at h0 h1 h2 h3 h4 h5 h6 h7;rw [hc]) | (go_at_call 193;refine (QP5 r hk _).mono ?_;rintro e w1 ⟨rfl,hb1⟩;replace hb:=hb.trans (hb1.mono hb.size);clear h0 h1 h2 h3 h4 h5 h6 h7 hb1;obtain ⟨h0,h1,h2,h3,h4,h5,h6,h7⟩:=hX.out.below hb;simp only [Nat.zero_add] at h0 h1 h2 h3 h4 h5 h6 h7;rw [hbr]) | (go_at_call 194;refine (HF.out _).mono ?_;rintro e w1 ⟨rfl,hb1⟩;replace hb:=hb.trans (hb1.mono hb.size);clear h0 h1 h2 h3 h4 h5 h6 h7 hb1;obtain ⟨h0,h1,h2,h3,h4,h5,h6,h7⟩:=hX.out.below hb;simp only [Nat.zero_add] at h0 h1 h2 h3 h4 h5 h6 h7))
   go_ret
   exact ⟨by rw [E.out];rfl,qD1 hb⟩
theorem QK7 (r:qA0) (w:World) :
  Calls Tryz.prog 171 #[.agg #[.int .i64 r.k,.int .i64 r.ho,.int .i64 r.hn,.int .i64 r.w,.int .i64 r.oo,.int .i64 r.on,.int .i64 r.to,.int .i64 r.tn]] w fun e w' =>
   e = .returned (.int .i64 (qA7 r))∧Below w.heap.size w w':=by
 by_cases hk:1≤r.k∧r.k≤4
 ·have hk':r.k=1∨r.k=2∨r.k=3∨r.k=4:=by omega
  rcases hk' with e | e | e | e
  ·have e2:QC7 r=qT1 r.w:=by simp [QC7,e]
   exact qS1 r _ _ w hk (QU0 r e) (fun w=>by rw [e2];exact bodyFault_1 r.w w)
  ·have e2:QC7 r=qC8 r.oo r.on:=by simp [QC7,e]
   exact qS1 r _ _ w hk (QT9 r e) (fun w=>by rw [e2];exact bodyFault_2 r.oo r.on w)
  ·have e2:QC7 r=(qC8 r.oo r.on&&qU0 r.tn):=by simp [QC7,e]
   exact qS1 r _ _ w hk (QH1 r e) (fun w=>by rw [e2];exact bodyFault_3 r.oo r.on r.tn w)
  ·have e2:QC7 r=(qC8 r.oo r.on&&qC8 r.to r.tn):=by simp [QC7,e]
   exact qS1 r _ _ w hk (QT8 r e) (fun w=>by rw [e2];exact bodyFault_4 r.oo r.on r.to r.tn w)
 ·have E:Hid (qA7 r=1):=by show qA7 r=1;simp [qA7,hk]
  go_enter Tryz.func171,Tryz.ntmps171
  go_wp2_with (first | (go_at_call 191;refine (bodyOf_0 r hk _).mono ?_;rintro e w1 ⟨rfl,hb1⟩))
  go_ret
  exact ⟨by rw [E.out];rfl,qD1 hb1⟩

theorem QR3 (a:Option Addr) (n cap:Nat) (w:World) (hn:n≤1048576) (h16:16 < n) :
  Calls Tryz.prog 148 #[.slice a n cap] w fun e w'=>e = .returned (.int .i64 2)∧Below w.heap.size w w':=by
 have h':(16:Int) < (n:Int):=by omega
 go_enter Tryz.func148,Tryz.ntmps148
 go_wp2
 go_ret
 exact ⟨rfl,Below.refl _ _⟩
theorem QW4 (a:Option Addr) (n cap:Nat) (zs:List qA0) (c:Int) (w:World) (h16:n≤16) (hcap:n≤cap) (hcm:cap≤maxLen) (h:qB5 w a n zs) (hc:qJ9 zs n=c) :
  Calls Tryz.prog 148 #[.slice a n cap] w fun e w'=>e = .returned (.int .i64 c)∧Below w.heap.size w w':=by
 have H:Hid (qB5 w a n zs):=h
 have hz:Hid (zs.length=n):=h.1
 have HC:Hid (qJ9 zs n=c):=hc
 clear h hc
 have h':¬ ((16:Int) < (n:Int)):=by omega
 go_enter Tryz.func148,Tryz.ntmps148
 go_wp2
 go_loopw [11] (fun i wr=>∃ k:Nat,k≤n∧i = .int .i64 (k:Int)∧qJ9 zs k=0∧Below w.heap.size w wr) (fun i _=>n - (intOf i).toNat)
 case atStart=>exact ⟨0,Nat.zero_le _,rfl,rfl,Below.refl _ _⟩
 case round =>
  obtain ⟨k,hk,rfl,hp,hnx⟩:=hrel
  have HP:Hid (qJ9 zs k=0):=hp
  clear hp
  by_cases hlt:k < n
  ·obtain ⟨b,off,r,rfl,hs,hr⟩:=H.out.at hlt
   have HS:Hid (zs[k]? = some r):=hs
   clear hs
   obtain ⟨h0,h1,h2,h3,h4,h5,h6,h7⟩:=hr.below hnx
   clear hr
   have hlt':(k:Int) < (n:Int):=by omega
   go_wp2_with fail
   refine (QK7 r _).mono ?_
   rintro e w1 ⟨rfl,hb1⟩
   have hz1:=hb1.size
   simp only [World.size_alloc] at hz1
   have hnx1:Below w.heap.size w w1:=hnx.trans ((qD1 hb1).mono hnx.size)
   have hlt1:wr.heap.size < w1.heap.size:=by omega
   have hR:Hid (qC3 w1 wr.heap.size 0 r):=(qC3.new wr r _).below hb1
   clear h0 h1 h2 h3 h4 h5 h6 h7 hb1
   by_cases hcode:qA7 r=0
   ·rw [hcode]
    have HO:Hid (qA7 r=0):=hcode
    clear hcode
    have HX:Hid (qB5 w1 (some ⟨b,off,none⟩) k (zs.take k)):=(H.out.cut hk).below hnx1
    have hkc:(k:Int)≤(cap:Int):=by omega
    have hk0:(0:Int)≤(k:Int):=by omega
    obtain ⟨h0,h1,h2,h3,h4,h5,h6,h7⟩:=hR.out
    simp only [Nat.zero_add] at h0 h1 h2 h3 h4 h5 h6 h7
    obtain ⟨t,ht⟩:∃ t,t=decide (r∈zs.take k):=⟨_,rfl⟩
    have HC2:Hid (∀ w2:World,(∀ b o,b < w1.heap.size→w2.cell? ⟨b,o,none⟩=w1.cell? ⟨b,o,none⟩)∧Below w1.heap.size w1 w2→Calls Tryz.prog 172 #[.slice (some ⟨b,off,none⟩) k cap,.agg #[.int .i64 r.k,.int .i64 r.ho,.int .i64 r.hn,.int .i64 r.w,.int .i64 r.oo,.int .i64 r.on,.int .i64 r.to,.int .i64 r.tn]] w2 fun e w'=>e = .returned (.bool t)∧Below w2.heap.size w2 w'):=fun w2 hb=>by rw [ht];exact QE4 _ _ _ _ r w2 (by omega) (HX.out.below hb.2)
    have HT:Hid (t=decide (r∈zs.take k)):=ht
    clear ht
    cases t
    ·have HN:Hid (qJ9 zs (k+1)=0):=QO7 zs k r HS.out HP.out HO.out (by simpa using HT.out)
     go_wp2
     go_region_held3 (fun w'=>(∀ b o,b < w1.heap.size→w'.cell? ⟨b,o,none⟩=w1.cell? ⟨b,o,none⟩)∧Below w1.heap.size w1 w') (first | exact hS | exact qB3 _)
      (first | (go_at_call 172;refine (HC2.out _ (by assumption)).mono ?_;rintro e w' ⟨rfl,hb2⟩;have hS:=qA4 (by assumption) hb2))
     go_wp2
     exact ⟨⟨k+1,by omega,by go_num,HN.out,hnx1.trans (hS.2.mono hnx1.size)⟩,by simp [intOf];omega⟩
    ·have HI:Hid (c=6):=HC.out.symm.trans (qQ2 zs (k+1) n 6 (by decide) (QD5 zs k r HS.out HP.out HO.out (by simpa using HT.out)) (by omega))
     go_wp2
     go_region_held3 (fun w'=>(∀ b o,b < w1.heap.size→w'.cell? ⟨b,o,none⟩=w1.cell? ⟨b,o,none⟩)∧Below w1.heap.size w1 w') (first | exact hS | exact qB3 _)
      (first | (go_at_call 172;refine (HC2.out _ (by assumption)).mono ?_;rintro e w' ⟨rfl,hb2⟩;have hS:=qA4 (by assumption) hb2))
     go_wp2
     go_ret
     exact ⟨by rw [HI.out];rfl,hnx1.trans (hS.2.mono hnx1.size)⟩
   ·have E:Hid (c=qA7 r):=(HC.out.symm.trans (qQ2 zs (k+1) n _ hcode (QB9 zs k r HS.out HP.out hcode) (by omega)))
    obtain ⟨d,hd⟩:∃ d,d=qA7 r:=⟨_,rfl⟩
    rw [← hd] at hcode E ⊢
    clear hd
    have hne:(d != 0)=true:=by simpa using hcode
    go_wp2
    go_ret
    exact ⟨by rw [E.out];rfl,hnx1⟩
  ·have hkn:k=n:=by omega
   subst hkn
   have E:Hid (c=0):=HC.out.symm.trans HP.out
   go_wp2
   go_ret
   exact ⟨by rw [E.out];rfl,hnx⟩
theorem qU2 (a:Option Addr) (n cap:Nat) (zs:List qA0) (w:World) (hn:n≤1048576) (hcap:n≤cap) (hcm:cap≤maxLen) (h:qB5 w a n zs) :
  Calls Tryz.prog 148 #[.slice a n cap] w fun e w'=>e = .returned (.int .i64 (qC4 zs))∧Below w.heap.size w w':=by
 have hz:=h.1
 by_cases h16:16 < n
 ·have e:qC4 zs=2:=by simp [qC4,hz,h16]
  rw [e]
  exact QR3 a n cap w hn h16
 ·have e:qC4 zs=qJ9 zs n:=by simp [qC4,hz,h16]
  rw [e]
  exact QW4 a n cap zs _ w (by omega) hcap hcm h rfl

def QU6 (f:Nat) (v:Value) (xs:List RoI):Prop:=∀ w:World,Calls Tryz.prog f #[v] w fun e w'=>∃ g:Nat,e = .returned (.slice (some ⟨g,0,none⟩) xs.length xs.length)∧(∀ j u,(QA8 xs)[j]? = some u→w'.cell? ((⟨g,0,none⟩:Addr).add j)=some u)∧Below w.heap.size w w'
theorem roles_1 (x:Int) (w:World):Calls Tryz.prog 253 #[.agg #[.int .i64 x]] w fun e w'=>e = .returned (.slice none 0 0)∧Below w.heap.size w w':=by
 go_enter Tryz.func253,Tryz.ntmps253
 go_wp2
 go_ret
 exact ⟨rfl,by go_grown⟩
theorem news_1 {w':World} {g:Nat} {o n:Int} (h0:w'.cell? ⟨g,0,none⟩=some (.int .i64 o)) (h1:w'.cell? ⟨g,1,none⟩=some (.int .i64 n)):∀ j u,(QA8 [(o,n)])[j]? = some u→w'.cell? ((⟨g,0,none⟩:Addr).add j)=some u:=by
 intro j u hj
 rw [Go.WideShapes.add_plain,Nat.zero_add]
 match j,hj with
 | 0,hj=>simp [QA8] at hj;subst hj;exact h0
 | 1,hj=>simp [QA8] at hj;subst hj;exact h1
theorem news_2 {w':World} {g:Nat} {o n p m:Int} (h0:w'.cell? ⟨g,0,none⟩=some (.int .i64 o)) (h1:w'.cell? ⟨g,1,none⟩=some (.int .i64 n)) (h2:w'.cell? ⟨g,2,none⟩=some (.int .i64 p)) (h3:w'.cell? ⟨g,3,none⟩=some (.int .i64 m)):∀ j u,(QA8 [(o,n),(p,m)])[j]? = some u→w'.cell? ((⟨g,0,none⟩:Addr).add j)=some u:=by
 intro j u hj
 rw [Go.WideShapes.add_plain,Nat.zero_add]
 match j,hj with
 | 0,hj=>simp [QA8] at hj;subst hj;exact h0
 | 1,hj=>simp [QA8] at hj;subst hj;exact h1
 | 2,hj=>simp [QA8] at hj;subst hj;exact h2
 | 3,hj=>simp [QA8] at hj;subst hj;exact h3
theorem roles_2 (o n:Int):QU6 254 (.agg #[.int .i64 o,.int .i64 n]) [(o,n)]:=by
 intro w
 go_enter Tryz.func254,Tryz.ntmps254
 go_wp2
 go_ret
 exact ⟨_,rfl,news_1 (by simp) (by simp),by go_grown⟩
theorem roles_3 (o n d:Int):QU6 255 (.agg #[.int .i64 o,.int .i64 n,.int .i64 d]) [(o,n)]:=by
 intro w
 go_enter Tryz.func255,Tryz.ntmps255
 go_wp2
 go_ret
 exact ⟨_,rfl,news_1 (by simp) (by simp),by go_grown⟩
theorem roles_4 (o n p m:Int):QU6 256 (.agg #[.int .i64 o,.int .i64 n,.int .i64 p,.int .i64 m]) [(o,n),(p,m)]:=by
 intro w
 go_enter Tryz.func256,Tryz.ntmps256
 go_wp2
 try go_quiet (fail)
 go_wp2
 go_ret
 first
  | exact ⟨_,rfl,news_2 (by simp) (by simp) (by simp) (by simp),by go_grown⟩
  | exact ⟨_,rfl,news_2 (by simp [go_sem]) (by simp [go_sem]) (by simp [go_sem]) (by simp [go_sem]),bdN (by go_grown) _⟩

section
open Go.RowKit Go.Sort Go.Proofs Go.Lib
def cmpI (x y:Int):Int:=if x < y then -1 else if y < x then 1 else 0
def orC (c d:Int):Int:=if c=0 then d else c
def cfR (p q:RoI):Int:=orC (cmpI p.1 q.1) (cmpI p.2 q.2)
end

end Go.Proofs.YtlhgjackapdmbaaGreatDoor
