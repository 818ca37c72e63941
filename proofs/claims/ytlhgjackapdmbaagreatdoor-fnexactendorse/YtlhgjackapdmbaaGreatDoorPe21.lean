/- Contracts. -/
import Derived.Test.YtlhgjackapdmbaaGreatDoorPe06
import Derived.Test.YtlhgjackapdmbaaGreatDoorPe20
namespace Go.Proofs.YtlhgjackapdmbaaGreatDoor
set_option maxRecDepth 100000
set_option maxHeartbeats 8000000
open Go.RowKit
set_option linter.unusedVariables false
set_option linter.unusedSimpArgs false

theorem code_1 (r:qA1) (h:r.k=1) (hr:qD3 r.ho r.hn=true) (hb:QN8 r=true):qA8 r=if qU5 r.w=true then 0 else 3:=by
 have : 1≤r.k∧r.k≤4:=by omega
 have e:QE4 r=qU5 r.w:=by simp [QE4,h]
 simp [qA8,this,hr,hb,e]
 cases qU5 r.w <;> rfl
theorem code_2 (r:qA1) (h:r.k=2) (hr:qD3 r.ho r.hn=true) (hb:QN8 r=true):qA8 r=if qD3 r.oo r.on=true then 0 else 3:=by
 have : 1≤r.k∧r.k≤4:=by omega
 have e:QE4 r=qD3 r.oo r.on:=by simp [QE4,h]
 simp [qA8,this,hr,hb,e]
 cases qD3 r.oo r.on <;> rfl
theorem code_3 (r:qA1) (h:r.k=3) (hr:qD3 r.ho r.hn=true) (hb:QN8 r=true):qA8 r=if (qD3 r.oo r.on&&qV6 r.tn)=true then 0 else 3:=by
 have : 1≤r.k∧r.k≤4:=by omega
 have e:QE4 r=(qD3 r.oo r.on&&qV6 r.tn):=by simp [QE4,h]
 simp only [qA8,this,hr,hb,e]
 cases qD3 r.oo r.on <;> cases qV6 r.tn <;> rfl
theorem code_4 (r:qA1) (h:r.k=4) (hr:qD3 r.ho r.hn=true) (hb:QN8 r=true):qA8 r=if (qD3 r.oo r.on&&qD3 r.to r.tn)=true then 0 else 3:=by
 have : 1≤r.k∧r.k≤4:=by omega
 have e:QE4 r=(qD3 r.oo r.on&&qD3 r.to r.tn):=by simp [QE4,h]
 simp only [qA8,this,hr,hb,e]
 cases qD3 r.oo r.on <;> cases qD3 r.to r.tn <;> rfl
theorem l2Rule_c (g off:Nat) (r:qA1) (w:World) (h:qC6 w g off r) :
  Calls Tryz.prog 143 #[.pointer (some ⟨g,off,none⟩)] w fun e w'=>e = .returned (.int .i64 (qA8 r))∧Below w.heap.size w w':=by
 have hB:Hid (∀ w':World,Below w.heap.size w w'→1≤r.k∧r.k≤4→Calls Tryz.prog 168 #[.pointer (some ⟨g,off,none⟩)] w' fun e w''=>e = .returned (.bool (QN8 r))∧Below w'.heap.size w' w''):=fun w' hb hk=>l2Bare_c g off r w' (h.below hb) hk
 have hX:Hid (qC6 w g off r):=h
 clear h
 by_cases hk:1≤r.k∧r.k≤4
 ·have HK:Hid (1≤r.k∧r.k≤4):=hk
  cases hr:qD3 r.ho r.hn
  ·have E:Hid (qA8 r=3):=by show qA8 r=3;simp [qA8,hk,hr]
   clear hB
   obtain ⟨k,ho,hn,wh,oo,on,tw,tn⟩:=r
   have hb:Below w.heap.size w w:=Below.refl _ _
   obtain ⟨h0,h1,h2,h3,h4,h5,h6,h7⟩:=hX.out.below hb
   simp only at h0 h1 h2 h3 h4 h5 h6 h7
   simp only at hk hr 
   go_enter Tryz.func143,Tryz.ntmps143
   go_wp2_with (first | (go_at_call 144;refine (qR0 _ _ _).mono ?_;rintro e w1 ⟨rfl,hb1⟩;replace hb:=hb.trans (hb1.mono hb.size);clear h0 h1 h2 h3 h4 h5 h6 h7 hb1;obtain ⟨h0,h1,h2,h3,h4,h5,h6,h7⟩:=hX.out.below hb;simp only at h0 h1 h2 h3 h4 h5 h6 h7;(first | rw [hr])) | go_in)
   go_ret
   exact ⟨by rw [E.out];rfl,hb⟩
  ·cases hbr:QN8 r
   ·have E:Hid (qA8 r=1):=by show qA8 r=1;simp [qA8,hk,hr,hbr]
    rw [hbr] at hB
    clear hbr
    obtain ⟨k,ho,hn,wh,oo,on,tw,tn⟩:=r
    have hb:Below w.heap.size w w:=Below.refl _ _
    obtain ⟨h0,h1,h2,h3,h4,h5,h6,h7⟩:=hX.out.below hb
    simp only at h0 h1 h2 h3 h4 h5 h6 h7
    simp only at hk hr 
    go_enter Tryz.func143,Tryz.ntmps143
    go_wp2_with (first | (go_at_call 144;refine (qR0 _ _ _).mono ?_;rintro e w1 ⟨rfl,hb1⟩;replace hb:=hb.trans (hb1.mono hb.size);clear h0 h1 h2 h3 h4 h5 h6 h7 hb1;obtain ⟨h0,h1,h2,h3,h4,h5,h6,h7⟩:=hX.out.below hb;simp only at h0 h1 h2 h3 h4 h5 h6 h7;(first | rw [hr])) | (go_at_call 168;refine (hB.out _ hb HK.out).mono ?_;rintro e w1 ⟨rfl,hb1⟩;replace hb:=hb.trans (hb1.mono hb.size);clear h0 h1 h2 h3 h4 h5 h6 h7 hb1;obtain ⟨h0,h1,h2,h3,h4,h5,h6,h7⟩:=hX.out.below hb;simp only at h0 h1 h2 h3 h4 h5 h6 h7) | go_in)
    go_ret
    exact ⟨by rw [E.out];rfl,hb⟩
   ·have hk':r.k=1∨r.k=2∨r.k=3∨r.k=4:=by omega
    rw [hbr] at hB
    rcases hk' with e | e | e | e
    ·have E2:=code_1 r e hr hbr
     clear hbr
     cases hq:qD3 r.oo r.on <;> cases hp:qU5 r.w
     all_goals
      rw [hp] at E2
      have E:Hid (qA8 r=_):=E2
      clear E2
      obtain ⟨k,ho,hn,wh,oo,on,tw,tn⟩:=r
      have hb:Below w.heap.size w w:=Below.refl _ _
      obtain ⟨h0,h1,h2,h3,h4,h5,h6,h7⟩:=hX.out.below hb
      simp only at h0 h1 h2 h3 h4 h5 h6 h7
      simp only at hk hr hq hp e
      subst e
      go_enter Tryz.func143,Tryz.ntmps143
      go_wp2_with (first | (go_at_call 144;refine (qR0 _ _ _).mono ?_;rintro e w1 ⟨rfl,hb1⟩;replace hb:=hb.trans (hb1.mono hb.size);clear h0 h1 h2 h3 h4 h5 h6 h7 hb1;obtain ⟨h0,h1,h2,h3,h4,h5,h6,h7⟩:=hX.out.below hb;simp only at h0 h1 h2 h3 h4 h5 h6 h7;(first | rw [hr] | rw [hq])) | (go_at_call 168;refine (hB.out _ hb HK.out).mono ?_;rintro e w1 ⟨rfl,hb1⟩;replace hb:=hb.trans (hb1.mono hb.size);clear h0 h1 h2 h3 h4 h5 h6 h7 hb1;obtain ⟨h0,h1,h2,h3,h4,h5,h6,h7⟩:=hX.out.below hb;simp only at h0 h1 h2 h3 h4 h5 h6 h7) | (go_at_call 169;refine (QE2 _ _).mono ?_;rintro e w1 ⟨rfl,rfl⟩;rw [hp]) | go_in)
      go_ret
      exact ⟨by rw [E.out];rfl,hb⟩
    ·have E2:=code_2 r e hr hbr
     clear hbr
     cases hq:qD3 r.oo r.on
     all_goals
      rw [hq] at E2
      have E:Hid (qA8 r=_):=E2
      clear E2
      obtain ⟨k,ho,hn,wh,oo,on,tw,tn⟩:=r
      have hb:Below w.heap.size w w:=Below.refl _ _
      obtain ⟨h0,h1,h2,h3,h4,h5,h6,h7⟩:=hX.out.below hb
      simp only at h0 h1 h2 h3 h4 h5 h6 h7
      simp only at hk hr hq e
      subst e
      go_enter Tryz.func143,Tryz.ntmps143
      go_wp2_with (first | (go_at_call 144;refine (qR0 _ _ _).mono ?_;rintro e w1 ⟨rfl,hb1⟩;replace hb:=hb.trans (hb1.mono hb.size);clear h0 h1 h2 h3 h4 h5 h6 h7 hb1;obtain ⟨h0,h1,h2,h3,h4,h5,h6,h7⟩:=hX.out.below hb;simp only at h0 h1 h2 h3 h4 h5 h6 h7;(first | rw [hr] | rw [hq])) | (go_at_call 168;refine (hB.out _ hb HK.out).mono ?_;rintro e w1 ⟨rfl,hb1⟩;replace hb:=hb.trans (hb1.mono hb.size);clear h0 h1 h2 h3 h4 h5 h6 h7 hb1;obtain ⟨h0,h1,h2,h3,h4,h5,h6,h7⟩:=hX.out.below hb;simp only at h0 h1 h2 h3 h4 h5 h6 h7) | go_in)
      go_ret
      exact ⟨by rw [E.out];rfl,hb⟩
    ·have E2:=code_3 r e hr hbr
     clear hbr
     cases hq:qD3 r.oo r.on <;> cases hp:qV6 r.tn
     all_goals
      rw [hq,hp] at E2
      have E:Hid (qA8 r=_):=E2
      clear E2
      obtain ⟨k,ho,hn,wh,oo,on,tw,tn⟩:=r
      have hb:Below w.heap.size w w:=Below.refl _ _
      obtain ⟨h0,h1,h2,h3,h4,h5,h6,h7⟩:=hX.out.below hb
      simp only at h0 h1 h2 h3 h4 h5 h6 h7
      simp only at hk hr hq hp e
      subst e
      go_enter Tryz.func143,Tryz.ntmps143
      go_wp2_with (first | (go_at_call 144;refine (qR0 _ _ _).mono ?_;rintro e w1 ⟨rfl,hb1⟩;replace hb:=hb.trans (hb1.mono hb.size);clear h0 h1 h2 h3 h4 h5 h6 h7 hb1;obtain ⟨h0,h1,h2,h3,h4,h5,h6,h7⟩:=hX.out.below hb;simp only at h0 h1 h2 h3 h4 h5 h6 h7;(first | rw [hr] | rw [hq])) | (go_at_call 168;refine (hB.out _ hb HK.out).mono ?_;rintro e w1 ⟨rfl,hb1⟩;replace hb:=hb.trans (hb1.mono hb.size);clear h0 h1 h2 h3 h4 h5 h6 h7 hb1;obtain ⟨h0,h1,h2,h3,h4,h5,h6,h7⟩:=hX.out.below hb;simp only at h0 h1 h2 h3 h4 h5 h6 h7) | (go_at_call 170;refine (l2Name_c _ _).mono ?_;rintro e w1 ⟨rfl,rfl⟩;rw [hp]) | go_in)
      go_ret
      exact ⟨by rw [E.out];rfl,hb⟩
    ·have E2:=code_4 r e hr hbr
     clear hbr
     cases hq:qD3 r.oo r.on <;> cases ht:qD3 r.to r.tn
     all_goals
      rw [hq,ht] at E2
      have E:Hid (qA8 r=_):=E2
      clear E2
      obtain ⟨k,ho,hn,wh,oo,on,tw,tn⟩:=r
      have hb:Below w.heap.size w w:=Below.refl _ _
      obtain ⟨h0,h1,h2,h3,h4,h5,h6,h7⟩:=hX.out.below hb
      simp only at h0 h1 h2 h3 h4 h5 h6 h7
      simp only at hk hr hq ht e
      subst e
      go_enter Tryz.func143,Tryz.ntmps143
      go_wp2_with (first | (go_at_call 144;refine (qR0 _ _ _).mono ?_;rintro e w1 ⟨rfl,hb1⟩;replace hb:=hb.trans (hb1.mono hb.size);clear h0 h1 h2 h3 h4 h5 h6 h7 hb1;obtain ⟨h0,h1,h2,h3,h4,h5,h6,h7⟩:=hX.out.below hb;simp only at h0 h1 h2 h3 h4 h5 h6 h7;(first | rw [hr] | rw [hq] | rw [ht])) | (go_at_call 168;refine (hB.out _ hb HK.out).mono ?_;rintro e w1 ⟨rfl,hb1⟩;replace hb:=hb.trans (hb1.mono hb.size);clear h0 h1 h2 h3 h4 h5 h6 h7 hb1;obtain ⟨h0,h1,h2,h3,h4,h5,h6,h7⟩:=hX.out.below hb;simp only at h0 h1 h2 h3 h4 h5 h6 h7) | go_in)
      go_ret
      exact ⟨by rw [E.out];rfl,hb⟩
 ·have E:Hid (qA8 r=1):=by show qA8 r=1;simp [qA8,hk]
  clear hB
  obtain ⟨k,ho,hn,wh,oo,on,tw,tn⟩:=r
  obtain ⟨h0,h1,h2,h3,h4,h5,h6,h7⟩:=hX.out
  simp only at h0 h1 h2 h3 h4 h5 h6 h7 hk
  by_cases k1:1≤k
  ·have k4:decide (k≤4)=false:=by simp;omega
   go_enter Tryz.func143,Tryz.ntmps143
   go_wp2
   go_ret
   exact ⟨by rw [E.out];rfl,Below.refl _ _⟩
  ·have k4:decide (1≤k)=false:=by simp;omega
   go_enter Tryz.func143,Tryz.ntmps143
   go_wp2
   go_ret
   exact ⟨by rw [E.out];rfl,Below.refl _ _⟩

section
attribute [local go_sem ↓] rule_eql
theorem l2Fault_many (a:Option Addr) (n cap:Nat) (w:World) (hn:n≤1048576) (h16:16 < n) :
  Calls Tryz.prog 114 #[.slice a n cap] w fun e w'=>e = .returned (.int .i64 2)∧Below w.heap.size w w':=by
 have h':(16:Int) < (n:Int):=by omega
 go_enter Tryz.func114,Tryz.ntmps114
 go_wp2
 go_ret
 exact ⟨rfl,Below.refl _ _⟩
theorem l2Fault_few (a:Option Addr) (n cap:Nat) (zs:List qA1) (c:Int) (w:World) (h16:n≤16) (h:qB6 w a n zs) (hc:qL3 zs n=c) :
  Calls Tryz.prog 114 #[.slice a n cap] w fun e w'=>e = .returned (.int .i64 c)∧Below w.heap.size w w':=by
 have H:Hid (qB6 w a n zs):=h
 have hz:Hid (zs.length=n):=h.1
 have HC:Hid (qL3 zs n=c):=hc
 clear h hc
 have h':¬ ((16:Int) < (n:Int)):=by omega
 go_enter Tryz.func114,Tryz.ntmps114
 go_wp2
 go_loopw [3] (fun i wr=>∃ k:Nat,k≤n∧i = .int .i64 (k:Int)∧qL3 zs k=0∧Below w.heap.size w wr) (fun i _=>n - (intOf i).toNat)
 case atStart=>exact ⟨0,Nat.zero_le _,rfl,rfl,Below.refl _ _⟩
 case round =>
  obtain ⟨k,hk,rfl,hp,hnx⟩:=hrel
  have HP:Hid (qL3 zs k=0):=hp
  clear hp
  by_cases hlt:k < n
  ·obtain ⟨b,off,r,rfl,hs,hr⟩:=H.out.at hlt
   have HS:Hid (zs[k]? = some r):=hs
   clear hs
   have hr1:Hid (qC6 wr b (off+k * 8) r):=hr.below hnx
   clear hr
   have hlt':(k:Int) < (n:Int):=by omega
   go_wp2_with fail
   refine (l2Rule_c b (off+k * 8) r _ hr1.out).mono ?_
   rintro e w1 ⟨rfl,hb1⟩
   have hnx1:Below w.heap.size w w1:=hnx.trans (hb1.mono hnx.size)
   have hr2:Hid (qC6 w1 b (off+k * 8) r):=hr1.out.below hb1
   clear hr1 hb1 hnx
   by_cases hcode:qA8 r=0
   ·rw [hcode]
    have HO:Hid (qA8 r=0):=hcode
    clear hcode
    go_wp2
    go_loopw [5] (fun i2 wq=>∃ j:Nat,j≤k∧i2 = .int .i64 (j:Int)∧¬ r∈zs.take j∧∃ m,wq=w1.drewN m) (fun i2 _=>k - (intOf i2).toNat)
    case atStart=>exact ⟨0,Nat.zero_le _,rfl,by simp,0,rfl⟩
    case round =>
     obtain ⟨j,hj,rfl,hm,m,rfl⟩:=hrel
     have HM:Hid (¬ r∈zs.take j):=hm
     clear hm
     by_cases hjk:j < k
     ·obtain ⟨s,hs2,hq⟩:=H.out.here (show j < n by omega)
      have HS2:Hid (zs[j]? = some s):=hs2
      clear hs2
      obtain ⟨h0,h1,h2,h3,h4,h5,h6,h7⟩:=hr2.out
      obtain ⟨g0,g1,g2,g3,g4,g5,g6,g7⟩:=hq.below hnx1
      clear hq
      have hjk':(j:Int) < (k:Int):=by omega
      cases hsame:QF1 s r
      ·have HF:Hid (QF1 s r=false):=hsame
       have HN:Hid (¬ r∈zs.take (j+1)):=by
        show ¬ r∈zs.take (j+1)
        rw [qP8]
        rintro ⟨i,hi,his⟩
        by_cases e:i=j
        ·subst e
         rw [HS2.out] at his
         simp [QF1] at hsame
         exact hsame (Option.some.inj his)
        ·exact HM.out ((qP8 _ _ _).2 ⟨i,by omega,his⟩)
       clear hsame
       have hsame:QF1 s r=false:=HF.out
       go_wp2
       go_quiet (fail)
       go_wp2
       exact ⟨⟨j+1,by omega,by go_num,HN.out,_,rfl⟩,by simp [intOf];omega⟩
      ·have HI:Hid (c=6):=by
        show c=6
        simp [QF1] at hsame
        subst hsame
        exact HC.out.symm.trans (qR6 zs (k+1) n 6 (by decide) (QF2 zs k s HS.out HP.out HO.out ((qP8 _ _ _).2 ⟨j,hjk,HS2.out⟩)) (by omega))
       go_wp2
       go_quiet (fail)
       go_wp2
       go_ret
       exact ⟨by rw [HI.out];rfl,by first | exact bdN hnx1 _ | exact bdN (bdN hnx1 _) _⟩
     ·have hjn:j=k:=by omega
      subst hjn
      have HN:Hid (qL3 zs (j+1)=0):=QQ9 zs j r HS.out HP.out HO.out HM.out
      go_wp2
      exact ⟨⟨j+1,by omega,by go_num,HN.out,by first | exact hnx1 | exact bdN hnx1 _⟩,by simp [intOf];omega⟩
   ·have E:Hid (c=qA8 r):=(HC.out.symm.trans (qR6 zs (k+1) n _ hcode (QD6 zs k r HS.out HP.out hcode) (by omega)))
    obtain ⟨d,hd⟩:∃ d,d=qA8 r:=⟨_,rfl⟩
    rw [← hd] at hcode E ⊢
    clear hd
    have hne:(d != 0)=true:=by simpa using hcode
    go_wp2
    go_ret
    exact ⟨by rw [E.out];rfl,hnx1⟩
  ·have hkn:k=n:=by omega
   subst hkn
   have E:Hid (c=0):=HC.out.symm.trans HP.out
   go_wp2
   go_ret
   exact ⟨by rw [E.out];rfl,hnx⟩
theorem l2Fault_c (a:Option Addr) (n cap:Nat) (zs:List qA1) (w:World) (hn:n≤1048576) (h:qB6 w a n zs) :
  Calls Tryz.prog 114 #[.slice a n cap] w fun e w'=>e = .returned (.int .i64 (qC7 zs))∧Below w.heap.size w w':=by
 have hz:=h.1
 by_cases h16:16 < n
 ·have e:qC7 zs=2:=by simp [qC7,hz,h16]
  rw [e]
  exact l2Fault_many a n cap w hn h16
 ·have e:qC7 zs=qL3 zs n:=by simp [qC7,hz,h16]
  rw [e]
  exact l2Fault_few a n cap zs _ w (by omega) h rfl
end

theorem keep8 {w w':World} {g:Nat} {k ho hn wh oo on tw tn:Int} (h:w.cell? ⟨g,0,none⟩=some (.int .i64 k)∧w.cell? ⟨g,1,none⟩=some (.int .i64 ho)∧w.cell? ⟨g,2,none⟩=some (.int .i64 hn)∧w.cell? ⟨g,3,none⟩=some (.int .i64 wh)∧w.cell? ⟨g,4,none⟩=some (.int .i64 oo)∧w.cell? ⟨g,5,none⟩=some (.int .i64 on)∧w.cell? ⟨g,6,none⟩=some (.int .i64 tw)∧w.cell? ⟨g,7,none⟩=some (.int .i64 tn)) (hb:Below w.heap.size w w'):w'.cell? ⟨g,0,none⟩=some (.int .i64 k)∧w'.cell? ⟨g,1,none⟩=some (.int .i64 ho)∧w'.cell? ⟨g,2,none⟩=some (.int .i64 hn)∧w'.cell? ⟨g,3,none⟩=some (.int .i64 wh)∧w'.cell? ⟨g,4,none⟩=some (.int .i64 oo)∧w'.cell? ⟨g,5,none⟩=some (.int .i64 on)∧w'.cell? ⟨g,6,none⟩=some (.int .i64 tw)∧w'.cell? ⟨g,7,none⟩=some (.int .i64 tn):=by
 have key:∀ (o:Nat) (v:Value),w.cell? ⟨g,o,none⟩=some v→w'.cell? ⟨g,o,none⟩=some v:=fun o v e=>(hb.cell (p:=⟨g,o,none⟩) (zL w ⟨g,o,none⟩ e)).trans e
 obtain ⟨h0,h1,h2,h3,h4,h5,h6,h7⟩:=h
 exact ⟨key _ _ h0,key _ _ h1,key _ _ h2,key _ _ h3,key _ _ h4,key _ _ h5,key _ _ h6,key _ _ h7⟩
theorem qY2 (ho hn wh oo on tw tn:Int) (g:Nat) (w:World) (hS:w.cell? ⟨g,0,none⟩=some (.int .i64 1)∧w.cell? ⟨g,1,none⟩=some (.int .i64 ho)∧w.cell? ⟨g,2,none⟩=some (.int .i64 hn)∧w.cell? ⟨g,3,none⟩=some (.int .i64 wh)∧w.cell? ⟨g,4,none⟩=some (.int .i64 oo)∧w.cell? ⟨g,5,none⟩=some (.int .i64 on)∧w.cell? ⟨g,6,none⟩=some (.int .i64 tw)∧w.cell? ⟨g,7,none⟩=some (.int .i64 tn)) :
  Calls Tryz.prog 209 #[.agg #[.int .i64 1,.int .i64 ho,.int .i64 hn,.int .i64 wh,.int .i64 oo,.int .i64 on,.int .i64 tw,.int .i64 tn]] w fun e w' =>
   e = .returned (.agg #[.int .i64 1,.int .i64 ho,.int .i64 hn,.int .i64 0,.int .i64 oo,.int .i64 on,.int .i64 tw,.int .i64 tn])∧(w'.cell? ⟨g,0,none⟩=some (.int .i64 1)∧w'.cell? ⟨g,1,none⟩=some (.int .i64 ho)∧w'.cell? ⟨g,2,none⟩=some (.int .i64 hn)∧w'.cell? ⟨g,3,none⟩=some (.int .i64 wh)∧w'.cell? ⟨g,4,none⟩=some (.int .i64 oo)∧w'.cell? ⟨g,5,none⟩=some (.int .i64 on)∧w'.cell? ⟨g,6,none⟩=some (.int .i64 tw)∧w'.cell? ⟨g,7,none⟩=some (.int .i64 tn))∧Below w.heap.size w w':=by
 have hS':Hid (w.cell? ⟨g,0,none⟩=some (.int .i64 1)∧w.cell? ⟨g,1,none⟩=some (.int .i64 ho)∧w.cell? ⟨g,2,none⟩=some (.int .i64 hn)∧w.cell? ⟨g,3,none⟩=some (.int .i64 wh)∧w.cell? ⟨g,4,none⟩=some (.int .i64 oo)∧w.cell? ⟨g,5,none⟩=some (.int .i64 on)∧w.cell? ⟨g,6,none⟩=some (.int .i64 tw)∧w.cell? ⟨g,7,none⟩=some (.int .i64 tn)):=hS
 have hg:g < w.heap.size:=zL w ⟨g,0,none⟩ hS.1
 clear hS
 go_enter Tryz.func209,Tryz.ntmps209
 go_wp2
 go_returns
 exact ⟨rfl,keep8 hS'.out (by go_grown),by go_grown⟩
theorem QC8 (ho hn wh oo on tw tn:Int) (g:Nat) (w:World) (hS:w.cell? ⟨g,0,none⟩=some (.int .i64 2)∧w.cell? ⟨g,1,none⟩=some (.int .i64 ho)∧w.cell? ⟨g,2,none⟩=some (.int .i64 hn)∧w.cell? ⟨g,3,none⟩=some (.int .i64 wh)∧w.cell? ⟨g,4,none⟩=some (.int .i64 oo)∧w.cell? ⟨g,5,none⟩=some (.int .i64 on)∧w.cell? ⟨g,6,none⟩=some (.int .i64 tw)∧w.cell? ⟨g,7,none⟩=some (.int .i64 tn)) :
  Calls Tryz.prog 209 #[.agg #[.int .i64 2,.int .i64 ho,.int .i64 hn,.int .i64 wh,.int .i64 oo,.int .i64 on,.int .i64 tw,.int .i64 tn]] w fun e w' =>
   e = .returned (.agg #[.int .i64 2,.int .i64 ho,.int .i64 hn,.int .i64 wh,.int .i64 0,.int .i64 0,.int .i64 tw,.int .i64 tn])∧(w'.cell? ⟨g,0,none⟩=some (.int .i64 2)∧w'.cell? ⟨g,1,none⟩=some (.int .i64 ho)∧w'.cell? ⟨g,2,none⟩=some (.int .i64 hn)∧w'.cell? ⟨g,3,none⟩=some (.int .i64 wh)∧w'.cell? ⟨g,4,none⟩=some (.int .i64 oo)∧w'.cell? ⟨g,5,none⟩=some (.int .i64 on)∧w'.cell? ⟨g,6,none⟩=some (.int .i64 tw)∧w'.cell? ⟨g,7,none⟩=some (.int .i64 tn))∧Below w.heap.size w w':=by
 have hS':Hid (w.cell? ⟨g,0,none⟩=some (.int .i64 2)∧w.cell? ⟨g,1,none⟩=some (.int .i64 ho)∧w.cell? ⟨g,2,none⟩=some (.int .i64 hn)∧w.cell? ⟨g,3,none⟩=some (.int .i64 wh)∧w.cell? ⟨g,4,none⟩=some (.int .i64 oo)∧w.cell? ⟨g,5,none⟩=some (.int .i64 on)∧w.cell? ⟨g,6,none⟩=some (.int .i64 tw)∧w.cell? ⟨g,7,none⟩=some (.int .i64 tn)):=hS
 have hg:g < w.heap.size:=zL w ⟨g,0,none⟩ hS.1
 clear hS
 go_enter Tryz.func209,Tryz.ntmps209
 go_wp2
 go_returns
 exact ⟨rfl,keep8 hS'.out (by go_grown),by go_grown⟩
theorem QJ2 (ho hn wh oo on tw tn:Int) (g:Nat) (w:World) (hS:w.cell? ⟨g,0,none⟩=some (.int .i64 3)∧w.cell? ⟨g,1,none⟩=some (.int .i64 ho)∧w.cell? ⟨g,2,none⟩=some (.int .i64 hn)∧w.cell? ⟨g,3,none⟩=some (.int .i64 wh)∧w.cell? ⟨g,4,none⟩=some (.int .i64 oo)∧w.cell? ⟨g,5,none⟩=some (.int .i64 on)∧w.cell? ⟨g,6,none⟩=some (.int .i64 tw)∧w.cell? ⟨g,7,none⟩=some (.int .i64 tn)) :
  Calls Tryz.prog 209 #[.agg #[.int .i64 3,.int .i64 ho,.int .i64 hn,.int .i64 wh,.int .i64 oo,.int .i64 on,.int .i64 tw,.int .i64 tn]] w fun e w' =>
   e = .returned (.agg #[.int .i64 3,.int .i64 ho,.int .i64 hn,.int .i64 wh,.int .i64 0,.int .i64 0,.int .i64 tw,.int .i64 0])∧(w'.cell? ⟨g,0,none⟩=some (.int .i64 3)∧w'.cell? ⟨g,1,none⟩=some (.int .i64 ho)∧w'.cell? ⟨g,2,none⟩=some (.int .i64 hn)∧w'.cell? ⟨g,3,none⟩=some (.int .i64 wh)∧w'.cell? ⟨g,4,none⟩=some (.int .i64 oo)∧w'.cell? ⟨g,5,none⟩=some (.int .i64 on)∧w'.cell? ⟨g,6,none⟩=some (.int .i64 tw)∧w'.cell? ⟨g,7,none⟩=some (.int .i64 tn))∧Below w.heap.size w w':=by
 have hS':Hid (w.cell? ⟨g,0,none⟩=some (.int .i64 3)∧w.cell? ⟨g,1,none⟩=some (.int .i64 ho)∧w.cell? ⟨g,2,none⟩=some (.int .i64 hn)∧w.cell? ⟨g,3,none⟩=some (.int .i64 wh)∧w.cell? ⟨g,4,none⟩=some (.int .i64 oo)∧w.cell? ⟨g,5,none⟩=some (.int .i64 on)∧w.cell? ⟨g,6,none⟩=some (.int .i64 tw)∧w.cell? ⟨g,7,none⟩=some (.int .i64 tn)):=hS
 have hg:g < w.heap.size:=zL w ⟨g,0,none⟩ hS.1
 clear hS
 go_enter Tryz.func209,Tryz.ntmps209
 go_wp2
 go_returns
 exact ⟨rfl,keep8 hS'.out (by go_grown),by go_grown⟩
theorem QX4 (ho hn wh oo on tw tn:Int) (g:Nat) (w:World) (hS:w.cell? ⟨g,0,none⟩=some (.int .i64 4)∧w.cell? ⟨g,1,none⟩=some (.int .i64 ho)∧w.cell? ⟨g,2,none⟩=some (.int .i64 hn)∧w.cell? ⟨g,3,none⟩=some (.int .i64 wh)∧w.cell? ⟨g,4,none⟩=some (.int .i64 oo)∧w.cell? ⟨g,5,none⟩=some (.int .i64 on)∧w.cell? ⟨g,6,none⟩=some (.int .i64 tw)∧w.cell? ⟨g,7,none⟩=some (.int .i64 tn)) :
  Calls Tryz.prog 209 #[.agg #[.int .i64 4,.int .i64 ho,.int .i64 hn,.int .i64 wh,.int .i64 oo,.int .i64 on,.int .i64 tw,.int .i64 tn]] w fun e w' =>
   e = .returned (.agg #[.int .i64 4,.int .i64 ho,.int .i64 hn,.int .i64 wh,.int .i64 0,.int .i64 0,.int .i64 0,.int .i64 0])∧(w'.cell? ⟨g,0,none⟩=some (.int .i64 4)∧w'.cell? ⟨g,1,none⟩=some (.int .i64 ho)∧w'.cell? ⟨g,2,none⟩=some (.int .i64 hn)∧w'.cell? ⟨g,3,none⟩=some (.int .i64 wh)∧w'.cell? ⟨g,4,none⟩=some (.int .i64 oo)∧w'.cell? ⟨g,5,none⟩=some (.int .i64 on)∧w'.cell? ⟨g,6,none⟩=some (.int .i64 tw)∧w'.cell? ⟨g,7,none⟩=some (.int .i64 tn))∧Below w.heap.size w w':=by
 have hS':Hid (w.cell? ⟨g,0,none⟩=some (.int .i64 4)∧w.cell? ⟨g,1,none⟩=some (.int .i64 ho)∧w.cell? ⟨g,2,none⟩=some (.int .i64 hn)∧w.cell? ⟨g,3,none⟩=some (.int .i64 wh)∧w.cell? ⟨g,4,none⟩=some (.int .i64 oo)∧w.cell? ⟨g,5,none⟩=some (.int .i64 on)∧w.cell? ⟨g,6,none⟩=some (.int .i64 tw)∧w.cell? ⟨g,7,none⟩=some (.int .i64 tn)):=hS
 have hg:g < w.heap.size:=zL w ⟨g,0,none⟩ hS.1
 clear hS
 go_enter Tryz.func209,Tryz.ntmps209
 go_wp2
 go_returns
 exact ⟨rfl,keep8 hS'.out (by go_grown),by go_grown⟩
theorem qG6 {w w1:World} {o:Obj} (h:Below (w.alloc o).drew.heap.size (w.alloc o).drew w1):Below w.heap.size w w1:=((zN).drew).trans (h.mono (by simp))
theorem stray_1 (ho hn wh oo on tw tn:Int) (w:World) :
  Calls Tryz.prog 193 #[.agg #[.int .i64 1,.int .i64 ho,.int .i64 hn,.int .i64 wh,.int .i64 oo,.int .i64 on,.int .i64 tw,.int .i64 tn]] w fun e w'=>e = .returned (.bool (!(oo==0&&on==0&&tw==0&&tn==0)))∧Below w.heap.size w w':=by
 cases e1:(oo==0)
 ·skip
  go_enter Tryz.func193,Tryz.ntmps193
  go_wp2
  go_region_held3 (fun w'=>w'.cell? ⟨w.heap.size,0,none⟩=some (.int .i64 1)∧w'.cell? ⟨w.heap.size,1,none⟩=some (.int .i64 ho)∧w'.cell? ⟨w.heap.size,2,none⟩=some (.int .i64 hn)∧w'.cell? ⟨w.heap.size,3,none⟩=some (.int .i64 wh)∧w'.cell? ⟨w.heap.size,4,none⟩=some (.int .i64 oo)∧w'.cell? ⟨w.heap.size,5,none⟩=some (.int .i64 on)∧w'.cell? ⟨w.heap.size,6,none⟩=some (.int .i64 tw)∧w'.cell? ⟨w.heap.size,7,none⟩=some (.int .i64 tn)) (first | go_keep | exact hS) (first | (go_at_call 209;refine (qY2 ho hn wh oo on tw tn w.heap.size _ ?_).mono ?_;(first | assumption | simp [*]);rintro e w1 ⟨rfl,hS,hb⟩))
  go_wp2
  go_ret
  exact ⟨by simp,qG6 hb⟩
 ·skip
  cases e2:(on==0)
  ·skip
   go_enter Tryz.func193,Tryz.ntmps193
   go_wp2
   go_region_held3 (fun w'=>w'.cell? ⟨w.heap.size,0,none⟩=some (.int .i64 1)∧w'.cell? ⟨w.heap.size,1,none⟩=some (.int .i64 ho)∧w'.cell? ⟨w.heap.size,2,none⟩=some (.int .i64 hn)∧w'.cell? ⟨w.heap.size,3,none⟩=some (.int .i64 wh)∧w'.cell? ⟨w.heap.size,4,none⟩=some (.int .i64 oo)∧w'.cell? ⟨w.heap.size,5,none⟩=some (.int .i64 on)∧w'.cell? ⟨w.heap.size,6,none⟩=some (.int .i64 tw)∧w'.cell? ⟨w.heap.size,7,none⟩=some (.int .i64 tn)) (first | go_keep | exact hS) (first | (go_at_call 209;refine (qY2 ho hn wh oo on tw tn w.heap.size _ ?_).mono ?_;(first | assumption | simp [*]);rintro e w1 ⟨rfl,hS,hb⟩))
   go_wp2
   go_ret
   exact ⟨by simp,qG6 hb⟩
  ·skip
   cases e3:(tw==0)
   ·skip
    go_enter Tryz.func193,Tryz.ntmps193
    go_wp2
    go_region_held3 (fun w'=>w'.cell? ⟨w.heap.size,0,none⟩=some (.int .i64 1)∧w'.cell? ⟨w.heap.size,1,none⟩=some (.int .i64 ho)∧w'.cell? ⟨w.heap.size,2,none⟩=some (.int .i64 hn)∧w'.cell? ⟨w.heap.size,3,none⟩=some (.int .i64 wh)∧w'.cell? ⟨w.heap.size,4,none⟩=some (.int .i64 oo)∧w'.cell? ⟨w.heap.size,5,none⟩=some (.int .i64 on)∧w'.cell? ⟨w.heap.size,6,none⟩=some (.int .i64 tw)∧w'.cell? ⟨w.heap.size,7,none⟩=some (.int .i64 tn)) (first | go_keep | exact hS) (first | (go_at_call 209;refine (qY2 ho hn wh oo on tw tn w.heap.size _ ?_).mono ?_;(first | assumption | simp [*]);rintro e w1 ⟨rfl,hS,hb⟩))
    go_wp2
    go_ret
    exact ⟨by simp,qG6 hb⟩
   ·skip
    cases e4:(tn==0)
    ·skip
     go_enter Tryz.func193,Tryz.ntmps193
     go_wp2
     go_region_held3 (fun w'=>w'.cell? ⟨w.heap.size,0,none⟩=some (.int .i64 1)∧w'.cell? ⟨w.heap.size,1,none⟩=some (.int .i64 ho)∧w'.cell? ⟨w.heap.size,2,none⟩=some (.int .i64 hn)∧w'.cell? ⟨w.heap.size,3,none⟩=some (.int .i64 wh)∧w'.cell? ⟨w.heap.size,4,none⟩=some (.int .i64 oo)∧w'.cell? ⟨w.heap.size,5,none⟩=some (.int .i64 on)∧w'.cell? ⟨w.heap.size,6,none⟩=some (.int .i64 tw)∧w'.cell? ⟨w.heap.size,7,none⟩=some (.int .i64 tn)) (first | go_keep | exact hS) (first | (go_at_call 209;refine (qY2 ho hn wh oo on tw tn w.heap.size _ ?_).mono ?_;(first | assumption | simp [*]);rintro e w1 ⟨rfl,hS,hb⟩))
     go_wp2
     go_ret
     exact ⟨by simp,qG6 hb⟩
    ·skip
     go_enter Tryz.func193,Tryz.ntmps193
     go_wp2
     go_region_held3 (fun w'=>w'.cell? ⟨w.heap.size,0,none⟩=some (.int .i64 1)∧w'.cell? ⟨w.heap.size,1,none⟩=some (.int .i64 ho)∧w'.cell? ⟨w.heap.size,2,none⟩=some (.int .i64 hn)∧w'.cell? ⟨w.heap.size,3,none⟩=some (.int .i64 wh)∧w'.cell? ⟨w.heap.size,4,none⟩=some (.int .i64 oo)∧w'.cell? ⟨w.heap.size,5,none⟩=some (.int .i64 on)∧w'.cell? ⟨w.heap.size,6,none⟩=some (.int .i64 tw)∧w'.cell? ⟨w.heap.size,7,none⟩=some (.int .i64 tn)) (first | go_keep | exact hS) (first | (go_at_call 209;refine (qY2 ho hn wh oo on tw tn w.heap.size _ ?_).mono ?_;(first | assumption | simp [*]);rintro e w1 ⟨rfl,hS,hb⟩))
     go_wp2
     go_ret
     exact ⟨by simp,qG6 hb⟩
theorem stray_2 (ho hn wh oo on tw tn:Int) (w:World) :
  Calls Tryz.prog 193 #[.agg #[.int .i64 2,.int .i64 ho,.int .i64 hn,.int .i64 wh,.int .i64 oo,.int .i64 on,.int .i64 tw,.int .i64 tn]] w fun e w'=>e = .returned (.bool (!(wh==0&&tw==0&&tn==0)))∧Below w.heap.size w w':=by
 cases e1:(wh==0)
 ·skip
  go_enter Tryz.func193,Tryz.ntmps193
  go_wp2
  go_region_held3 (fun w'=>w'.cell? ⟨w.heap.size,0,none⟩=some (.int .i64 2)∧w'.cell? ⟨w.heap.size,1,none⟩=some (.int .i64 ho)∧w'.cell? ⟨w.heap.size,2,none⟩=some (.int .i64 hn)∧w'.cell? ⟨w.heap.size,3,none⟩=some (.int .i64 wh)∧w'.cell? ⟨w.heap.size,4,none⟩=some (.int .i64 oo)∧w'.cell? ⟨w.heap.size,5,none⟩=some (.int .i64 on)∧w'.cell? ⟨w.heap.size,6,none⟩=some (.int .i64 tw)∧w'.cell? ⟨w.heap.size,7,none⟩=some (.int .i64 tn)) (first | go_keep | exact hS) (first | (go_at_call 209;refine (QC8 ho hn wh oo on tw tn w.heap.size _ ?_).mono ?_;(first | assumption | simp [*]);rintro e w1 ⟨rfl,hS,hb⟩))
  go_wp2
  go_ret
  exact ⟨by simp,qG6 hb⟩
 ·skip
  cases e2:(tw==0)
  ·skip
   go_enter Tryz.func193,Tryz.ntmps193
   go_wp2
   go_region_held3 (fun w'=>w'.cell? ⟨w.heap.size,0,none⟩=some (.int .i64 2)∧w'.cell? ⟨w.heap.size,1,none⟩=some (.int .i64 ho)∧w'.cell? ⟨w.heap.size,2,none⟩=some (.int .i64 hn)∧w'.cell? ⟨w.heap.size,3,none⟩=some (.int .i64 wh)∧w'.cell? ⟨w.heap.size,4,none⟩=some (.int .i64 oo)∧w'.cell? ⟨w.heap.size,5,none⟩=some (.int .i64 on)∧w'.cell? ⟨w.heap.size,6,none⟩=some (.int .i64 tw)∧w'.cell? ⟨w.heap.size,7,none⟩=some (.int .i64 tn)) (first | go_keep | exact hS) (first | (go_at_call 209;refine (QC8 ho hn wh oo on tw tn w.heap.size _ ?_).mono ?_;(first | assumption | simp [*]);rintro e w1 ⟨rfl,hS,hb⟩))
   go_wp2
   go_ret
   exact ⟨by simp,qG6 hb⟩
  ·skip
   cases e3:(tn==0)
   ·skip
    go_enter Tryz.func193,Tryz.ntmps193
    go_wp2
    go_region_held3 (fun w'=>w'.cell? ⟨w.heap.size,0,none⟩=some (.int .i64 2)∧w'.cell? ⟨w.heap.size,1,none⟩=some (.int .i64 ho)∧w'.cell? ⟨w.heap.size,2,none⟩=some (.int .i64 hn)∧w'.cell? ⟨w.heap.size,3,none⟩=some (.int .i64 wh)∧w'.cell? ⟨w.heap.size,4,none⟩=some (.int .i64 oo)∧w'.cell? ⟨w.heap.size,5,none⟩=some (.int .i64 on)∧w'.cell? ⟨w.heap.size,6,none⟩=some (.int .i64 tw)∧w'.cell? ⟨w.heap.size,7,none⟩=some (.int .i64 tn)) (first | go_keep | exact hS) (first | (go_at_call 209;refine (QC8 ho hn wh oo on tw tn w.heap.size _ ?_).mono ?_;(first | assumption | simp [*]);rintro e w1 ⟨rfl,hS,hb⟩))
    go_wp2
    go_ret
    exact ⟨by simp,qG6 hb⟩
   ·skip
    go_enter Tryz.func193,Tryz.ntmps193
    go_wp2
    go_region_held3 (fun w'=>w'.cell? ⟨w.heap.size,0,none⟩=some (.int .i64 2)∧w'.cell? ⟨w.heap.size,1,none⟩=some (.int .i64 ho)∧w'.cell? ⟨w.heap.size,2,none⟩=some (.int .i64 hn)∧w'.cell? ⟨w.heap.size,3,none⟩=some (.int .i64 wh)∧w'.cell? ⟨w.heap.size,4,none⟩=some (.int .i64 oo)∧w'.cell? ⟨w.heap.size,5,none⟩=some (.int .i64 on)∧w'.cell? ⟨w.heap.size,6,none⟩=some (.int .i64 tw)∧w'.cell? ⟨w.heap.size,7,none⟩=some (.int .i64 tn)) (first | go_keep | exact hS) (first | (go_at_call 209;refine (QC8 ho hn wh oo on tw tn w.heap.size _ ?_).mono ?_;(first | assumption | simp [*]);rintro e w1 ⟨rfl,hS,hb⟩))
    go_wp2
    go_ret
    exact ⟨by simp,qG6 hb⟩
theorem stray_3 (ho hn wh oo on tw tn:Int) (w:World) :
  Calls Tryz.prog 193 #[.agg #[.int .i64 3,.int .i64 ho,.int .i64 hn,.int .i64 wh,.int .i64 oo,.int .i64 on,.int .i64 tw,.int .i64 tn]] w fun e w'=>e = .returned (.bool (!(wh==0&&tw==0)))∧Below w.heap.size w w':=by
 cases e1:(wh==0)
 ·skip
  go_enter Tryz.func193,Tryz.ntmps193
  go_wp2
  go_region_held3 (fun w'=>w'.cell? ⟨w.heap.size,0,none⟩=some (.int .i64 3)∧w'.cell? ⟨w.heap.size,1,none⟩=some (.int .i64 ho)∧w'.cell? ⟨w.heap.size,2,none⟩=some (.int .i64 hn)∧w'.cell? ⟨w.heap.size,3,none⟩=some (.int .i64 wh)∧w'.cell? ⟨w.heap.size,4,none⟩=some (.int .i64 oo)∧w'.cell? ⟨w.heap.size,5,none⟩=some (.int .i64 on)∧w'.cell? ⟨w.heap.size,6,none⟩=some (.int .i64 tw)∧w'.cell? ⟨w.heap.size,7,none⟩=some (.int .i64 tn)) (first | go_keep | exact hS) (first | (go_at_call 209;refine (QJ2 ho hn wh oo on tw tn w.heap.size _ ?_).mono ?_;(first | assumption | simp [*]);rintro e w1 ⟨rfl,hS,hb⟩))
  go_wp2
  go_ret
  exact ⟨by simp,qG6 hb⟩
 ·skip
  cases e2:(tw==0)
  ·skip
   go_enter Tryz.func193,Tryz.ntmps193
   go_wp2
   go_region_held3 (fun w'=>w'.cell? ⟨w.heap.size,0,none⟩=some (.int .i64 3)∧w'.cell? ⟨w.heap.size,1,none⟩=some (.int .i64 ho)∧w'.cell? ⟨w.heap.size,2,none⟩=some (.int .i64 hn)∧w'.cell? ⟨w.heap.size,3,none⟩=some (.int .i64 wh)∧w'.cell? ⟨w.heap.size,4,none⟩=some (.int .i64 oo)∧w'.cell? ⟨w.heap.size,5,none⟩=some (.int .i64 on)∧w'.cell? ⟨w.heap.size,6,none⟩=some (.int .i64 tw)∧w'.cell? ⟨w.heap.size,7,none⟩=some (.int .i64 tn)) (first | go_keep | exact hS) (first | (go_at_call 209;refine (QJ2 ho hn wh oo on tw tn w.heap.size _ ?_).mono ?_;(first | assumption | simp [*]);rintro e w1 ⟨rfl,hS,hb⟩))
   go_wp2
   go_ret
   exact ⟨by simp,qG6 hb⟩
  ·skip
   go_enter Tryz.func193,Tryz.ntmps193
   go_wp2
   go_region_held3 (fun w'=>w'.cell? ⟨w.heap.size,0,none⟩=some (.int .i64 3)∧w'.cell? ⟨w.heap.size,1,none⟩=some (.int .i64 ho)∧w'.cell? ⟨w.heap.size,2,none⟩=some (.int .i64 hn)∧w'.cell? ⟨w.heap.size,3,none⟩=some (.int .i64 wh)∧w'.cell? ⟨w.heap.size,4,none⟩=some (.int .i64 oo)∧w'.cell? ⟨w.heap.size,5,none⟩=some (.int .i64 on)∧w'.cell? ⟨w.heap.size,6,none⟩=some (.int .i64 tw)∧w'.cell? ⟨w.heap.size,7,none⟩=some (.int .i64 tn)) (first | go_keep | exact hS) (first | (go_at_call 209;refine (QJ2 ho hn wh oo on tw tn w.heap.size _ ?_).mono ?_;(first | assumption | simp [*]);rintro e w1 ⟨rfl,hS,hb⟩))
   go_wp2
   go_ret
   exact ⟨by simp,qG6 hb⟩
theorem stray_4 (ho hn wh oo on tw tn:Int) (w:World) :
  Calls Tryz.prog 193 #[.agg #[.int .i64 4,.int .i64 ho,.int .i64 hn,.int .i64 wh,.int .i64 oo,.int .i64 on,.int .i64 tw,.int .i64 tn]] w fun e w'=>e = .returned (.bool (!(wh==0)))∧Below w.heap.size w w':=by
 cases e1:(wh==0)
 ·skip
  go_enter Tryz.func193,Tryz.ntmps193
  go_wp2
  go_region_held3 (fun w'=>w'.cell? ⟨w.heap.size,0,none⟩=some (.int .i64 4)∧w'.cell? ⟨w.heap.size,1,none⟩=some (.int .i64 ho)∧w'.cell? ⟨w.heap.size,2,none⟩=some (.int .i64 hn)∧w'.cell? ⟨w.heap.size,3,none⟩=some (.int .i64 wh)∧w'.cell? ⟨w.heap.size,4,none⟩=some (.int .i64 oo)∧w'.cell? ⟨w.heap.size,5,none⟩=some (.int .i64 on)∧w'.cell? ⟨w.heap.size,6,none⟩=some (.int .i64 tw)∧w'.cell? ⟨w.heap.size,7,none⟩=some (.int .i64 tn)) (first | go_keep | exact hS) (first | (go_at_call 209;refine (QX4 ho hn wh oo on tw tn w.heap.size _ ?_).mono ?_;(first | assumption | simp [*]);rintro e w1 ⟨rfl,hS,hb⟩))
  go_wp2
  go_ret
  exact ⟨by simp,qG6 hb⟩
 ·skip
  go_enter Tryz.func193,Tryz.ntmps193
  go_wp2
  go_region_held3 (fun w'=>w'.cell? ⟨w.heap.size,0,none⟩=some (.int .i64 4)∧w'.cell? ⟨w.heap.size,1,none⟩=some (.int .i64 ho)∧w'.cell? ⟨w.heap.size,2,none⟩=some (.int .i64 hn)∧w'.cell? ⟨w.heap.size,3,none⟩=some (.int .i64 wh)∧w'.cell? ⟨w.heap.size,4,none⟩=some (.int .i64 oo)∧w'.cell? ⟨w.heap.size,5,none⟩=some (.int .i64 on)∧w'.cell? ⟨w.heap.size,6,none⟩=some (.int .i64 tw)∧w'.cell? ⟨w.heap.size,7,none⟩=some (.int .i64 tn)) (first | go_keep | exact hS) (first | (go_at_call 209;refine (QX4 ho hn wh oo on tw tn w.heap.size _ ?_).mono ?_;(first | assumption | simp [*]);rintro e w1 ⟨rfl,hS,hb⟩))
  go_wp2
  go_ret
  exact ⟨by simp,qG6 hb⟩
theorem QR9 (r:qA1) (hk:1≤r.k∧r.k≤4) (w:World) :
  Calls Tryz.prog 193 #[.agg #[.int .i64 r.k,.int .i64 r.ho,.int .i64 r.hn,.int .i64 r.w,.int .i64 r.oo,.int .i64 r.on,.int .i64 r.to,.int .i64 r.tn]] w fun e w' =>
   e = .returned (.bool (!QN8 r))∧Below w.heap.size w w':=by
 obtain ⟨k,ho,hn,wh,oo,on,tw,tn⟩:=r
 simp only at hk ⊢
 have hk':k=1∨k=2∨k=3∨k=4:=by omega
 rcases hk' with rfl | rfl | rfl | rfl
 ·exact stray_1 ho hn wh oo on tw tn w
 ·exact stray_2 ho hn wh oo on tw tn w
 ·exact stray_3 ho hn wh oo on tw tn w
 ·exact stray_4 ho hn wh oo on tw tn w

theorem qT5 (r:qA1) (t:TypeId) (v:Value) (w:World) (hk:1≤r.k∧r.k≤4)
  (HO:Hid (∀ w:World,Calls Tryz.prog 191 #[.agg #[.int .i64 r.k,.int .i64 r.ho,.int .i64 r.hn,.int .i64 r.w,.int .i64 r.oo,.int .i64 r.on,.int .i64 r.to,.int .i64 r.tn]] w fun e w'=>e = .returned (.iface t v)∧Below w.heap.size w w'))
  (HF:Hid (∀ w:World,Calls Tryz.prog 194 #[.iface t v] w fun e w'=>e = .returned (.int .i64 (if QE4 r=true then 0 else 3))∧Below w.heap.size w w')) :
  Calls Tryz.prog 171 #[.agg #[.int .i64 r.k,.int .i64 r.ho,.int .i64 r.hn,.int .i64 r.w,.int .i64 r.oo,.int .i64 r.on,.int .i64 r.to,.int .i64 r.tn]] w fun e w'=>e = .returned (.int .i64 (qA8 r))∧Below w.heap.size w w':=by
 have hX:Hid (qC6 (w.alloc (Obj.cells #[.int .i64 r.k,.int .i64 r.ho,.int .i64 r.hn,.int .i64 r.w,.int .i64 r.oo,.int .i64 r.on,.int .i64 r.to,.int .i64 r.tn] 114)) w.heap.size 0 r):=qC6.new w r _
 cases hr:qD3 r.ho r.hn
 ·have E:Hid (qA8 r=3):=by show qA8 r=3;simp [qA8,hk,hr]
  have hc:qF0 r.ho r.hn=3:=by simp [qF0,hr]
  have hb:Below (w.alloc (Obj.cells #[.int .i64 r.k,.int .i64 r.ho,.int .i64 r.hn,.int .i64 r.w,.int .i64 r.oo,.int .i64 r.on,.int .i64 r.to,.int .i64 r.tn] 114)).heap.size (w.alloc (Obj.cells #[.int .i64 r.k,.int .i64 r.ho,.int .i64 r.hn,.int .i64 r.w,.int .i64 r.oo,.int .i64 r.on,.int .i64 r.to,.int .i64 r.tn] 114)) (w.alloc (Obj.cells #[.int .i64 r.k,.int .i64 r.ho,.int .i64 r.hn,.int .i64 r.w,.int .i64 r.oo,.int .i64 r.on,.int .i64 r.to,.int .i64 r.tn] 114)):=Below.refl _ _
  obtain ⟨h0,h1,h2,h3,h4,h5,h6,h7⟩:=hX.out
  simp only [Nat.zero_add] at h0 h1 h2 h3 h4 h5 h6 h7
  go_enter Tryz.func171,Tryz.ntmps171
  go_wp2_with (first | (go_at_call 191;refine (HO.out _).mono ?_;rintro e w1 ⟨rfl,hb1⟩;replace hb:=hb.trans (hb1.mono hb.size);clear h0 h1 h2 h3 h4 h5 h6 h7 hb1;obtain ⟨h0,h1,h2,h3,h4,h5,h6,h7⟩:=hX.out.below hb;simp only [Nat.zero_add] at h0 h1 h2 h3 h4 h5 h6 h7) | (go_at_call 192;refine (qC9 _ _ _).mono ?_;rintro e w1 ⟨rfl,hb1⟩;replace hb:=hb.trans (hb1.mono hb.size);clear h0 h1 h2 h3 h4 h5 h6 h7 hb1;obtain ⟨h0,h1,h2,h3,h4,h5,h6,h7⟩:=hX.out.below hb;simp only [Nat.zero_add] at h0 h1 h2 h3 h4 h5 h6 h7;rw [hc]))
  go_ret
  exact ⟨by rw [E.out];rfl,qD5 hb⟩
 ·have hc:qF0 r.ho r.hn=0:=by simp [qF0,hr]
  cases hbr:QN8 r
  ·have E:Hid (qA8 r=1):=by show qA8 r=1;simp [qA8,hk,hr,hbr]
   have hb:Below (w.alloc (Obj.cells #[.int .i64 r.k,.int .i64 r.ho,.int .i64 r.hn,.int .i64 r.w,.int .i64 r.oo,.int .i64 r.on,.int .i64 r.to,.int .i64 r.tn] 114)).heap.size (w.alloc (Obj.cells #[.int .i64 r.k,.int .i64 r.ho,.int .i64 r.hn,.int .i64 r.w,.int .i64 r.oo,.int .i64 r.on,.int .i64 r.to,.int .i64 r.tn] 114)) (w.alloc (Obj.cells #[.int .i64 r.k,.int .i64 r.ho,.int .i64 r.hn,.int .i64 r.w,.int .i64 r.oo,.int .i64 r.on,.int .i64 r.to,.int .i64 r.tn] 114)):=Below.refl _ _
   obtain ⟨h0,h1,h2,h3,h4,h5,h6,h7⟩:=hX.out
   simp only [Nat.zero_add] at h0 h1 h2 h3 h4 h5 h6 h7
   go_enter Tryz.func171,Tryz.ntmps171
   go_wp2_with (first | (go_at_call 191;refine (HO.out _).mono ?_;rintro e w1 ⟨rfl,hb1⟩;replace hb:=hb.trans (hb1.mono hb.size);clear h0 h1 h2 h3 h4 h5 h6 h7 hb1;obtain ⟨h0,h1,h2,h3,h4,h5,h6,h7⟩:=hX.out.below hb;simp only [Nat.zero_add] at h0 h1 h2 h3 h4 h5 h6 h7) | (go_at_call 192;refine (qC9 _ _ _).mono ?_;rintro e w1 ⟨rfl,hb1⟩;replace hb:=hb.trans (hb1.mono hb.size);clear h0 h1 h2 h3 h4 h5 h6 h7 hb1;obtain ⟨h0,h1,h2,h3,h4,h5,h6,h7⟩:=hX.out.below hb;simp only [Nat.zero_add] at h0 h1 h2 h3 h4 h5 h6 h7;rw [hc]) | (go_at_call 193;refine (QR9 r hk _).mono ?_;rintro e w1 ⟨rfl,hb1⟩;replace hb:=hb.trans (hb1.mono hb.size);clear h0 h1 h2 h3 h4 h5 h6 h7 hb1;obtain ⟨h0,h1,h2,h3,h4,h5,h6,h7⟩:=hX.out.below hb;simp only [Nat.zero_add] at h0 h1 h2 h3 h4 h5 h6 h7;rw [hbr]))
   go_ret
   exact ⟨by rw [E.out];rfl,qD5 hb⟩
  ·have E:Hid (qA8 r=if QE4 r=true then 0 else 3):=by show qA8 r=if QE4 r=true then 0 else 3;simp [qA8,hk,hr,hbr];cases QE4 r <;> rfl
   obtain ⟨c,hcc⟩:∃ c:Int,c=if QE4 r=true then 0 else 3:=⟨_,rfl⟩
   rw [← hcc] at HF E
   clear hcc
   have hb:Below (w.alloc (Obj.cells #[.int .i64 r.k,.int .i64 r.ho,.int .i64 r.hn,.int .i64 r.w,.int .i64 r.oo,.int .i64 r.on,.int .i64 r.to,.int .i64 r.tn] 114)).heap.size (w.alloc (Obj.cells #[.int .i64 r.k,.int .i64 r.ho,.int .i64 r.hn,.int .i64 r.w,.int .i64 r.oo,.int .i64 r.on,.int .i64 r.to,.int .i64 r.tn] 114)) (w.alloc (Obj.cells #[.int .i64 r.k,.int .i64 r.ho,.int .i64 r.hn,.int .i64 r.w,.int .i64 r.oo,.int .i64 r.on,.int .i64 r.to,.int .i64 r.tn] 114)):=Below.refl _ _
   obtain ⟨h0,h1,h2,h3,h4,h5,h6,h7⟩:=hX.out
   simp only [Nat.zero_add] at h0 h1 h2 h3 h4 h5 h6 h7
   go_enter Tryz.func171,Tryz.ntmps171
   go_wp2_with (first | (go_at_call 191;refine (HO.out _).mono ?_;rintro e w1 ⟨rfl,hb1⟩;replace hb:=hb.trans (hb1.mono hb.size);clear h0 h1 h2 h3 h4 h5 h6 h7 hb1;obtain ⟨h0,h1,h2,h3,h4,h5,h6,h7⟩:=hX.out.below hb;simp only [Nat.zero_add] at h0 h1 h2 h3 h4 h5 h6 h7) | (go_at_call 192;refine (qC9 _ _ _).mono ?_;rintro e w1 ⟨rfl,hb1⟩;replace hb:=hb.trans (hb1.mono hb.size);clear h0 h1 h2 h3 h4 h5 h6 h7 hb1;obtain ⟨h0,h1,h2,h3,h4,h5,h6,h7⟩:=hX.out.below hb;simp only [Nat.zero_add] at h0 h1 h2 h3 h4 h5 h6 h7;rw [hc]) | (go_at_call 193;refine (QR9 r hk _).mono ?_;rintro e w1 ⟨rfl,hb1⟩;replace hb:=hb.trans (hb1.mono hb.size);clear h0 h1 h2 h3 h4 h5 h6 h7 hb1;obtain ⟨h0,h1,h2,h3,h4,h5,h6,h7⟩:=hX.out.below hb;simp only [Nat.zero_add] at h0 h1 h2 h3 h4 h5 h6 h7;rw [hbr]) | (go_at_call 194;refine (HF.out _).mono ?_;rintro e w1 ⟨rfl,hb1⟩;replace hb:=hb.trans (hb1.mono hb.size);clear h0 h1 h2 h3 h4 h5 h6 h7 hb1;obtain ⟨h0,h1,h2,h3,h4,h5,h6,h7⟩:=hX.out.below hb;simp only [Nat.zero_add] at h0 h1 h2 h3 h4 h5 h6 h7))
   go_ret
   exact ⟨by rw [E.out];rfl,qD5 hb⟩
theorem QM5 (r:qA1) (w:World) :
  Calls Tryz.prog 171 #[.agg #[.int .i64 r.k,.int .i64 r.ho,.int .i64 r.hn,.int .i64 r.w,.int .i64 r.oo,.int .i64 r.on,.int .i64 r.to,.int .i64 r.tn]] w fun e w' =>
   e = .returned (.int .i64 (qA8 r))∧Below w.heap.size w w':=by
 by_cases hk:1≤r.k∧r.k≤4
 ·have hk':r.k=1∨r.k=2∨r.k=3∨r.k=4:=by omega
  rcases hk' with e | e | e | e
  ·have e2:QE4 r=qU5 r.w:=by simp [QE4,e]
   exact qT5 r _ _ w hk (QW4 r e) (fun w=>by rw [e2];exact bodyFault_1 r.w w)
  ·have e2:QE4 r=qD3 r.oo r.on:=by simp [QE4,e]
   exact qT5 r _ _ w hk (QW3 r e) (fun w=>by rw [e2];exact bodyFault_2 r.oo r.on w)
  ·have e2:QE4 r=(qD3 r.oo r.on&&qV6 r.tn):=by simp [QE4,e]
   exact qT5 r _ _ w hk (QI8 r e) (fun w=>by rw [e2];exact bodyFault_3 r.oo r.on r.tn w)
  ·have e2:QE4 r=(qD3 r.oo r.on&&qD3 r.to r.tn):=by simp [QE4,e]
   exact qT5 r _ _ w hk (QW2 r e) (fun w=>by rw [e2];exact bodyFault_4 r.oo r.on r.to r.tn w)
 ·have E:Hid (qA8 r=1):=by show qA8 r=1;simp [qA8,hk]
  go_enter Tryz.func171,Tryz.ntmps171
  go_wp2_with (first | (go_at_call 191;refine (bodyOf_0 r hk _).mono ?_;rintro e w1 ⟨rfl,hb1⟩))
  go_ret
  exact ⟨by rw [E.out];rfl,qD5 hb1⟩

end Go.Proofs.YtlhgjackapdmbaaGreatDoor
