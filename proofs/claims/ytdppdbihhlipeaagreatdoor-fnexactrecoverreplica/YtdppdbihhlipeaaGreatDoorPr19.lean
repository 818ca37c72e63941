/- Contracts. -/
import Derived.Test.YtdppdbihhlipeaaGreatDoorPr05
namespace Go.Proofs.YtdppdbihhlipeaaGreatDoor
set_option maxRecDepth 100000
set_option maxHeartbeats 8000000
open Go.RowKit
set_option linter.unusedVariables false
set_option linter.unusedSimpArgs false

theorem qMI (r:qA2) (h:r.k=1) (hr:qD6 r.ho r.hn=true) (hb:QP5 r=true):qA8 r=if qU0 r.w=true then 0 else 3:=by
 have : 1<=r.k/\r.k<=4:=by omega
 have e:QE3 r=qU0 r.w:=by simp [QE3,h]
 simp [qA8,this,hr,hb,e];cases qU0 r.w <;> rfl
theorem qMH (r:qA2) (h:r.k=2) (hr:qD6 r.ho r.hn=true) (hb:QP5 r=true):qA8 r=if qD6 r.oo r.on=true then 0 else 3:=by
 have : 1<=r.k/\r.k<=4:=by omega
 have e:QE3 r=qD6 r.oo r.on:=by simp [QE3,h]
 simp [qA8,this,hr,hb,e];cases qD6 r.oo r.on <;> rfl
theorem qMG (r:qA2) (h:r.k=3) (hr:qD6 r.ho r.hn=true) (hb:QP5 r=true):qA8 r=if (qD6 r.oo r.on&&qV1 r.tn)=true then 0 else 3:=by
 have : 1<=r.k/\r.k<=4:=by omega
 have e:QE3 r=(qD6 r.oo r.on&&qV1 r.tn):=by simp [QE3,h]
 simp only [qA8,this,hr,hb,e];cases qD6 r.oo r.on <;> cases qV1 r.tn <;> rfl
theorem qMF (r:qA2) (h:r.k=4) (hr:qD6 r.ho r.hn=true) (hb:QP5 r=true):qA8 r=if (qD6 r.oo r.on&&qD6 r.to r.tn)=true then 0 else 3:=by
 have : 1<=r.k/\r.k<=4:=by omega
 have e:QE3 r=(qD6 r.oo r.on&&qD6 r.to r.tn):=by simp [QE3,h]
 simp only [qA8,this,hr,hb,e];cases qD6 r.oo r.on <;> cases qD6 r.to r.tn <;> rfl
theorem qIy (g off:Nat) (r:qA2) (w:World) (h:qD0 w g off r) :
  Calls Tryz.prog 145 #[.pointer (some ⟨g,off,none⟩)] w fun e w'=>e = .returned (.int .i64 (qA8 r))/\Below w.heap.size w w':=by
 have hB:Hid (∀ w':World,Below w.heap.size w w'->1<=r.k/\r.k<=4->Calls Tryz.prog 175 #[.pointer (some ⟨g,off,none⟩)] w' fun e w''=>e = .returned (.bool (QP5 r))/\Below w'.heap.size w' w''):=fun w' hb hk=>qIz g off r w' (h.below hb) hk
 have hX:Hid (qD0 w g off r):=h;clear h;by_cases hk:1<=r.k/\r.k<=4
 ·have HK:Hid (1<=r.k/\r.k<=4):=hk;cases hr:qD6 r.ho r.hn
  ·have E:Hid (qA8 r=3):=by show qA8 r=3;simp [qA8,hk,hr]
   clear hB;obtain ⟨k,ho,hn,wh,oo,on,tw,tn⟩:=r;have hb:Below w.heap.size w w:=Below.refl _ _;obtain ⟨h0,h1,h2,h3,h4,h5,h6,h7⟩:=hX.out.below hb;simp only at h0 h1 h2 h3 h4 h5 h6 h7;simp only at hk hr;go_enter Tryz.func145,Tryz.ntmps145;go_wp2_with (first | (go_at_call 146;refine (qQ3 _ _ _).mono ?_;rintro e w1 ⟨rfl,hb1⟩;replace hb:=hb.trans (hb1.mono hb.size);clear h0 h1 h2 h3 h4 h5 h6 h7 hb1;obtain ⟨h0,h1,h2,h3,h4,h5,h6,h7⟩:=hX.out.below hb;simp only at h0 h1 h2 h3 h4 h5 h6 h7;(first | rw [hr])) | go_in)
   go_ret;exact ⟨by rw [E.out];rfl,hb⟩
  ·cases hbr:QP5 r
   ·have E:Hid (qA8 r=1):=by show qA8 r=1;simp [qA8,hk,hr,hbr]
    rw [hbr] at hB;clear hbr;obtain ⟨k,ho,hn,wh,oo,on,tw,tn⟩:=r;have hb:Below w.heap.size w w:=Below.refl _ _;obtain ⟨h0,h1,h2,h3,h4,h5,h6,h7⟩:=hX.out.below hb;simp only at h0 h1 h2 h3 h4 h5 h6 h7;simp only at hk hr;go_enter Tryz.func145,Tryz.ntmps145;go_wp2_with (first | (go_at_call 146;refine (qQ3 _ _ _).mono ?_;rintro e w1 ⟨rfl,hb1⟩;replace hb:=hb.trans (hb1.mono hb.size);clear h0 h1 h2 h3 h4 h5 h6 h7 hb1;obtain ⟨h0,h1,h2,h3,h4,h5,h6,h7⟩:=hX.out.below hb;simp only at h0 h1 h2 h3 h4 h5 h6 h7;(first | rw [hr])) | (go_at_call 175;refine (hB.out _ hb HK.out).mono ?_;rintro e w1 ⟨rfl,hb1⟩;replace hb:=hb.trans (hb1.mono hb.size);clear h0 h1 h2 h3 h4 h5 h6 h7 hb1;obtain ⟨h0,h1,h2,h3,h4,h5,h6,h7⟩:=hX.out.below hb;simp only at h0 h1 h2 h3 h4 h5 h6 h7) | go_in)
    go_ret;exact ⟨by rw [E.out];rfl,hb⟩
   ·have hk':r.k=1\/r.k=2\/r.k=3\/r.k=4:=by omega
    rw [hbr] at hB;rcases hk' with e | e | e | e
    ·have E2:=qMI r e hr hbr;clear hbr;cases hq:qD6 r.oo r.on <;> cases hp:qU0 r.w
     all_goals
      rw [hp] at E2;have E:Hid (qA8 r=_):=E2;clear E2;obtain ⟨k,ho,hn,wh,oo,on,tw,tn⟩:=r;have hb:Below w.heap.size w w:=Below.refl _ _;obtain ⟨h0,h1,h2,h3,h4,h5,h6,h7⟩:=hX.out.below hb;simp only at h0 h1 h2 h3 h4 h5 h6 h7;simp only at hk hr hq hp e;subst e;go_enter Tryz.func145,Tryz.ntmps145;go_wp2_with (first | (go_at_call 146;refine (qQ3 _ _ _).mono ?_;rintro e w1 ⟨rfl,hb1⟩;replace hb:=hb.trans (hb1.mono hb.size);clear h0 h1 h2 h3 h4 h5 h6 h7 hb1;obtain ⟨h0,h1,h2,h3,h4,h5,h6,h7⟩:=hX.out.below hb;simp only at h0 h1 h2 h3 h4 h5 h6 h7;(first | rw [hr] | rw [hq])) | (go_at_call 175;refine (hB.out _ hb HK.out).mono ?_;rintro e w1 ⟨rfl,hb1⟩;replace hb:=hb.trans (hb1.mono hb.size);clear h0 h1 h2 h3 h4 h5 h6 h7 hb1;obtain ⟨h0,h1,h2,h3,h4,h5,h6,h7⟩:=hX.out.below hb;simp only at h0 h1 h2 h3 h4 h5 h6 h7) | (go_at_call 176;refine (QE1 _ _).mono ?_;rintro e w1 ⟨rfl,rfl⟩;rw [hp]) | go_in)
      go_ret;exact ⟨by rw [E.out];rfl,hb⟩
    ·have E2:=qMH r e hr hbr;clear hbr;cases hq:qD6 r.oo r.on
     all_goals
      rw [hq] at E2;have E:Hid (qA8 r=_):=E2;clear E2;obtain ⟨k,ho,hn,wh,oo,on,tw,tn⟩:=r;have hb:Below w.heap.size w w:=Below.refl _ _;obtain ⟨h0,h1,h2,h3,h4,h5,h6,h7⟩:=hX.out.below hb;simp only at h0 h1 h2 h3 h4 h5 h6 h7;simp only at hk hr hq e;subst e;go_enter Tryz.func145,Tryz.ntmps145;go_wp2_with (first | (go_at_call 146;refine (qQ3 _ _ _).mono ?_;rintro e w1 ⟨rfl,hb1⟩;replace hb:=hb.trans (hb1.mono hb.size);clear h0 h1 h2 h3 h4 h5 h6 h7 hb1;obtain ⟨h0,h1,h2,h3,h4,h5,h6,h7⟩:=hX.out.below hb;simp only at h0 h1 h2 h3 h4 h5 h6 h7;(first | rw [hr] | rw [hq])) | (go_at_call 175;refine (hB.out _ hb HK.out).mono ?_;rintro e w1 ⟨rfl,hb1⟩;replace hb:=hb.trans (hb1.mono hb.size);clear h0 h1 h2 h3 h4 h5 h6 h7 hb1;obtain ⟨h0,h1,h2,h3,h4,h5,h6,h7⟩:=hX.out.below hb;simp only at h0 h1 h2 h3 h4 h5 h6 h7) | go_in)
      go_ret;exact ⟨by rw [E.out];rfl,hb⟩
    ·have E2:=qMG r e hr hbr;clear hbr;cases hq:qD6 r.oo r.on <;> cases hp:qV1 r.tn
     all_goals
      rw [hq,hp] at E2;have E:Hid (qA8 r=_):=E2;clear E2;obtain ⟨k,ho,hn,wh,oo,on,tw,tn⟩:=r;have hb:Below w.heap.size w w:=Below.refl _ _;obtain ⟨h0,h1,h2,h3,h4,h5,h6,h7⟩:=hX.out.below hb;simp only at h0 h1 h2 h3 h4 h5 h6 h7;simp only at hk hr hq hp e;subst e;go_enter Tryz.func145,Tryz.ntmps145;go_wp2_with (first | (go_at_call 146;refine (qQ3 _ _ _).mono ?_;rintro e w1 ⟨rfl,hb1⟩;replace hb:=hb.trans (hb1.mono hb.size);clear h0 h1 h2 h3 h4 h5 h6 h7 hb1;obtain ⟨h0,h1,h2,h3,h4,h5,h6,h7⟩:=hX.out.below hb;simp only at h0 h1 h2 h3 h4 h5 h6 h7;(first | rw [hr] | rw [hq])) | (go_at_call 175;refine (hB.out _ hb HK.out).mono ?_;rintro e w1 ⟨rfl,hb1⟩;replace hb:=hb.trans (hb1.mono hb.size);clear h0 h1 h2 h3 h4 h5 h6 h7 hb1;obtain ⟨h0,h1,h2,h3,h4,h5,h6,h7⟩:=hX.out.below hb;simp only at h0 h1 h2 h3 h4 h5 h6 h7) | (go_at_call 177;refine (qDi _ _).mono ?_;rintro e w1 ⟨rfl,rfl⟩;rw [hp]) | go_in)
      go_ret;exact ⟨by rw [E.out];rfl,hb⟩
    ·have E2:=qMF r e hr hbr;clear hbr;cases hq:qD6 r.oo r.on <;> cases ht:qD6 r.to r.tn
     all_goals
      rw [hq,ht] at E2;have E:Hid (qA8 r=_):=E2;clear E2;obtain ⟨k,ho,hn,wh,oo,on,tw,tn⟩:=r;have hb:Below w.heap.size w w:=Below.refl _ _;obtain ⟨h0,h1,h2,h3,h4,h5,h6,h7⟩:=hX.out.below hb;simp only at h0 h1 h2 h3 h4 h5 h6 h7;simp only at hk hr hq ht e;subst e;go_enter Tryz.func145,Tryz.ntmps145;go_wp2_with (first | (go_at_call 146;refine (qQ3 _ _ _).mono ?_;rintro e w1 ⟨rfl,hb1⟩;replace hb:=hb.trans (hb1.mono hb.size);clear h0 h1 h2 h3 h4 h5 h6 h7 hb1;obtain ⟨h0,h1,h2,h3,h4,h5,h6,h7⟩:=hX.out.below hb;simp only at h0 h1 h2 h3 h4 h5 h6 h7;(first | rw [hr] | rw [hq] | rw [ht])) | (go_at_call 175;refine (hB.out _ hb HK.out).mono ?_;rintro e w1 ⟨rfl,hb1⟩;replace hb:=hb.trans (hb1.mono hb.size);clear h0 h1 h2 h3 h4 h5 h6 h7 hb1;obtain ⟨h0,h1,h2,h3,h4,h5,h6,h7⟩:=hX.out.below hb;simp only at h0 h1 h2 h3 h4 h5 h6 h7) | go_in)
      go_ret;exact ⟨by rw [E.out];rfl,hb⟩
 ·have E:Hid (qA8 r=1):=by show qA8 r=1;simp [qA8,hk]
  clear hB;obtain ⟨k,ho,hn,wh,oo,on,tw,tn⟩:=r;obtain ⟨h0,h1,h2,h3,h4,h5,h6,h7⟩:=hX.out;simp only at h0 h1 h2 h3 h4 h5 h6 h7 hk;by_cases k1:1<=k
  ·have k4:decide (k<=4)=false:=by simp;omega
   go_enter Tryz.func145,Tryz.ntmps145;go_wp2;go_ret;exact ⟨by rw [E.out];rfl,Below.refl _ _⟩
  ·have k4:decide (1<=k)=false:=by simp;omega
   go_enter Tryz.func145,Tryz.ntmps145;go_wp2;go_ret;exact ⟨by rw [E.out];rfl,Below.refl _ _⟩

section
attribute [local go_sem ↓] qDM
theorem qAa (a:Option Addr) (n cap:Nat) (w:World) (hn:n<=1048576) (h16:16 < n) :
  Calls Tryz.prog 115 #[.slice a n cap] w fun e w'=>e = .returned (.int .i64 2)/\Below w.heap.size w w':=by
 have h':(16:Int) < (n:Int):=by omega
 go_enter Tryz.func115,Tryz.ntmps115;go_wp2;go_ret;exact ⟨rfl,Below.refl _ _⟩
theorem qCL (a:Option Addr) (n cap:Nat) (zs:List qA2) (c:Int) (w:World) (h16:n<=16) (h:qB8 w a n zs) (hc:qL0 zs n=c) :
  Calls Tryz.prog 115 #[.slice a n cap] w fun e w'=>e = .returned (.int .i64 c)/\Below w.heap.size w w':=by
 have H:Hid (qB8 w a n zs):=h;have hz:Hid (zs.length=n):=h.1;have HC:Hid (qL0 zs n=c):=hc;clear h hc;have h':¬ ((16:Int) < (n:Int)):=by omega
 go_enter Tryz.func115,Tryz.ntmps115;go_wp2;go_loopw [3] (fun i wr=>∃ k:Nat,k<=n/\i = .int .i64 (k:Int)/\qL0 zs k=0/\Below w.heap.size w wr) (fun i _=>n - (intOf i).toNat)
 case atStart=>exact ⟨0,Nat.zero_le _,rfl,rfl,Below.refl _ _⟩
 case round =>
  obtain ⟨k,hk,rfl,hp,hnx⟩:=hrel;have HP:Hid (qL0 zs k=0):=hp;clear hp;by_cases hlt:k < n
  ·obtain ⟨b,off,r,rfl,hs,hr⟩:=H.out.at hlt
   have HS:Hid (zs[k]? = some r):=hs;clear hs;have hr1:Hid (qD0 wr b (off+k * 8) r):=hr.below hnx;clear hr;have hlt':(k:Int) < (n:Int):=by omega
   go_wp2_with fail
   refine (qIy b (off+k * 8) r _ hr1.out).mono ?_;rintro e w1 ⟨rfl,hb1⟩;have hnx1:Below w.heap.size w w1:=hnx.trans (hb1.mono hnx.size);have hr2:Hid (qD0 w1 b (off+k * 8) r):=hr1.out.below hb1;clear hr1 hb1 hnx;by_cases hcode:qA8 r=0
   ·rw [hcode];have HO:Hid (qA8 r=0):=hcode;clear hcode;go_wp2;go_loopw [5] (fun i2 wq=>∃ j:Nat,j<=k/\i2 = .int .i64 (j:Int)/\¬ r∈zs.take j/\∃ m,wq=w1.drewN m) (fun i2 _=>k - (intOf i2).toNat)
    case atStart=>exact ⟨0,Nat.zero_le _,rfl,by simp,0,rfl⟩
    case round =>
     obtain ⟨j,hj,rfl,hm,m,rfl⟩:=hrel;have HM:Hid (¬ r∈zs.take j):=hm;clear hm;by_cases hjk:j < k
     ·obtain ⟨s,hs2,hq⟩:=H.out.here (show j < n by omega);have HS2:Hid (zs[j]? = some s):=hs2;clear hs2;obtain ⟨h0,h1,h2,h3,h4,h5,h6,h7⟩:=hr2.out;obtain ⟨g0,g1,g2,g3,g4,g5,g6,g7⟩:=hq.below hnx1;clear hq;have hjk':(j:Int) < (k:Int):=by omega
      cases hsame:QF2 s r
      ·have HF:Hid (QF2 s r=false):=hsame
       have HN:Hid (¬ r∈zs.take (j+1)):=by
        show ¬ r∈zs.take (j+1)
        rw [qP1];rintro ⟨i,hi,his⟩;by_cases e:i=j
        ·subst e;rw [HS2.out] at his;simp [QF2] at hsame;exact hsame (Option.some.inj his)
        ·exact HM.out ((qP1 _ _ _).2 ⟨i,by omega,his⟩)
       clear hsame;have hsame:QF2 s r=false:=HF.out;go_wp2;go_quiet (fail)
       go_wp2;exact ⟨⟨j+1,by omega,by go_num,HN.out,_,rfl⟩,by simp [intOf];omega⟩
      ·have HI:Hid (c=6):=by
        show c=6
        simp [QF2] at hsame;subst hsame;exact HC.out.symm.trans (qQ9 zs (k+1) n 6 (by decide) (QF4 zs k s HS.out HP.out HO.out ((qP1 _ _ _).2 ⟨j,hjk,HS2.out⟩)) (by omega))
       go_wp2;go_quiet (fail)
       go_wp2;go_ret;exact ⟨by rw [HI.out];rfl,by first | exact bdN hnx1 _ | exact bdN (bdN hnx1 _) _⟩
     ·have hjn:j=k:=by omega
      subst hjn;have HN:Hid (qL0 zs (j+1)=0):=QS8 zs j r HS.out HP.out HO.out HM.out;go_wp2;exact ⟨⟨j+1,by omega,by go_num,HN.out,by first | exact hnx1 | exact bdN hnx1 _⟩,by simp [intOf];omega⟩
   ·have E:Hid (c=qA8 r):=(HC.out.symm.trans (qQ9 zs (k+1) n _ hcode (QD2 zs k r HS.out HP.out hcode) (by omega)));obtain ⟨d,hd⟩:∃ d,d=qA8 r:=⟨_,rfl⟩;rw [<- hd] at hcode E ⊢
    clear hd;have hne:(d != 0)=true:=by simpa using hcode
    go_wp2;go_ret;exact ⟨by rw [E.out];rfl,hnx1⟩
  ·have hkn:k=n:=by omega
   subst hkn;have E:Hid (c=0):=HC.out.symm.trans HP.out;go_wp2;go_ret;exact ⟨by rw [E.out];rfl,hnx⟩
theorem qGy (a:Option Addr) (n cap:Nat) (zs:List qA2) (w:World) (hn:n<=1048576) (h:qB8 w a n zs) :
  Calls Tryz.prog 115 #[.slice a n cap] w fun e w'=>e = .returned (.int .i64 (qD1 zs))/\Below w.heap.size w w':=by
 have hz:=h.1;by_cases h16:16 < n
 ·have e:qD1 zs=2:=by simp [qD1,hz,h16]
  rw [e];exact qAa a n cap w hn h16
 ·have e:qD1 zs=qL0 zs n:=by simp [qD1,hz,h16]
  rw [e];exact qCL a n cap zs _ w (by omega) h rfl
end
