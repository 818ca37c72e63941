/- Contracts. -/
import Derived.Test.YtlhgjackapdmbaaGreatDoorPv03
import Derived.WalkSmall
import Derived.Test.YtlhgjackapdmbaaGreatDoorPv04
namespace Go.Proofs.YtlhgjackapdmbaaGreatDoor
set_option maxRecDepth 100000
set_option maxHeartbeats 8000000
open Go.RowKit
set_option linter.unusedVariables false
set_option linter.unusedSimpArgs false

def RowIn (w:World) (a:Option Addr) (len:Nat) (zs:List Int):Prop :=
 len≤zs.length∧∀ k,k < len→∃ b off,a=some ⟨b,off,none⟩∧w.cell? ⟨b,off+k,none⟩=some (.int .i64 (zs[k]?.getD 0))
theorem rows_done {n:Nat} {ys:List Value} {zs:List Int} (hz:n≤zs.length) (hl:ys.length=n) (h:∀ j,j < n→ys[j]? = some (.int .i64 (zs[j]?.getD 0))):ys=(zs.take n).map (Value.int .i64):=by
 apply List.ext_getElem?
 intro i
 by_cases hi:i < n
 ·rw [h i hi];simp [hi,List.getElem?_eq_getElem (show i < zs.length by omega)]
 ·rw [List.getElem?_eq_none (by omega),List.getElem?_eq_none (by simp;omega)]
theorem toS_c (a0:Option Addr) (len cap:Nat) (zs:List Int) (w:World) (hl:len≤1048576) (hr:RowIn w a0 len zs) :
  Calls Tryz.prog 62 #[.slice a0 len cap] w fun e w'=>e = .returned (.slice (some ⟨w.heap.size,0,none⟩) len len) ∧
   w'.ownsRow w.heap.size 2 1 (.slice (some ⟨w.heap.size,0,none⟩) len len) len ((zs.take len).map (Value.int .i64))∧Below w.heap.size w w':=by
 obtain ⟨i0,hi,hz0,hz1,hz2⟩:=info_parts Tryz.info2
 obtain ⟨wm,hmk,hownm,hgrm⟩:=run_make_full (P:=Tryz.prog) (w:=w) w.heap.size 61 2 i0 (.int .i64 0) 1 Tryz.underlying61 hi hz0 hz1 .i64 .i64 len (by rw [hz2];omega) (by unfold maxLen;omega) (Nat.le_refl _)
 obtain ⟨hzl,hcs⟩:=hr
 have HC:Hid (∀ k,k < len→∃ b off,a0=some ⟨b,off,none⟩∧w.cell? ⟨b,off+k,none⟩=some (.int .i64 (zs[k]?.getD 0))):=hcs
 clear hcs
 have HM:Hid (wm.ownsRow w.heap.size 2 1 (.slice (some ⟨w.heap.size,0,none⟩) len len) len (madeCells (Value.int .i64 0).cells (len * 1)).toList):=hownm
 clear hownm
 have HG:Hid (w.grownBy wm none):=hgrm
 clear hgrm
 have hl':(len:Int)≤1048576:=by omega
 go_enter Tryz.func62,Tryz.ntmps62
 go_wp2
 go_loopw [4] (fun i wr=>∃ (k:Nat) (ys:List Value),k≤len∧i = .int .i64 (k:Int)∧wr.ownsRow w.heap.size 2 1 (.slice (some ⟨w.heap.size,0,none⟩) len len) len ys∧(∀ j,j < k→ys[j]? = some (.int .i64 (zs[j]?.getD 0)))∧Below w.heap.size w wr)
  (fun i _=>len - (intOf i).toNat)
 case atStart=>exact ⟨0,_,Nat.zero_le _,rfl,HM.out,fun j hj=>by omega,(Below.refl _ _).grown HG.out (Nat.le_refl _) (fun k e=>by cases e)⟩
 case round =>
  obtain ⟨k,ys,hk,rfl,hown,hys,hnx⟩:=hrel
  by_cases hlt:k < len
  ·obtain ⟨b,off,ha,hc⟩:=HC.out k hlt
   subst ha
   obtain ⟨y,hy⟩:∃ y,y=zs[k]?.getD 0:=⟨_,rfl⟩
   rw [← hy] at hc
   have hb:b < w.heap.size:=zL w ⟨b,off+k,none⟩ hc
   have hcr:wr.cell? ⟨b,off+k,none⟩=some (.int .i64 y):=(hnx.cell (p:=⟨b,off+k,none⟩) hb).trans hc
   have hlen:ys.length=len:=by simpa using hown.1
   obtain ⟨v0,hco⟩:∃ v0,wr.cell? ⟨w.heap.size,k,none⟩=some v0:=⟨_,(hown.cellAt k (by omega)).trans (List.getElem?_eq_getElem (show k < ys.length by omega))⟩
   have hfo:=hown.frozenAt k
   have hst:=hown.stored k (.int .i64 y)
   have R:Hid ((wr.setCell ⟨w.heap.size,k,none⟩ (.int .i64 y)).ownsRow w.heap.size 2 1 (.slice (some ⟨w.heap.size,0,none⟩) len len) len (ys.set k (.int .i64 y))∧(∀ j,j < k+1→(ys.set k (.int .i64 y))[j]? = some (.int .i64 (zs[j]?.getD 0)))∧Below w.heap.size w (wr.setCell ⟨w.heap.size,k,none⟩ (.int .i64 y))):=by
    refine ⟨hst.1,fun j hj=>?_,hnx.setCell (Nat.le_refl _) _⟩
    by_cases e:j=k
    ·subst e;rw [List.getElem?_set_self (by omega),hy]
    ·rw [List.getElem?_set_ne (by omega)];exact hys j (by omega)
   clear hst hown hys hy hc hlen
   have hlt':(k:Int) < (len:Int):=by omega
   go_wp2
   go_roundw
   case rel=>exact ⟨k+1,_,by omega,by go_num,R.out.1,R.out.2.1,R.out.2.2⟩
   case measure=>simp [intOf];omega
  ·have hkn:k=len:=by omega
   subst hkn
   have E:=rows_done hzl (by simpa using hown.1) hys
   rw [E] at hown
   go_wp2
   go_ret
   exact ⟨rfl,hown,hnx⟩
theorem eqS_same (a b:Option Addr) (n c d:Nat) (zs:List Int) (w:World) (hn:n≤1048576)
  (ha:∀ k,k < n→∃ g off,a=some ⟨g,off,none⟩∧w.cell? ⟨g,off+k,none⟩=some (.int .i64 (zs[k]?.getD 0))) (hb:∀ k,k < n→∃ g off,b=some ⟨g,off,none⟩∧w.cell? ⟨g,off+k,none⟩=some (.int .i64 (zs[k]?.getD 0))) :
  Calls Tryz.prog 70 #[.slice a n c,.slice b n d] w fun e w'=>e = .returned (.bool true)∧Below w.heap.size w w':=by
 have HA:Hid (∀ k,k < n→∃ g off,a=some ⟨g,off,none⟩∧w.cell? ⟨g,off+k,none⟩=some (.int .i64 (zs[k]?.getD 0))):=ha
 have HB:Hid (∀ k,k < n→∃ g off,b=some ⟨g,off,none⟩∧w.cell? ⟨g,off+k,none⟩=some (.int .i64 (zs[k]?.getD 0))):=hb
 clear ha hb
 have hn':(n:Int)≤1048576:=by omega
 go_enter Tryz.func70,Tryz.ntmps70
 go_wp2
 go_loopw [5] (fun i wr=>∃ (k:Nat),k≤n∧i = .int .i64 (k:Int)∧∃ m,wr=w.drewN m) (fun i _=>n - (intOf i).toNat)
 case atStart=>exact ⟨0,Nat.zero_le _,rfl,0,rfl⟩
 case round =>
  obtain ⟨k,hk,rfl,m,rfl⟩:=hrel
  by_cases hlt:k < n
  ·obtain ⟨g,off,e1,hca⟩:=HA.out k hlt
   obtain ⟨g2,off2,e2,hcb⟩:=HB.out k hlt
   subst e1 e2
   obtain ⟨y,hy⟩:∃ y,y=zs[k]?.getD 0:=⟨_,rfl⟩
   rw [← hy] at hca hcb
   clear hy
   have hlt':(k:Int) < (n:Int):=by omega
   go_wp2
   go_quiet (fail)
   go_wp2
   exact ⟨⟨k+1,by omega,by go_num,_,rfl⟩,by simp [intOf];omega⟩
  ·have hkn:k=n:=by omega
   subst hkn
   go_wp2
   go_ret
   exact ⟨rfl,below_drewN (Below.refl _ _) _⟩
theorem owned_cells {w:World} {base g len cap:Nat} {zs:List Int} (h:w.ownsRow base 2 1 (.slice (some ⟨g,0,none⟩) len cap) len ((zs.take len).map (Value.int .i64))) (hz:len≤zs.length) :
  ∀ k,k < len→w.cell? ⟨g,k,none⟩=some (.int .i64 (zs[k]?.getD 0)):=by
 intro k hk
 rw [h.cellAt k (by omega)]
 simp [hk,List.getElem?_eq_getElem (show k < zs.length by omega)]
theorem owned_lt {w:World} {base g len cap:Nat} {xs:List Value} (h:w.ownsRow base 2 1 (.slice (some ⟨g,0,none⟩) len cap) len xs):g < w.heap.size:=(h.lt g rfl).2

theorem code_1 (r:qA0) (h:r.k=1) (hr:qD2 r.ho r.hn=true) (hb:QM9 r=true):qA7 r=if qT8 r.w=true then 0 else 3:=by
 have : 1≤r.k∧r.k≤4:=by omega
 have e:QD8 r=qT8 r.w:=by simp [QD8,h]
 simp [qA7,this,hr,hb,e]
 cases qT8 r.w <;> rfl
theorem code_2 (r:qA0) (h:r.k=2) (hr:qD2 r.ho r.hn=true) (hb:QM9 r=true):qA7 r=if qD2 r.oo r.on=true then 0 else 3:=by
 have : 1≤r.k∧r.k≤4:=by omega
 have e:QD8 r=qD2 r.oo r.on:=by simp [QD8,h]
 simp [qA7,this,hr,hb,e]
 cases qD2 r.oo r.on <;> rfl
theorem code_3 (r:qA0) (h:r.k=3) (hr:qD2 r.ho r.hn=true) (hb:QM9 r=true):qA7 r=if (qD2 r.oo r.on&&qU9 r.tn)=true then 0 else 3:=by
 have : 1≤r.k∧r.k≤4:=by omega
 have e:QD8 r=(qD2 r.oo r.on&&qU9 r.tn):=by simp [QD8,h]
 simp only [qA7,this,hr,hb,e]
 cases qD2 r.oo r.on <;> cases qU9 r.tn <;> rfl
theorem code_4 (r:qA0) (h:r.k=4) (hr:qD2 r.ho r.hn=true) (hb:QM9 r=true):qA7 r=if (qD2 r.oo r.on&&qD2 r.to r.tn)=true then 0 else 3:=by
 have : 1≤r.k∧r.k≤4:=by omega
 have e:QD8 r=(qD2 r.oo r.on&&qD2 r.to r.tn):=by simp [QD8,h]
 simp only [qA7,this,hr,hb,e]
 cases qD2 r.oo r.on <;> cases qD2 r.to r.tn <;> rfl
theorem l2Rule_c (g off:Nat) (r:qA0) (w:World) (h:qC6 w g off r) :
  Calls Tryz.prog 143 #[.pointer (some ⟨g,off,none⟩)] w fun e w'=>e = .returned (.int .i64 (qA7 r))∧Below w.heap.size w w':=by
 have hB:Hid (∀ w':World,Below w.heap.size w w'→1≤r.k∧r.k≤4→Calls Tryz.prog 168 #[.pointer (some ⟨g,off,none⟩)] w' fun e w''=>e = .returned (.bool (QM9 r))∧Below w'.heap.size w' w''):=fun w' hb hk=>l2Bare_c g off r w' (h.below hb) hk
 have hX:Hid (qC6 w g off r):=h
 clear h
 by_cases hk:1≤r.k∧r.k≤4
 ·have HK:Hid (1≤r.k∧r.k≤4):=hk
  cases hr:qD2 r.ho r.hn
  ·have E:Hid (qA7 r=3):=by show qA7 r=3;simp [qA7,hk,hr]
   clear hB
   obtain ⟨k,ho,hn,wh,oo,on,tw,tn⟩:=r
   have hb:Below w.heap.size w w:=Below.refl _ _
   obtain ⟨h0,h1,h2,h3,h4,h5,h6,h7⟩:=hX.out.below hb
   simp only at h0 h1 h2 h3 h4 h5 h6 h7
   simp only at hk hr 
   go_enter Tryz.func143,Tryz.ntmps143
   go_wp2_with (first | (go_at_call 144;refine (qQ3 _ _ _).mono ?_;rintro e w1 ⟨rfl,hb1⟩;replace hb:=hb.trans (hb1.mono hb.size);clear h0 h1 h2 h3 h4 h5 h6 h7 hb1;obtain ⟨h0,h1,h2,h3,h4,h5,h6,h7⟩:=hX.out.below hb;simp only at h0 h1 h2 h3 h4 h5 h6 h7;(first | rw [hr])) | go_in)
   go_ret
   exact ⟨by rw [E.out];rfl,hb⟩
  ·cases hbr:QM9 r
   ·have E:Hid (qA7 r=1):=by show qA7 r=1;simp [qA7,hk,hr,hbr]
    rw [hbr] at hB
    clear hbr
    obtain ⟨k,ho,hn,wh,oo,on,tw,tn⟩:=r
    have hb:Below w.heap.size w w:=Below.refl _ _
    obtain ⟨h0,h1,h2,h3,h4,h5,h6,h7⟩:=hX.out.below hb
    simp only at h0 h1 h2 h3 h4 h5 h6 h7
    simp only at hk hr 
    go_enter Tryz.func143,Tryz.ntmps143
    go_wp2_with (first | (go_at_call 144;refine (qQ3 _ _ _).mono ?_;rintro e w1 ⟨rfl,hb1⟩;replace hb:=hb.trans (hb1.mono hb.size);clear h0 h1 h2 h3 h4 h5 h6 h7 hb1;obtain ⟨h0,h1,h2,h3,h4,h5,h6,h7⟩:=hX.out.below hb;simp only at h0 h1 h2 h3 h4 h5 h6 h7;(first | rw [hr])) | (go_at_call 168;refine (hB.out _ hb HK.out).mono ?_;rintro e w1 ⟨rfl,hb1⟩;replace hb:=hb.trans (hb1.mono hb.size);clear h0 h1 h2 h3 h4 h5 h6 h7 hb1;obtain ⟨h0,h1,h2,h3,h4,h5,h6,h7⟩:=hX.out.below hb;simp only at h0 h1 h2 h3 h4 h5 h6 h7) | go_in)
    go_ret
    exact ⟨by rw [E.out];rfl,hb⟩
   ·have hk':r.k=1∨r.k=2∨r.k=3∨r.k=4:=by omega
    rw [hbr] at hB
    rcases hk' with e | e | e | e
    ·have E2:=code_1 r e hr hbr
     clear hbr
     cases hq:qD2 r.oo r.on <;> cases hp:qT8 r.w
     all_goals
      rw [hp] at E2
      have E:Hid (qA7 r=_):=E2
      clear E2
      obtain ⟨k,ho,hn,wh,oo,on,tw,tn⟩:=r
      have hb:Below w.heap.size w w:=Below.refl _ _
      obtain ⟨h0,h1,h2,h3,h4,h5,h6,h7⟩:=hX.out.below hb
      simp only at h0 h1 h2 h3 h4 h5 h6 h7
      simp only at hk hr hq hp e
      subst e
      go_enter Tryz.func143,Tryz.ntmps143
      go_wp2_with (first | (go_at_call 144;refine (qQ3 _ _ _).mono ?_;rintro e w1 ⟨rfl,hb1⟩;replace hb:=hb.trans (hb1.mono hb.size);clear h0 h1 h2 h3 h4 h5 h6 h7 hb1;obtain ⟨h0,h1,h2,h3,h4,h5,h6,h7⟩:=hX.out.below hb;simp only at h0 h1 h2 h3 h4 h5 h6 h7;(first | rw [hr] | rw [hq])) | (go_at_call 168;refine (hB.out _ hb HK.out).mono ?_;rintro e w1 ⟨rfl,hb1⟩;replace hb:=hb.trans (hb1.mono hb.size);clear h0 h1 h2 h3 h4 h5 h6 h7 hb1;obtain ⟨h0,h1,h2,h3,h4,h5,h6,h7⟩:=hX.out.below hb;simp only at h0 h1 h2 h3 h4 h5 h6 h7) | (go_at_call 169;refine (QD6 _ _).mono ?_;rintro e w1 ⟨rfl,rfl⟩;rw [hp]) | go_in)
      go_ret
      exact ⟨by rw [E.out];rfl,hb⟩
    ·have E2:=code_2 r e hr hbr
     clear hbr
     cases hq:qD2 r.oo r.on
     all_goals
      rw [hq] at E2
      have E:Hid (qA7 r=_):=E2
      clear E2
      obtain ⟨k,ho,hn,wh,oo,on,tw,tn⟩:=r
      have hb:Below w.heap.size w w:=Below.refl _ _
      obtain ⟨h0,h1,h2,h3,h4,h5,h6,h7⟩:=hX.out.below hb
      simp only at h0 h1 h2 h3 h4 h5 h6 h7
      simp only at hk hr hq e
      subst e
      go_enter Tryz.func143,Tryz.ntmps143
      go_wp2_with (first | (go_at_call 144;refine (qQ3 _ _ _).mono ?_;rintro e w1 ⟨rfl,hb1⟩;replace hb:=hb.trans (hb1.mono hb.size);clear h0 h1 h2 h3 h4 h5 h6 h7 hb1;obtain ⟨h0,h1,h2,h3,h4,h5,h6,h7⟩:=hX.out.below hb;simp only at h0 h1 h2 h3 h4 h5 h6 h7;(first | rw [hr] | rw [hq])) | (go_at_call 168;refine (hB.out _ hb HK.out).mono ?_;rintro e w1 ⟨rfl,hb1⟩;replace hb:=hb.trans (hb1.mono hb.size);clear h0 h1 h2 h3 h4 h5 h6 h7 hb1;obtain ⟨h0,h1,h2,h3,h4,h5,h6,h7⟩:=hX.out.below hb;simp only at h0 h1 h2 h3 h4 h5 h6 h7) | go_in)
      go_ret
      exact ⟨by rw [E.out];rfl,hb⟩
    ·have E2:=code_3 r e hr hbr
     clear hbr
     cases hq:qD2 r.oo r.on <;> cases hp:qU9 r.tn
     all_goals
      rw [hq,hp] at E2
      have E:Hid (qA7 r=_):=E2
      clear E2
      obtain ⟨k,ho,hn,wh,oo,on,tw,tn⟩:=r
      have hb:Below w.heap.size w w:=Below.refl _ _
      obtain ⟨h0,h1,h2,h3,h4,h5,h6,h7⟩:=hX.out.below hb
      simp only at h0 h1 h2 h3 h4 h5 h6 h7
      simp only at hk hr hq hp e
      subst e
      go_enter Tryz.func143,Tryz.ntmps143
      go_wp2_with (first | (go_at_call 144;refine (qQ3 _ _ _).mono ?_;rintro e w1 ⟨rfl,hb1⟩;replace hb:=hb.trans (hb1.mono hb.size);clear h0 h1 h2 h3 h4 h5 h6 h7 hb1;obtain ⟨h0,h1,h2,h3,h4,h5,h6,h7⟩:=hX.out.below hb;simp only at h0 h1 h2 h3 h4 h5 h6 h7;(first | rw [hr] | rw [hq])) | (go_at_call 168;refine (hB.out _ hb HK.out).mono ?_;rintro e w1 ⟨rfl,hb1⟩;replace hb:=hb.trans (hb1.mono hb.size);clear h0 h1 h2 h3 h4 h5 h6 h7 hb1;obtain ⟨h0,h1,h2,h3,h4,h5,h6,h7⟩:=hX.out.below hb;simp only at h0 h1 h2 h3 h4 h5 h6 h7) | (go_at_call 170;refine (l2Name_c _ _).mono ?_;rintro e w1 ⟨rfl,rfl⟩;rw [hp]) | go_in)
      go_ret
      exact ⟨by rw [E.out];rfl,hb⟩
    ·have E2:=code_4 r e hr hbr
     clear hbr
     cases hq:qD2 r.oo r.on <;> cases ht:qD2 r.to r.tn
     all_goals
      rw [hq,ht] at E2
      have E:Hid (qA7 r=_):=E2
      clear E2
      obtain ⟨k,ho,hn,wh,oo,on,tw,tn⟩:=r
      have hb:Below w.heap.size w w:=Below.refl _ _
      obtain ⟨h0,h1,h2,h3,h4,h5,h6,h7⟩:=hX.out.below hb
      simp only at h0 h1 h2 h3 h4 h5 h6 h7
      simp only at hk hr hq ht e
      subst e
      go_enter Tryz.func143,Tryz.ntmps143
      go_wp2_with (first | (go_at_call 144;refine (qQ3 _ _ _).mono ?_;rintro e w1 ⟨rfl,hb1⟩;replace hb:=hb.trans (hb1.mono hb.size);clear h0 h1 h2 h3 h4 h5 h6 h7 hb1;obtain ⟨h0,h1,h2,h3,h4,h5,h6,h7⟩:=hX.out.below hb;simp only at h0 h1 h2 h3 h4 h5 h6 h7;(first | rw [hr] | rw [hq] | rw [ht])) | (go_at_call 168;refine (hB.out _ hb HK.out).mono ?_;rintro e w1 ⟨rfl,hb1⟩;replace hb:=hb.trans (hb1.mono hb.size);clear h0 h1 h2 h3 h4 h5 h6 h7 hb1;obtain ⟨h0,h1,h2,h3,h4,h5,h6,h7⟩:=hX.out.below hb;simp only at h0 h1 h2 h3 h4 h5 h6 h7) | go_in)
      go_ret
      exact ⟨by rw [E.out];rfl,hb⟩
 ·have E:Hid (qA7 r=1):=by show qA7 r=1;simp [qA7,hk]
  clear hB
  obtain ⟨k,ho,hn,wh,oo,on,tw,tn⟩:=r
  obtain ⟨h0,h1,h2,h3,h4,h5,h6,h7⟩:=hX.out
  simp only at h0 h1 h2 h3 h4 h5 h6 h7 hk
  by_cases k1:1≤k
  ·have k4:decide (k≤4)=false:=by simp;omega
   go_enter Tryz.func143,Tryz.ntmps143
   go_wp2
   go_ret
   exact ⟨by rw [E.out];rfl,Below.refl _ _⟩
  ·have k4:decide (1≤k)=false:=by simp;omega
   go_enter Tryz.func143,Tryz.ntmps143
   go_wp2
   go_ret
   exact ⟨by rw [E.out];rfl,Below.refl _ _⟩

end Go.Proofs.YtlhgjackapdmbaaGreatDoor
