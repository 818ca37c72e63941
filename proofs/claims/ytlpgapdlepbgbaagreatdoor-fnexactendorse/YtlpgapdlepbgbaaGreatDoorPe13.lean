/- Contracts. -/
import Derived.Test.YtlpgapdlepbgbaaGreatDoorPe05
namespace Go.Proofs.YtlpgapdlepbgbaaGreatDoor
set_option maxRecDepth 100000
set_option maxHeartbeats 8000000
open Go.RowKit
set_option linter.unusedVariables false
set_option linter.unusedSimpArgs false

theorem code_1 (r:qA1) (h:r.k=1) (hr:qD3 r.ho r.hn=true) (hb:QN8 r=true):qA8 r=if qU5 r.w=true then 0 else 3:=by
 have : 1≤r.k∧r.k≤4:=by omega
 have e:QE4 r=qU5 r.w:=by simp [QE4,h]
 simp [qA8,this,hr,hb,e]
 cases qU5 r.w <;> rfl
theorem code_2 (r:qA1) (h:r.k=2) (hr:qD3 r.ho r.hn=true) (hb:QN8 r=true):qA8 r=if qD3 r.oo r.on=true then 0 else 3:=by
 have : 1≤r.k∧r.k≤4:=by omega
 have e:QE4 r=qD3 r.oo r.on:=by simp [QE4,h]
 simp [qA8,this,hr,hb,e]
 cases qD3 r.oo r.on <;> rfl
theorem code_3 (r:qA1) (h:r.k=3) (hr:qD3 r.ho r.hn=true) (hb:QN8 r=true):qA8 r=if (qD3 r.oo r.on&&qV6 r.tn)=true then 0 else 3:=by
 have : 1≤r.k∧r.k≤4:=by omega
 have e:QE4 r=(qD3 r.oo r.on&&qV6 r.tn):=by simp [QE4,h]
 simp only [qA8,this,hr,hb,e]
 cases qD3 r.oo r.on <;> cases qV6 r.tn <;> rfl
theorem code_4 (r:qA1) (h:r.k=4) (hr:qD3 r.ho r.hn=true) (hb:QN8 r=true):qA8 r=if (qD3 r.oo r.on&&qD3 r.to r.tn)=true then 0 else 3:=by
 have : 1≤r.k∧r.k≤4:=by omega
 have e:QE4 r=(qD3 r.oo r.on&&qD3 r.to r.tn):=by simp [QE4,h]
 simp only [qA8,this,hr,hb,e]
 cases qD3 r.oo r.on <;> cases qD3 r.to r.tn <;> rfl
theorem l2Rule_c (g off:Nat) (r:qA1) (w:World) (h:qC6 w g off r) :
  Calls Tryz.prog 142 #[.pointer (some ⟨g,off,none⟩)] w fun e w'=>e = .returned (.int .i64 (qA8 r))∧Below w.heap.size w w':=by
 have hB:Hid (∀ w':World,Below w.heap.size w w'→1≤r.k∧r.k≤4→Calls Tryz.prog 167 #[.pointer (some ⟨g,off,none⟩)] w' fun e w''=>e = .returned (.bool (QN8 r))∧Below w'.heap.size w' w''):=fun w' hb hk=>l2Bare_c g off r w' (h.below hb) hk
 have hX:Hid (qC6 w g off r):=h
 clear h
 by_cases hk:1≤r.k∧r.k≤4
 ·have HK:Hid (1≤r.k∧r.k≤4):=hk
  cases hr:qD3 r.ho r.hn
  ·have E:Hid (qA8 r=3):=by show qA8 r=3;simp [qA8,hk,hr]
   clear hB
   obtain ⟨k,ho,hn,wh,oo,on,tw,tn⟩:=r
   have hb:Below w.heap.size w w:=Below.refl _ _
   obtain ⟨h0,h1,h2,h3,h4,h5,h6,h7⟩:=hX.out.below hb
   simp only at h0 h1 h2 h3 h4 h5 h6 h7
   simp only at hk hr 
   go_enter Tryz.func142,Tryz.ntmps142
   go_wp2_with (first | (go_at_call 143;refine (qR0 _ _ _).mono ?_;rintro e w1 ⟨rfl,hb1⟩;replace hb:=hb.trans (hb1.mono hb.size);clear h0 h1 h2 h3 h4 h5 h6 h7 hb1;obtain ⟨h0,h1,h2,h3,h4,h5,h6,h7⟩:=hX.out.below hb;simp only at h0 h1 h2 h3 h4 h5 h6 h7;(first | rw [hr])) | go_in)
   go_ret
   exact ⟨by rw [E.out];rfl,hb⟩
  ·cases hbr:QN8 r
   ·have E:Hid (qA8 r=1):=by show qA8 r=1;simp [qA8,hk,hr,hbr]
    rw [hbr] at hB
    clear hbr
    obtain ⟨k,ho,hn,wh,oo,on,tw,tn⟩:=r
    have hb:Below w.heap.size w w:=Below.refl _ _
    obtain ⟨h0,h1,h2,h3,h4,h5,h6,h7⟩:=hX.out.below hb
    simp only at h0 h1 h2 h3 h4 h5 h6 h7
    simp only at hk hr 
    go_enter Tryz.func142,Tryz.ntmps142
    go_wp2_with (first | (go_at_call 143;refine (qR0 _ _ _).mono ?_;rintro e w1 ⟨rfl,hb1⟩;replace hb:=hb.trans (hb1.mono hb.size);clear h0 h1 h2 h3 h4 h5 h6 h7 hb1;obtain ⟨h0,h1,h2,h3,h4,h5,h6,h7⟩:=hX.out.below hb;simp only at h0 h1 h2 h3 h4 h5 h6 h7;(first | rw [hr])) | (go_at_call 167;refine (hB.out _ hb HK.out).mono ?_;rintro e w1 ⟨rfl,hb1⟩;replace hb:=hb.trans (hb1.mono hb.size);clear h0 h1 h2 h3 h4 h5 h6 h7 hb1;obtain ⟨h0,h1,h2,h3,h4,h5,h6,h7⟩:=hX.out.below hb;simp only at h0 h1 h2 h3 h4 h5 h6 h7) | go_in)
    go_ret
    exact ⟨by rw [E.out];rfl,hb⟩
   ·have hk':r.k=1∨r.k=2∨r.k=3∨r.k=4:=by omega
    rw [hbr] at hB
    rcases hk' with e | e | e | e
    ·have E2:=code_1 r e hr hbr
     clear hbr
     cases hq:qD3 r.oo r.on <;> cases hp:qU5 r.w
     all_goals
      rw [hp] at E2
      have E:Hid (qA8 r=_):=E2
      clear E2
      obtain ⟨k,ho,hn,wh,oo,on,tw,tn⟩:=r
      have hb:Below w.heap.size w w:=Below.refl _ _
      obtain ⟨h0,h1,h2,h3,h4,h5,h6,h7⟩:=hX.out.below hb
      simp only at h0 h1 h2 h3 h4 h5 h6 h7
      simp only at hk hr hq hp e
      subst e
      go_enter Tryz.func142,Tryz.ntmps142
      go_wp2_with (first | (go_at_call 143;refine (qR0 _ _ _).mono ?_;rintro e w1 ⟨rfl,hb1⟩;replace hb:=hb.trans (hb1.mono hb.size);clear h0 h1 h2 h3 h4 h5 h6 h7 hb1;obtain ⟨h0,h1,h2,h3,h4,h5,h6,h7⟩:=hX.out.below hb;simp only at h0 h1 h2 h3 h4 h5 h6 h7;(first | rw [hr] | rw [hq])) | (go_at_call 167;refine (hB.out _ hb HK.out).mono ?_;rintro e w1 ⟨rfl,hb1⟩;replace hb:=hb.trans (hb1.mono hb.size);clear h0 h1 h2 h3 h4 h5 h6 h7 hb1;obtain ⟨h0,h1,h2,h3,h4,h5,h6,h7⟩:=hX.out.below hb;simp only at h0 h1 h2 h3 h4 h5 h6 h7) | (go_at_call 168;refine (QE2 _ _).mono ?_;rintro e w1 ⟨rfl,rfl⟩;rw [hp]) | go_in)
      go_ret
      exact ⟨by rw [E.out];rfl,hb⟩
    ·have E2:=code_2 r e hr hbr
     clear hbr
     cases hq:qD3 r.oo r.on
     all_goals
      rw [hq] at E2
      have E:Hid (qA8 r=_):=E2
      clear E2
      obtain ⟨k,ho,hn,wh,oo,on,tw,tn⟩:=r
      have hb:Below w.heap.size w w:=Below.refl _ _
      obtain ⟨h0,h1,h2,h3,h4,h5,h6,h7⟩:=hX.out.below hb
      simp only at h0 h1 h2 h3 h4 h5 h6 h7
      simp only at hk hr hq e
      subst e
      go_enter Tryz.func142,Tryz.ntmps142
      go_wp2_with (first | (go_at_call 143;refine (qR0 _ _ _).mono ?_;rintro e w1 ⟨rfl,hb1⟩;replace hb:=hb.trans (hb1.mono hb.size);clear h0 h1 h2 h3 h4 h5 h6 h7 hb1;obtain ⟨h0,h1,h2,h3,h4,h5,h6,h7⟩:=hX.out.below hb;simp only at h0 h1 h2 h3 h4 h5 h6 h7;(first | rw [hr] | rw [hq])) | (go_at_call 167;refine (hB.out _ hb HK.out).mono ?_;rintro e w1 ⟨rfl,hb1⟩;replace hb:=hb.trans (hb1.mono hb.size);clear h0 h1 h2 h3 h4 h5 h6 h7 hb1;obtain ⟨h0,h1,h2,h3,h4,h5,h6,h7⟩:=hX.out.below hb;simp only at h0 h1 h2 h3 h4 h5 h6 h7) | go_in)
      go_ret
      exact ⟨by rw [E.out];rfl,hb⟩
    ·have E2:=code_3 r e hr hbr
     clear hbr
     cases hq:qD3 r.oo r.on <;> cases hp:qV6 r.tn
     all_goals
      rw [hq,hp] at E2
      have E:Hid (qA8 r=_):=E2
      clear E2
      obtain ⟨k,ho,hn,wh,oo,on,tw,tn⟩:=r
      have hb:Below w.heap.size w w:=Below.refl _ _
      obtain ⟨h0,h1,h2,h3,h4,h5,h6,h7⟩:=hX.out.below hb
      simp only at h0 h1 h2 h3 h4 h5 h6 h7
      simp only at hk hr hq hp e
      subst e
      go_enter Tryz.func142,Tryz.ntmps142
      go_wp2_with (first | (go_at_call 143;refine (qR0 _ _ _).mono ?_;rintro e w1 ⟨rfl,hb1⟩;replace hb:=hb.trans (hb1.mono hb.size);clear h0 h1 h2 h3 h4 h5 h6 h7 hb1;obtain ⟨h0,h1,h2,h3,h4,h5,h6,h7⟩:=hX.out.below hb;simp only at h0 h1 h2 h3 h4 h5 h6 h7;(first | rw [hr] | rw [hq])) | (go_at_call 167;refine (hB.out _ hb HK.out).mono ?_;rintro e w1 ⟨rfl,hb1⟩;replace hb:=hb.trans (hb1.mono hb.size);clear h0 h1 h2 h3 h4 h5 h6 h7 hb1;obtain ⟨h0,h1,h2,h3,h4,h5,h6,h7⟩:=hX.out.below hb;simp only at h0 h1 h2 h3 h4 h5 h6 h7) | (go_at_call 169;refine (l2Name_c _ _).mono ?_;rintro e w1 ⟨rfl,rfl⟩;rw [hp]) | go_in)
      go_ret
      exact ⟨by rw [E.out];rfl,hb⟩
    ·have E2:=code_4 r e hr hbr
     clear hbr
     cases hq:qD3 r.oo r.on <;> cases ht:qD3 r.to r.tn
     all_goals
      rw [hq,ht] at E2
      have E:Hid (qA8 r=_):=E2
      clear E2
      obtain ⟨k,ho,hn,wh,oo,on,tw,tn⟩:=r
      have hb:Below w.heap.size w w:=Below.refl _ _
      obtain ⟨h0,h1,h2,h3,h4,h5,h6,h7⟩:=hX.out.below hb
      simp only at h0 h1 h2 h3 h4 h5 h6 h7
      simp only at hk hr hq ht e
      subst e
      go_enter Tryz.func142,Tryz.ntmps142
      go_wp2_with (first | (go_at_call 143;refine (qR0 _ _ _).mono ?_;rintro e w1 ⟨rfl,hb1⟩;replace hb:=hb.trans (hb1.mono hb.size);clear h0 h1 h2 h3 h4 h5 h6 h7 hb1;obtain ⟨h0,h1,h2,h3,h4,h5,h6,h7⟩:=hX.out.below hb;simp only at h0 h1 h2 h3 h4 h5 h6 h7;(first | rw [hr] | rw [hq] | rw [ht])) | (go_at_call 167;refine (hB.out _ hb HK.out).mono ?_;rintro e w1 ⟨rfl,hb1⟩;replace hb:=hb.trans (hb1.mono hb.size);clear h0 h1 h2 h3 h4 h5 h6 h7 hb1;obtain ⟨h0,h1,h2,h3,h4,h5,h6,h7⟩:=hX.out.below hb;simp only at h0 h1 h2 h3 h4 h5 h6 h7) | go_in)
      go_ret
      exact ⟨by rw [E.out];rfl,hb⟩
 ·have E:Hid (qA8 r=1):=by show qA8 r=1;simp [qA8,hk]
  clear hB
  obtain ⟨k,ho,hn,wh,oo,on,tw,tn⟩:=r
  obtain ⟨h0,h1,h2,h3,h4,h5,h6,h7⟩:=hX.out
  simp only at h0 h1 h2 h3 h4 h5 h6 h7 hk
  by_cases k1:1≤k
  ·have k4:decide (k≤4)=false:=by simp;omega
   go_enter Tryz.func142,Tryz.ntmps142
   go_wp2
   go_ret
   exact ⟨by rw [E.out];rfl,Below.refl _ _⟩
  ·have k4:decide (1≤k)=false:=by simp;omega
   go_enter Tryz.func142,Tryz.ntmps142
   go_wp2
   go_ret
   exact ⟨by rw [E.out];rfl,Below.refl _ _⟩

end Go.Proofs.YtlpgapdlepbgbaaGreatDoor
