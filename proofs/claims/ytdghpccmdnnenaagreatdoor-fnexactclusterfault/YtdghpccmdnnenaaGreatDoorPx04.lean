/- Contracts. -/
import Derived.Test.YtdghpccmdnnenaaGreatDoorPx01
namespace Go.Proofs.YtdghpccmdnnenaaGreatDoor
set_option maxRecDepth 100000
set_option maxHeartbeats 8000000
open Go.RowKit Go.Proofs.Tryz
set_option linter.unusedVariables false
set_option linter.unusedSimpArgs false
theorem qOM(r:qA1)(h:r.k=1)(hr:qD1 r.ho r.hn=true)(hb:QS2 r=true):qA6 r=if qV2 r.w=true then 0 else 3:=by
 have : 1<=r.k/\r.k<=4:=by omega
 have e:QH5 r=qV2 r.w:=by simp[QH5,h]
 simp[qA6,this,hr,hb,e];cases qV2 r.w <;> rfl
theorem qOL(r:qA1)(h:r.k=2)(hr:qD1 r.ho r.hn=true)(hb:QS2 r=true):qA6 r=if qD1 r.oo r.on=true then 0 else 3:=by
 have : 1<=r.k/\r.k<=4:=by omega
 have e:QH5 r=qD1 r.oo r.on:=by simp[QH5,h]
 simp[qA6,this,hr,hb,e];cases qD1 r.oo r.on <;> rfl
theorem qOK(r:qA1)(h:r.k=3)(hr:qD1 r.ho r.hn=true)(hb:QS2 r=true):qA6 r=if (qD1 r.oo r.on&&qW1 r.tn)=true then 0 else 3:=by
 have : 1<=r.k/\r.k<=4:=by omega
 have e:QH5 r=(qD1 r.oo r.on&&qW1 r.tn):=by simp[QH5,h]
 simp only[qA6,this,hr,hb,e];cases qD1 r.oo r.on <;> cases qW1 r.tn <;> rfl
theorem qOJ(r:qA1)(h:r.k=4)(hr:qD1 r.ho r.hn=true)(hb:QS2 r=true):qA6 r=if (qD1 r.oo r.on&&qD1 r.to r.tn)=true then 0 else 3:=by
 have : 1<=r.k/\r.k<=4:=by omega
 have e:QH5 r=(qD1 r.oo r.on&&qD1 r.to r.tn):=by simp[QH5,h]
 simp only[qA6,this,hr,hb,e];cases qD1 r.oo r.on <;> cases qD1 r.to r.tn <;> rfl
theorem qKT(g off:Nat)(r:qA1)(w:World)(h:qC2 w g off r):
  CP 209 #[.pointer (some ⟨g,off,none⟩)] w fun e w'=>e=.returned (iv (qA6 r))/\Below w.heap.size w w':=by
 have hB:Hid (∀w':World,Below w.heap.size w w'->1<=r.k/\r.k<=4->CP 232 #[.pointer (some ⟨g,off,none⟩)] w' fun e w''=>e=.returned (.bool (QS2 r))/\Below w'.heap.size w' w''):=fun w' hb hk=>qKU g off r w' (h.below hb) hk
 have hX:=hJJ h;clear h;by_cases hk:1<=r.k/\r.k<=4
 .have HK:Hid (1<=r.k/\r.k<=4):=hk;cases hr:qD1 r.ho r.hn
  .have E:Hid (qA6 r=3):=by show qA6 r=3;simp[qA6,hk,hr]
   clear hB;obtain⟨k,ho,hn,wh,oo,on,tw,tn⟩:=r;have hb:Below w.heap.size w w:=gC _ _;obtain⟨h0,h1,h2,h3,h4,h5,h6,h7⟩:=hX.out.below hb;simp only at h0 h1 h2 h3 h4 h5 h6 h7;simp only at hk hr;go_enter func209,ntmps209;go_wp2_with (first | (go_at_call 210;refine (qR4 _ _ _).mono ?_;rintro e w1 ⟨rfl,hb1⟩;replace hb:=hb.trans (hb1.mono hb.size);clear h0 h1 h2 h3 h4 h5 h6 h7 hb1;obtain⟨h0,h1,h2,h3,h4,h5,h6,h7⟩:=hX.out.below hb;simp only at h0 h1 h2 h3 h4 h5 h6 h7;(first | rw[hr])) | go_in)
   go_ret;exact⟨by rw[E.out];rfl,hb⟩
  .cases hbr:QS2 r
   .have E:Hid (qA6 r=1):=by show qA6 r=1;simp[qA6,hk,hr,hbr]
    rw[hbr]at hB;clear hbr;obtain⟨k,ho,hn,wh,oo,on,tw,tn⟩:=r;have hb:Below w.heap.size w w:=gC _ _;obtain⟨h0,h1,h2,h3,h4,h5,h6,h7⟩:=hX.out.below hb;simp only at h0 h1 h2 h3 h4 h5 h6 h7;simp only at hk hr;go_enter func209,ntmps209;go_wp2_with (first | (go_at_call 210;refine (qR4 _ _ _).mono ?_;rintro e w1 ⟨rfl,hb1⟩;replace hb:=hb.trans (hb1.mono hb.size);clear h0 h1 h2 h3 h4 h5 h6 h7 hb1;obtain⟨h0,h1,h2,h3,h4,h5,h6,h7⟩:=hX.out.below hb;simp only at h0 h1 h2 h3 h4 h5 h6 h7;(first | rw[hr])) | (go_at_call 232;refine (hB.out _ hb HK.out).mono ?_;rintro e w1 ⟨rfl,hb1⟩;replace hb:=hb.trans (hb1.mono hb.size);clear h0 h1 h2 h3 h4 h5 h6 h7 hb1;obtain⟨h0,h1,h2,h3,h4,h5,h6,h7⟩:=hX.out.below hb;simp only at h0 h1 h2 h3 h4 h5 h6 h7) | go_in)
    go_ret;exact⟨by rw[E.out];rfl,hb⟩
   .have hk':r.k=1\/r.k=2\/r.k=3\/r.k=4:=by omega
    rw[hbr]at hB;rcases hk' with e | e | e | e
    .have E2:=qOM r e hr hbr;clear hbr;cases hq:qD1 r.oo r.on <;> cases hp:qV2 r.w
     all_goals
      rw[hp]at E2;have E:=hJJ E2;clear E2;obtain⟨k,ho,hn,wh,oo,on,tw,tn⟩:=r;have hb:Below w.heap.size w w:=gC _ _;obtain⟨h0,h1,h2,h3,h4,h5,h6,h7⟩:=hX.out.below hb;simp only at h0 h1 h2 h3 h4 h5 h6 h7;simp only at hk hr hq hp e;subst e;go_enter func209,ntmps209;go_wp2_with (first | (go_at_call 210;refine (qR4 _ _ _).mono ?_;rintro e w1 ⟨rfl,hb1⟩;replace hb:=hb.trans (hb1.mono hb.size);clear h0 h1 h2 h3 h4 h5 h6 h7 hb1;obtain⟨h0,h1,h2,h3,h4,h5,h6,h7⟩:=hX.out.below hb;simp only at h0 h1 h2 h3 h4 h5 h6 h7;(first | rw[hr] | rw[hq])) | (go_at_call 232;refine (hB.out _ hb HK.out).mono ?_;rintro e w1 ⟨rfl,hb1⟩;replace hb:=hb.trans (hb1.mono hb.size);clear h0 h1 h2 h3 h4 h5 h6 h7 hb1;obtain⟨h0,h1,h2,h3,h4,h5,h6,h7⟩:=hX.out.below hb;simp only at h0 h1 h2 h3 h4 h5 h6 h7) | (go_at_call 233;refine (QH0 _ _).mono ?_;rintro e w1 ⟨rfl,rfl⟩;rw[hp]) | go_in)
      go_ret;exact⟨by rw[E.out];rfl,hb⟩
    .have E2:=qOL r e hr hbr;clear hbr;cases hq:qD1 r.oo r.on
     all_goals
      rw[hq]at E2;have E:=hJJ E2;clear E2;obtain⟨k,ho,hn,wh,oo,on,tw,tn⟩:=r;have hb:Below w.heap.size w w:=gC _ _;obtain⟨h0,h1,h2,h3,h4,h5,h6,h7⟩:=hX.out.below hb;simp only at h0 h1 h2 h3 h4 h5 h6 h7;simp only at hk hr hq e;subst e;go_enter func209,ntmps209;go_wp2_with (first | (go_at_call 210;refine (qR4 _ _ _).mono ?_;rintro e w1 ⟨rfl,hb1⟩;replace hb:=hb.trans (hb1.mono hb.size);clear h0 h1 h2 h3 h4 h5 h6 h7 hb1;obtain⟨h0,h1,h2,h3,h4,h5,h6,h7⟩:=hX.out.below hb;simp only at h0 h1 h2 h3 h4 h5 h6 h7;(first | rw[hr] | rw[hq])) | (go_at_call 232;refine (hB.out _ hb HK.out).mono ?_;rintro e w1 ⟨rfl,hb1⟩;replace hb:=hb.trans (hb1.mono hb.size);clear h0 h1 h2 h3 h4 h5 h6 h7 hb1;obtain⟨h0,h1,h2,h3,h4,h5,h6,h7⟩:=hX.out.below hb;simp only at h0 h1 h2 h3 h4 h5 h6 h7) | go_in)
      go_ret;exact⟨by rw[E.out];rfl,hb⟩
    .have E2:=qOK r e hr hbr;clear hbr;cases hq:qD1 r.oo r.on <;> cases hp:qW1 r.tn
     all_goals
      rw[hq,hp]at E2;have E:=hJJ E2;clear E2;obtain⟨k,ho,hn,wh,oo,on,tw,tn⟩:=r;have hb:Below w.heap.size w w:=gC _ _;obtain⟨h0,h1,h2,h3,h4,h5,h6,h7⟩:=hX.out.below hb;simp only at h0 h1 h2 h3 h4 h5 h6 h7;simp only at hk hr hq hp e;subst e;go_enter func209,ntmps209;go_wp2_with (first | (go_at_call 210;refine (qR4 _ _ _).mono ?_;rintro e w1 ⟨rfl,hb1⟩;replace hb:=hb.trans (hb1.mono hb.size);clear h0 h1 h2 h3 h4 h5 h6 h7 hb1;obtain⟨h0,h1,h2,h3,h4,h5,h6,h7⟩:=hX.out.below hb;simp only at h0 h1 h2 h3 h4 h5 h6 h7;(first | rw[hr] | rw[hq])) | (go_at_call 232;refine (hB.out _ hb HK.out).mono ?_;rintro e w1 ⟨rfl,hb1⟩;replace hb:=hb.trans (hb1.mono hb.size);clear h0 h1 h2 h3 h4 h5 h6 h7 hb1;obtain⟨h0,h1,h2,h3,h4,h5,h6,h7⟩:=hX.out.below hb;simp only at h0 h1 h2 h3 h4 h5 h6 h7) | (go_at_call 234;refine (qEi _ _).mono ?_;rintro e w1 ⟨rfl,rfl⟩;rw[hp]) | go_in)
      go_ret;exact⟨by rw[E.out];rfl,hb⟩
    .have E2:=qOJ r e hr hbr;clear hbr;cases hq:qD1 r.oo r.on <;> cases ht:qD1 r.to r.tn
     all_goals
      rw[hq,ht]at E2;have E:=hJJ E2;clear E2;obtain⟨k,ho,hn,wh,oo,on,tw,tn⟩:=r;have hb:Below w.heap.size w w:=gC _ _;obtain⟨h0,h1,h2,h3,h4,h5,h6,h7⟩:=hX.out.below hb;simp only at h0 h1 h2 h3 h4 h5 h6 h7;simp only at hk hr hq ht e;subst e;go_enter func209,ntmps209;go_wp2_with (first | (go_at_call 210;refine (qR4 _ _ _).mono ?_;rintro e w1 ⟨rfl,hb1⟩;replace hb:=hb.trans (hb1.mono hb.size);clear h0 h1 h2 h3 h4 h5 h6 h7 hb1;obtain⟨h0,h1,h2,h3,h4,h5,h6,h7⟩:=hX.out.below hb;simp only at h0 h1 h2 h3 h4 h5 h6 h7;(first | rw[hr] | rw[hq] | rw[ht])) | (go_at_call 232;refine (hB.out _ hb HK.out).mono ?_;rintro e w1 ⟨rfl,hb1⟩;replace hb:=hb.trans (hb1.mono hb.size);clear h0 h1 h2 h3 h4 h5 h6 h7 hb1;obtain⟨h0,h1,h2,h3,h4,h5,h6,h7⟩:=hX.out.below hb;simp only at h0 h1 h2 h3 h4 h5 h6 h7) | go_in)
      go_ret;exact⟨by rw[E.out];rfl,hb⟩
 .have E:Hid (qA6 r=1):=by show qA6 r=1;simp[qA6,hk]
  clear hB;obtain⟨k,ho,hn,wh,oo,on,tw,tn⟩:=r;obtain⟨h0,h1,h2,h3,h4,h5,h6,h7⟩:=hX.out;simp only at h0 h1 h2 h3 h4 h5 h6 h7 hk;by_cases k1:1<=k
  .have k4:decide (k<=4)=false:=by simp;omega
   go_enter func209,ntmps209;go_wp2;go_ret;exact⟨by rw[E.out];rfl,gC _ _⟩
  .have k4:decide (1<=k)=false:=by simp;omega
   go_enter func209,ntmps209;go_wp2;go_ret;exact⟨by rw[E.out];rfl,gC _ _⟩
