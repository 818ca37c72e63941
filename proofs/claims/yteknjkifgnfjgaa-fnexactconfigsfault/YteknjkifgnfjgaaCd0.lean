/-
  THE LAW laws.FnExactConfigsFault, from its argument on.
  Conditions: none beside the argument's own.
-/
import Derived.Test.YteknjkifgnfjgaaRc1
import Derived.Test.YteknjkifgnfjgaaScs
import Derived.Test.YteknjkifgnfjgaaCsA
namespace Go.Proofs.Yteknjkifgnfjgaa
open Go.RowKit
set_option linter.unusedVariables false
set_option linter.unusedSimpArgs false

theorem hidC {p : Prop} (h : p) : Hid p := h

theorem specConfigsFault_c (a : Option Addr) (n cap : Nat) (cs : List ConfI) (w : World) (hn : n ≤ 1048576) (hle : ConfsLe 1048576 cs) (h : ConfsIn w a n cs) :
    Calls Try.prog 11 #[.slice a n cap] w fun e w' => e = .returned (.int .i64 (cfsCode cs)) ∧ Below w.heap.size w w' := by
  obtain ⟨k, hk⟩ : ∃ k, cfsCode cs = k := ⟨_, rfl⟩
  have HC : Hid (Calls Try.prog 21 #[.slice a n cap] w fun e w' => e = .returned (.int .i64 k) ∧ Below w.heap.size w w') := by rw [← hk]; exact l8Configs_c a n cap cs w hn hle h
  rw [hk]
  clear h hle hk
  go_enter Try.func11, Try.ntmps11
  go_wp2_with fail
  refine HC.out.mono ?_
  rintro e w1 ⟨rfl, hb⟩
  go_wp2_with fail
  go_ret
  exact ⟨rfl, hb⟩

/-- What the law keeps. -/
structure CK (w : World) (a : Option Addr) (n : Nat) (cs : List ConfI) (W : World) : Prop where
  bl : Below w.heap.size w W
  ci : ConfsIn W a n cs

theorem CK.below {w : World} {a : Option Addr} {n : Nat} {cs : List ConfI} {W W' : World} (h : CK w a n cs W) (hb : Below W.heap.size W W') : CK w a n cs W' :=
  ⟨h.bl.trans (hb.mono h.bl.size), h.ci.below hb⟩

set_option maxRecDepth 20000 in
set_option maxHeartbeats 2000000 in
theorem confsFault_inner (a : Option Addr) (n cap : Nat) (cs : List ConfI) (w : World) (hc : ConfsArg w a n cs) :
    Calls Try.prog 4 #[.slice a n cap] w fun e w' => e = .returned (.bool true) ∧ Below w.heap.size w w' := by
  have F0 : Hid (CK w a n cs w) := ⟨Below.refl _ _, hc.1⟩
  have HCL : Hid (n ≤ maxLen ∧ ∀ (k : Nat) c, cs[k]? = some c → ConfLe maxLen c) := hc.2
  have HLEN : Hid (cs.length = n) := hc.1.len
  clear hc
  go_enter Try.func4, Try.ntmps4
  go_wp2_with fail
  refine (szConfigs_c a n cap cs 1048576 _ HCL.out.1 HCL.out.2 (by omega) (by omega) F0.out.ci).mono ?_
  rintro e w2 ⟨⟨s2, rfl, hs3, hs4⟩, hb2⟩
  have F2 := hidC (F0.out.below hb2)
  clear hb2 F0
  by_cases hneg2 : s2 < 0
  · go_wp2_with fail
    go_ret
    exact ⟨rfl, F2.out.bl⟩
  · obtain ⟨hnl, hcl0⟩ := hs4 (by omega)
    have hn : n ≤ 1048576 := by omega
    have hcl : ∀ (k : Nat) c, cs[k]? = some c → ConfLe 1048576 c := fun k c e => confLe_mono (hcl0 k c e) (by omega)
    have HCC : Hid (∀ (k : Nat) c, cs[k]? = some c → ConfLe 1048576 c) := hcl
    clear hs4 hcl0 hcl HCL
    obtain ⟨k, hk⟩ : ∃ k, cfsCode cs = k := ⟨_, rfl⟩
    have HK : Hid (cfsCode cs = k) := hk
    clear hk
    go_wp2_with fail
    refine (toConfigs_c a n cap cs _ hn HCC.out F2.out.ci).mono ?_
    rintro e w4 ⟨rfl, ds1, hd1⟩
    have F4 := hidC (F2.out.below hd1.bl)
    have D4 := hidC hd1
    have HSP := specConfigsFault_c (some ⟨w2.heap.size, 0, none⟩) n n ds1 w4 hn (hd1.le hn F2.out.ci HCC.out) hd1.isIn
    rw [(hd1.same HLEN.out).cfs, HK.out] at HSP
    have HSP := hidC HSP
    clear hd1 F2
    go_wp2_with fail
    refine HSP.out.mono ?_
    rintro e w5 ⟨rfl, hb5⟩
    have F5 := hidC (F4.out.below hb5)
    clear hb5 F4 HSP D4
    go_wp2_with fail
    refine (toConfigs_c a n cap cs _ hn HCC.out F5.out.ci).mono ?_
    rintro e w6 ⟨rfl, ds2, hd2⟩
    have F6 := hidC (F5.out.below hd2.bl)
    have D6 := hidC hd2
    have HS6 := hidC (hd2.same HLEN.out)
    have HL6 := hidC (hd2.le hn F5.out.ci HCC.out)
    have HIM := configsFault_c (some ⟨w5.heap.size, 0, none⟩) n n ds2 w6 hn HL6.out hd2.isIn
    rw [HS6.out.cfs, HK.out] at HIM
    have HIM := hidC HIM
    clear hd2 F5
    go_wp2_with fail
    refine HIM.out.mono ?_
    rintro e w7 ⟨rfl, hb7⟩
    have F7 := hidC (F6.out.below hb7)
    have D7 := hidC (D6.out.below hb7)
    clear hb7 F6 D6 HIM
    go_wp2_with fail
    refine (toConfigs_c a n cap cs _ hn HCC.out F7.out.ci).mono ?_
    rintro e w8 ⟨rfl, ds3, hd3⟩
    have F8 := hidC (F7.out.below hd3.bl)
    have D8 := hidC (D7.out.below hd3.bl)
    have HEQ := hidC (eqConfigs_same (some ⟨w5.heap.size, 0, none⟩) (some ⟨w7.heap.size, 0, none⟩) n n n ds2 ds3 w8 hn HL6.out.le (sameCs_two HS6.out (hd3.same HLEN.out)) D8.out.isIn hd3.isIn)
    clear hd3 F7 D7
    go_wp2_with fail
    refine HEQ.out.mono ?_
    rintro e w9 ⟨rfl, hb9⟩
    have F9 := hidC (F8.out.below hb9)
    clear hb9 F8 D8 HEQ
    go_wp2_with fail
    go_ret
    exact ⟨rfl, F9.out.bl⟩

end Go.Proofs.Yteknjkifgnfjgaa
