/-
  PROVED: for every slice of configurations, every slice of shares, every slice of certificates and every int64 the law laws.FnExactExtendChain returns true, that is impl.ExtendChain answers as spec.ExtendChain there (up to 1<<20 elements in all, as the law itself says), writes nothing into its arguments, and its signers are memory of their own, behind another call too; the arguments read as they did.
  Conditions: none beside those that the given row itself bears. The frame is the shell written by program, turned for slices of configurations and of structs; the walk is ours.
-/
import Derived.Test.YtfkajnenniapaaaGreatRows
import Derived.ShutString
import Derived.ChangeOld
import Derived.Test.YtfkajnenniapaaaGreatPt48
import Derived.Test.YtfkajnenniapaaaGreatPt51
namespace Go.Proofs.YtfkajnenniapaaaGreat.fnExactExtendChain
open Go.ChangeShapes Go.WideShapes Go.ChangeAt Go.RowKit
open Go.ChangeMaps (open_string shut_string)
set_option linter.unusedVariables false

theorem own : ownKnob Tryz.prog.godebug = none := by kernel_rfl
theorem laidOut : laidOutB Tryz.prog = true := by kernel_rfl

set_option linter.unusedSimpArgs false

abbrev KR0 (W W' : World) : Prop := (∀ b o, b < W.heap.size → W'.cell? ⟨b, o, none⟩ = W.cell? ⟨b, o, none⟩) ∧ Below W.heap.size W W'

set_option maxRecDepth 100000 in
set_option maxHeartbeats 8000000 in
theorem inner (a0 : Option Addr) (len0 cap0 : Nat) (z0 : List ConfI) (a1 : Option Addr) (len1 cap1 : Nat) (z1 : List ShI) (a2 : Option Addr) (len2 cap2 : Nat) (z2 : List CrI) (a3 : Int) (c : Int) (cx : StI) (ys : List Int) (w : World) (hm0 : len0 ≤ maxLen) (hq0 : ∀ (k : Nat) c, z0[k]? = some c → ConfLe maxLen c) (h0 : ConfsIn w a0 len0 z0) (hm1 : len1 ≤ maxLen) (h1 : ShIn w a1 len1 z1) (hm2 : len2 ≤ maxLen) (hq2 : ∀ (k : Nat) c, z2[k]? = some c → c.gn ≤ maxLen) (h2 : CrsIn w a2 len2 z2) (hy : ys.length ≤ 1000)
    (HS : Hid (len0 ≤ 1048576 → len1 ≤ 1048576 → len2 ≤ 1048576 → ∀ (g0 h0 : Nat) (g1 : Nat) (g2 h2 : Nat) (W : World), CpB g0 h0 len0 z0 W → ShCp g1 len1 z1 W → CpR g2 h2 len2 z2 W → Calls Tryz.prog 28 #[.slice (some ⟨g0, 0, none⟩) len0 len0, .slice (some ⟨g1, 0, none⟩) len1 len1, .slice (some ⟨g2, 0, none⟩) len2 len2, .int .i64 a3] W fun e W' => ∃ a cap, e = .returned (.agg #[.int .i64 c, .int .i64 cx.k, .int .i64 cx.e, .int .i64 cx.f, .int .i64 cx.s, .int .i64 cx.n, .slice a ys.length cap]) ∧ W'.ownsRow W.heap.size 2 1 (.slice a ys.length cap) ys.length (ys.map (Value.int .i64)) ∧ Below W.heap.size W W'))
    (HI : Hid (len0 ≤ 1048576 → len1 ≤ 1048576 → len2 ≤ 1048576 → ∀ (g0 h0 : Nat) (g1 : Nat) (g2 h2 : Nat) (W : World), CpB g0 h0 len0 z0 W → ShCp g1 len1 z1 W → CpR g2 h2 len2 z2 W → Calls Tryz.prog 29 #[.slice (some ⟨g0, 0, none⟩) len0 len0, .slice (some ⟨g1, 0, none⟩) len1 len1, .slice (some ⟨g2, 0, none⟩) len2 len2, .int .i64 a3] W fun e W' => ∃ a cap, e = .returned (.agg #[.int .i64 c, .int .i64 cx.k, .int .i64 cx.e, .int .i64 cx.f, .int .i64 cx.s, .int .i64 cx.n, .slice a ys.length cap]) ∧ W'.ownsRow W.heap.size 2 1 (.slice a ys.length cap) ys.length (ys.map (Value.int .i64)) ∧ Below W.heap.size W W')) :
    Calls Tryz.prog 5 #[.slice a0 len0 cap0, .slice a1 len1 cap1, .slice a2 len2 cap2, .int .i64 a3] w fun e w' => e = .returned (.bool true) ∧ Below w.heap.size w w' := by
  have H0 : Hid (ConfsIn w a0 len0 z0) := h0
  have HM0 : Hid (∀ (k : Nat) c, z0[k]? = some c → ConfLe maxLen c) := hq0
  clear h0 hq0
  have H1 : Hid (ShIn w a1 len1 z1) := h1
  have HZ1 : Hid (z1.length = len1) := h1.1
  clear h1
  have H2 : Hid (CrsIn w a2 len2 z2) := h2
  have HM2 : Hid (∀ (k : Nat) c, z2[k]? = some c → c.gn ≤ maxLen) := hq2
  clear h2 hq2
  have hyl : ys.length ≤ 1048576 := by omega
  have hyi : (ys.length : Int) ≤ 1000 := by omega
  obtain ⟨V, hV⟩ : ∃ V, V = w := ⟨_, rfl⟩
  have B0 : Hid (Below w.heap.size w V) := by rw [hV]; exact Below.refl _ _
  subst V
  have hz0 := B0.out.size
  go_enter Tryz.func5, Tryz.ntmps5
  go_wp2_with fail
  refine (szConfigs_c a0 len0 cap0 z0 1048576 _ hm0 HM0.out (by omega) (by omega) (H0.out.below B0.out)).mono ?_
  rintro e w2 ⟨⟨v1, rfl, hv, hv2⟩, hb⟩
  have B3 : Hid (Below w.heap.size w w2) := B0.out.trans (hb.mono B0.out.size)
  have hz4 := hb.size
  clear B0
  clear hb
  by_cases hneg : v1 < 0
  · go_wp2
    go_ret
    exact ⟨rfl, B3.out⟩
  have hs0 : len0 ≤ 1048576 := by have := (hv2 (by omega)).1; omega
  have HLE0 : Hid (∀ (k : Nat) c, z0[k]? = some c → ConfLe 1048576 c) := fun k c e => confLe_mono ((hv2 (by omega)).2 k c e) (by omega)
  have hiv1 : 0 ≤ v1 ∧ v1 ≤ 1048576 := ⟨by omega, by omega⟩
  clear hv hv2 hneg HM0
  go_wp2_with fail
  refine (szShares_c a1 len1 cap1 v1 _ hm1 (by omega) (by omega)).mono ?_
  rintro e w6 ⟨⟨v5, rfl, hv, hv2⟩, hb⟩
  have B7 : Hid (Below w.heap.size w w6) := B3.out.trans (hb.mono B3.out.size)
  have hz8 := hb.size
  clear B3
  clear hb
  by_cases hneg : v5 < 0
  · go_wp2
    go_ret
    exact ⟨rfl, B7.out⟩
  have hs1 : len1 ≤ 1048576 := hv2 (by omega)
  have hiv5 : 0 ≤ v5 ∧ v5 ≤ v1 := ⟨by omega, by omega⟩
  clear hv2 hneg
  go_wp2_with fail
  refine (szCerts_c a2 len2 cap2 z2 v5 _ hm2 HM2.out (by omega) (by omega) (H2.out.below B7.out)).mono ?_
  rintro e w10 ⟨⟨v9, rfl, hv, hv2⟩, hb⟩
  have B11 : Hid (Below w.heap.size w w10) := B7.out.trans (hb.mono B7.out.size)
  have hz12 := hb.size
  clear B7
  clear hb
  by_cases hneg : v9 < 0
  · go_wp2
    go_ret
    exact ⟨rfl, B11.out⟩
  have hs2 : len2 ≤ 1048576 := by have := (hv2 (by omega)).1; omega
  have HLE2 : Hid (∀ (k : Nat) c, z2[k]? = some c → c.gn ≤ 1048576) := fun k c e => (hv2 (by omega)).2 k c e
  have hiv9 : 0 ≤ v9 ∧ v9 ≤ v5 := ⟨by omega, by omega⟩
  clear hv hv2 hneg HM2
  have HS' := HS.out hs0 hs1 hs2
  have HI' := HI.out hs0 hs1 hs2
  have HSP : Hid _ := HS'
  have HIM : Hid _ := HI'
  clear HS' HI' HS HI
  go_wp2_with fail
  refine (toConfigs_c a0 len0 cap0 z0 _ hs0 HLE0.out (H0.out.below B11.out)).mono ?_
  rintro e w13 ⟨rfl, dsT, hct⟩
  have hb := hct.bl
  have B14 : Hid (Below w.heap.size w w13) := B11.out.trans (hb.mono B11.out.size)
  have hz15 := hb.size
  clear B11
  have F16 : Hid (HoldB (CpB (w10.heap.size) (w13.heap.size) len0 z0) w13) := hct.cpB hs0 H0.out HLE0.out
  clear hb hct
  go_wp2_with fail
  refine (toShares_room a1 len1 cap1 z1 _ hs1 (H1.out.below B14.out)).mono ?_
  rintro e w17 ⟨rfl, hat, hlt, hb, hroom⟩
  have B18 : Hid (Below w.heap.size w w17) := B14.out.trans (hb.mono B14.out.size)
  have hz19 := hb.size
  have F20 : Hid (HoldB (CpB (w10.heap.size) (w13.heap.size) len0 z0) w17) := F16.out.below hb
  clear B14 F16
  have F21 : Hid (Hold (w13.heap.size) (w13.heap.size + 1) (ShCp w13.heap.size len1 z1) w17) := ShCp.hold ⟨hat, hroom⟩ hlt
  have hl22 := F21.out.le
  clear hat hroom hlt hb
  go_wp2_with fail
  refine (toCerts_c a2 len2 cap2 z2 _ hs2 HLE2.out (H2.out.below B18.out)).mono ?_
  rintro e w23 ⟨rfl, dsT, hct⟩
  have hb := hct.bl
  have B24 : Hid (Below w.heap.size w w23) := B18.out.trans (hb.mono B18.out.size)
  have hz25 := hb.size
  have F26 : Hid (HoldB (CpB (w10.heap.size) (w13.heap.size) len0 z0) w23) := F20.out.below hb
  have F27 : Hid (Hold (w13.heap.size) (w13.heap.size + 1) (ShCp w13.heap.size len1 z1) w23) := F21.out.below hb
  clear B18 F20 F21
  have F28 : Hid (Hold (w17.heap.size) (w23.heap.size) (CpR (w17.heap.size) (w23.heap.size) len2 z2) w23) := hct.cpH H2.out HLE2.out
  have hl29 := F28.out.le
  clear hb hct
  go_wp2_with fail
  refine (HSP.out _ _ _ _ _ _ F26.out.out F27.out.out F28.out.out).mono ?_
  rintro e w30 ⟨raS, rcS, rfl, how, hb⟩
  have B31 : Hid (Below w.heap.size w w30) := B24.out.trans (hb.mono B24.out.size)
  have hz32 := hb.size
  have F33 : Hid (HoldB (CpB (w10.heap.size) (w13.heap.size) len0 z0) w30) := F26.out.below hb
  have F34 : Hid (Hold (w13.heap.size) (w13.heap.size + 1) (ShCp w13.heap.size len1 z1) w30) := F27.out.below hb
  have F35 : Hid (Hold (w17.heap.size) (w23.heap.size) (CpR (w17.heap.size) (w23.heap.size) len2 z2) w30) := F28.out.below hb
  clear B24 F26 F27 F28
  clear F33
  clear F34
  clear F35
  have F36 : Hid (Hold (w23.heap.size) (w30.heap.size) (fun X => X.ownsRow w23.heap.size 2 1 (.slice raS ys.length rcS) ys.length (ys.map (Value.int .i64))) w30) := owns_hold0 how
  have hl37 := F36.out.le
  clear how hb
  go_upto_region 12 with fail
  obtain ⟨w38, hX⟩ : ∃ X, X = w30.alloc (.cells #[.int .i64 c, .int .i64 cx.k, .int .i64 cx.e, .int .i64 cx.f, .int .i64 cx.s, .int .i64 cx.n, .slice raS ys.length rcS] 58) := ⟨_, rfl⟩
  rw [← hX]
  have hb : Below w30.heap.size w30 w38 := by rw [hX]; exact (Below.refl _ _).alloc (Nat.le_refl _) _
  have hbx : Hold w30.heap.size (w30.heap.size + 1) (BoxV w30.heap.size [.int .i64 c, .int .i64 cx.k, .int .i64 cx.e, .int .i64 cx.f, .int .i64 cx.s, .int .i64 cx.n, .slice raS ys.length rcS]) w38 := by rw [hX]; exact boxV_new w30 #[.int .i64 c, .int .i64 cx.k, .int .i64 cx.e, .int .i64 cx.f, .int .i64 cx.s, .int .i64 cx.n, .slice raS ys.length rcS] 58
  clear hX
  have B39 : Hid (Below w.heap.size w w38) := B31.out.trans (hb.mono B31.out.size)
  have hz40 := hb.size
  have F41 : Hid (Hold (w23.heap.size) (w30.heap.size) (fun X => X.ownsRow w23.heap.size 2 1 (.slice raS ys.length rcS) ys.length (ys.map (Value.int .i64))) w38) := F36.out.below hb
  clear B31 F36
  have F42 : Hid (Hold (w30.heap.size) (w30.heap.size + 1) (BoxV w30.heap.size [.int .i64 c, .int .i64 cx.k, .int .i64 cx.e, .int .i64 cx.f, .int .i64 cx.s, .int .i64 cx.n, .slice raS ys.length rcS]) w38) := hbx
  have hl43 := F42.out.le
  clear hbx hb
  have hNB : w.heap.size ≤ w38.heap.size := B39.out.size
  go_wp2_with fail
  refine (toConfigs_c a0 len0 cap0 z0 _ hs0 HLE0.out (H0.out.below B39.out)).mono ?_
  rintro e w44 ⟨rfl, dsT, hct⟩
  have hb := hct.bl
  have hlt := hct.lt
  have B45 : Hid (Below w.heap.size w w44) := B39.out.trans (hb.mono B39.out.size)
  have hz46 := hb.size
  have F47 : Hid (Hold (w23.heap.size) (w30.heap.size) (fun X => X.ownsRow w23.heap.size 2 1 (.slice raS ys.length rcS) ys.length (ys.map (Value.int .i64))) w44) := F41.out.below hb
  have F48 : Hid (Hold (w30.heap.size) (w30.heap.size + 1) (BoxV w30.heap.size [.int .i64 c, .int .i64 cx.k, .int .i64 cx.e, .int .i64 cx.f, .int .i64 cx.s, .int .i64 cx.n, .slice raS ys.length rcS]) w44) := F42.out.below hb
  clear B39 F41 F42
  obtain ⟨xg0, hxg0⟩ : ∃ g, g = w38.heap.size := ⟨_, rfl⟩
  obtain ⟨xh0, hxh0⟩ : ∃ g, g = w44.heap.size := ⟨_, rfl⟩
  have hgexg0 : w38.heap.size ≤ xg0 := by omega
  have hgxh0 : xg0 < xh0 ∧ xh0 ≤ w44.heap.size := by omega
  have F49 : Hid (HoldB (CpB (xg0) (xh0) len0 z0) w44) := by rw [hxg0, hxh0]; exact hct.cpB hs0 H0.out HLE0.out
  rw [← hxg0]
  clear hb hlt hct hxg0 hxh0
  go_wp2_with fail
  refine (toShares_room a1 len1 cap1 z1 _ hs1 (H1.out.below B45.out)).mono ?_
  rintro e w50 ⟨rfl, hat, hlt, hb, hroom⟩
  have B51 : Hid (Below w.heap.size w w50) := B45.out.trans (hb.mono B45.out.size)
  have hz52 := hb.size
  have F53 : Hid (Hold (w23.heap.size) (w30.heap.size) (fun X => X.ownsRow w23.heap.size 2 1 (.slice raS ys.length rcS) ys.length (ys.map (Value.int .i64))) w50) := F47.out.below hb
  have F54 : Hid (Hold (w30.heap.size) (w30.heap.size + 1) (BoxV w30.heap.size [.int .i64 c, .int .i64 cx.k, .int .i64 cx.e, .int .i64 cx.f, .int .i64 cx.s, .int .i64 cx.n, .slice raS ys.length rcS]) w50) := F48.out.below hb
  have F55 : Hid (HoldB (CpB (xg0) (xh0) len0 z0) w50) := F49.out.below hb
  clear B45 F47 F48 F49
  obtain ⟨xg1, hxg1⟩ : ∃ g, g = w44.heap.size := ⟨_, rfl⟩
  have hgexg1 : w44.heap.size ≤ xg1 := by omega
  rw [← hxg1] at hat hroom hlt ⊢
  have F56 : Hid (Hold (xg1) (xg1 + 1) (ShCp xg1 len1 z1) w50) := ShCp.hold ⟨hat, hroom⟩ hlt
  have hl57 := F56.out.le
  clear hxg1 hat hroom hlt hb
  go_wp2_with fail
  refine (toCerts_c a2 len2 cap2 z2 _ hs2 HLE2.out (H2.out.below B51.out)).mono ?_
  rintro e w58 ⟨rfl, dsT, hct⟩
  have hb := hct.bl
  have hlt := hct.lt
  have B59 : Hid (Below w.heap.size w w58) := B51.out.trans (hb.mono B51.out.size)
  have hz60 := hb.size
  have F61 : Hid (Hold (w23.heap.size) (w30.heap.size) (fun X => X.ownsRow w23.heap.size 2 1 (.slice raS ys.length rcS) ys.length (ys.map (Value.int .i64))) w58) := F53.out.below hb
  have F62 : Hid (Hold (w30.heap.size) (w30.heap.size + 1) (BoxV w30.heap.size [.int .i64 c, .int .i64 cx.k, .int .i64 cx.e, .int .i64 cx.f, .int .i64 cx.s, .int .i64 cx.n, .slice raS ys.length rcS]) w58) := F54.out.below hb
  have F63 : Hid (HoldB (CpB (xg0) (xh0) len0 z0) w58) := F55.out.below hb
  have F64 : Hid (Hold (xg1) (xg1 + 1) (ShCp xg1 len1 z1) w58) := F56.out.below hb
  clear B51 F53 F54 F55 F56
  obtain ⟨xg2, hxg2⟩ : ∃ g, g = w50.heap.size := ⟨_, rfl⟩
  obtain ⟨xh2, hxh2⟩ : ∃ g, g = w58.heap.size := ⟨_, rfl⟩
  have hgexg2 : w50.heap.size ≤ xg2 := by omega
  have hgxh2 : xg2 < xh2 ∧ xh2 ≤ w58.heap.size := by omega
  have F65 : Hid (Hold (xg2) (xh2) (CpR (xg2) (xh2) len2 z2) w58) := by rw [hxg2, hxh2]; exact hct.cpH H2.out HLE2.out
  have hl66 := F65.out.le
  rw [← hxg2]
  clear hb hlt hct hxg2 hxh2
  go_wp2_with fail
  refine (HIM.out _ _ _ _ _ _ F63.out.out F64.out.out F65.out.out).mono ?_
  rintro e w67 ⟨raI, rcI, rfl, how, hb⟩
  have B68 : Hid (Below w.heap.size w w67) := B59.out.trans (hb.mono B59.out.size)
  have hz69 := hb.size
  have F70 : Hid (Hold (w23.heap.size) (w30.heap.size) (fun X => X.ownsRow w23.heap.size 2 1 (.slice raS ys.length rcS) ys.length (ys.map (Value.int .i64))) w67) := F61.out.below hb
  have F71 : Hid (Hold (w30.heap.size) (w30.heap.size + 1) (BoxV w30.heap.size [.int .i64 c, .int .i64 cx.k, .int .i64 cx.e, .int .i64 cx.f, .int .i64 cx.s, .int .i64 cx.n, .slice raS ys.length rcS]) w67) := F62.out.below hb
  have F72 : Hid (HoldB (CpB (xg0) (xh0) len0 z0) w67) := F63.out.below hb
  have F73 : Hid (Hold (xg1) (xg1 + 1) (ShCp xg1 len1 z1) w67) := F64.out.below hb
  have F74 : Hid (Hold (xg2) (xh2) (CpR (xg2) (xh2) len2 z2) w67) := F65.out.below hb
  clear B59 F61 F62 F63 F64 F65
  have F75 : Hid (Hold (w58.heap.size) (w67.heap.size) (fun X => X.ownsRow w58.heap.size 2 1 (.slice raI ys.length rcI) ys.length (ys.map (Value.int .i64))) w67) := owns_hold0 how
  have hl76 := F75.out.le
  clear how hb
  have HRW : Hid (∀ q, (Value.slice raI ys.length rcI).ownBlock = some q → w58.heap.size ≤ q ∧ q < w67.heap.size) := fun q e => (F75.out.out.lt q e)
  go_upto_region 16 with fail
  obtain ⟨w77, hX⟩ : ∃ X, X = w67.alloc (.cells #[.int .i64 c, .int .i64 cx.k, .int .i64 cx.e, .int .i64 cx.f, .int .i64 cx.s, .int .i64 cx.n, .slice raI ys.length rcI] 58) := ⟨_, rfl⟩
  rw [← hX]
  have hb : Below w67.heap.size w67 w77 := by rw [hX]; exact (Below.refl _ _).alloc (Nat.le_refl _) _
  have hbx : Hold w67.heap.size (w67.heap.size + 1) (BoxV w67.heap.size [.int .i64 c, .int .i64 cx.k, .int .i64 cx.e, .int .i64 cx.f, .int .i64 cx.s, .int .i64 cx.n, .slice raI ys.length rcI]) w77 := by rw [hX]; exact boxV_new w67 #[.int .i64 c, .int .i64 cx.k, .int .i64 cx.e, .int .i64 cx.f, .int .i64 cx.s, .int .i64 cx.n, .slice raI ys.length rcI] 58
  clear hX
  have B78 : Hid (Below w.heap.size w w77) := B68.out.trans (hb.mono B68.out.size)
  have hz79 := hb.size
  have F80 : Hid (Hold (w23.heap.size) (w30.heap.size) (fun X => X.ownsRow w23.heap.size 2 1 (.slice raS ys.length rcS) ys.length (ys.map (Value.int .i64))) w77) := F70.out.below hb
  have F81 : Hid (Hold (w30.heap.size) (w30.heap.size + 1) (BoxV w30.heap.size [.int .i64 c, .int .i64 cx.k, .int .i64 cx.e, .int .i64 cx.f, .int .i64 cx.s, .int .i64 cx.n, .slice raS ys.length rcS]) w77) := F71.out.below hb
  have F82 : Hid (HoldB (CpB (xg0) (xh0) len0 z0) w77) := F72.out.below hb
  have F83 : Hid (Hold (xg1) (xg1 + 1) (ShCp xg1 len1 z1) w77) := F73.out.below hb
  have F84 : Hid (Hold (xg2) (xh2) (CpR (xg2) (xh2) len2 z2) w77) := F74.out.below hb
  have F85 : Hid (Hold (w58.heap.size) (w67.heap.size) (fun X => X.ownsRow w58.heap.size 2 1 (.slice raI ys.length rcI) ys.length (ys.map (Value.int .i64))) w77) := F75.out.below hb
  clear B68 F70 F71 F72 F73 F74 F75
  have F86 : Hid (Hold (w67.heap.size) (w67.heap.size + 1) (BoxV w67.heap.size [.int .i64 c, .int .i64 cx.k, .int .i64 cx.e, .int .i64 cx.f, .int .i64 cx.s, .int .i64 cx.n, .slice raI ys.length rcI]) w77) := hbx
  have hl87 := F86.out.le
  clear hbx hb
  have p0 := F86.out.out 0 _ rfl
  have p1 := F86.out.out 1 _ rfl
  have p2 := F86.out.out 2 _ rfl
  have p3 := F86.out.out 3 _ rfl
  have p4 := F86.out.out 4 _ rfl
  have p5 := F86.out.out 5 _ rfl
  have p6 := F86.out.out 6 _ rfl
  have q0 := F81.out.out 0 _ rfl
  have q1 := F81.out.out 1 _ rfl
  have q2 := F81.out.out 2 _ rfl
  have q3 := F81.out.out 3 _ rfl
  have q4 := F81.out.out 4 _ rfl
  have q5 := F81.out.out 5 _ rfl
  have q6 := F81.out.out 6 _ rfl
  go_wp2_with fail
  refine (eqCertR_same c cx raI raS ys.length rcI rcS ys _ hyl (row_of_owns F85.out.out) (row_of_owns F80.out.out)).mono ?_
  rintro e w88 ⟨rfl, hb⟩
  clear p0 p1 p2 p3 p4 p5 p6 q0 q1 q2 q3 q4 q5 q6
  have B89 : Hid (Below w.heap.size w w88) := B78.out.trans (hb.mono B78.out.size)
  have hz90 := hb.size
  have F91 : Hid (Hold (w23.heap.size) (w30.heap.size) (fun X => X.ownsRow w23.heap.size 2 1 (.slice raS ys.length rcS) ys.length (ys.map (Value.int .i64))) w88) := F80.out.below hb
  have F92 : Hid (Hold (w30.heap.size) (w30.heap.size + 1) (BoxV w30.heap.size [.int .i64 c, .int .i64 cx.k, .int .i64 cx.e, .int .i64 cx.f, .int .i64 cx.s, .int .i64 cx.n, .slice raS ys.length rcS]) w88) := F81.out.below hb
  have F93 : Hid (HoldB (CpB (xg0) (xh0) len0 z0) w88) := F82.out.below hb
  have F94 : Hid (Hold (xg1) (xg1 + 1) (ShCp xg1 len1 z1) w88) := F83.out.below hb
  have F95 : Hid (Hold (xg2) (xh2) (CpR (xg2) (xh2) len2 z2) w88) := F84.out.below hb
  have F96 : Hid (Hold (w58.heap.size) (w67.heap.size) (fun X => X.ownsRow w58.heap.size 2 1 (.slice raI ys.length rcI) ys.length (ys.map (Value.int .i64))) w88) := F85.out.below hb
  have F97 : Hid (Hold (w67.heap.size) (w67.heap.size + 1) (BoxV w67.heap.size [.int .i64 c, .int .i64 cx.k, .int .i64 cx.e, .int .i64 cx.f, .int .i64 cx.s, .int .i64 cx.n, .slice raI ys.length rcI]) w88) := F86.out.below hb
  clear B78 F80 F81 F82 F83 F84 F85 F86
  clear hb
  go_wp2_with fail
  refine (toConfigs_c a0 len0 cap0 z0 _ hs0 HLE0.out (H0.out.below B89.out)).mono ?_
  rintro e w98 ⟨rfl, dsT, hct⟩
  have hb := hct.bl
  have B99 : Hid (Below w.heap.size w w98) := B89.out.trans (hb.mono B89.out.size)
  have hz100 := hb.size
  have F101 : Hid (Hold (w23.heap.size) (w30.heap.size) (fun X => X.ownsRow w23.heap.size 2 1 (.slice raS ys.length rcS) ys.length (ys.map (Value.int .i64))) w98) := F91.out.below hb
  have F102 : Hid (Hold (w30.heap.size) (w30.heap.size + 1) (BoxV w30.heap.size [.int .i64 c, .int .i64 cx.k, .int .i64 cx.e, .int .i64 cx.f, .int .i64 cx.s, .int .i64 cx.n, .slice raS ys.length rcS]) w98) := F92.out.below hb
  have F103 : Hid (HoldB (CpB (xg0) (xh0) len0 z0) w98) := F93.out.below hb
  have F104 : Hid (Hold (xg1) (xg1 + 1) (ShCp xg1 len1 z1) w98) := F94.out.below hb
  have F105 : Hid (Hold (xg2) (xh2) (CpR (xg2) (xh2) len2 z2) w98) := F95.out.below hb
  have F106 : Hid (Hold (w58.heap.size) (w67.heap.size) (fun X => X.ownsRow w58.heap.size 2 1 (.slice raI ys.length rcI) ys.length (ys.map (Value.int .i64))) w98) := F96.out.below hb
  have F107 : Hid (Hold (w67.heap.size) (w67.heap.size + 1) (BoxV w67.heap.size [.int .i64 c, .int .i64 cx.k, .int .i64 cx.e, .int .i64 cx.f, .int .i64 cx.s, .int .i64 cx.n, .slice raI ys.length rcI]) w98) := F97.out.below hb
  clear B89 F91 F92 F93 F94 F95 F96 F97
  have F108 : Hid (HoldB (CpB (w88.heap.size) (w98.heap.size) len0 z0) w98) := hct.cpB hs0 H0.out HLE0.out
  clear hb hct
  go_wp2_with fail
  refine (eqCpB_c _ _ hs0 F103.out.out F108.out.out).mono ?_
  rintro e w109 ⟨rfl, hb⟩
  clear F108
  have B110 : Hid (Below w.heap.size w w109) := B99.out.trans (hb.mono B99.out.size)
  have hz111 := hb.size
  have F112 : Hid (Hold (w23.heap.size) (w30.heap.size) (fun X => X.ownsRow w23.heap.size 2 1 (.slice raS ys.length rcS) ys.length (ys.map (Value.int .i64))) w109) := F101.out.below hb
  have F113 : Hid (Hold (w30.heap.size) (w30.heap.size + 1) (BoxV w30.heap.size [.int .i64 c, .int .i64 cx.k, .int .i64 cx.e, .int .i64 cx.f, .int .i64 cx.s, .int .i64 cx.n, .slice raS ys.length rcS]) w109) := F102.out.below hb
  have F114 : Hid (HoldB (CpB (xg0) (xh0) len0 z0) w109) := F103.out.below hb
  have F115 : Hid (Hold (xg1) (xg1 + 1) (ShCp xg1 len1 z1) w109) := F104.out.below hb
  have F116 : Hid (Hold (xg2) (xh2) (CpR (xg2) (xh2) len2 z2) w109) := F105.out.below hb
  have F117 : Hid (Hold (w58.heap.size) (w67.heap.size) (fun X => X.ownsRow w58.heap.size 2 1 (.slice raI ys.length rcI) ys.length (ys.map (Value.int .i64))) w109) := F106.out.below hb
  have F118 : Hid (Hold (w67.heap.size) (w67.heap.size + 1) (BoxV w67.heap.size [.int .i64 c, .int .i64 cx.k, .int .i64 cx.e, .int .i64 cx.f, .int .i64 cx.s, .int .i64 cx.n, .slice raI ys.length rcI]) w109) := F107.out.below hb
  clear B99 F101 F102 F103 F104 F105 F106 F107
  clear hb
  go_wp2_with fail
  refine (toShares_room a1 len1 cap1 z1 _ hs1 (H1.out.below B110.out)).mono ?_
  rintro e w119 ⟨rfl, hat, hlt, hb, hroom⟩
  have B120 : Hid (Below w.heap.size w w119) := B110.out.trans (hb.mono B110.out.size)
  have hz121 := hb.size
  have F122 : Hid (Hold (w23.heap.size) (w30.heap.size) (fun X => X.ownsRow w23.heap.size 2 1 (.slice raS ys.length rcS) ys.length (ys.map (Value.int .i64))) w119) := F112.out.below hb
  have F123 : Hid (Hold (w30.heap.size) (w30.heap.size + 1) (BoxV w30.heap.size [.int .i64 c, .int .i64 cx.k, .int .i64 cx.e, .int .i64 cx.f, .int .i64 cx.s, .int .i64 cx.n, .slice raS ys.length rcS]) w119) := F113.out.below hb
  have F124 : Hid (HoldB (CpB (xg0) (xh0) len0 z0) w119) := F114.out.below hb
  have F125 : Hid (Hold (xg1) (xg1 + 1) (ShCp xg1 len1 z1) w119) := F115.out.below hb
  have F126 : Hid (Hold (xg2) (xh2) (CpR (xg2) (xh2) len2 z2) w119) := F116.out.below hb
  have F127 : Hid (Hold (w58.heap.size) (w67.heap.size) (fun X => X.ownsRow w58.heap.size 2 1 (.slice raI ys.length rcI) ys.length (ys.map (Value.int .i64))) w119) := F117.out.below hb
  have F128 : Hid (Hold (w67.heap.size) (w67.heap.size + 1) (BoxV w67.heap.size [.int .i64 c, .int .i64 cx.k, .int .i64 cx.e, .int .i64 cx.f, .int .i64 cx.s, .int .i64 cx.n, .slice raI ys.length rcI]) w119) := F118.out.below hb
  clear B110 F112 F113 F114 F115 F116 F117 F118
  have F129 : Hid (Hold (w109.heap.size) (w109.heap.size + 1) (ShCp w109.heap.size len1 z1) w119) := ShCp.hold ⟨hat, hroom⟩ hlt
  have hl130 := F129.out.le
  clear hat hroom hlt hb
  go_wp2_with fail
  refine (eqShares_same _ _ len1 _ _ z1 _ hs1 (ShIn.of HZ1.out F125.out.out.1) (ShIn.of HZ1.out F129.out.out.1)).mono ?_
  rintro e w131 ⟨rfl, hb⟩
  clear F129
  have B132 : Hid (Below w.heap.size w w131) := B120.out.trans (hb.mono B120.out.size)
  have hz133 := hb.size
  have F134 : Hid (Hold (w23.heap.size) (w30.heap.size) (fun X => X.ownsRow w23.heap.size 2 1 (.slice raS ys.length rcS) ys.length (ys.map (Value.int .i64))) w131) := F122.out.below hb
  have F135 : Hid (Hold (w30.heap.size) (w30.heap.size + 1) (BoxV w30.heap.size [.int .i64 c, .int .i64 cx.k, .int .i64 cx.e, .int .i64 cx.f, .int .i64 cx.s, .int .i64 cx.n, .slice raS ys.length rcS]) w131) := F123.out.below hb
  have F136 : Hid (HoldB (CpB (xg0) (xh0) len0 z0) w131) := F124.out.below hb
  have F137 : Hid (Hold (xg1) (xg1 + 1) (ShCp xg1 len1 z1) w131) := F125.out.below hb
  have F138 : Hid (Hold (xg2) (xh2) (CpR (xg2) (xh2) len2 z2) w131) := F126.out.below hb
  have F139 : Hid (Hold (w58.heap.size) (w67.heap.size) (fun X => X.ownsRow w58.heap.size 2 1 (.slice raI ys.length rcI) ys.length (ys.map (Value.int .i64))) w131) := F127.out.below hb
  have F140 : Hid (Hold (w67.heap.size) (w67.heap.size + 1) (BoxV w67.heap.size [.int .i64 c, .int .i64 cx.k, .int .i64 cx.e, .int .i64 cx.f, .int .i64 cx.s, .int .i64 cx.n, .slice raI ys.length rcI]) w131) := F128.out.below hb
  clear B120 F122 F123 F124 F125 F126 F127 F128
  clear hb
  go_wp2_with fail
  refine (toCerts_c a2 len2 cap2 z2 _ hs2 HLE2.out (H2.out.below B132.out)).mono ?_
  rintro e w141 ⟨rfl, dsT, hct⟩
  have hb := hct.bl
  have B142 : Hid (Below w.heap.size w w141) := B132.out.trans (hb.mono B132.out.size)
  have hz143 := hb.size
  have F144 : Hid (Hold (w23.heap.size) (w30.heap.size) (fun X => X.ownsRow w23.heap.size 2 1 (.slice raS ys.length rcS) ys.length (ys.map (Value.int .i64))) w141) := F134.out.below hb
  have F145 : Hid (Hold (w30.heap.size) (w30.heap.size + 1) (BoxV w30.heap.size [.int .i64 c, .int .i64 cx.k, .int .i64 cx.e, .int .i64 cx.f, .int .i64 cx.s, .int .i64 cx.n, .slice raS ys.length rcS]) w141) := F135.out.below hb
  have F146 : Hid (HoldB (CpB (xg0) (xh0) len0 z0) w141) := F136.out.below hb
  have F147 : Hid (Hold (xg1) (xg1 + 1) (ShCp xg1 len1 z1) w141) := F137.out.below hb
  have F148 : Hid (Hold (xg2) (xh2) (CpR (xg2) (xh2) len2 z2) w141) := F138.out.below hb
  have F149 : Hid (Hold (w58.heap.size) (w67.heap.size) (fun X => X.ownsRow w58.heap.size 2 1 (.slice raI ys.length rcI) ys.length (ys.map (Value.int .i64))) w141) := F139.out.below hb
  have F150 : Hid (Hold (w67.heap.size) (w67.heap.size + 1) (BoxV w67.heap.size [.int .i64 c, .int .i64 cx.k, .int .i64 cx.e, .int .i64 cx.f, .int .i64 cx.s, .int .i64 cx.n, .slice raI ys.length rcI]) w141) := F140.out.below hb
  clear B132 F134 F135 F136 F137 F138 F139 F140
  have F151 : Hid (Hold (w131.heap.size) (w141.heap.size) (CpR (w131.heap.size) (w141.heap.size) len2 z2) w141) := hct.cpH H2.out HLE2.out
  have hl152 := F151.out.le
  clear hb hct
  go_wp2_with fail
  refine (eqCpR_c _ _ hs2 F148.out.out F151.out.out).mono ?_
  rintro e w153 ⟨rfl, hb⟩
  clear F151
  have B154 : Hid (Below w.heap.size w w153) := B142.out.trans (hb.mono B142.out.size)
  have hz155 := hb.size
  have F156 : Hid (Hold (w23.heap.size) (w30.heap.size) (fun X => X.ownsRow w23.heap.size 2 1 (.slice raS ys.length rcS) ys.length (ys.map (Value.int .i64))) w153) := F144.out.below hb
  have F157 : Hid (Hold (w30.heap.size) (w30.heap.size + 1) (BoxV w30.heap.size [.int .i64 c, .int .i64 cx.k, .int .i64 cx.e, .int .i64 cx.f, .int .i64 cx.s, .int .i64 cx.n, .slice raS ys.length rcS]) w153) := F145.out.below hb
  have F158 : Hid (HoldB (CpB (xg0) (xh0) len0 z0) w153) := F146.out.below hb
  have F159 : Hid (Hold (xg1) (xg1 + 1) (ShCp xg1 len1 z1) w153) := F147.out.below hb
  have F160 : Hid (Hold (xg2) (xh2) (CpR (xg2) (xh2) len2 z2) w153) := F148.out.below hb
  have F161 : Hid (Hold (w58.heap.size) (w67.heap.size) (fun X => X.ownsRow w58.heap.size 2 1 (.slice raI ys.length rcI) ys.length (ys.map (Value.int .i64))) w153) := F149.out.below hb
  have F162 : Hid (Hold (w67.heap.size) (w67.heap.size + 1) (BoxV w67.heap.size [.int .i64 c, .int .i64 cx.k, .int .i64 cx.e, .int .i64 cx.f, .int .i64 cx.s, .int .i64 cx.n, .slice raI ys.length rcI]) w153) := F150.out.below hb
  clear B142 F144 F145 F146 F147 F148 F149 F150
  clear hb
  go_wp2_with fail
  refine (markCpB_c _ ((1 : Int)) hs0 (by omega) (by omega) F158.out.out).mono ?_
  rintro e w163 ⟨kk0, rfl, hkk0, hch⟩
  have B164 : Hid (Below w.heap.size w w163) := below_chg B154.out hch (by have := hNB; omega) B154.out.size
  have hz165 := hch.size
  have F166 : Hid (Hold (w23.heap.size) (w30.heap.size) (fun X => X.ownsRow w23.heap.size 2 1 (.slice raS ys.length rcS) ys.length (ys.map (Value.int .i64))) w163) := F156.out.chg hch (by omega)
  have F167 : Hid (Hold (w30.heap.size) (w30.heap.size + 1) (BoxV w30.heap.size [.int .i64 c, .int .i64 cx.k, .int .i64 cx.e, .int .i64 cx.f, .int .i64 cx.s, .int .i64 cx.n, .slice raS ys.length rcS]) w163) := F157.out.chg hch (by omega)
  have F168 : Hid (Hold (xg1) (xg1 + 1) (ShCp xg1 len1 z1) w163) := F159.out.chg hch (by omega)
  have F169 : Hid (Hold (xg2) (xh2) (CpR (xg2) (xh2) len2 z2) w163) := F160.out.chg hch (by omega)
  have F170 : Hid (Hold (w58.heap.size) (w67.heap.size) (fun X => X.ownsRow w58.heap.size 2 1 (.slice raI ys.length rcI) ys.length (ys.map (Value.int .i64))) w163) := F161.out.chg hch (by omega)
  have F171 : Hid (Hold (w67.heap.size) (w67.heap.size + 1) (BoxV w67.heap.size [.int .i64 c, .int .i64 cx.k, .int .i64 cx.e, .int .i64 cx.f, .int .i64 cx.s, .int .i64 cx.n, .slice raI ys.length rcI]) w163) := F162.out.chg hch (by omega)
  clear B154 F156 F157 F159 F160 F161 F162 F158
  clear hch
  have hlI0 : (len0 : Int) ≤ 1048576 := by omega
  go_wp2_with fail
  refine (markSharesBig_c xg1 len1 len1 (kk0) _ hs1 (by omega) (by omega) F168.out.out.2).mono ?_
  rintro e w172 ⟨rfl, hg⟩
  have hch : Chg xg1 (xg1 + 1) w163 w172 := Chg.grown hg (fun q e => by cases e; omega)
  have B173 : Hid (Below w.heap.size w w172) := below_chg B164.out hch (by have := hNB; omega) B164.out.size
  have hz174 := hch.size
  have F175 : Hid (Hold (w23.heap.size) (w30.heap.size) (fun X => X.ownsRow w23.heap.size 2 1 (.slice raS ys.length rcS) ys.length (ys.map (Value.int .i64))) w172) := F166.out.chg hch (by omega)
  have F176 : Hid (Hold (w30.heap.size) (w30.heap.size + 1) (BoxV w30.heap.size [.int .i64 c, .int .i64 cx.k, .int .i64 cx.e, .int .i64 cx.f, .int .i64 cx.s, .int .i64 cx.n, .slice raS ys.length rcS]) w172) := F167.out.chg hch (by omega)
  have F177 : Hid (Hold (xg2) (xh2) (CpR (xg2) (xh2) len2 z2) w172) := F169.out.chg hch (by omega)
  have F178 : Hid (Hold (w58.heap.size) (w67.heap.size) (fun X => X.ownsRow w58.heap.size 2 1 (.slice raI ys.length rcI) ys.length (ys.map (Value.int .i64))) w172) := F170.out.chg hch (by omega)
  have F179 : Hid (Hold (w67.heap.size) (w67.heap.size + 1) (BoxV w67.heap.size [.int .i64 c, .int .i64 cx.k, .int .i64 cx.e, .int .i64 cx.f, .int .i64 cx.s, .int .i64 cx.n, .slice raI ys.length rcI]) w172) := F171.out.chg hch (by omega)
  clear B164 F166 F167 F169 F170 F171 F168
  clear hch hg
  go_wp2_with fail
  refine (markCpR_c _ (kk0 + 6 * (len1 : Int)) hs2 (by omega) (by omega) F177.out.out).mono ?_
  rintro e w180 ⟨kk2, rfl, hkk2, hch⟩
  have B181 : Hid (Below w.heap.size w w180) := below_chg B173.out hch (by have := hNB; omega) B173.out.size
  have hz182 := hch.size
  have F183 : Hid (Hold (w23.heap.size) (w30.heap.size) (fun X => X.ownsRow w23.heap.size 2 1 (.slice raS ys.length rcS) ys.length (ys.map (Value.int .i64))) w180) := F175.out.chg hch (by omega)
  have F184 : Hid (Hold (w30.heap.size) (w30.heap.size + 1) (BoxV w30.heap.size [.int .i64 c, .int .i64 cx.k, .int .i64 cx.e, .int .i64 cx.f, .int .i64 cx.s, .int .i64 cx.n, .slice raS ys.length rcS]) w180) := F176.out.chg hch (by omega)
  have F185 : Hid (Hold (w58.heap.size) (w67.heap.size) (fun X => X.ownsRow w58.heap.size 2 1 (.slice raI ys.length rcI) ys.length (ys.map (Value.int .i64))) w180) := F178.out.chg hch (by omega)
  have F186 : Hid (Hold (w67.heap.size) (w67.heap.size + 1) (BoxV w67.heap.size [.int .i64 c, .int .i64 cx.k, .int .i64 cx.e, .int .i64 cx.f, .int .i64 cx.s, .int .i64 cx.n, .slice raI ys.length rcI]) w180) := F179.out.chg hch (by omega)
  clear B173 F175 F176 F178 F179 F177
  clear hch
  have hlI2 : (len2 : Int) ≤ 1048576 := by omega
  have hk0 : decide ((kk2 : Int) < 0) = false := by simp; omega
  have p0 := F186.out.out 0 _ rfl
  have p1 := F186.out.out 1 _ rfl
  have p2 := F186.out.out 2 _ rfl
  have p3 := F186.out.out 3 _ rfl
  have p4 := F186.out.out 4 _ rfl
  have p5 := F186.out.out 5 _ rfl
  have p6 := F186.out.out 6 _ rfl
  have q0 := F184.out.out 0 _ rfl
  have q1 := F184.out.out 1 _ rfl
  have q2 := F184.out.out 2 _ rfl
  have q3 := F184.out.out 3 _ rfl
  have q4 := F184.out.out 4 _ rfl
  have q5 := F184.out.out 5 _ rfl
  have q6 := F184.out.out 6 _ rfl
  go_wp2_with fail
  refine (eqCertR_same c cx raI raS ys.length rcI rcS ys _ hyl (row_of_owns F185.out.out) (row_of_owns F183.out.out)).mono ?_
  rintro e w187 ⟨rfl, hb⟩
  clear p0 p1 p2 p3 p4 p5 p6 q0 q1 q2 q3 q4 q5 q6
  have B188 : Hid (Below w.heap.size w w187) := B181.out.trans (hb.mono B181.out.size)
  have hz189 := hb.size
  have F190 : Hid (Hold (w23.heap.size) (w30.heap.size) (fun X => X.ownsRow w23.heap.size 2 1 (.slice raS ys.length rcS) ys.length (ys.map (Value.int .i64))) w187) := F183.out.below hb
  have F191 : Hid (Hold (w30.heap.size) (w30.heap.size + 1) (BoxV w30.heap.size [.int .i64 c, .int .i64 cx.k, .int .i64 cx.e, .int .i64 cx.f, .int .i64 cx.s, .int .i64 cx.n, .slice raS ys.length rcS]) w187) := F184.out.below hb
  have F192 : Hid (Hold (w58.heap.size) (w67.heap.size) (fun X => X.ownsRow w58.heap.size 2 1 (.slice raI ys.length rcI) ys.length (ys.map (Value.int .i64))) w187) := F185.out.below hb
  have F193 : Hid (Hold (w67.heap.size) (w67.heap.size + 1) (BoxV w67.heap.size [.int .i64 c, .int .i64 cx.k, .int .i64 cx.e, .int .i64 cx.f, .int .i64 cx.s, .int .i64 cx.n, .slice raI ys.length rcI]) w187) := F186.out.below hb
  clear B181 F183 F184 F185 F186
  clear hb
  have p0 := F193.out.out 0 _ rfl
  have p1 := F193.out.out 1 _ rfl
  have p2 := F193.out.out 2 _ rfl
  have p3 := F193.out.out 3 _ rfl
  have p4 := F193.out.out 4 _ rfl
  have p5 := F193.out.out 5 _ rfl
  have p6 := F193.out.out 6 _ rfl
  go_wp2_with fail
  refine (markCertR_c c cx _ raI ys.length rcI _ _ hyl F192.out.out).mono ?_
  rintro e w194 ⟨rfl, how, hg⟩
  clear p0 p1 p2 p3 p4 p5 p6
  have hch : Chg w58.heap.size w67.heap.size w187 w194 := Chg.grown hg (fun q e => HRW.out q e)
  have hzc := hch.size
  have B195 : Hid (Below w.heap.size w w194) := below_chg B188.out hch (by have := hNB; omega) B188.out.size
  have hz196 := hch.size
  have F197 : Hid (Hold (w23.heap.size) (w30.heap.size) (fun X => X.ownsRow w23.heap.size 2 1 (.slice raS ys.length rcS) ys.length (ys.map (Value.int .i64))) w194) := F190.out.chg hch (by omega)
  have F198 : Hid (Hold (w30.heap.size) (w30.heap.size + 1) (BoxV w30.heap.size [.int .i64 c, .int .i64 cx.k, .int .i64 cx.e, .int .i64 cx.f, .int .i64 cx.s, .int .i64 cx.n, .slice raS ys.length rcS]) w194) := F191.out.chg hch (by omega)
  have F199 : Hid (Hold (w67.heap.size) (w67.heap.size + 1) (BoxV w67.heap.size [.int .i64 c, .int .i64 cx.k, .int .i64 cx.e, .int .i64 cx.f, .int .i64 cx.s, .int .i64 cx.n, .slice raI ys.length rcI]) w194) := F193.out.chg hch (by omega)
  clear B188 F190 F191 F193 F192
  have F200 : Hid (Hold (w58.heap.size) (w67.heap.size) (fun X => X.ownsRow w58.heap.size 2 1 (.slice raI ys.length rcI) ys.length ((marks 1 ys.length).map (Value.int .i64))) w194) := owns_hold how _ (fun q e => (HRW.out q e).2) (by omega)
  have hl201 := F200.out.le
  clear how hg hch hzc
  have hq0 : decide ((1 : Int) + (ys.length : Int) < 0) = false := by simp; omega
  have p0 := F199.out.out 0 _ rfl
  have p1 := F199.out.out 1 _ rfl
  have p2 := F199.out.out 2 _ rfl
  have p3 := F199.out.out 3 _ rfl
  have p4 := F199.out.out 4 _ rfl
  have p5 := F199.out.out 5 _ rfl
  have p6 := F199.out.out 6 _ rfl
  go_wp2_with fail
  refine (heldCertR_c c cx raI ys.length rcI _ hyl (row_of_owns F200.out.out)).mono ?_
  rintro e w202 ⟨rfl, hb⟩
  clear p0 p1 p2 p3 p4 p5 p6
  have B203 : Hid (Below w.heap.size w w202) := B195.out.trans (hb.mono B195.out.size)
  have hz204 := hb.size
  have F205 : Hid (Hold (w23.heap.size) (w30.heap.size) (fun X => X.ownsRow w23.heap.size 2 1 (.slice raS ys.length rcS) ys.length (ys.map (Value.int .i64))) w202) := F197.out.below hb
  have F206 : Hid (Hold (w30.heap.size) (w30.heap.size + 1) (BoxV w30.heap.size [.int .i64 c, .int .i64 cx.k, .int .i64 cx.e, .int .i64 cx.f, .int .i64 cx.s, .int .i64 cx.n, .slice raS ys.length rcS]) w202) := F198.out.below hb
  have F207 : Hid (Hold (w67.heap.size) (w67.heap.size + 1) (BoxV w67.heap.size [.int .i64 c, .int .i64 cx.k, .int .i64 cx.e, .int .i64 cx.f, .int .i64 cx.s, .int .i64 cx.n, .slice raI ys.length rcI]) w202) := F199.out.below hb
  have F208 : Hid (Hold (w58.heap.size) (w67.heap.size) (fun X => X.ownsRow w58.heap.size 2 1 (.slice raI ys.length rcI) ys.length ((marks 1 ys.length).map (Value.int .i64))) w202) := F200.out.below hb
  clear B195 F197 F198 F199 F200
  clear hb
  go_wp2_with fail
  refine (toConfigs_c a0 len0 cap0 z0 _ hs0 HLE0.out (H0.out.below B203.out)).mono ?_
  rintro e w209 ⟨rfl, dsT, hct⟩
  have hb := hct.bl
  have B210 : Hid (Below w.heap.size w w209) := B203.out.trans (hb.mono B203.out.size)
  have hz211 := hb.size
  have F212 : Hid (Hold (w23.heap.size) (w30.heap.size) (fun X => X.ownsRow w23.heap.size 2 1 (.slice raS ys.length rcS) ys.length (ys.map (Value.int .i64))) w209) := F205.out.below hb
  have F213 : Hid (Hold (w30.heap.size) (w30.heap.size + 1) (BoxV w30.heap.size [.int .i64 c, .int .i64 cx.k, .int .i64 cx.e, .int .i64 cx.f, .int .i64 cx.s, .int .i64 cx.n, .slice raS ys.length rcS]) w209) := F206.out.below hb
  have F214 : Hid (Hold (w67.heap.size) (w67.heap.size + 1) (BoxV w67.heap.size [.int .i64 c, .int .i64 cx.k, .int .i64 cx.e, .int .i64 cx.f, .int .i64 cx.s, .int .i64 cx.n, .slice raI ys.length rcI]) w209) := F207.out.below hb
  have F215 : Hid (Hold (w58.heap.size) (w67.heap.size) (fun X => X.ownsRow w58.heap.size 2 1 (.slice raI ys.length rcI) ys.length ((marks 1 ys.length).map (Value.int .i64))) w209) := F208.out.below hb
  clear B203 F205 F206 F207 F208
  have F216 : Hid (HoldB (CpB (w202.heap.size) (w209.heap.size) len0 z0) w209) := hct.cpB hs0 H0.out HLE0.out
  clear hb hct
  go_wp2_with fail
  refine (toShares_room a1 len1 cap1 z1 _ hs1 (H1.out.below B210.out)).mono ?_
  rintro e w217 ⟨rfl, hat, hlt, hb, hroom⟩
  have B218 : Hid (Below w.heap.size w w217) := B210.out.trans (hb.mono B210.out.size)
  have hz219 := hb.size
  have F220 : Hid (Hold (w23.heap.size) (w30.heap.size) (fun X => X.ownsRow w23.heap.size 2 1 (.slice raS ys.length rcS) ys.length (ys.map (Value.int .i64))) w217) := F212.out.below hb
  have F221 : Hid (Hold (w30.heap.size) (w30.heap.size + 1) (BoxV w30.heap.size [.int .i64 c, .int .i64 cx.k, .int .i64 cx.e, .int .i64 cx.f, .int .i64 cx.s, .int .i64 cx.n, .slice raS ys.length rcS]) w217) := F213.out.below hb
  have F222 : Hid (Hold (w67.heap.size) (w67.heap.size + 1) (BoxV w67.heap.size [.int .i64 c, .int .i64 cx.k, .int .i64 cx.e, .int .i64 cx.f, .int .i64 cx.s, .int .i64 cx.n, .slice raI ys.length rcI]) w217) := F214.out.below hb
  have F223 : Hid (Hold (w58.heap.size) (w67.heap.size) (fun X => X.ownsRow w58.heap.size 2 1 (.slice raI ys.length rcI) ys.length ((marks 1 ys.length).map (Value.int .i64))) w217) := F215.out.below hb
  have F224 : Hid (HoldB (CpB (w202.heap.size) (w209.heap.size) len0 z0) w217) := F216.out.below hb
  clear B210 F212 F213 F214 F215 F216
  have F225 : Hid (Hold (w209.heap.size) (w209.heap.size + 1) (ShCp w209.heap.size len1 z1) w217) := ShCp.hold ⟨hat, hroom⟩ hlt
  have hl226 := F225.out.le
  clear hat hroom hlt hb
  go_wp2_with fail
  refine (toCerts_c a2 len2 cap2 z2 _ hs2 HLE2.out (H2.out.below B218.out)).mono ?_
  rintro e w227 ⟨rfl, dsT, hct⟩
  have hb := hct.bl
  have B228 : Hid (Below w.heap.size w w227) := B218.out.trans (hb.mono B218.out.size)
  have hz229 := hb.size
  have F230 : Hid (Hold (w23.heap.size) (w30.heap.size) (fun X => X.ownsRow w23.heap.size 2 1 (.slice raS ys.length rcS) ys.length (ys.map (Value.int .i64))) w227) := F220.out.below hb
  have F231 : Hid (Hold (w30.heap.size) (w30.heap.size + 1) (BoxV w30.heap.size [.int .i64 c, .int .i64 cx.k, .int .i64 cx.e, .int .i64 cx.f, .int .i64 cx.s, .int .i64 cx.n, .slice raS ys.length rcS]) w227) := F221.out.below hb
  have F232 : Hid (Hold (w67.heap.size) (w67.heap.size + 1) (BoxV w67.heap.size [.int .i64 c, .int .i64 cx.k, .int .i64 cx.e, .int .i64 cx.f, .int .i64 cx.s, .int .i64 cx.n, .slice raI ys.length rcI]) w227) := F222.out.below hb
  have F233 : Hid (Hold (w58.heap.size) (w67.heap.size) (fun X => X.ownsRow w58.heap.size 2 1 (.slice raI ys.length rcI) ys.length ((marks 1 ys.length).map (Value.int .i64))) w227) := F223.out.below hb
  have F234 : Hid (HoldB (CpB (w202.heap.size) (w209.heap.size) len0 z0) w227) := F224.out.below hb
  have F235 : Hid (Hold (w209.heap.size) (w209.heap.size + 1) (ShCp w209.heap.size len1 z1) w227) := F225.out.below hb
  clear B218 F220 F221 F222 F223 F224 F225
  have F236 : Hid (Hold (w217.heap.size) (w227.heap.size) (CpR (w217.heap.size) (w227.heap.size) len2 z2) w227) := hct.cpH H2.out HLE2.out
  have hl237 := F236.out.le
  clear hb hct
  go_wp2_with fail
  refine (HIM.out _ _ _ _ _ _ F234.out.out F235.out.out F236.out.out).mono ?_
  rintro e w238 ⟨raH, rcH, rfl, how, hb⟩
  have B239 : Hid (Below w.heap.size w w238) := B228.out.trans (hb.mono B228.out.size)
  have hz240 := hb.size
  have F241 : Hid (Hold (w23.heap.size) (w30.heap.size) (fun X => X.ownsRow w23.heap.size 2 1 (.slice raS ys.length rcS) ys.length (ys.map (Value.int .i64))) w238) := F230.out.below hb
  have F242 : Hid (Hold (w30.heap.size) (w30.heap.size + 1) (BoxV w30.heap.size [.int .i64 c, .int .i64 cx.k, .int .i64 cx.e, .int .i64 cx.f, .int .i64 cx.s, .int .i64 cx.n, .slice raS ys.length rcS]) w238) := F231.out.below hb
  have F243 : Hid (Hold (w67.heap.size) (w67.heap.size + 1) (BoxV w67.heap.size [.int .i64 c, .int .i64 cx.k, .int .i64 cx.e, .int .i64 cx.f, .int .i64 cx.s, .int .i64 cx.n, .slice raI ys.length rcI]) w238) := F232.out.below hb
  have F244 : Hid (Hold (w58.heap.size) (w67.heap.size) (fun X => X.ownsRow w58.heap.size 2 1 (.slice raI ys.length rcI) ys.length ((marks 1 ys.length).map (Value.int .i64))) w238) := F233.out.below hb
  have F245 : Hid (HoldB (CpB (w202.heap.size) (w209.heap.size) len0 z0) w238) := F234.out.below hb
  have F246 : Hid (Hold (w209.heap.size) (w209.heap.size + 1) (ShCp w209.heap.size len1 z1) w238) := F235.out.below hb
  have F247 : Hid (Hold (w217.heap.size) (w227.heap.size) (CpR (w217.heap.size) (w227.heap.size) len2 z2) w238) := F236.out.below hb
  clear B228 F230 F231 F232 F233 F234 F235 F236
  clear F245
  clear F246
  clear F247
  have F248 : Hid (Hold (w227.heap.size) (w238.heap.size) (fun X => X.ownsRow w227.heap.size 2 1 (.slice raH ys.length rcH) ys.length (ys.map (Value.int .i64))) w238) := owns_hold0 how
  have hl249 := F248.out.le
  clear how hb
  go_upto_region 39 with fail
  obtain ⟨w250, hX⟩ : ∃ X, X = w238.alloc (.cells #[.int .i64 c, .int .i64 cx.k, .int .i64 cx.e, .int .i64 cx.f, .int .i64 cx.s, .int .i64 cx.n, .slice raH ys.length rcH] 58) := ⟨_, rfl⟩
  rw [← hX]
  have hb : Below w238.heap.size w238 w250 := by rw [hX]; exact (Below.refl _ _).alloc (Nat.le_refl _) _
  have hbx : Hold w238.heap.size (w238.heap.size + 1) (BoxV w238.heap.size [.int .i64 c, .int .i64 cx.k, .int .i64 cx.e, .int .i64 cx.f, .int .i64 cx.s, .int .i64 cx.n, .slice raH ys.length rcH]) w250 := by rw [hX]; exact boxV_new w238 #[.int .i64 c, .int .i64 cx.k, .int .i64 cx.e, .int .i64 cx.f, .int .i64 cx.s, .int .i64 cx.n, .slice raH ys.length rcH] 58
  clear hX
  have B251 : Hid (Below w.heap.size w w250) := B239.out.trans (hb.mono B239.out.size)
  have hz252 := hb.size
  have F253 : Hid (Hold (w23.heap.size) (w30.heap.size) (fun X => X.ownsRow w23.heap.size 2 1 (.slice raS ys.length rcS) ys.length (ys.map (Value.int .i64))) w250) := F241.out.below hb
  have F254 : Hid (Hold (w30.heap.size) (w30.heap.size + 1) (BoxV w30.heap.size [.int .i64 c, .int .i64 cx.k, .int .i64 cx.e, .int .i64 cx.f, .int .i64 cx.s, .int .i64 cx.n, .slice raS ys.length rcS]) w250) := F242.out.below hb
  have F255 : Hid (Hold (w67.heap.size) (w67.heap.size + 1) (BoxV w67.heap.size [.int .i64 c, .int .i64 cx.k, .int .i64 cx.e, .int .i64 cx.f, .int .i64 cx.s, .int .i64 cx.n, .slice raI ys.length rcI]) w250) := F243.out.below hb
  have F256 : Hid (Hold (w58.heap.size) (w67.heap.size) (fun X => X.ownsRow w58.heap.size 2 1 (.slice raI ys.length rcI) ys.length ((marks 1 ys.length).map (Value.int .i64))) w250) := F244.out.below hb
  have F257 : Hid (Hold (w227.heap.size) (w238.heap.size) (fun X => X.ownsRow w227.heap.size 2 1 (.slice raH ys.length rcH) ys.length (ys.map (Value.int .i64))) w250) := F248.out.below hb
  clear B239 F241 F242 F243 F244 F248
  have F258 : Hid (Hold (w238.heap.size) (w238.heap.size + 1) (BoxV w238.heap.size [.int .i64 c, .int .i64 cx.k, .int .i64 cx.e, .int .i64 cx.f, .int .i64 cx.s, .int .i64 cx.n, .slice raH ys.length rcH]) w250) := hbx
  have hl259 := F258.out.le
  clear hbx hb
  have p0 := F258.out.out 0 _ rfl
  have p1 := F258.out.out 1 _ rfl
  have p2 := F258.out.out 2 _ rfl
  have p3 := F258.out.out 3 _ rfl
  have p4 := F258.out.out 4 _ rfl
  have p5 := F258.out.out 5 _ rfl
  have p6 := F258.out.out 6 _ rfl
  have q0 := F254.out.out 0 _ rfl
  have q1 := F254.out.out 1 _ rfl
  have q2 := F254.out.out 2 _ rfl
  have q3 := F254.out.out 3 _ rfl
  have q4 := F254.out.out 4 _ rfl
  have q5 := F254.out.out 5 _ rfl
  have q6 := F254.out.out 6 _ rfl
  go_wp2_with fail
  refine (eqCertR_same c cx raH raS ys.length rcH rcS ys _ hyl (row_of_owns F257.out.out) (row_of_owns F253.out.out)).mono ?_
  rintro e w260 ⟨rfl, hb⟩
  clear p0 p1 p2 p3 p4 p5 p6 q0 q1 q2 q3 q4 q5 q6
  have B261 : Hid (Below w.heap.size w w260) := B251.out.trans (hb.mono B251.out.size)
  have hz262 := hb.size
  have F263 : Hid (Hold (w23.heap.size) (w30.heap.size) (fun X => X.ownsRow w23.heap.size 2 1 (.slice raS ys.length rcS) ys.length (ys.map (Value.int .i64))) w260) := F253.out.below hb
  have F264 : Hid (Hold (w30.heap.size) (w30.heap.size + 1) (BoxV w30.heap.size [.int .i64 c, .int .i64 cx.k, .int .i64 cx.e, .int .i64 cx.f, .int .i64 cx.s, .int .i64 cx.n, .slice raS ys.length rcS]) w260) := F254.out.below hb
  have F265 : Hid (Hold (w67.heap.size) (w67.heap.size + 1) (BoxV w67.heap.size [.int .i64 c, .int .i64 cx.k, .int .i64 cx.e, .int .i64 cx.f, .int .i64 cx.s, .int .i64 cx.n, .slice raI ys.length rcI]) w260) := F255.out.below hb
  have F266 : Hid (Hold (w58.heap.size) (w67.heap.size) (fun X => X.ownsRow w58.heap.size 2 1 (.slice raI ys.length rcI) ys.length ((marks 1 ys.length).map (Value.int .i64))) w260) := F256.out.below hb
  have F267 : Hid (Hold (w227.heap.size) (w238.heap.size) (fun X => X.ownsRow w227.heap.size 2 1 (.slice raH ys.length rcH) ys.length (ys.map (Value.int .i64))) w260) := F257.out.below hb
  have F268 : Hid (Hold (w238.heap.size) (w238.heap.size + 1) (BoxV w238.heap.size [.int .i64 c, .int .i64 cx.k, .int .i64 cx.e, .int .i64 cx.f, .int .i64 cx.s, .int .i64 cx.n, .slice raH ys.length rcH]) w260) := F258.out.below hb
  clear B251 F253 F254 F255 F256 F257 F258
  clear hb
  have p0 := F265.out.out 0 _ rfl
  have p1 := F265.out.out 1 _ rfl
  have p2 := F265.out.out 2 _ rfl
  have p3 := F265.out.out 3 _ rfl
  have p4 := F265.out.out 4 _ rfl
  have p5 := F265.out.out 5 _ rfl
  have p6 := F265.out.out 6 _ rfl
  go_wp2_with fail
  refine (heldCertR_c c cx raI ys.length rcI _ hyl (row_of_owns F266.out.out)).mono ?_
  rintro e w269 ⟨rfl, hb⟩
  clear p0 p1 p2 p3 p4 p5 p6
  have B270 : Hid (Below w.heap.size w w269) := B261.out.trans (hb.mono B261.out.size)
  have hz271 := hb.size
  have F272 : Hid (Hold (w23.heap.size) (w30.heap.size) (fun X => X.ownsRow w23.heap.size 2 1 (.slice raS ys.length rcS) ys.length (ys.map (Value.int .i64))) w269) := F263.out.below hb
  have F273 : Hid (Hold (w30.heap.size) (w30.heap.size + 1) (BoxV w30.heap.size [.int .i64 c, .int .i64 cx.k, .int .i64 cx.e, .int .i64 cx.f, .int .i64 cx.s, .int .i64 cx.n, .slice raS ys.length rcS]) w269) := F264.out.below hb
  have F274 : Hid (Hold (w67.heap.size) (w67.heap.size + 1) (BoxV w67.heap.size [.int .i64 c, .int .i64 cx.k, .int .i64 cx.e, .int .i64 cx.f, .int .i64 cx.s, .int .i64 cx.n, .slice raI ys.length rcI]) w269) := F265.out.below hb
  have F275 : Hid (Hold (w58.heap.size) (w67.heap.size) (fun X => X.ownsRow w58.heap.size 2 1 (.slice raI ys.length rcI) ys.length ((marks 1 ys.length).map (Value.int .i64))) w269) := F266.out.below hb
  have F276 : Hid (Hold (w227.heap.size) (w238.heap.size) (fun X => X.ownsRow w227.heap.size 2 1 (.slice raH ys.length rcH) ys.length (ys.map (Value.int .i64))) w269) := F267.out.below hb
  have F277 : Hid (Hold (w238.heap.size) (w238.heap.size + 1) (BoxV w238.heap.size [.int .i64 c, .int .i64 cx.k, .int .i64 cx.e, .int .i64 cx.f, .int .i64 cx.s, .int .i64 cx.n, .slice raH ys.length rcH]) w269) := F268.out.below hb
  clear B261 F263 F264 F265 F266 F267 F268
  clear hb
  go_wp2
  go_ret
  exact ⟨rfl, B270.out⟩

/-! The walk: the Go text returns true. -/
theorem walk (a0 : Option Addr) (len0 cap0 : Nat) (z0 : List ConfI) (a1 : Option Addr) (len1 cap1 : Nat) (z1 : List ShI) (a2 : Option Addr) (len2 cap2 : Nat) (z2 : List CrI) (a3 : Int) (w : World) (w0 : ConfsArg w a0 len0 z0) (w1 : ShArg w a1 len1 z1) (w2 : CrsArg w a2 len2 z2) (w3 : (Lit.int .i64 a3).wf = true) :
    Calls Tryz.prog 5 #[.slice a0 len0 cap0, .slice a1 len1 cap1, .slice a2 len2 cap2, .int .i64 a3] w fun e w' => e = .returned (.bool true) ∧ Below w.heap.size w w' := by
  exact inner a0 len0 cap0 z0 a1 len1 cap1 z1 a2 len2 cap2 z2 a3 (exCode z0 z1 (chL z2) a3) (exX z0 z1 (chL z2) a3) (exL z0 z1 (chL z2) a3) w w0.2.1 w0.2.2 w0.1 w1.2.1 w1.1 w2.2.1 w2.2.2 w2.1 (exL_len z0 z1 (chL z2) a3)
    (fun h0 h1 h2 g0 k0 g1 g2 k2 W q0 q1 q2 => specExtend_same a3 h0 h1 h2 q0 (ShIn.of w1.1.1 q1.1) q2)
    (fun h0 h1 h2 g0 k0 g1 g2 k2 W q0 q1 q2 => implExtend_same a3 h0 h1 h2 q0 (ShIn.of w1.1.1 q1.1) q2)

/-! The row's step. -/
set_option maxRecDepth 100000 in
theorem lifted (os : Os) (started : os.Started) (H : Type) (enc : TypeId × Value → H) :
    ReturnsInHanded {} Tryz.checked os 5 .any (Rows.fnExactExtendChainSpec.pre6 enc Tryz.prog Tryz.f5 Rows.fnExactExtendChainRow.domain false) (Rows.fnExactExtendChainSpec.post enc Tryz.prog Tryz.f5 false true false false) := by
  refine returnsInHanded_of_change (C := Tryz.checked) own started (by kernel_rfl) Tryz.func5
    (ChangeSpec.witness6 (enc := enc) (C := Tryz.checked) false ⟨#[], #[.slice none 0 0, .slice none 0 0, .slice none 0 0, .int .i64 0], []⟩ 8 (by kernel_rfl) (by kernel_rfl) (by kernel_rfl) (by kernel_rfl)) ?_
  intro W base args ds gs before hval0 hW hcnd _
  have hval : ∀ (j : Nat) t v, Tryz.f5.params[j]? = some t → args[j]? = some v → Value.okWide Tryz.prog W .any base t v := hval0
  have hW' := hW
  obtain ⟨p, q, hA0, hV, rfl, hfz, hnd⟩ := hW
  have hA : DataW.TrodAll enc Tryz.prog W 0 (fun _ => true) true Tryz.f5.params.toList args.toList ds p := hA0
  rw [Tryz.params5] at hA hval
  obtain ⟨v0, vs0, d0, ds0, p0, q0, hargs, rfl, rfl, h0, r0⟩ := trodAll_cons hA
  obtain ⟨v1, vs1, d1, ds1, p1, q1, rfl, rfl, rfl, h1, r1⟩ := trodAll_cons r0
  obtain ⟨v2, vs2, d2, ds2, p2, q2, rfl, rfl, rfl, h2, r2⟩ := trodAll_cons r1
  obtain ⟨v3, vs3, d3, ds3, p3, q3, rfl, rfl, rfl, h3, r3⟩ := trodAll_cons r2
  obtain ⟨rfl, rfl, rfl⟩ := trodAll_nil r3
  obtain rfl : args = #[v0, v1, v2, v3] := by cases args; simp_all
  obtain ⟨rfl, rfl⟩ := trodVars_none hV
  obtain ⟨a0, len0, cap0, rfl⟩ := okWide_slice Tryz.underlying22 (hval 0 22 v0 rfl rfl)
  have k0 := h0
  have lt0 : ∀ x ∈ p0, x.block < W.heap.size := by obtain ⟨m, hm⟩ := k0; exact DataW.trod_lt m _ _ _ hm
  obtain ⟨z0, w0⟩ : ∃ zs : List ConfI, ConfsArg W a0 len0 zs := by
    obtain ⟨fuel, hf⟩ := h0
    exact configs_shape hf
  obtain ⟨a1, len1, cap1, rfl⟩ := okWide_slice Tryz.underlying23 (hval 1 23 v1 rfl rfl)
  have k1 := h1
  have lt1 : ∀ x ∈ p1, x.block < W.heap.size := by obtain ⟨m, hm⟩ := k1; exact DataW.trod_lt m _ _ _ hm
  obtain ⟨z1, w1⟩ : ∃ zs : List ShI, ShArg W a1 len1 zs := by
    obtain ⟨fuel, hf⟩ := h1
    exact shares_shape hf
  obtain ⟨a2, len2, cap2, rfl⟩ := okWide_slice Tryz.underlying41 (hval 2 41 v2 rfl rfl)
  have k2 := h2
  have lt2 : ∀ x ∈ p2, x.block < W.heap.size := by obtain ⟨m, hm⟩ := k2; exact DataW.trod_lt m _ _ _ hm
  obtain ⟨z2, w2⟩ : ∃ zs : List CrI, CrsArg W a2 len2 zs := by
    obtain ⟨fuel, hf⟩ := h2
    exact certs_shape hf
  obtain ⟨a3, rfl, rfl, rfl, w3⟩ := open_int Tryz.underlying2 (hval 3 2 v3 rfl rfl) h3
  clear hA0 hval0
  refine (walk a0 len0 cap0 z0 a1 len1 cap1 z1 a2 len2 cap2 z2 a3 W w0 w1 w2 w3).mono fun e W' ⟨he, bel⟩ => ?_
  subst he
  exact ⟨_, rfl, _, _, _, [], _, [], hW', trodAll_mk1 (shut_bool Tryz.underlying4 _), (trodAll_cons_mk (Below.trod laidOut (by kernel_rfl) (of_decide_eq_true (by kernel_rfl)) k0 bel lt0) (trodAll_cons_mk (Below.trod laidOut (by kernel_rfl) (of_decide_eq_true (by kernel_rfl)) k1 bel lt1) (trodAll_cons_mk (Below.trod laidOut (by kernel_rfl) (of_decide_eq_true (by kernel_rfl)) k2 bel lt2) (trodAll_cons_mk (shut_int Tryz.underlying2 w3) trodAll_mk0)))), rfl, bel.frame _, fun h => by cases h⟩

theorem over : Rows.fnExactExtendChainRow.holds Tryz.pinned (OpenSpec.ofChange Rows.fnExactExtendChainSpec) :=
  OpenClaim.holds_of_wide 5 Tryz.f5 rfl rfl rfl rfl rfl rfl rfl ⟨rfl, rfl, rfl, rfl, rfl⟩ rfl rfl rfl rfl rfl (by kernel_rfl) Tryz.func5 (by kernel_rfl)
    (of_decide_eq_true (by kernel_rfl)) (by unfold Func.isWrapper; first | (rw [if_pos (by decide +kernel)]; kernel_rfl) | (rw [if_neg (by decide +kernel)]; exact ⟨rfl, rfl⟩))
    (fun os started H enc _ => lifted os started H enc)

end Go.Proofs.YtfkajnenniapaaaGreat.fnExactExtendChain
namespace Go.Proofs.YtfkajnenniapaaaGreat
theorem fnExactExtendChain_holds : Rows.FnExactExtendChainSaid := fnExactExtendChain.over
#print axioms fnExactExtendChain_holds
end Go.Proofs.YtfkajnenniapaaaGreat
