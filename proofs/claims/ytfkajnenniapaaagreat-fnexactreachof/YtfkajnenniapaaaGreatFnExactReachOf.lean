/-
  PROVED: for every slice of configurations and every slice of shares the law laws.FnExactReachOf returns true, that is impl.ReachOf answers as spec.ReachOf there (up to 1<<20 elements in all, as the law itself says), writes nothing into its arguments, and its list is memory of its own, behind another call too; the arguments read as they did.
  Conditions: none beside those that the given row itself bears. The frame is the shell written by program, turned for slices of configurations and of structs; the walk is ours.
-/
import Derived.Test.YtfkajnenniapaaaGreatRows
import Derived.ShutString
import Derived.ChangeOld
import Derived.Test.YtfkajnenniapaaaGreatPr46
import Derived.Test.YtfkajnenniapaaaGreatPr49
import Derived.Test.YtfkajnenniapaaaGreatPr50
namespace Go.Proofs.YtfkajnenniapaaaGreat.fnExactReachOf
open Go.ChangeShapes Go.WideShapes Go.ChangeAt Go.RowKit
open Go.ChangeMaps (open_string shut_string)
set_option linter.unusedVariables false

theorem own : ownKnob Tryz.prog.godebug = none := by kernel_rfl
theorem laidOut : laidOutB Tryz.prog = true := by kernel_rfl

set_option linter.unusedSimpArgs false

abbrev KR0 (W W' : World) : Prop := (∀ b o, b < W.heap.size → W'.cell? ⟨b, o, none⟩ = W.cell? ⟨b, o, none⟩) ∧ Below W.heap.size W W'

set_option maxRecDepth 100000 in
set_option maxHeartbeats 8000000 in
theorem inner (a0 : Option Addr) (len0 cap0 : Nat) (z0 : List ConfI) (a1 : Option Addr) (len1 cap1 : Nat) (z1 : List ShI) (c : Int) (ys : List Int) (w : World) (hm0 : len0 ≤ maxLen) (hq0 : ∀ (k : Nat) c, z0[k]? = some c → ConfLe maxLen c) (h0 : ConfsIn w a0 len0 z0) (hm1 : len1 ≤ maxLen) (h1 : ShIn w a1 len1 z1) (hy : ys.length ≤ 1000)
    (HS : Hid (len0 ≤ 1048576 → len1 ≤ 1048576 → ∀ (g0 h0 : Nat) (g1 : Nat) (W : World), CpB g0 h0 len0 z0 W → ShCp g1 len1 z1 W → Calls Tryz.prog 8 #[.slice (some ⟨g0, 0, none⟩) len0 len0, .slice (some ⟨g1, 0, none⟩) len1 len1] W fun e W' => ∃ a cap, e = .returned (.agg #[.int .i64 c, .slice a ys.length cap]) ∧ W'.ownsRow W.heap.size 2 1 (.slice a ys.length cap) ys.length (ys.map (Value.int .i64)) ∧ Below W.heap.size W W'))
    (HI : Hid (len0 ≤ 1048576 → len1 ≤ 1048576 → ∀ (g0 h0 : Nat) (g1 : Nat) (W : World), CpB g0 h0 len0 z0 W → ShCp g1 len1 z1 W → Calls Tryz.prog 11 #[.slice (some ⟨g0, 0, none⟩) len0 len0, .slice (some ⟨g1, 0, none⟩) len1 len1] W fun e W' => ∃ a cap, e = .returned (.agg #[.int .i64 c, .slice a ys.length cap]) ∧ W'.ownsRow W.heap.size 2 1 (.slice a ys.length cap) ys.length (ys.map (Value.int .i64)) ∧ Below W.heap.size W W')) :
    Calls Tryz.prog 3 #[.slice a0 len0 cap0, .slice a1 len1 cap1] w fun e w' => e = .returned (.bool true) ∧ Below w.heap.size w w' := by
  have H0 : Hid (ConfsIn w a0 len0 z0) := h0
  have HM0 : Hid (∀ (k : Nat) c, z0[k]? = some c → ConfLe maxLen c) := hq0
  clear h0 hq0
  have H1 : Hid (ShIn w a1 len1 z1) := h1
  have HZ1 : Hid (z1.length = len1) := h1.1
  clear h1
  have hyl : ys.length ≤ 1048576 := by omega
  have hyi : (ys.length : Int) ≤ 1000 := by omega
  obtain ⟨V, hV⟩ : ∃ V, V = w := ⟨_, rfl⟩
  have B0 : Hid (Below w.heap.size w V) := by rw [hV]; exact Below.refl _ _
  subst V
  have hz0 := B0.out.size
  go_enter Tryz.func3, Tryz.ntmps3
  go_wp2_with fail
  refine (szConfigs_c a0 len0 cap0 z0 1048576 _ hm0 HM0.out (by omega) (by omega) (H0.out.below B0.out)).mono ?_
  rintro e w2 ⟨⟨v1, rfl, hv, hv2⟩, hb⟩
  have B3 : Hid (Below w.heap.size w w2) := B0.out.trans (hb.mono B0.out.size)
  have hz4 := hb.size
  clear B0
  clear hb
  by_cases hneg : v1 < 0
  · go_wp2
    go_ret
    exact ⟨rfl, B3.out⟩
  have hs0 : len0 ≤ 1048576 := by have := (hv2 (by omega)).1; omega
  have HLE0 : Hid (∀ (k : Nat) c, z0[k]? = some c → ConfLe 1048576 c) := fun k c e => confLe_mono ((hv2 (by omega)).2 k c e) (by omega)
  have hiv1 : 0 ≤ v1 ∧ v1 ≤ 1048576 := ⟨by omega, by omega⟩
  clear hv hv2 hneg HM0
  go_wp2_with fail
  refine (szShares_c a1 len1 cap1 v1 _ hm1 (by omega) (by omega)).mono ?_
  rintro e w6 ⟨⟨v5, rfl, hv, hv2⟩, hb⟩
  have B7 : Hid (Below w.heap.size w w6) := B3.out.trans (hb.mono B3.out.size)
  have hz8 := hb.size
  clear B3
  clear hb
  by_cases hneg : v5 < 0
  · go_wp2
    go_ret
    exact ⟨rfl, B7.out⟩
  have hs1 : len1 ≤ 1048576 := hv2 (by omega)
  have hiv5 : 0 ≤ v5 ∧ v5 ≤ v1 := ⟨by omega, by omega⟩
  clear hv2 hneg
  have HS' := HS.out hs0 hs1
  have HI' := HI.out hs0 hs1
  have HSP : Hid _ := HS'
  have HIM : Hid _ := HI'
  clear HS' HI' HS HI
  go_wp2_with fail
  refine (toConfigs_c a0 len0 cap0 z0 _ hs0 HLE0.out (H0.out.below B7.out)).mono ?_
  rintro e w9 ⟨rfl, dsT, hct⟩
  have hb := hct.bl
  have B10 : Hid (Below w.heap.size w w9) := B7.out.trans (hb.mono B7.out.size)
  have hz11 := hb.size
  clear B7
  have F12 : Hid (HoldB (CpB (w6.heap.size) (w9.heap.size) len0 z0) w9) := hct.cpB hs0 H0.out HLE0.out
  clear hb hct
  go_wp2_with fail
  refine (toShares_room a1 len1 cap1 z1 _ hs1 (H1.out.below B10.out)).mono ?_
  rintro e w13 ⟨rfl, hat, hlt, hb, hroom⟩
  have B14 : Hid (Below w.heap.size w w13) := B10.out.trans (hb.mono B10.out.size)
  have hz15 := hb.size
  have F16 : Hid (HoldB (CpB (w6.heap.size) (w9.heap.size) len0 z0) w13) := F12.out.below hb
  clear B10 F12
  have F17 : Hid (Hold (w9.heap.size) (w9.heap.size + 1) (ShCp w9.heap.size len1 z1) w13) := ShCp.hold ⟨hat, hroom⟩ hlt
  have hl18 := F17.out.le
  clear hat hroom hlt hb
  go_wp2_with fail
  refine (HSP.out _ _ _ _ F16.out.out F17.out.out).mono ?_
  rintro e w19 ⟨raS, rcS, rfl, how, hb⟩
  have B20 : Hid (Below w.heap.size w w19) := B14.out.trans (hb.mono B14.out.size)
  have hz21 := hb.size
  have F22 : Hid (HoldB (CpB (w6.heap.size) (w9.heap.size) len0 z0) w19) := F16.out.below hb
  have F23 : Hid (Hold (w9.heap.size) (w9.heap.size + 1) (ShCp w9.heap.size len1 z1) w19) := F17.out.below hb
  clear B14 F16 F17
  clear F22
  clear F23
  have F24 : Hid (Hold (w13.heap.size) (w19.heap.size) (fun X => X.ownsRow w13.heap.size 2 1 (.slice raS ys.length rcS) ys.length (ys.map (Value.int .i64))) w19) := owns_hold0 how
  have hl25 := F24.out.le
  clear how hb
  go_upto_region 9 with fail
  obtain ⟨w26, hX⟩ : ∃ X, X = w19.alloc (.cells #[.int .i64 c, .slice raS ys.length rcS] 28) := ⟨_, rfl⟩
  rw [← hX]
  have hb : Below w19.heap.size w19 w26 := by rw [hX]; exact (Below.refl _ _).alloc (Nat.le_refl _) _
  have hbx : Hold w19.heap.size (w19.heap.size + 1) (BoxV w19.heap.size [.int .i64 c, .slice raS ys.length rcS]) w26 := by rw [hX]; exact boxV_new w19 #[.int .i64 c, .slice raS ys.length rcS] 28
  clear hX
  have B27 : Hid (Below w.heap.size w w26) := B20.out.trans (hb.mono B20.out.size)
  have hz28 := hb.size
  have F29 : Hid (Hold (w13.heap.size) (w19.heap.size) (fun X => X.ownsRow w13.heap.size 2 1 (.slice raS ys.length rcS) ys.length (ys.map (Value.int .i64))) w26) := F24.out.below hb
  clear B20 F24
  have F30 : Hid (Hold (w19.heap.size) (w19.heap.size + 1) (BoxV w19.heap.size [.int .i64 c, .slice raS ys.length rcS]) w26) := hbx
  have hl31 := F30.out.le
  clear hbx hb
  have hNB : w.heap.size ≤ w26.heap.size := B27.out.size
  go_wp2_with fail
  refine (toConfigs_c a0 len0 cap0 z0 _ hs0 HLE0.out (H0.out.below B27.out)).mono ?_
  rintro e w32 ⟨rfl, dsT, hct⟩
  have hb := hct.bl
  have hlt := hct.lt
  have B33 : Hid (Below w.heap.size w w32) := B27.out.trans (hb.mono B27.out.size)
  have hz34 := hb.size
  have F35 : Hid (Hold (w13.heap.size) (w19.heap.size) (fun X => X.ownsRow w13.heap.size 2 1 (.slice raS ys.length rcS) ys.length (ys.map (Value.int .i64))) w32) := F29.out.below hb
  have F36 : Hid (Hold (w19.heap.size) (w19.heap.size + 1) (BoxV w19.heap.size [.int .i64 c, .slice raS ys.length rcS]) w32) := F30.out.below hb
  clear B27 F29 F30
  obtain ⟨xg0, hxg0⟩ : ∃ g, g = w26.heap.size := ⟨_, rfl⟩
  obtain ⟨xh0, hxh0⟩ : ∃ g, g = w32.heap.size := ⟨_, rfl⟩
  have hgexg0 : w26.heap.size ≤ xg0 := by omega
  have hgxh0 : xg0 < xh0 ∧ xh0 ≤ w32.heap.size := by omega
  have F37 : Hid (HoldB (CpB (xg0) (xh0) len0 z0) w32) := by rw [hxg0, hxh0]; exact hct.cpB hs0 H0.out HLE0.out
  rw [← hxg0]
  clear hb hlt hct hxg0 hxh0
  go_wp2_with fail
  refine (toShares_room a1 len1 cap1 z1 _ hs1 (H1.out.below B33.out)).mono ?_
  rintro e w38 ⟨rfl, hat, hlt, hb, hroom⟩
  have B39 : Hid (Below w.heap.size w w38) := B33.out.trans (hb.mono B33.out.size)
  have hz40 := hb.size
  have F41 : Hid (Hold (w13.heap.size) (w19.heap.size) (fun X => X.ownsRow w13.heap.size 2 1 (.slice raS ys.length rcS) ys.length (ys.map (Value.int .i64))) w38) := F35.out.below hb
  have F42 : Hid (Hold (w19.heap.size) (w19.heap.size + 1) (BoxV w19.heap.size [.int .i64 c, .slice raS ys.length rcS]) w38) := F36.out.below hb
  have F43 : Hid (HoldB (CpB (xg0) (xh0) len0 z0) w38) := F37.out.below hb
  clear B33 F35 F36 F37
  obtain ⟨xg1, hxg1⟩ : ∃ g, g = w32.heap.size := ⟨_, rfl⟩
  have hgexg1 : w32.heap.size ≤ xg1 := by omega
  rw [← hxg1] at hat hroom hlt ⊢
  have F44 : Hid (Hold (xg1) (xg1 + 1) (ShCp xg1 len1 z1) w38) := ShCp.hold ⟨hat, hroom⟩ hlt
  have hl45 := F44.out.le
  clear hxg1 hat hroom hlt hb
  go_wp2_with fail
  refine (HIM.out _ _ _ _ F43.out.out F44.out.out).mono ?_
  rintro e w46 ⟨raI, rcI, rfl, how, hb⟩
  have B47 : Hid (Below w.heap.size w w46) := B39.out.trans (hb.mono B39.out.size)
  have hz48 := hb.size
  have F49 : Hid (Hold (w13.heap.size) (w19.heap.size) (fun X => X.ownsRow w13.heap.size 2 1 (.slice raS ys.length rcS) ys.length (ys.map (Value.int .i64))) w46) := F41.out.below hb
  have F50 : Hid (Hold (w19.heap.size) (w19.heap.size + 1) (BoxV w19.heap.size [.int .i64 c, .slice raS ys.length rcS]) w46) := F42.out.below hb
  have F51 : Hid (HoldB (CpB (xg0) (xh0) len0 z0) w46) := F43.out.below hb
  have F52 : Hid (Hold (xg1) (xg1 + 1) (ShCp xg1 len1 z1) w46) := F44.out.below hb
  clear B39 F41 F42 F43 F44
  have F53 : Hid (Hold (w38.heap.size) (w46.heap.size) (fun X => X.ownsRow w38.heap.size 2 1 (.slice raI ys.length rcI) ys.length (ys.map (Value.int .i64))) w46) := owns_hold0 how
  have hl54 := F53.out.le
  clear how hb
  have HRW : Hid (∀ q, (Value.slice raI ys.length rcI).ownBlock = some q → w38.heap.size ≤ q ∧ q < w46.heap.size) := fun q e => (F53.out.out.lt q e)
  go_upto_region 12 with fail
  obtain ⟨w55, hX⟩ : ∃ X, X = w46.alloc (.cells #[.int .i64 c, .slice raI ys.length rcI] 28) := ⟨_, rfl⟩
  rw [← hX]
  have hb : Below w46.heap.size w46 w55 := by rw [hX]; exact (Below.refl _ _).alloc (Nat.le_refl _) _
  have hbx : Hold w46.heap.size (w46.heap.size + 1) (BoxV w46.heap.size [.int .i64 c, .slice raI ys.length rcI]) w55 := by rw [hX]; exact boxV_new w46 #[.int .i64 c, .slice raI ys.length rcI] 28
  clear hX
  have B56 : Hid (Below w.heap.size w w55) := B47.out.trans (hb.mono B47.out.size)
  have hz57 := hb.size
  have F58 : Hid (Hold (w13.heap.size) (w19.heap.size) (fun X => X.ownsRow w13.heap.size 2 1 (.slice raS ys.length rcS) ys.length (ys.map (Value.int .i64))) w55) := F49.out.below hb
  have F59 : Hid (Hold (w19.heap.size) (w19.heap.size + 1) (BoxV w19.heap.size [.int .i64 c, .slice raS ys.length rcS]) w55) := F50.out.below hb
  have F60 : Hid (HoldB (CpB (xg0) (xh0) len0 z0) w55) := F51.out.below hb
  have F61 : Hid (Hold (xg1) (xg1 + 1) (ShCp xg1 len1 z1) w55) := F52.out.below hb
  have F62 : Hid (Hold (w38.heap.size) (w46.heap.size) (fun X => X.ownsRow w38.heap.size 2 1 (.slice raI ys.length rcI) ys.length (ys.map (Value.int .i64))) w55) := F53.out.below hb
  clear B47 F49 F50 F51 F52 F53
  have F63 : Hid (Hold (w46.heap.size) (w46.heap.size + 1) (BoxV w46.heap.size [.int .i64 c, .slice raI ys.length rcI]) w55) := hbx
  have hl64 := F63.out.le
  clear hbx hb
  have p0 := F63.out.out 0 _ rfl
  have p1 := F63.out.out 1 _ rfl
  have q0 := F59.out.out 0 _ rfl
  have q1 := F59.out.out 1 _ rfl
  go_wp2_with fail
  refine (eqInts_same c raI raS ys.length rcI rcS ys _ hyl (row_of_owns F62.out.out) (row_of_owns F58.out.out)).mono ?_
  rintro e w65 ⟨rfl, hb⟩
  clear p0 p1 q0 q1
  have B66 : Hid (Below w.heap.size w w65) := B56.out.trans (hb.mono B56.out.size)
  have hz67 := hb.size
  have F68 : Hid (Hold (w13.heap.size) (w19.heap.size) (fun X => X.ownsRow w13.heap.size 2 1 (.slice raS ys.length rcS) ys.length (ys.map (Value.int .i64))) w65) := F58.out.below hb
  have F69 : Hid (Hold (w19.heap.size) (w19.heap.size + 1) (BoxV w19.heap.size [.int .i64 c, .slice raS ys.length rcS]) w65) := F59.out.below hb
  have F70 : Hid (HoldB (CpB (xg0) (xh0) len0 z0) w65) := F60.out.below hb
  have F71 : Hid (Hold (xg1) (xg1 + 1) (ShCp xg1 len1 z1) w65) := F61.out.below hb
  have F72 : Hid (Hold (w38.heap.size) (w46.heap.size) (fun X => X.ownsRow w38.heap.size 2 1 (.slice raI ys.length rcI) ys.length (ys.map (Value.int .i64))) w65) := F62.out.below hb
  have F73 : Hid (Hold (w46.heap.size) (w46.heap.size + 1) (BoxV w46.heap.size [.int .i64 c, .slice raI ys.length rcI]) w65) := F63.out.below hb
  clear B56 F58 F59 F60 F61 F62 F63
  clear hb
  go_wp2_with fail
  refine (toConfigs_c a0 len0 cap0 z0 _ hs0 HLE0.out (H0.out.below B66.out)).mono ?_
  rintro e w74 ⟨rfl, dsT, hct⟩
  have hb := hct.bl
  have B75 : Hid (Below w.heap.size w w74) := B66.out.trans (hb.mono B66.out.size)
  have hz76 := hb.size
  have F77 : Hid (Hold (w13.heap.size) (w19.heap.size) (fun X => X.ownsRow w13.heap.size 2 1 (.slice raS ys.length rcS) ys.length (ys.map (Value.int .i64))) w74) := F68.out.below hb
  have F78 : Hid (Hold (w19.heap.size) (w19.heap.size + 1) (BoxV w19.heap.size [.int .i64 c, .slice raS ys.length rcS]) w74) := F69.out.below hb
  have F79 : Hid (HoldB (CpB (xg0) (xh0) len0 z0) w74) := F70.out.below hb
  have F80 : Hid (Hold (xg1) (xg1 + 1) (ShCp xg1 len1 z1) w74) := F71.out.below hb
  have F81 : Hid (Hold (w38.heap.size) (w46.heap.size) (fun X => X.ownsRow w38.heap.size 2 1 (.slice raI ys.length rcI) ys.length (ys.map (Value.int .i64))) w74) := F72.out.below hb
  have F82 : Hid (Hold (w46.heap.size) (w46.heap.size + 1) (BoxV w46.heap.size [.int .i64 c, .slice raI ys.length rcI]) w74) := F73.out.below hb
  clear B66 F68 F69 F70 F71 F72 F73
  have F83 : Hid (HoldB (CpB (w65.heap.size) (w74.heap.size) len0 z0) w74) := hct.cpB hs0 H0.out HLE0.out
  clear hb hct
  go_wp2_with fail
  refine (eqCpB_c _ _ hs0 F79.out.out F83.out.out).mono ?_
  rintro e w84 ⟨rfl, hb⟩
  clear F83
  have B85 : Hid (Below w.heap.size w w84) := B75.out.trans (hb.mono B75.out.size)
  have hz86 := hb.size
  have F87 : Hid (Hold (w13.heap.size) (w19.heap.size) (fun X => X.ownsRow w13.heap.size 2 1 (.slice raS ys.length rcS) ys.length (ys.map (Value.int .i64))) w84) := F77.out.below hb
  have F88 : Hid (Hold (w19.heap.size) (w19.heap.size + 1) (BoxV w19.heap.size [.int .i64 c, .slice raS ys.length rcS]) w84) := F78.out.below hb
  have F89 : Hid (HoldB (CpB (xg0) (xh0) len0 z0) w84) := F79.out.below hb
  have F90 : Hid (Hold (xg1) (xg1 + 1) (ShCp xg1 len1 z1) w84) := F80.out.below hb
  have F91 : Hid (Hold (w38.heap.size) (w46.heap.size) (fun X => X.ownsRow w38.heap.size 2 1 (.slice raI ys.length rcI) ys.length (ys.map (Value.int .i64))) w84) := F81.out.below hb
  have F92 : Hid (Hold (w46.heap.size) (w46.heap.size + 1) (BoxV w46.heap.size [.int .i64 c, .slice raI ys.length rcI]) w84) := F82.out.below hb
  clear B75 F77 F78 F79 F80 F81 F82
  clear hb
  go_wp2_with fail
  refine (toShares_room a1 len1 cap1 z1 _ hs1 (H1.out.below B85.out)).mono ?_
  rintro e w93 ⟨rfl, hat, hlt, hb, hroom⟩
  have B94 : Hid (Below w.heap.size w w93) := B85.out.trans (hb.mono B85.out.size)
  have hz95 := hb.size
  have F96 : Hid (Hold (w13.heap.size) (w19.heap.size) (fun X => X.ownsRow w13.heap.size 2 1 (.slice raS ys.length rcS) ys.length (ys.map (Value.int .i64))) w93) := F87.out.below hb
  have F97 : Hid (Hold (w19.heap.size) (w19.heap.size + 1) (BoxV w19.heap.size [.int .i64 c, .slice raS ys.length rcS]) w93) := F88.out.below hb
  have F98 : Hid (HoldB (CpB (xg0) (xh0) len0 z0) w93) := F89.out.below hb
  have F99 : Hid (Hold (xg1) (xg1 + 1) (ShCp xg1 len1 z1) w93) := F90.out.below hb
  have F100 : Hid (Hold (w38.heap.size) (w46.heap.size) (fun X => X.ownsRow w38.heap.size 2 1 (.slice raI ys.length rcI) ys.length (ys.map (Value.int .i64))) w93) := F91.out.below hb
  have F101 : Hid (Hold (w46.heap.size) (w46.heap.size + 1) (BoxV w46.heap.size [.int .i64 c, .slice raI ys.length rcI]) w93) := F92.out.below hb
  clear B85 F87 F88 F89 F90 F91 F92
  have F102 : Hid (Hold (w84.heap.size) (w84.heap.size + 1) (ShCp w84.heap.size len1 z1) w93) := ShCp.hold ⟨hat, hroom⟩ hlt
  have hl103 := F102.out.le
  clear hat hroom hlt hb
  go_wp2_with fail
  refine (eqShares_same _ _ len1 _ _ z1 _ hs1 (ShIn.of HZ1.out F99.out.out.1) (ShIn.of HZ1.out F102.out.out.1)).mono ?_
  rintro e w104 ⟨rfl, hb⟩
  clear F102
  have B105 : Hid (Below w.heap.size w w104) := B94.out.trans (hb.mono B94.out.size)
  have hz106 := hb.size
  have F107 : Hid (Hold (w13.heap.size) (w19.heap.size) (fun X => X.ownsRow w13.heap.size 2 1 (.slice raS ys.length rcS) ys.length (ys.map (Value.int .i64))) w104) := F96.out.below hb
  have F108 : Hid (Hold (w19.heap.size) (w19.heap.size + 1) (BoxV w19.heap.size [.int .i64 c, .slice raS ys.length rcS]) w104) := F97.out.below hb
  have F109 : Hid (HoldB (CpB (xg0) (xh0) len0 z0) w104) := F98.out.below hb
  have F110 : Hid (Hold (xg1) (xg1 + 1) (ShCp xg1 len1 z1) w104) := F99.out.below hb
  have F111 : Hid (Hold (w38.heap.size) (w46.heap.size) (fun X => X.ownsRow w38.heap.size 2 1 (.slice raI ys.length rcI) ys.length (ys.map (Value.int .i64))) w104) := F100.out.below hb
  have F112 : Hid (Hold (w46.heap.size) (w46.heap.size + 1) (BoxV w46.heap.size [.int .i64 c, .slice raI ys.length rcI]) w104) := F101.out.below hb
  clear B94 F96 F97 F98 F99 F100 F101
  clear hb
  go_wp2_with fail
  refine (markCpB_c _ ((1 : Int)) hs0 (by omega) (by omega) F109.out.out).mono ?_
  rintro e w113 ⟨kk0, rfl, hkk0, hch⟩
  have B114 : Hid (Below w.heap.size w w113) := below_chg B105.out hch (by have := hNB; omega) B105.out.size
  have hz115 := hch.size
  have F116 : Hid (Hold (w13.heap.size) (w19.heap.size) (fun X => X.ownsRow w13.heap.size 2 1 (.slice raS ys.length rcS) ys.length (ys.map (Value.int .i64))) w113) := F107.out.chg hch (by omega)
  have F117 : Hid (Hold (w19.heap.size) (w19.heap.size + 1) (BoxV w19.heap.size [.int .i64 c, .slice raS ys.length rcS]) w113) := F108.out.chg hch (by omega)
  have F118 : Hid (Hold (xg1) (xg1 + 1) (ShCp xg1 len1 z1) w113) := F110.out.chg hch (by omega)
  have F119 : Hid (Hold (w38.heap.size) (w46.heap.size) (fun X => X.ownsRow w38.heap.size 2 1 (.slice raI ys.length rcI) ys.length (ys.map (Value.int .i64))) w113) := F111.out.chg hch (by omega)
  have F120 : Hid (Hold (w46.heap.size) (w46.heap.size + 1) (BoxV w46.heap.size [.int .i64 c, .slice raI ys.length rcI]) w113) := F112.out.chg hch (by omega)
  clear B105 F107 F108 F110 F111 F112 F109
  clear hch
  have hlI0 : (len0 : Int) ≤ 1048576 := by omega
  go_wp2_with fail
  refine (markSharesBig_c xg1 len1 len1 (kk0) _ hs1 (by omega) (by omega) F118.out.out.2).mono ?_
  rintro e w121 ⟨rfl, hg⟩
  have hch : Chg xg1 (xg1 + 1) w113 w121 := Chg.grown hg (fun q e => by cases e; omega)
  have B122 : Hid (Below w.heap.size w w121) := below_chg B114.out hch (by have := hNB; omega) B114.out.size
  have hz123 := hch.size
  have F124 : Hid (Hold (w13.heap.size) (w19.heap.size) (fun X => X.ownsRow w13.heap.size 2 1 (.slice raS ys.length rcS) ys.length (ys.map (Value.int .i64))) w121) := F116.out.chg hch (by omega)
  have F125 : Hid (Hold (w19.heap.size) (w19.heap.size + 1) (BoxV w19.heap.size [.int .i64 c, .slice raS ys.length rcS]) w121) := F117.out.chg hch (by omega)
  have F126 : Hid (Hold (w38.heap.size) (w46.heap.size) (fun X => X.ownsRow w38.heap.size 2 1 (.slice raI ys.length rcI) ys.length (ys.map (Value.int .i64))) w121) := F119.out.chg hch (by omega)
  have F127 : Hid (Hold (w46.heap.size) (w46.heap.size + 1) (BoxV w46.heap.size [.int .i64 c, .slice raI ys.length rcI]) w121) := F120.out.chg hch (by omega)
  clear B114 F116 F117 F119 F120 F118
  clear hch hg
  have hk0 : decide ((kk0 + 6 * (len1 : Int) : Int) < 0) = false := by simp; omega
  have p0 := F127.out.out 0 _ rfl
  have p1 := F127.out.out 1 _ rfl
  have q0 := F125.out.out 0 _ rfl
  have q1 := F125.out.out 1 _ rfl
  go_wp2_with fail
  refine (eqInts_same c raI raS ys.length rcI rcS ys _ hyl (row_of_owns F126.out.out) (row_of_owns F124.out.out)).mono ?_
  rintro e w128 ⟨rfl, hb⟩
  clear p0 p1 q0 q1
  have B129 : Hid (Below w.heap.size w w128) := B122.out.trans (hb.mono B122.out.size)
  have hz130 := hb.size
  have F131 : Hid (Hold (w13.heap.size) (w19.heap.size) (fun X => X.ownsRow w13.heap.size 2 1 (.slice raS ys.length rcS) ys.length (ys.map (Value.int .i64))) w128) := F124.out.below hb
  have F132 : Hid (Hold (w19.heap.size) (w19.heap.size + 1) (BoxV w19.heap.size [.int .i64 c, .slice raS ys.length rcS]) w128) := F125.out.below hb
  have F133 : Hid (Hold (w38.heap.size) (w46.heap.size) (fun X => X.ownsRow w38.heap.size 2 1 (.slice raI ys.length rcI) ys.length (ys.map (Value.int .i64))) w128) := F126.out.below hb
  have F134 : Hid (Hold (w46.heap.size) (w46.heap.size + 1) (BoxV w46.heap.size [.int .i64 c, .slice raI ys.length rcI]) w128) := F127.out.below hb
  clear B122 F124 F125 F126 F127
  clear hb
  have p0 := F134.out.out 0 _ rfl
  have p1 := F134.out.out 1 _ rfl
  go_wp2_with fail
  refine (mark1 c _ raI ys.length rcI _ _ hyl F133.out.out).mono ?_
  rintro e w135 ⟨rfl, how, hg⟩
  clear p0 p1
  have hch : Chg w38.heap.size w46.heap.size w128 w135 := Chg.grown hg (fun q e => HRW.out q e)
  have hzc := hch.size
  have B136 : Hid (Below w.heap.size w w135) := below_chg B129.out hch (by have := hNB; omega) B129.out.size
  have hz137 := hch.size
  have F138 : Hid (Hold (w13.heap.size) (w19.heap.size) (fun X => X.ownsRow w13.heap.size 2 1 (.slice raS ys.length rcS) ys.length (ys.map (Value.int .i64))) w135) := F131.out.chg hch (by omega)
  have F139 : Hid (Hold (w19.heap.size) (w19.heap.size + 1) (BoxV w19.heap.size [.int .i64 c, .slice raS ys.length rcS]) w135) := F132.out.chg hch (by omega)
  have F140 : Hid (Hold (w46.heap.size) (w46.heap.size + 1) (BoxV w46.heap.size [.int .i64 c, .slice raI ys.length rcI]) w135) := F134.out.chg hch (by omega)
  clear B129 F131 F132 F134 F133
  have F141 : Hid (Hold (w38.heap.size) (w46.heap.size) (fun X => X.ownsRow w38.heap.size 2 1 (.slice raI ys.length rcI) ys.length ((marks 1 ys.length).map (Value.int .i64))) w135) := owns_hold how _ (fun q e => (HRW.out q e).2) (by omega)
  have hl142 := F141.out.le
  clear how hg hch hzc
  have hq0 : decide ((1 : Int) + (ys.length : Int) < 0) = false := by simp; omega
  have p0 := F140.out.out 0 _ rfl
  have p1 := F140.out.out 1 _ rfl
  go_wp2_with fail
  refine (held1 c raI ys.length rcI _ hyl (row_of_owns F141.out.out)).mono ?_
  rintro e w143 ⟨rfl, hb⟩
  clear p0 p1
  have B144 : Hid (Below w.heap.size w w143) := B136.out.trans (hb.mono B136.out.size)
  have hz145 := hb.size
  have F146 : Hid (Hold (w13.heap.size) (w19.heap.size) (fun X => X.ownsRow w13.heap.size 2 1 (.slice raS ys.length rcS) ys.length (ys.map (Value.int .i64))) w143) := F138.out.below hb
  have F147 : Hid (Hold (w19.heap.size) (w19.heap.size + 1) (BoxV w19.heap.size [.int .i64 c, .slice raS ys.length rcS]) w143) := F139.out.below hb
  have F148 : Hid (Hold (w46.heap.size) (w46.heap.size + 1) (BoxV w46.heap.size [.int .i64 c, .slice raI ys.length rcI]) w143) := F140.out.below hb
  have F149 : Hid (Hold (w38.heap.size) (w46.heap.size) (fun X => X.ownsRow w38.heap.size 2 1 (.slice raI ys.length rcI) ys.length ((marks 1 ys.length).map (Value.int .i64))) w143) := F141.out.below hb
  clear B136 F138 F139 F140 F141
  clear hb
  go_wp2_with fail
  refine (toConfigs_c a0 len0 cap0 z0 _ hs0 HLE0.out (H0.out.below B144.out)).mono ?_
  rintro e w150 ⟨rfl, dsT, hct⟩
  have hb := hct.bl
  have B151 : Hid (Below w.heap.size w w150) := B144.out.trans (hb.mono B144.out.size)
  have hz152 := hb.size
  have F153 : Hid (Hold (w13.heap.size) (w19.heap.size) (fun X => X.ownsRow w13.heap.size 2 1 (.slice raS ys.length rcS) ys.length (ys.map (Value.int .i64))) w150) := F146.out.below hb
  have F154 : Hid (Hold (w19.heap.size) (w19.heap.size + 1) (BoxV w19.heap.size [.int .i64 c, .slice raS ys.length rcS]) w150) := F147.out.below hb
  have F155 : Hid (Hold (w46.heap.size) (w46.heap.size + 1) (BoxV w46.heap.size [.int .i64 c, .slice raI ys.length rcI]) w150) := F148.out.below hb
  have F156 : Hid (Hold (w38.heap.size) (w46.heap.size) (fun X => X.ownsRow w38.heap.size 2 1 (.slice raI ys.length rcI) ys.length ((marks 1 ys.length).map (Value.int .i64))) w150) := F149.out.below hb
  clear B144 F146 F147 F148 F149
  have F157 : Hid (HoldB (CpB (w143.heap.size) (w150.heap.size) len0 z0) w150) := hct.cpB hs0 H0.out HLE0.out
  clear hb hct
  go_wp2_with fail
  refine (toShares_room a1 len1 cap1 z1 _ hs1 (H1.out.below B151.out)).mono ?_
  rintro e w158 ⟨rfl, hat, hlt, hb, hroom⟩
  have B159 : Hid (Below w.heap.size w w158) := B151.out.trans (hb.mono B151.out.size)
  have hz160 := hb.size
  have F161 : Hid (Hold (w13.heap.size) (w19.heap.size) (fun X => X.ownsRow w13.heap.size 2 1 (.slice raS ys.length rcS) ys.length (ys.map (Value.int .i64))) w158) := F153.out.below hb
  have F162 : Hid (Hold (w19.heap.size) (w19.heap.size + 1) (BoxV w19.heap.size [.int .i64 c, .slice raS ys.length rcS]) w158) := F154.out.below hb
  have F163 : Hid (Hold (w46.heap.size) (w46.heap.size + 1) (BoxV w46.heap.size [.int .i64 c, .slice raI ys.length rcI]) w158) := F155.out.below hb
  have F164 : Hid (Hold (w38.heap.size) (w46.heap.size) (fun X => X.ownsRow w38.heap.size 2 1 (.slice raI ys.length rcI) ys.length ((marks 1 ys.length).map (Value.int .i64))) w158) := F156.out.below hb
  have F165 : Hid (HoldB (CpB (w143.heap.size) (w150.heap.size) len0 z0) w158) := F157.out.below hb
  clear B151 F153 F154 F155 F156 F157
  have F166 : Hid (Hold (w150.heap.size) (w150.heap.size + 1) (ShCp w150.heap.size len1 z1) w158) := ShCp.hold ⟨hat, hroom⟩ hlt
  have hl167 := F166.out.le
  clear hat hroom hlt hb
  go_wp2_with fail
  refine (HIM.out _ _ _ _ F165.out.out F166.out.out).mono ?_
  rintro e w168 ⟨raH, rcH, rfl, how, hb⟩
  have B169 : Hid (Below w.heap.size w w168) := B159.out.trans (hb.mono B159.out.size)
  have hz170 := hb.size
  have F171 : Hid (Hold (w13.heap.size) (w19.heap.size) (fun X => X.ownsRow w13.heap.size 2 1 (.slice raS ys.length rcS) ys.length (ys.map (Value.int .i64))) w168) := F161.out.below hb
  have F172 : Hid (Hold (w19.heap.size) (w19.heap.size + 1) (BoxV w19.heap.size [.int .i64 c, .slice raS ys.length rcS]) w168) := F162.out.below hb
  have F173 : Hid (Hold (w46.heap.size) (w46.heap.size + 1) (BoxV w46.heap.size [.int .i64 c, .slice raI ys.length rcI]) w168) := F163.out.below hb
  have F174 : Hid (Hold (w38.heap.size) (w46.heap.size) (fun X => X.ownsRow w38.heap.size 2 1 (.slice raI ys.length rcI) ys.length ((marks 1 ys.length).map (Value.int .i64))) w168) := F164.out.below hb
  have F175 : Hid (HoldB (CpB (w143.heap.size) (w150.heap.size) len0 z0) w168) := F165.out.below hb
  have F176 : Hid (Hold (w150.heap.size) (w150.heap.size + 1) (ShCp w150.heap.size len1 z1) w168) := F166.out.below hb
  clear B159 F161 F162 F163 F164 F165 F166
  clear F175
  clear F176
  have F177 : Hid (Hold (w158.heap.size) (w168.heap.size) (fun X => X.ownsRow w158.heap.size 2 1 (.slice raH ys.length rcH) ys.length (ys.map (Value.int .i64))) w168) := owns_hold0 how
  have hl178 := F177.out.le
  clear how hb
  go_upto_region 32 with fail
  obtain ⟨w179, hX⟩ : ∃ X, X = w168.alloc (.cells #[.int .i64 c, .slice raH ys.length rcH] 28) := ⟨_, rfl⟩
  rw [← hX]
  have hb : Below w168.heap.size w168 w179 := by rw [hX]; exact (Below.refl _ _).alloc (Nat.le_refl _) _
  have hbx : Hold w168.heap.size (w168.heap.size + 1) (BoxV w168.heap.size [.int .i64 c, .slice raH ys.length rcH]) w179 := by rw [hX]; exact boxV_new w168 #[.int .i64 c, .slice raH ys.length rcH] 28
  clear hX
  have B180 : Hid (Below w.heap.size w w179) := B169.out.trans (hb.mono B169.out.size)
  have hz181 := hb.size
  have F182 : Hid (Hold (w13.heap.size) (w19.heap.size) (fun X => X.ownsRow w13.heap.size 2 1 (.slice raS ys.length rcS) ys.length (ys.map (Value.int .i64))) w179) := F171.out.below hb
  have F183 : Hid (Hold (w19.heap.size) (w19.heap.size + 1) (BoxV w19.heap.size [.int .i64 c, .slice raS ys.length rcS]) w179) := F172.out.below hb
  have F184 : Hid (Hold (w46.heap.size) (w46.heap.size + 1) (BoxV w46.heap.size [.int .i64 c, .slice raI ys.length rcI]) w179) := F173.out.below hb
  have F185 : Hid (Hold (w38.heap.size) (w46.heap.size) (fun X => X.ownsRow w38.heap.size 2 1 (.slice raI ys.length rcI) ys.length ((marks 1 ys.length).map (Value.int .i64))) w179) := F174.out.below hb
  have F186 : Hid (Hold (w158.heap.size) (w168.heap.size) (fun X => X.ownsRow w158.heap.size 2 1 (.slice raH ys.length rcH) ys.length (ys.map (Value.int .i64))) w179) := F177.out.below hb
  clear B169 F171 F172 F173 F174 F177
  have F187 : Hid (Hold (w168.heap.size) (w168.heap.size + 1) (BoxV w168.heap.size [.int .i64 c, .slice raH ys.length rcH]) w179) := hbx
  have hl188 := F187.out.le
  clear hbx hb
  have p0 := F187.out.out 0 _ rfl
  have p1 := F187.out.out 1 _ rfl
  have q0 := F183.out.out 0 _ rfl
  have q1 := F183.out.out 1 _ rfl
  go_wp2_with fail
  refine (eqInts_same c raH raS ys.length rcH rcS ys _ hyl (row_of_owns F186.out.out) (row_of_owns F182.out.out)).mono ?_
  rintro e w189 ⟨rfl, hb⟩
  clear p0 p1 q0 q1
  have B190 : Hid (Below w.heap.size w w189) := B180.out.trans (hb.mono B180.out.size)
  have hz191 := hb.size
  have F192 : Hid (Hold (w13.heap.size) (w19.heap.size) (fun X => X.ownsRow w13.heap.size 2 1 (.slice raS ys.length rcS) ys.length (ys.map (Value.int .i64))) w189) := F182.out.below hb
  have F193 : Hid (Hold (w19.heap.size) (w19.heap.size + 1) (BoxV w19.heap.size [.int .i64 c, .slice raS ys.length rcS]) w189) := F183.out.below hb
  have F194 : Hid (Hold (w46.heap.size) (w46.heap.size + 1) (BoxV w46.heap.size [.int .i64 c, .slice raI ys.length rcI]) w189) := F184.out.below hb
  have F195 : Hid (Hold (w38.heap.size) (w46.heap.size) (fun X => X.ownsRow w38.heap.size 2 1 (.slice raI ys.length rcI) ys.length ((marks 1 ys.length).map (Value.int .i64))) w189) := F185.out.below hb
  have F196 : Hid (Hold (w158.heap.size) (w168.heap.size) (fun X => X.ownsRow w158.heap.size 2 1 (.slice raH ys.length rcH) ys.length (ys.map (Value.int .i64))) w189) := F186.out.below hb
  have F197 : Hid (Hold (w168.heap.size) (w168.heap.size + 1) (BoxV w168.heap.size [.int .i64 c, .slice raH ys.length rcH]) w189) := F187.out.below hb
  clear B180 F182 F183 F184 F185 F186 F187
  clear hb
  have p0 := F194.out.out 0 _ rfl
  have p1 := F194.out.out 1 _ rfl
  go_wp2_with fail
  refine (held1 c raI ys.length rcI _ hyl (row_of_owns F195.out.out)).mono ?_
  rintro e w198 ⟨rfl, hb⟩
  clear p0 p1
  have B199 : Hid (Below w.heap.size w w198) := B190.out.trans (hb.mono B190.out.size)
  have hz200 := hb.size
  have F201 : Hid (Hold (w13.heap.size) (w19.heap.size) (fun X => X.ownsRow w13.heap.size 2 1 (.slice raS ys.length rcS) ys.length (ys.map (Value.int .i64))) w198) := F192.out.below hb
  have F202 : Hid (Hold (w19.heap.size) (w19.heap.size + 1) (BoxV w19.heap.size [.int .i64 c, .slice raS ys.length rcS]) w198) := F193.out.below hb
  have F203 : Hid (Hold (w46.heap.size) (w46.heap.size + 1) (BoxV w46.heap.size [.int .i64 c, .slice raI ys.length rcI]) w198) := F194.out.below hb
  have F204 : Hid (Hold (w38.heap.size) (w46.heap.size) (fun X => X.ownsRow w38.heap.size 2 1 (.slice raI ys.length rcI) ys.length ((marks 1 ys.length).map (Value.int .i64))) w198) := F195.out.below hb
  have F205 : Hid (Hold (w158.heap.size) (w168.heap.size) (fun X => X.ownsRow w158.heap.size 2 1 (.slice raH ys.length rcH) ys.length (ys.map (Value.int .i64))) w198) := F196.out.below hb
  have F206 : Hid (Hold (w168.heap.size) (w168.heap.size + 1) (BoxV w168.heap.size [.int .i64 c, .slice raH ys.length rcH]) w198) := F197.out.below hb
  clear B190 F192 F193 F194 F195 F196 F197
  clear hb
  go_wp2
  go_ret
  exact ⟨rfl, B199.out⟩

/-! The walk: the Go text returns true. -/
theorem walk (a0 : Option Addr) (len0 cap0 : Nat) (z0 : List ConfI) (a1 : Option Addr) (len1 cap1 : Nat) (z1 : List ShI) (w : World) (w0 : ConfsArg w a0 len0 z0) (w1 : ShArg w a1 len1 z1) :
    Calls Tryz.prog 3 #[.slice a0 len0 cap0, .slice a1 len1 cap1] w fun e w' => e = .returned (.bool true) ∧ Below w.heap.size w w' := by
  have hmx : ∀ n : Nat, n ≤ 1048576 → n ≤ maxLen := fun n h => by unfold maxLen; omega
  exact inner a0 len0 cap0 z0 a1 len1 cap1 z1 (akCode z0 z1) (rcL z0 z1) w w0.2.1 w0.2.2 w0.1 w1.2.1 w1.1 (rcL_len z0 z1)
    (fun h0 h1 g0 k0 g1 W q0 q1 => specReach_same h0 h1 q0 (ShIn.of w1.1.1 q1.1))
    (fun h0 h1 g0 k0 g1 W q0 q1 => implReach_same h0 h1 q0 (ShIn.of w1.1.1 q1.1))

/-! The row's step. -/
set_option maxRecDepth 100000 in
theorem lifted (os : Os) (started : os.Started) (H : Type) (enc : TypeId × Value → H) :
    ReturnsInHanded {} Tryz.checked os 3 .any (Rows.fnExactReachOfSpec.pre6 enc Tryz.prog Tryz.f3 Rows.fnExactReachOfRow.domain false) (Rows.fnExactReachOfSpec.post enc Tryz.prog Tryz.f3 false true false false) := by
  refine returnsInHanded_of_change (C := Tryz.checked) own started (by kernel_rfl) Tryz.func3
    (ChangeSpec.witness6 (enc := enc) (C := Tryz.checked) false ⟨#[], #[.slice none 0 0, .slice none 0 0], []⟩ 8 (by kernel_rfl) (by kernel_rfl) (by kernel_rfl) (by kernel_rfl)) ?_
  intro W base args ds gs before hval0 hW hcnd _
  have hval : ∀ (j : Nat) t v, Tryz.f3.params[j]? = some t → args[j]? = some v → Value.okWide Tryz.prog W .any base t v := hval0
  have hW' := hW
  obtain ⟨p, q, hA0, hV, rfl, hfz, hnd⟩ := hW
  have hA : DataW.TrodAll enc Tryz.prog W 0 (fun _ => true) true Tryz.f3.params.toList args.toList ds p := hA0
  rw [Tryz.params3] at hA hval
  obtain ⟨v0, vs0, d0, ds0, p0, q0, hargs, rfl, rfl, h0, r0⟩ := trodAll_cons hA
  obtain ⟨v1, vs1, d1, ds1, p1, q1, rfl, rfl, rfl, h1, r1⟩ := trodAll_cons r0
  obtain ⟨rfl, rfl, rfl⟩ := trodAll_nil r1
  obtain rfl : args = #[v0, v1] := by cases args; simp_all
  obtain ⟨rfl, rfl⟩ := trodVars_none hV
  obtain ⟨a0, len0, cap0, rfl⟩ := okWide_slice Tryz.underlying22 (hval 0 22 v0 rfl rfl)
  have k0 := h0
  have lt0 : ∀ x ∈ p0, x.block < W.heap.size := by obtain ⟨m, hm⟩ := k0; exact DataW.trod_lt m _ _ _ hm
  obtain ⟨z0, w0⟩ : ∃ zs : List ConfI, ConfsArg W a0 len0 zs := by
    obtain ⟨fuel, hf⟩ := h0
    exact configs_shape hf
  obtain ⟨a1, len1, cap1, rfl⟩ := okWide_slice Tryz.underlying23 (hval 1 23 v1 rfl rfl)
  have k1 := h1
  have lt1 : ∀ x ∈ p1, x.block < W.heap.size := by obtain ⟨m, hm⟩ := k1; exact DataW.trod_lt m _ _ _ hm
  obtain ⟨z1, w1⟩ : ∃ zs : List ShI, ShArg W a1 len1 zs := by
    obtain ⟨fuel, hf⟩ := h1
    exact shares_shape hf
  clear hA0 hval0
  refine (walk a0 len0 cap0 z0 a1 len1 cap1 z1 W w0 w1).mono fun e W' ⟨he, bel⟩ => ?_
  subst he
  exact ⟨_, rfl, _, _, _, [], _, [], hW', trodAll_mk1 (shut_bool Tryz.underlying4 _), (trodAll_cons_mk (Below.trod laidOut (by kernel_rfl) (of_decide_eq_true (by kernel_rfl)) k0 bel lt0) (trodAll_cons_mk (Below.trod laidOut (by kernel_rfl) (of_decide_eq_true (by kernel_rfl)) k1 bel lt1) trodAll_mk0)), rfl, bel.frame _, fun h => by cases h⟩

theorem over : Rows.fnExactReachOfRow.holds Tryz.pinned (OpenSpec.ofChange Rows.fnExactReachOfSpec) :=
  OpenClaim.holds_of_wide 3 Tryz.f3 rfl rfl rfl rfl rfl rfl rfl ⟨rfl, rfl, rfl, rfl, rfl⟩ rfl rfl rfl rfl rfl (by kernel_rfl) Tryz.func3 (by kernel_rfl)
    (of_decide_eq_true (by kernel_rfl)) (by unfold Func.isWrapper; first | (rw [if_pos (by decide +kernel)]; kernel_rfl) | (rw [if_neg (by decide +kernel)]; exact ⟨rfl, rfl⟩))
    (fun os started H enc _ => lifted os started H enc)

end Go.Proofs.YtfkajnenniapaaaGreat.fnExactReachOf
namespace Go.Proofs.YtfkajnenniapaaaGreat
theorem fnExactReachOf_holds : Rows.FnExactReachOfSaid := fnExactReachOf.over
#print axioms fnExactReachOf_holds
end Go.Proofs.YtfkajnenniapaaaGreat
