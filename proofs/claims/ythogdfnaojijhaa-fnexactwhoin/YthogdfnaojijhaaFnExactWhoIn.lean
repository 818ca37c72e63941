/-
  PROVED: for every wallet the law laws.FnExactWhoIn returns true, that is impl.WhoIn answers as spec.WhoIn there (up to 1<<20 elements in all, as the law itself says), writes nothing into its argument, and its list is memory of its own, behind another call too; the argument reads as it did.
  Conditions: none beside those that the given row itself bears. The frame is the shell written by program, turned for slices of structs and for structs; the walk is ours.
-/
import Derived.Test.YthogdfnaojijhaaRows
import Derived.WalkKit
import Derived.ProofKit
import Derived.OpenShut
import Derived.ShutString
import Derived.ChangeOld
import Derived.Below
import Derived.Test.YthogdfnaojijhaaPw04
import Derived.Test.YthogdfnaojijhaaPw02
import Derived.Test.YthogdfnaojijhaaList2
import Derived.Deep.CutBlock
import Derived.Deep.RegionHeld3
namespace Go.Proofs.Ythogdfnaojijhaa.fnExactWhoIn
open Go.ChangeShapes Go.WideShapes Go.ChangeAt Go.RowKit
open Go.ChangeMaps (open_string shut_string)
set_option linter.unusedVariables false

theorem own : ownKnob Try.prog.godebug = none := by kernel_rfl
theorem laidOut : laidOutB Try.prog = true := by kernel_rfl

set_option linter.unusedSimpArgs false

abbrev KR0 (W W' : World) : Prop := (∀ b o, b < W.heap.size → W'.cell? ⟨b, o, none⟩ = W.cell? ⟨b, o, none⟩) ∧ Below W.heap.size W W'

set_option maxRecDepth 100000 in
set_option maxHeartbeats 8000000 in
theorem inner (wl0 : WlI) (c : Int) (ys : List Int) (w : World) (hm0 : WlLe maxLen wl0) (h0 : WlIn w wl0) (hy : ys.length ≤ 1000)
    (HS : Hid (WlLe 1048576 wl0 → ∀ (g0 : WlP) (W : World), CpW g0 wl0 W → Calls Try.prog 19 #[.agg #[.slice (some ⟨g0.l, 0, none⟩) wl0.cn wl0.cn, .int .i64 wl0.k, .int .i64 wl0.e, .int .i64 wl0.f, .int .i64 wl0.s, .int .i64 wl0.n, .slice (some ⟨g0.g, 0, none⟩) wl0.gn wl0.gn, .slice (some ⟨g0.r, 0, none⟩) wl0.rn wl0.rn]] W fun e W' => ∃ a cap, e = .returned (.agg #[.int .i64 c, .slice a ys.length cap]) ∧ W'.ownsRow W.heap.size 2 1 (.slice a ys.length cap) ys.length (ys.map (Value.int .i64)) ∧ Below W.heap.size W W'))
    (HI : Hid (WlLe 1048576 wl0 → ∀ (g0 : WlP) (W : World), CpW g0 wl0 W → Calls Try.prog 21 #[.agg #[.slice (some ⟨g0.l, 0, none⟩) wl0.cn wl0.cn, .int .i64 wl0.k, .int .i64 wl0.e, .int .i64 wl0.f, .int .i64 wl0.s, .int .i64 wl0.n, .slice (some ⟨g0.g, 0, none⟩) wl0.gn wl0.gn, .slice (some ⟨g0.r, 0, none⟩) wl0.rn wl0.rn]] W fun e W' => ∃ a cap, e = .returned (.agg #[.int .i64 c, .slice a ys.length cap]) ∧ W'.ownsRow W.heap.size 2 1 (.slice a ys.length cap) ys.length (ys.map (Value.int .i64)) ∧ Below W.heap.size W W')) :
    Calls Try.prog 5 #[.agg #[.slice wl0.ca wl0.cn wl0.cc, .int .i64 wl0.k, .int .i64 wl0.e, .int .i64 wl0.f, .int .i64 wl0.s, .int .i64 wl0.n, .slice wl0.ga wl0.gn wl0.gc, .slice wl0.ra wl0.rn wl0.rc]] w fun e w' => e = .returned (.bool true) ∧ Below w.heap.size w w' := by
  have H0 : Hid (WlIn w wl0) := h0
  have HM0 : Hid (WlLe maxLen wl0) := hm0
  have HZ0 : Hid (wl0.zs.length = wl0.gn) := h0.is.1
  clear h0 hm0
  have hyl : ys.length ≤ 1048576 := by omega
  have hyi : (ys.length : Int) ≤ 1000 := by omega
  obtain ⟨V, hV⟩ : ∃ V, V = (w.alloc (.cells #[.slice wl0.ca wl0.cn wl0.cc, .int .i64 wl0.k, .int .i64 wl0.e, .int .i64 wl0.f, .int .i64 wl0.s, .int .i64 wl0.n, .slice wl0.ga wl0.gn wl0.gc, .slice wl0.ra wl0.rn wl0.rc] 47)) := ⟨_, rfl⟩
  have B0 : Hid (Below w.heap.size w V) := by rw [hV]; exact (Below.refl _ _).alloc (Nat.le_refl _) _
  have F1 : Hid (Hold (w.heap.size) (w.heap.size + 1) (BoxV (w.heap.size) [.slice wl0.ca wl0.cn wl0.cc, .int .i64 wl0.k, .int .i64 wl0.e, .int .i64 wl0.f, .int .i64 wl0.s, .int .i64 wl0.n, .slice wl0.ga wl0.gn wl0.gc, .slice wl0.ra wl0.rn wl0.rc]) V) := by rw [hV]; have q := boxV_new w #[.slice wl0.ca wl0.cn wl0.cc, .int .i64 wl0.k, .int .i64 wl0.e, .int .i64 wl0.f, .int .i64 wl0.s, .int .i64 wl0.n, .slice wl0.ga wl0.gn wl0.gc, .slice wl0.ra wl0.rn wl0.rc] 47; exact q
  have hl2 := F1.out.le
  have hz0 := B0.out.size
  go_enter Try.func5, Try.ntmps5
  go_wp2_with fail
  rw [← hV]
  clear hV
  refine (szWallet_c wl0 1048576 _ HM0.out (by omega) (by omega) (H0.out.below B0.out)).mono ?_
  rintro e w4 ⟨⟨v3, rfl, hv, hv2⟩, hb⟩
  have B5 : Hid (Below w.heap.size w w4) := B0.out.trans (hb.mono B0.out.size)
  have hz6 := hb.size
  have F7 : Hid (Hold (w.heap.size) (w.heap.size + 1) (BoxV (w.heap.size) [.slice wl0.ca wl0.cn wl0.cc, .int .i64 wl0.k, .int .i64 wl0.e, .int .i64 wl0.f, .int .i64 wl0.s, .int .i64 wl0.n, .slice wl0.ga wl0.gn wl0.gc, .slice wl0.ra wl0.rn wl0.rc]) w4) := F1.out.below hb
  clear B0 F1
  clear hb
  by_cases hneg : v3 < 0
  · go_wp2
    go_ret
    exact ⟨rfl, B5.out⟩
  have hs0 : WlLe 1048576 wl0 := hv2 (by omega)
  have hiv3 : 0 ≤ v3 ∧ v3 ≤ 1048576 := ⟨by omega, by omega⟩
  clear hv2 hneg
  have HS' := HS.out hs0
  have HI' := HI.out hs0
  have HSP : Hid _ := HS'
  have HIM : Hid _ := HI'
  clear HS' HI' HS HI
  have b00 := F7.out.out 0 _ rfl
  have b01 := F7.out.out 1 _ rfl
  have b02 := F7.out.out 2 _ rfl
  have b03 := F7.out.out 3 _ rfl
  have b04 := F7.out.out 4 _ rfl
  have b05 := F7.out.out 5 _ rfl
  have b06 := F7.out.out 6 _ rfl
  have b07 := F7.out.out 7 _ rfl
  go_wp2_with fail
  refine (toWallet_h wl0 _ hs0 (H0.out.below B5.out)).mono ?_
  rintro e w8 ⟨tg0S, rfl, hge, hlt, hcp, hb⟩
  have B9 : Hid (Below w.heap.size w w8) := B5.out.trans (hb.mono B5.out.size)
  have hz10 := hb.size
  have F11 : Hid (Hold (w.heap.size) (w.heap.size + 1) (BoxV (w.heap.size) [.slice wl0.ca wl0.cn wl0.cc, .int .i64 wl0.k, .int .i64 wl0.e, .int .i64 wl0.f, .int .i64 wl0.s, .int .i64 wl0.n, .slice wl0.ga wl0.gn wl0.gc, .slice wl0.ra wl0.rn wl0.rc]) w8) := F7.out.below hb
  clear B5 F7
  have F12 : Hid (Hold (tg0S.l) (tg0S.h) (CpW tg0S wl0) w8) := hcp.hold
  have hl13 := F12.out.le
  clear hcp hlt hb hge b00 b01 b02 b03 b04 b05 b06 b07
  go_wp2_with fail
  refine (HSP.out _ _ F12.out.out).mono ?_
  rintro e w14 ⟨raS, rcS, rfl, how, hb⟩
  have B15 : Hid (Below w.heap.size w w14) := B9.out.trans (hb.mono B9.out.size)
  have hz16 := hb.size
  have F17 : Hid (Hold (w.heap.size) (w.heap.size + 1) (BoxV (w.heap.size) [.slice wl0.ca wl0.cn wl0.cc, .int .i64 wl0.k, .int .i64 wl0.e, .int .i64 wl0.f, .int .i64 wl0.s, .int .i64 wl0.n, .slice wl0.ga wl0.gn wl0.gc, .slice wl0.ra wl0.rn wl0.rc]) w14) := F11.out.below hb
  have F18 : Hid (Hold (tg0S.l) (tg0S.h) (CpW tg0S wl0) w14) := F12.out.below hb
  clear B9 F11 F12
  clear F18
  have F19 : Hid (Hold (w8.heap.size) (w14.heap.size) (fun X => X.ownsRow w8.heap.size 2 1 (.slice raS ys.length rcS) ys.length (ys.map (Value.int .i64))) w14) := owns_hold0 how
  have hl20 := F19.out.le
  clear how hb
  go_upto_region 6 with fail
  obtain ⟨w21, hX⟩ : ∃ X, X = w14.alloc (.cells #[.int .i64 c, .slice raS ys.length rcS] 50) := ⟨_, rfl⟩
  rw [← hX]
  have hb : Below w14.heap.size w14 w21 := by rw [hX]; exact (Below.refl _ _).alloc (Nat.le_refl _) _
  have hbx : Hold w14.heap.size (w14.heap.size + 1) (BoxV w14.heap.size [.int .i64 c, .slice raS ys.length rcS]) w21 := by rw [hX]; exact boxV_new w14 #[.int .i64 c, .slice raS ys.length rcS] 50
  clear hX
  have B22 : Hid (Below w.heap.size w w21) := B15.out.trans (hb.mono B15.out.size)
  have hz23 := hb.size
  have F24 : Hid (Hold (w.heap.size) (w.heap.size + 1) (BoxV (w.heap.size) [.slice wl0.ca wl0.cn wl0.cc, .int .i64 wl0.k, .int .i64 wl0.e, .int .i64 wl0.f, .int .i64 wl0.s, .int .i64 wl0.n, .slice wl0.ga wl0.gn wl0.gc, .slice wl0.ra wl0.rn wl0.rc]) w21) := F17.out.below hb
  have F25 : Hid (Hold (w8.heap.size) (w14.heap.size) (fun X => X.ownsRow w8.heap.size 2 1 (.slice raS ys.length rcS) ys.length (ys.map (Value.int .i64))) w21) := F19.out.below hb
  clear B15 F17 F19
  have F26 : Hid (Hold (w14.heap.size) (w14.heap.size + 1) (BoxV w14.heap.size [.int .i64 c, .slice raS ys.length rcS]) w21) := hbx
  have hl27 := F26.out.le
  clear hbx hb
  have hNB : w.heap.size ≤ w21.heap.size := B22.out.size
  have b00 := F24.out.out 0 _ rfl
  have b01 := F24.out.out 1 _ rfl
  have b02 := F24.out.out 2 _ rfl
  have b03 := F24.out.out 3 _ rfl
  have b04 := F24.out.out 4 _ rfl
  have b05 := F24.out.out 5 _ rfl
  have b06 := F24.out.out 6 _ rfl
  have b07 := F24.out.out 7 _ rfl
  go_wp2_with fail
  refine (toWallet_h wl0 _ hs0 (H0.out.below B22.out)).mono ?_
  rintro e w28 ⟨xg0, rfl, hge, hlt, hcp, hb⟩
  have B29 : Hid (Below w.heap.size w w28) := B22.out.trans (hb.mono B22.out.size)
  have hz30 := hb.size
  have F31 : Hid (Hold (w.heap.size) (w.heap.size + 1) (BoxV (w.heap.size) [.slice wl0.ca wl0.cn wl0.cc, .int .i64 wl0.k, .int .i64 wl0.e, .int .i64 wl0.f, .int .i64 wl0.s, .int .i64 wl0.n, .slice wl0.ga wl0.gn wl0.gc, .slice wl0.ra wl0.rn wl0.rc]) w28) := F24.out.below hb
  have F32 : Hid (Hold (w8.heap.size) (w14.heap.size) (fun X => X.ownsRow w8.heap.size 2 1 (.slice raS ys.length rcS) ys.length (ys.map (Value.int .i64))) w28) := F25.out.below hb
  have F33 : Hid (Hold (w14.heap.size) (w14.heap.size + 1) (BoxV w14.heap.size [.int .i64 c, .slice raS ys.length rcS]) w28) := F26.out.below hb
  clear B22 F24 F25 F26
  have F34 : Hid (Hold (xg0.l) (xg0.h) (CpW xg0 wl0) w28) := hcp.hold
  have hl35 := F34.out.le
  have hgexg0 : w21.heap.size ≤ xg0.l := hge
  have hgxxg0 : xg0.l < xg0.h := by have := hcp.ml; have := hcp.mg; have := hcp.gr; have := hcp.rh; omega
  clear hcp hlt hb hge
  clear b00 b01 b02 b03 b04 b05 b06 b07
  go_upto_region 7 with fail
  obtain ⟨w36, hX⟩ : ∃ X, X = w28.alloc (.cells #[.slice (some ⟨xg0.l, 0, none⟩) wl0.cn wl0.cn, .int .i64 wl0.k, .int .i64 wl0.e, .int .i64 wl0.f, .int .i64 wl0.s, .int .i64 wl0.n, .slice (some ⟨xg0.g, 0, none⟩) wl0.gn wl0.gn, .slice (some ⟨xg0.r, 0, none⟩) wl0.rn wl0.rn] 55) := ⟨_, rfl⟩
  rw [← hX]
  have hb : Below w28.heap.size w28 w36 := by rw [hX]; exact (Below.refl _ _).alloc (Nat.le_refl _) _
  have hbx : Hold w28.heap.size (w28.heap.size + 1) (BoxV w28.heap.size [.slice (some ⟨xg0.l, 0, none⟩) wl0.cn wl0.cn, .int .i64 wl0.k, .int .i64 wl0.e, .int .i64 wl0.f, .int .i64 wl0.s, .int .i64 wl0.n, .slice (some ⟨xg0.g, 0, none⟩) wl0.gn wl0.gn, .slice (some ⟨xg0.r, 0, none⟩) wl0.rn wl0.rn]) w36 := by rw [hX]; exact boxV_new w28 #[.slice (some ⟨xg0.l, 0, none⟩) wl0.cn wl0.cn, .int .i64 wl0.k, .int .i64 wl0.e, .int .i64 wl0.f, .int .i64 wl0.s, .int .i64 wl0.n, .slice (some ⟨xg0.g, 0, none⟩) wl0.gn wl0.gn, .slice (some ⟨xg0.r, 0, none⟩) wl0.rn wl0.rn] 55
  clear hX
  have B37 : Hid (Below w.heap.size w w36) := B29.out.trans (hb.mono B29.out.size)
  have hz38 := hb.size
  have F39 : Hid (Hold (w.heap.size) (w.heap.size + 1) (BoxV (w.heap.size) [.slice wl0.ca wl0.cn wl0.cc, .int .i64 wl0.k, .int .i64 wl0.e, .int .i64 wl0.f, .int .i64 wl0.s, .int .i64 wl0.n, .slice wl0.ga wl0.gn wl0.gc, .slice wl0.ra wl0.rn wl0.rc]) w36) := F31.out.below hb
  have F40 : Hid (Hold (w8.heap.size) (w14.heap.size) (fun X => X.ownsRow w8.heap.size 2 1 (.slice raS ys.length rcS) ys.length (ys.map (Value.int .i64))) w36) := F32.out.below hb
  have F41 : Hid (Hold (w14.heap.size) (w14.heap.size + 1) (BoxV w14.heap.size [.int .i64 c, .slice raS ys.length rcS]) w36) := F33.out.below hb
  have F42 : Hid (Hold (xg0.l) (xg0.h) (CpW xg0 wl0) w36) := F34.out.below hb
  clear B29 F31 F32 F33 F34
  have F43 : Hid (Hold (w28.heap.size) (w28.heap.size + 1) (BoxV w28.heap.size [.slice (some ⟨xg0.l, 0, none⟩) wl0.cn wl0.cn, .int .i64 wl0.k, .int .i64 wl0.e, .int .i64 wl0.f, .int .i64 wl0.s, .int .i64 wl0.n, .slice (some ⟨xg0.g, 0, none⟩) wl0.gn wl0.gn, .slice (some ⟨xg0.r, 0, none⟩) wl0.rn wl0.rn]) w36) := hbx
  have hl44 := F43.out.le
  clear hbx hb
  have xb00 := F43.out.out 0 _ rfl
  have xb01 := F43.out.out 1 _ rfl
  have xb02 := F43.out.out 2 _ rfl
  have xb03 := F43.out.out 3 _ rfl
  have xb04 := F43.out.out 4 _ rfl
  have xb05 := F43.out.out 5 _ rfl
  have xb06 := F43.out.out 6 _ rfl
  have xb07 := F43.out.out 7 _ rfl
  go_wp2_with fail
  refine (HIM.out _ _ F42.out.out).mono ?_
  rintro e w45 ⟨raI, rcI, rfl, how, hb⟩
  have B46 : Hid (Below w.heap.size w w45) := B37.out.trans (hb.mono B37.out.size)
  have hz47 := hb.size
  have F48 : Hid (Hold (w.heap.size) (w.heap.size + 1) (BoxV (w.heap.size) [.slice wl0.ca wl0.cn wl0.cc, .int .i64 wl0.k, .int .i64 wl0.e, .int .i64 wl0.f, .int .i64 wl0.s, .int .i64 wl0.n, .slice wl0.ga wl0.gn wl0.gc, .slice wl0.ra wl0.rn wl0.rc]) w45) := F39.out.below hb
  have F49 : Hid (Hold (w8.heap.size) (w14.heap.size) (fun X => X.ownsRow w8.heap.size 2 1 (.slice raS ys.length rcS) ys.length (ys.map (Value.int .i64))) w45) := F40.out.below hb
  have F50 : Hid (Hold (w14.heap.size) (w14.heap.size + 1) (BoxV w14.heap.size [.int .i64 c, .slice raS ys.length rcS]) w45) := F41.out.below hb
  have F51 : Hid (Hold (xg0.l) (xg0.h) (CpW xg0 wl0) w45) := F42.out.below hb
  have F52 : Hid (Hold (w28.heap.size) (w28.heap.size + 1) (BoxV w28.heap.size [.slice (some ⟨xg0.l, 0, none⟩) wl0.cn wl0.cn, .int .i64 wl0.k, .int .i64 wl0.e, .int .i64 wl0.f, .int .i64 wl0.s, .int .i64 wl0.n, .slice (some ⟨xg0.g, 0, none⟩) wl0.gn wl0.gn, .slice (some ⟨xg0.r, 0, none⟩) wl0.rn wl0.rn]) w45) := F43.out.below hb
  clear B37 F39 F40 F41 F42 F43
  clear xb00 xb01 xb02 xb03 xb04 xb05 xb06 xb07
  have F53 : Hid (Hold (w36.heap.size) (w45.heap.size) (fun X => X.ownsRow w36.heap.size 2 1 (.slice raI ys.length rcI) ys.length (ys.map (Value.int .i64))) w45) := owns_hold0 how
  have hl54 := F53.out.le
  clear how hb
  have HRW : Hid (∀ q, (Value.slice raI ys.length rcI).ownBlock = some q → w36.heap.size ≤ q ∧ q < w45.heap.size) := fun q e => (F53.out.out.lt q e)
  go_upto_region 8 with fail
  obtain ⟨w55, hX⟩ : ∃ X, X = w45.alloc (.cells #[.int .i64 c, .slice raI ys.length rcI] 50) := ⟨_, rfl⟩
  rw [← hX]
  have hb : Below w45.heap.size w45 w55 := by rw [hX]; exact (Below.refl _ _).alloc (Nat.le_refl _) _
  have hbx : Hold w45.heap.size (w45.heap.size + 1) (BoxV w45.heap.size [.int .i64 c, .slice raI ys.length rcI]) w55 := by rw [hX]; exact boxV_new w45 #[.int .i64 c, .slice raI ys.length rcI] 50
  clear hX
  have B56 : Hid (Below w.heap.size w w55) := B46.out.trans (hb.mono B46.out.size)
  have hz57 := hb.size
  have F58 : Hid (Hold (w.heap.size) (w.heap.size + 1) (BoxV (w.heap.size) [.slice wl0.ca wl0.cn wl0.cc, .int .i64 wl0.k, .int .i64 wl0.e, .int .i64 wl0.f, .int .i64 wl0.s, .int .i64 wl0.n, .slice wl0.ga wl0.gn wl0.gc, .slice wl0.ra wl0.rn wl0.rc]) w55) := F48.out.below hb
  have F59 : Hid (Hold (w8.heap.size) (w14.heap.size) (fun X => X.ownsRow w8.heap.size 2 1 (.slice raS ys.length rcS) ys.length (ys.map (Value.int .i64))) w55) := F49.out.below hb
  have F60 : Hid (Hold (w14.heap.size) (w14.heap.size + 1) (BoxV w14.heap.size [.int .i64 c, .slice raS ys.length rcS]) w55) := F50.out.below hb
  have F61 : Hid (Hold (xg0.l) (xg0.h) (CpW xg0 wl0) w55) := F51.out.below hb
  have F62 : Hid (Hold (w28.heap.size) (w28.heap.size + 1) (BoxV w28.heap.size [.slice (some ⟨xg0.l, 0, none⟩) wl0.cn wl0.cn, .int .i64 wl0.k, .int .i64 wl0.e, .int .i64 wl0.f, .int .i64 wl0.s, .int .i64 wl0.n, .slice (some ⟨xg0.g, 0, none⟩) wl0.gn wl0.gn, .slice (some ⟨xg0.r, 0, none⟩) wl0.rn wl0.rn]) w55) := F52.out.below hb
  have F63 : Hid (Hold (w36.heap.size) (w45.heap.size) (fun X => X.ownsRow w36.heap.size 2 1 (.slice raI ys.length rcI) ys.length (ys.map (Value.int .i64))) w55) := F53.out.below hb
  clear B46 F48 F49 F50 F51 F52 F53
  have F64 : Hid (Hold (w45.heap.size) (w45.heap.size + 1) (BoxV w45.heap.size [.int .i64 c, .slice raI ys.length rcI]) w55) := hbx
  have hl65 := F64.out.le
  clear hbx hb
  have p0 := F64.out.out 0 _ rfl
  have p1 := F64.out.out 1 _ rfl
  have q0 := F60.out.out 0 _ rfl
  have q1 := F60.out.out 1 _ rfl
  go_wp2_with fail
  refine (eqInts_same c raI raS ys.length rcI rcS ys _ hyl (row_of_owns F63.out.out) (row_of_owns F59.out.out)).mono ?_
  rintro e w66 ⟨rfl, hb⟩
  clear p0 p1 q0 q1
  have B67 : Hid (Below w.heap.size w w66) := B56.out.trans (hb.mono B56.out.size)
  have hz68 := hb.size
  have F69 : Hid (Hold (w.heap.size) (w.heap.size + 1) (BoxV (w.heap.size) [.slice wl0.ca wl0.cn wl0.cc, .int .i64 wl0.k, .int .i64 wl0.e, .int .i64 wl0.f, .int .i64 wl0.s, .int .i64 wl0.n, .slice wl0.ga wl0.gn wl0.gc, .slice wl0.ra wl0.rn wl0.rc]) w66) := F58.out.below hb
  have F70 : Hid (Hold (w8.heap.size) (w14.heap.size) (fun X => X.ownsRow w8.heap.size 2 1 (.slice raS ys.length rcS) ys.length (ys.map (Value.int .i64))) w66) := F59.out.below hb
  have F71 : Hid (Hold (w14.heap.size) (w14.heap.size + 1) (BoxV w14.heap.size [.int .i64 c, .slice raS ys.length rcS]) w66) := F60.out.below hb
  have F72 : Hid (Hold (xg0.l) (xg0.h) (CpW xg0 wl0) w66) := F61.out.below hb
  have F73 : Hid (Hold (w28.heap.size) (w28.heap.size + 1) (BoxV w28.heap.size [.slice (some ⟨xg0.l, 0, none⟩) wl0.cn wl0.cn, .int .i64 wl0.k, .int .i64 wl0.e, .int .i64 wl0.f, .int .i64 wl0.s, .int .i64 wl0.n, .slice (some ⟨xg0.g, 0, none⟩) wl0.gn wl0.gn, .slice (some ⟨xg0.r, 0, none⟩) wl0.rn wl0.rn]) w66) := F62.out.below hb
  have F74 : Hid (Hold (w36.heap.size) (w45.heap.size) (fun X => X.ownsRow w36.heap.size 2 1 (.slice raI ys.length rcI) ys.length (ys.map (Value.int .i64))) w66) := F63.out.below hb
  have F75 : Hid (Hold (w45.heap.size) (w45.heap.size + 1) (BoxV w45.heap.size [.int .i64 c, .slice raI ys.length rcI]) w66) := F64.out.below hb
  clear B56 F58 F59 F60 F61 F62 F63 F64
  clear hb
  have b00 := F69.out.out 0 _ rfl
  have b01 := F69.out.out 1 _ rfl
  have b02 := F69.out.out 2 _ rfl
  have b03 := F69.out.out 3 _ rfl
  have b04 := F69.out.out 4 _ rfl
  have b05 := F69.out.out 5 _ rfl
  have b06 := F69.out.out 6 _ rfl
  have b07 := F69.out.out 7 _ rfl
  have xb00 := F73.out.out 0 _ rfl
  have xb01 := F73.out.out 1 _ rfl
  have xb02 := F73.out.out 2 _ rfl
  have xb03 := F73.out.out 3 _ rfl
  have xb04 := F73.out.out 4 _ rfl
  have xb05 := F73.out.out 5 _ rfl
  have xb06 := F73.out.out 6 _ rfl
  have xb07 := F73.out.out 7 _ rfl
  have hba : w.heap.size < w66.heap.size := by have := F69.out.le; omega
  have hbb : w28.heap.size < w66.heap.size := by have := F73.out.le; omega
  have HTO : Hid (∀ w2, KR0 w66 w2 → Below w.heap.size w w2) := fun w2 q => B67.out.trans (q.2.mono B67.out.size)
  go_upto_region 10 with fail
  refine wp_region_held_drew (S := fun w' => KR0 w66 w') (by kernel_rfl) (kp_drew _) (fun hHeld => ?_)
  refine wpAnyH_take (i := 0) (v := ?_) rfl (by kernel_rfl) (by kernel_rfl) (by kernel_rfl) (fun _ _ _ h => h) (Or.inl ⟨by kernel_rfl, ?_⟩) (by assumption) ?_
  rotate_left 1
  · intro w hSw; (try dsimp only at hSw); go_simp; try (with_reducible rfl)
  try simp only [Act.put, List.getElem_toArray, List.getElem_cons_succ, List.getElem_cons_zero, List.setIfInBounds_toArray, List.set_cons_zero, List.set_cons_succ]
  refine wpAnyH_take (i := 1) (v := ?_) rfl (by kernel_rfl) (by kernel_rfl) (by kernel_rfl) (fun _ _ _ h => h) (Or.inl ⟨by kernel_rfl, ?_⟩) (by assumption) ?_
  rotate_left 1
  · intro w hSw; (try dsimp only at hSw); go_simp; try (with_reducible rfl)
  try simp only [Act.put, List.getElem_toArray, List.getElem_cons_succ, List.getElem_cons_zero, List.setIfInBounds_toArray, List.set_cons_zero, List.set_cons_succ]
  refine wpAnyH_ready (rs := [2]) (by kernel_rfl) (by simp) ?_
  refine AllReadyH.cons rfl (fun K hK => ?_) AllReadyH.nil
  go_simp
  refine (toWallet_h wl0 _ hs0 (H0.out.below (HTO.out _ (by assumption)))).mono ?_
  rintro d w76 ⟨gE, rfl, hge, hlt, hcp, hbE⟩
  have hS := kp_step (by assumption) hbE
  have EE := (hcp.hold).out
  have EC := (F72.out.drew.below hbE).out
  refine hK.out _ _ hS (fun hHeld => ?_)
  clear hK K
  try simp only [Act.put, List.getElem_toArray, List.getElem_cons_succ, List.getElem_cons_zero, List.setIfInBounds_toArray, List.set_cons_zero, List.set_cons_succ]
  refine wpAnyH_ready (rs := [3]) (by kernel_rfl) (by simp) ?_
  refine AllReadyH.cons rfl (fun K hK => ?_) AllReadyH.nil
  go_simp
  refine (eqWallet_c wl0 _ _ _ hs0 HZ0.out EC EE).mono ?_
  rintro d w77 ⟨rfl, hbQ⟩
  have hS := kp_step (by assumption) hbQ
  have hSQ := hS
  refine hK.out _ _ hS (fun hHeld => ?_)
  clear hK K
  try simp only [Act.put, List.getElem_toArray, List.getElem_cons_succ, List.getElem_cons_zero, List.setIfInBounds_toArray, List.set_cons_zero, List.set_cons_succ]
  refine wpAnyH_take (i := 4) (v := ?_) rfl (by kernel_rfl) (by kernel_rfl) (by kernel_rfl) (fun _ _ _ h => h) (Or.inl ⟨by kernel_rfl, ?_⟩) (by assumption) ?_
  rotate_left 1
  · intro w hSw; (try dsimp only at hSw); go_simp; try (with_reducible rfl)
  try simp only [Act.put, List.getElem_toArray, List.getElem_cons_succ, List.getElem_cons_zero, List.setIfInBounds_toArray, List.set_cons_zero, List.set_cons_succ]
  refine wpAnyH_done (by kernel_rfl) ?_ _
  have hbK := hSQ.2
  clear hS hSQ EE EC hbQ hbE hcp hlt hge b00 b01 b02 b03 b04 b05 b06 b07 xb00 xb01 xb02 xb03 xb04 xb05 xb06 xb07 hba hbb HTO
  have B78 : Hid (Below w.heap.size w w77) := B67.out.trans (hbK.mono B67.out.size)
  have hz79 := hbK.size
  have F80 : Hid (Hold (w.heap.size) (w.heap.size + 1) (BoxV (w.heap.size) [.slice wl0.ca wl0.cn wl0.cc, .int .i64 wl0.k, .int .i64 wl0.e, .int .i64 wl0.f, .int .i64 wl0.s, .int .i64 wl0.n, .slice wl0.ga wl0.gn wl0.gc, .slice wl0.ra wl0.rn wl0.rc]) w77) := F69.out.below hbK
  have F81 : Hid (Hold (w8.heap.size) (w14.heap.size) (fun X => X.ownsRow w8.heap.size 2 1 (.slice raS ys.length rcS) ys.length (ys.map (Value.int .i64))) w77) := F70.out.below hbK
  have F82 : Hid (Hold (w14.heap.size) (w14.heap.size + 1) (BoxV w14.heap.size [.int .i64 c, .slice raS ys.length rcS]) w77) := F71.out.below hbK
  have F83 : Hid (Hold (xg0.l) (xg0.h) (CpW xg0 wl0) w77) := F72.out.below hbK
  have F84 : Hid (Hold (w28.heap.size) (w28.heap.size + 1) (BoxV w28.heap.size [.slice (some ⟨xg0.l, 0, none⟩) wl0.cn wl0.cn, .int .i64 wl0.k, .int .i64 wl0.e, .int .i64 wl0.f, .int .i64 wl0.s, .int .i64 wl0.n, .slice (some ⟨xg0.g, 0, none⟩) wl0.gn wl0.gn, .slice (some ⟨xg0.r, 0, none⟩) wl0.rn wl0.rn]) w77) := F73.out.below hbK
  have F85 : Hid (Hold (w36.heap.size) (w45.heap.size) (fun X => X.ownsRow w36.heap.size 2 1 (.slice raI ys.length rcI) ys.length (ys.map (Value.int .i64))) w77) := F74.out.below hbK
  have F86 : Hid (Hold (w45.heap.size) (w45.heap.size + 1) (BoxV w45.heap.size [.int .i64 c, .slice raI ys.length rcI]) w77) := F75.out.below hbK
  clear B67 F69 F70 F71 F72 F73 F74 F75
  clear hbK
  have xb00 := F84.out.out 0 _ rfl
  have xb01 := F84.out.out 1 _ rfl
  have xb02 := F84.out.out 2 _ rfl
  have xb03 := F84.out.out 3 _ rfl
  have xb04 := F84.out.out 4 _ rfl
  have xb05 := F84.out.out 5 _ rfl
  have xb06 := F84.out.out 6 _ rfl
  have xb07 := F84.out.out 7 _ rfl
  go_wp2_with fail
  refine (markWallet_c wl0 _ ((1 : Int)) _ hs0 HZ0.out (by omega) (by omega) F83.out.out).mono ?_
  rintro e w87 ⟨kk0, rfl, hkk0, hch⟩
  clear xb00 xb01 xb02 xb03 xb04 xb05 xb06 xb07
  have B88 : Hid (Below w.heap.size w w87) := below_chg B78.out hch (by have := hNB; omega) B78.out.size
  have hz89 := hch.size
  have F90 : Hid (Hold (w.heap.size) (w.heap.size + 1) (BoxV (w.heap.size) [.slice wl0.ca wl0.cn wl0.cc, .int .i64 wl0.k, .int .i64 wl0.e, .int .i64 wl0.f, .int .i64 wl0.s, .int .i64 wl0.n, .slice wl0.ga wl0.gn wl0.gc, .slice wl0.ra wl0.rn wl0.rc]) w87) := F80.out.chg hch (by omega)
  have F91 : Hid (Hold (w8.heap.size) (w14.heap.size) (fun X => X.ownsRow w8.heap.size 2 1 (.slice raS ys.length rcS) ys.length (ys.map (Value.int .i64))) w87) := F81.out.chg hch (by omega)
  have F92 : Hid (Hold (w14.heap.size) (w14.heap.size + 1) (BoxV w14.heap.size [.int .i64 c, .slice raS ys.length rcS]) w87) := F82.out.chg hch (by omega)
  have F93 : Hid (Hold (w28.heap.size) (w28.heap.size + 1) (BoxV w28.heap.size [.slice (some ⟨xg0.l, 0, none⟩) wl0.cn wl0.cn, .int .i64 wl0.k, .int .i64 wl0.e, .int .i64 wl0.f, .int .i64 wl0.s, .int .i64 wl0.n, .slice (some ⟨xg0.g, 0, none⟩) wl0.gn wl0.gn, .slice (some ⟨xg0.r, 0, none⟩) wl0.rn wl0.rn]) w87) := F84.out.chg hch (by omega)
  have F94 : Hid (Hold (w36.heap.size) (w45.heap.size) (fun X => X.ownsRow w36.heap.size 2 1 (.slice raI ys.length rcI) ys.length (ys.map (Value.int .i64))) w87) := F85.out.chg hch (by omega)
  have F95 : Hid (Hold (w45.heap.size) (w45.heap.size + 1) (BoxV w45.heap.size [.int .i64 c, .slice raI ys.length rcI]) w87) := F86.out.chg hch (by omega)
  clear B78 F80 F81 F82 F84 F85 F86 F83
  clear hch
  have hk0 : decide ((kk0 : Int) < 0) = false := by simp; omega
  have p0 := F95.out.out 0 _ rfl
  have p1 := F95.out.out 1 _ rfl
  have q0 := F92.out.out 0 _ rfl
  have q1 := F92.out.out 1 _ rfl
  go_wp2_with fail
  refine (eqInts_same c raI raS ys.length rcI rcS ys _ hyl (row_of_owns F94.out.out) (row_of_owns F91.out.out)).mono ?_
  rintro e w96 ⟨rfl, hb⟩
  clear p0 p1 q0 q1
  have B97 : Hid (Below w.heap.size w w96) := B88.out.trans (hb.mono B88.out.size)
  have hz98 := hb.size
  have F99 : Hid (Hold (w.heap.size) (w.heap.size + 1) (BoxV (w.heap.size) [.slice wl0.ca wl0.cn wl0.cc, .int .i64 wl0.k, .int .i64 wl0.e, .int .i64 wl0.f, .int .i64 wl0.s, .int .i64 wl0.n, .slice wl0.ga wl0.gn wl0.gc, .slice wl0.ra wl0.rn wl0.rc]) w96) := F90.out.below hb
  have F100 : Hid (Hold (w8.heap.size) (w14.heap.size) (fun X => X.ownsRow w8.heap.size 2 1 (.slice raS ys.length rcS) ys.length (ys.map (Value.int .i64))) w96) := F91.out.below hb
  have F101 : Hid (Hold (w14.heap.size) (w14.heap.size + 1) (BoxV w14.heap.size [.int .i64 c, .slice raS ys.length rcS]) w96) := F92.out.below hb
  have F102 : Hid (Hold (w28.heap.size) (w28.heap.size + 1) (BoxV w28.heap.size [.slice (some ⟨xg0.l, 0, none⟩) wl0.cn wl0.cn, .int .i64 wl0.k, .int .i64 wl0.e, .int .i64 wl0.f, .int .i64 wl0.s, .int .i64 wl0.n, .slice (some ⟨xg0.g, 0, none⟩) wl0.gn wl0.gn, .slice (some ⟨xg0.r, 0, none⟩) wl0.rn wl0.rn]) w96) := F93.out.below hb
  have F103 : Hid (Hold (w36.heap.size) (w45.heap.size) (fun X => X.ownsRow w36.heap.size 2 1 (.slice raI ys.length rcI) ys.length (ys.map (Value.int .i64))) w96) := F94.out.below hb
  have F104 : Hid (Hold (w45.heap.size) (w45.heap.size + 1) (BoxV w45.heap.size [.int .i64 c, .slice raI ys.length rcI]) w96) := F95.out.below hb
  clear B88 F90 F91 F92 F93 F94 F95
  clear hb
  have p0 := F104.out.out 0 _ rfl
  have p1 := F104.out.out 1 _ rfl
  go_wp2_with fail
  refine (mark1 c _ raI ys.length rcI _ _ hyl F103.out.out).mono ?_
  rintro e w105 ⟨rfl, how, hg⟩
  clear p0 p1
  have hch : Chg w36.heap.size w45.heap.size w96 w105 := Chg.grown hg (fun q e => HRW.out q e)
  have hzc := hch.size
  have B106 : Hid (Below w.heap.size w w105) := below_chg B97.out hch (by have := hNB; omega) B97.out.size
  have hz107 := hch.size
  have F108 : Hid (Hold (w.heap.size) (w.heap.size + 1) (BoxV (w.heap.size) [.slice wl0.ca wl0.cn wl0.cc, .int .i64 wl0.k, .int .i64 wl0.e, .int .i64 wl0.f, .int .i64 wl0.s, .int .i64 wl0.n, .slice wl0.ga wl0.gn wl0.gc, .slice wl0.ra wl0.rn wl0.rc]) w105) := F99.out.chg hch (by omega)
  have F109 : Hid (Hold (w8.heap.size) (w14.heap.size) (fun X => X.ownsRow w8.heap.size 2 1 (.slice raS ys.length rcS) ys.length (ys.map (Value.int .i64))) w105) := F100.out.chg hch (by omega)
  have F110 : Hid (Hold (w14.heap.size) (w14.heap.size + 1) (BoxV w14.heap.size [.int .i64 c, .slice raS ys.length rcS]) w105) := F101.out.chg hch (by omega)
  have F111 : Hid (Hold (w28.heap.size) (w28.heap.size + 1) (BoxV w28.heap.size [.slice (some ⟨xg0.l, 0, none⟩) wl0.cn wl0.cn, .int .i64 wl0.k, .int .i64 wl0.e, .int .i64 wl0.f, .int .i64 wl0.s, .int .i64 wl0.n, .slice (some ⟨xg0.g, 0, none⟩) wl0.gn wl0.gn, .slice (some ⟨xg0.r, 0, none⟩) wl0.rn wl0.rn]) w105) := F102.out.chg hch (by omega)
  have F112 : Hid (Hold (w45.heap.size) (w45.heap.size + 1) (BoxV w45.heap.size [.int .i64 c, .slice raI ys.length rcI]) w105) := F104.out.chg hch (by omega)
  clear B97 F99 F100 F101 F102 F104 F103
  have F113 : Hid (Hold (w36.heap.size) (w45.heap.size) (fun X => X.ownsRow w36.heap.size 2 1 (.slice raI ys.length rcI) ys.length ((marks 1 ys.length).map (Value.int .i64))) w105) := owns_hold how _ (fun q e => (HRW.out q e).2) (by omega)
  have hl114 := F113.out.le
  clear how hg hch hzc
  have hq0 : decide ((1 : Int) + (ys.length : Int) < 0) = false := by simp; omega
  have p0 := F112.out.out 0 _ rfl
  have p1 := F112.out.out 1 _ rfl
  go_wp2_with fail
  refine (held1 c raI ys.length rcI _ hyl (row_of_owns F113.out.out)).mono ?_
  rintro e w115 ⟨rfl, hb⟩
  clear p0 p1
  have B116 : Hid (Below w.heap.size w w115) := B106.out.trans (hb.mono B106.out.size)
  have hz117 := hb.size
  have F118 : Hid (Hold (w.heap.size) (w.heap.size + 1) (BoxV (w.heap.size) [.slice wl0.ca wl0.cn wl0.cc, .int .i64 wl0.k, .int .i64 wl0.e, .int .i64 wl0.f, .int .i64 wl0.s, .int .i64 wl0.n, .slice wl0.ga wl0.gn wl0.gc, .slice wl0.ra wl0.rn wl0.rc]) w115) := F108.out.below hb
  have F119 : Hid (Hold (w8.heap.size) (w14.heap.size) (fun X => X.ownsRow w8.heap.size 2 1 (.slice raS ys.length rcS) ys.length (ys.map (Value.int .i64))) w115) := F109.out.below hb
  have F120 : Hid (Hold (w14.heap.size) (w14.heap.size + 1) (BoxV w14.heap.size [.int .i64 c, .slice raS ys.length rcS]) w115) := F110.out.below hb
  have F121 : Hid (Hold (w28.heap.size) (w28.heap.size + 1) (BoxV w28.heap.size [.slice (some ⟨xg0.l, 0, none⟩) wl0.cn wl0.cn, .int .i64 wl0.k, .int .i64 wl0.e, .int .i64 wl0.f, .int .i64 wl0.s, .int .i64 wl0.n, .slice (some ⟨xg0.g, 0, none⟩) wl0.gn wl0.gn, .slice (some ⟨xg0.r, 0, none⟩) wl0.rn wl0.rn]) w115) := F111.out.below hb
  have F122 : Hid (Hold (w45.heap.size) (w45.heap.size + 1) (BoxV w45.heap.size [.int .i64 c, .slice raI ys.length rcI]) w115) := F112.out.below hb
  have F123 : Hid (Hold (w36.heap.size) (w45.heap.size) (fun X => X.ownsRow w36.heap.size 2 1 (.slice raI ys.length rcI) ys.length ((marks 1 ys.length).map (Value.int .i64))) w115) := F113.out.below hb
  clear B106 F108 F109 F110 F111 F112 F113
  clear hb
  have b00 := F118.out.out 0 _ rfl
  have b01 := F118.out.out 1 _ rfl
  have b02 := F118.out.out 2 _ rfl
  have b03 := F118.out.out 3 _ rfl
  have b04 := F118.out.out 4 _ rfl
  have b05 := F118.out.out 5 _ rfl
  have b06 := F118.out.out 6 _ rfl
  have b07 := F118.out.out 7 _ rfl
  go_wp2_with fail
  refine (toWallet_h wl0 _ hs0 (H0.out.below B116.out)).mono ?_
  rintro e w124 ⟨tg0H, rfl, hge, hlt, hcp, hb⟩
  have B125 : Hid (Below w.heap.size w w124) := B116.out.trans (hb.mono B116.out.size)
  have hz126 := hb.size
  have F127 : Hid (Hold (w.heap.size) (w.heap.size + 1) (BoxV (w.heap.size) [.slice wl0.ca wl0.cn wl0.cc, .int .i64 wl0.k, .int .i64 wl0.e, .int .i64 wl0.f, .int .i64 wl0.s, .int .i64 wl0.n, .slice wl0.ga wl0.gn wl0.gc, .slice wl0.ra wl0.rn wl0.rc]) w124) := F118.out.below hb
  have F128 : Hid (Hold (w8.heap.size) (w14.heap.size) (fun X => X.ownsRow w8.heap.size 2 1 (.slice raS ys.length rcS) ys.length (ys.map (Value.int .i64))) w124) := F119.out.below hb
  have F129 : Hid (Hold (w14.heap.size) (w14.heap.size + 1) (BoxV w14.heap.size [.int .i64 c, .slice raS ys.length rcS]) w124) := F120.out.below hb
  have F130 : Hid (Hold (w28.heap.size) (w28.heap.size + 1) (BoxV w28.heap.size [.slice (some ⟨xg0.l, 0, none⟩) wl0.cn wl0.cn, .int .i64 wl0.k, .int .i64 wl0.e, .int .i64 wl0.f, .int .i64 wl0.s, .int .i64 wl0.n, .slice (some ⟨xg0.g, 0, none⟩) wl0.gn wl0.gn, .slice (some ⟨xg0.r, 0, none⟩) wl0.rn wl0.rn]) w124) := F121.out.below hb
  have F131 : Hid (Hold (w45.heap.size) (w45.heap.size + 1) (BoxV w45.heap.size [.int .i64 c, .slice raI ys.length rcI]) w124) := F122.out.below hb
  have F132 : Hid (Hold (w36.heap.size) (w45.heap.size) (fun X => X.ownsRow w36.heap.size 2 1 (.slice raI ys.length rcI) ys.length ((marks 1 ys.length).map (Value.int .i64))) w124) := F123.out.below hb
  clear B116 F118 F119 F120 F121 F122 F123
  have F133 : Hid (Hold (tg0H.l) (tg0H.h) (CpW tg0H wl0) w124) := hcp.hold
  have hl134 := F133.out.le
  clear hcp hlt hb hge b00 b01 b02 b03 b04 b05 b06 b07
  go_wp2_with fail
  refine (HIM.out _ _ F133.out.out).mono ?_
  rintro e w135 ⟨raH, rcH, rfl, how, hb⟩
  have B136 : Hid (Below w.heap.size w w135) := B125.out.trans (hb.mono B125.out.size)
  have hz137 := hb.size
  have F138 : Hid (Hold (w.heap.size) (w.heap.size + 1) (BoxV (w.heap.size) [.slice wl0.ca wl0.cn wl0.cc, .int .i64 wl0.k, .int .i64 wl0.e, .int .i64 wl0.f, .int .i64 wl0.s, .int .i64 wl0.n, .slice wl0.ga wl0.gn wl0.gc, .slice wl0.ra wl0.rn wl0.rc]) w135) := F127.out.below hb
  have F139 : Hid (Hold (w8.heap.size) (w14.heap.size) (fun X => X.ownsRow w8.heap.size 2 1 (.slice raS ys.length rcS) ys.length (ys.map (Value.int .i64))) w135) := F128.out.below hb
  have F140 : Hid (Hold (w14.heap.size) (w14.heap.size + 1) (BoxV w14.heap.size [.int .i64 c, .slice raS ys.length rcS]) w135) := F129.out.below hb
  have F141 : Hid (Hold (w28.heap.size) (w28.heap.size + 1) (BoxV w28.heap.size [.slice (some ⟨xg0.l, 0, none⟩) wl0.cn wl0.cn, .int .i64 wl0.k, .int .i64 wl0.e, .int .i64 wl0.f, .int .i64 wl0.s, .int .i64 wl0.n, .slice (some ⟨xg0.g, 0, none⟩) wl0.gn wl0.gn, .slice (some ⟨xg0.r, 0, none⟩) wl0.rn wl0.rn]) w135) := F130.out.below hb
  have F142 : Hid (Hold (w45.heap.size) (w45.heap.size + 1) (BoxV w45.heap.size [.int .i64 c, .slice raI ys.length rcI]) w135) := F131.out.below hb
  have F143 : Hid (Hold (w36.heap.size) (w45.heap.size) (fun X => X.ownsRow w36.heap.size 2 1 (.slice raI ys.length rcI) ys.length ((marks 1 ys.length).map (Value.int .i64))) w135) := F132.out.below hb
  have F144 : Hid (Hold (tg0H.l) (tg0H.h) (CpW tg0H wl0) w135) := F133.out.below hb
  clear B125 F127 F128 F129 F130 F131 F132 F133
  clear F144
  have F145 : Hid (Hold (w124.heap.size) (w135.heap.size) (fun X => X.ownsRow w124.heap.size 2 1 (.slice raH ys.length rcH) ys.length (ys.map (Value.int .i64))) w135) := owns_hold0 how
  have hl146 := F145.out.le
  clear how hb
  go_upto_region 25 with fail
  obtain ⟨w147, hX⟩ : ∃ X, X = w135.alloc (.cells #[.int .i64 c, .slice raH ys.length rcH] 50) := ⟨_, rfl⟩
  rw [← hX]
  have hb : Below w135.heap.size w135 w147 := by rw [hX]; exact (Below.refl _ _).alloc (Nat.le_refl _) _
  have hbx : Hold w135.heap.size (w135.heap.size + 1) (BoxV w135.heap.size [.int .i64 c, .slice raH ys.length rcH]) w147 := by rw [hX]; exact boxV_new w135 #[.int .i64 c, .slice raH ys.length rcH] 50
  clear hX
  have B148 : Hid (Below w.heap.size w w147) := B136.out.trans (hb.mono B136.out.size)
  have hz149 := hb.size
  have F150 : Hid (Hold (w.heap.size) (w.heap.size + 1) (BoxV (w.heap.size) [.slice wl0.ca wl0.cn wl0.cc, .int .i64 wl0.k, .int .i64 wl0.e, .int .i64 wl0.f, .int .i64 wl0.s, .int .i64 wl0.n, .slice wl0.ga wl0.gn wl0.gc, .slice wl0.ra wl0.rn wl0.rc]) w147) := F138.out.below hb
  have F151 : Hid (Hold (w8.heap.size) (w14.heap.size) (fun X => X.ownsRow w8.heap.size 2 1 (.slice raS ys.length rcS) ys.length (ys.map (Value.int .i64))) w147) := F139.out.below hb
  have F152 : Hid (Hold (w14.heap.size) (w14.heap.size + 1) (BoxV w14.heap.size [.int .i64 c, .slice raS ys.length rcS]) w147) := F140.out.below hb
  have F153 : Hid (Hold (w28.heap.size) (w28.heap.size + 1) (BoxV w28.heap.size [.slice (some ⟨xg0.l, 0, none⟩) wl0.cn wl0.cn, .int .i64 wl0.k, .int .i64 wl0.e, .int .i64 wl0.f, .int .i64 wl0.s, .int .i64 wl0.n, .slice (some ⟨xg0.g, 0, none⟩) wl0.gn wl0.gn, .slice (some ⟨xg0.r, 0, none⟩) wl0.rn wl0.rn]) w147) := F141.out.below hb
  have F154 : Hid (Hold (w45.heap.size) (w45.heap.size + 1) (BoxV w45.heap.size [.int .i64 c, .slice raI ys.length rcI]) w147) := F142.out.below hb
  have F155 : Hid (Hold (w36.heap.size) (w45.heap.size) (fun X => X.ownsRow w36.heap.size 2 1 (.slice raI ys.length rcI) ys.length ((marks 1 ys.length).map (Value.int .i64))) w147) := F143.out.below hb
  have F156 : Hid (Hold (w124.heap.size) (w135.heap.size) (fun X => X.ownsRow w124.heap.size 2 1 (.slice raH ys.length rcH) ys.length (ys.map (Value.int .i64))) w147) := F145.out.below hb
  clear B136 F138 F139 F140 F141 F142 F143 F145
  have F157 : Hid (Hold (w135.heap.size) (w135.heap.size + 1) (BoxV w135.heap.size [.int .i64 c, .slice raH ys.length rcH]) w147) := hbx
  have hl158 := F157.out.le
  clear hbx hb
  have p0 := F157.out.out 0 _ rfl
  have p1 := F157.out.out 1 _ rfl
  have q0 := F152.out.out 0 _ rfl
  have q1 := F152.out.out 1 _ rfl
  go_wp2_with fail
  refine (eqInts_same c raH raS ys.length rcH rcS ys _ hyl (row_of_owns F156.out.out) (row_of_owns F151.out.out)).mono ?_
  rintro e w159 ⟨rfl, hb⟩
  clear p0 p1 q0 q1
  have B160 : Hid (Below w.heap.size w w159) := B148.out.trans (hb.mono B148.out.size)
  have hz161 := hb.size
  have F162 : Hid (Hold (w.heap.size) (w.heap.size + 1) (BoxV (w.heap.size) [.slice wl0.ca wl0.cn wl0.cc, .int .i64 wl0.k, .int .i64 wl0.e, .int .i64 wl0.f, .int .i64 wl0.s, .int .i64 wl0.n, .slice wl0.ga wl0.gn wl0.gc, .slice wl0.ra wl0.rn wl0.rc]) w159) := F150.out.below hb
  have F163 : Hid (Hold (w8.heap.size) (w14.heap.size) (fun X => X.ownsRow w8.heap.size 2 1 (.slice raS ys.length rcS) ys.length (ys.map (Value.int .i64))) w159) := F151.out.below hb
  have F164 : Hid (Hold (w14.heap.size) (w14.heap.size + 1) (BoxV w14.heap.size [.int .i64 c, .slice raS ys.length rcS]) w159) := F152.out.below hb
  have F165 : Hid (Hold (w28.heap.size) (w28.heap.size + 1) (BoxV w28.heap.size [.slice (some ⟨xg0.l, 0, none⟩) wl0.cn wl0.cn, .int .i64 wl0.k, .int .i64 wl0.e, .int .i64 wl0.f, .int .i64 wl0.s, .int .i64 wl0.n, .slice (some ⟨xg0.g, 0, none⟩) wl0.gn wl0.gn, .slice (some ⟨xg0.r, 0, none⟩) wl0.rn wl0.rn]) w159) := F153.out.below hb
  have F166 : Hid (Hold (w45.heap.size) (w45.heap.size + 1) (BoxV w45.heap.size [.int .i64 c, .slice raI ys.length rcI]) w159) := F154.out.below hb
  have F167 : Hid (Hold (w36.heap.size) (w45.heap.size) (fun X => X.ownsRow w36.heap.size 2 1 (.slice raI ys.length rcI) ys.length ((marks 1 ys.length).map (Value.int .i64))) w159) := F155.out.below hb
  have F168 : Hid (Hold (w124.heap.size) (w135.heap.size) (fun X => X.ownsRow w124.heap.size 2 1 (.slice raH ys.length rcH) ys.length (ys.map (Value.int .i64))) w159) := F156.out.below hb
  have F169 : Hid (Hold (w135.heap.size) (w135.heap.size + 1) (BoxV w135.heap.size [.int .i64 c, .slice raH ys.length rcH]) w159) := F157.out.below hb
  clear B148 F150 F151 F152 F153 F154 F155 F156 F157
  clear hb
  have p0 := F166.out.out 0 _ rfl
  have p1 := F166.out.out 1 _ rfl
  go_wp2_with fail
  refine (held1 c raI ys.length rcI _ hyl (row_of_owns F167.out.out)).mono ?_
  rintro e w170 ⟨rfl, hb⟩
  clear p0 p1
  have B171 : Hid (Below w.heap.size w w170) := B160.out.trans (hb.mono B160.out.size)
  have hz172 := hb.size
  have F173 : Hid (Hold (w.heap.size) (w.heap.size + 1) (BoxV (w.heap.size) [.slice wl0.ca wl0.cn wl0.cc, .int .i64 wl0.k, .int .i64 wl0.e, .int .i64 wl0.f, .int .i64 wl0.s, .int .i64 wl0.n, .slice wl0.ga wl0.gn wl0.gc, .slice wl0.ra wl0.rn wl0.rc]) w170) := F162.out.below hb
  have F174 : Hid (Hold (w8.heap.size) (w14.heap.size) (fun X => X.ownsRow w8.heap.size 2 1 (.slice raS ys.length rcS) ys.length (ys.map (Value.int .i64))) w170) := F163.out.below hb
  have F175 : Hid (Hold (w14.heap.size) (w14.heap.size + 1) (BoxV w14.heap.size [.int .i64 c, .slice raS ys.length rcS]) w170) := F164.out.below hb
  have F176 : Hid (Hold (w28.heap.size) (w28.heap.size + 1) (BoxV w28.heap.size [.slice (some ⟨xg0.l, 0, none⟩) wl0.cn wl0.cn, .int .i64 wl0.k, .int .i64 wl0.e, .int .i64 wl0.f, .int .i64 wl0.s, .int .i64 wl0.n, .slice (some ⟨xg0.g, 0, none⟩) wl0.gn wl0.gn, .slice (some ⟨xg0.r, 0, none⟩) wl0.rn wl0.rn]) w170) := F165.out.below hb
  have F177 : Hid (Hold (w45.heap.size) (w45.heap.size + 1) (BoxV w45.heap.size [.int .i64 c, .slice raI ys.length rcI]) w170) := F166.out.below hb
  have F178 : Hid (Hold (w36.heap.size) (w45.heap.size) (fun X => X.ownsRow w36.heap.size 2 1 (.slice raI ys.length rcI) ys.length ((marks 1 ys.length).map (Value.int .i64))) w170) := F167.out.below hb
  have F179 : Hid (Hold (w124.heap.size) (w135.heap.size) (fun X => X.ownsRow w124.heap.size 2 1 (.slice raH ys.length rcH) ys.length (ys.map (Value.int .i64))) w170) := F168.out.below hb
  have F180 : Hid (Hold (w135.heap.size) (w135.heap.size + 1) (BoxV w135.heap.size [.int .i64 c, .slice raH ys.length rcH]) w170) := F169.out.below hb
  clear B160 F162 F163 F164 F165 F166 F167 F168 F169
  clear hb
  go_wp2
  go_ret
  exact ⟨rfl, B171.out⟩

/-! The walk: the Go text returns true. -/
theorem walk (wl0 : WlI) (w : World) (w0 : WlIn w wl0 ∧ WlLe maxLen wl0) :
    Calls Try.prog 5 #[.agg #[.slice wl0.ca wl0.cn wl0.cc, .int .i64 wl0.k, .int .i64 wl0.e, .int .i64 wl0.f, .int .i64 wl0.s, .int .i64 wl0.n, .slice wl0.ga wl0.gn wl0.gc, .slice wl0.ra wl0.rn wl0.rc]] w fun e w' => e = .returned (.bool true) ∧ Below w.heap.size w w' := by
  exact inner wl0 (whoC wl0) (whoL wl0) w w0.2 w0.1 (whoL_len wl0)
    (fun h0 g0 W q0 => specWho_c ⟨some ⟨g0.l, 0, none⟩, wl0.cn, wl0.cn, wl0.cz, wl0.k, wl0.e, wl0.f, wl0.s, wl0.n, some ⟨g0.g, 0, none⟩, wl0.gn, wl0.gn, wl0.zs, some ⟨g0.r, 0, none⟩, wl0.rn, wl0.rn, wl0.rz⟩ W h0.gn)
    (fun h0 g0 W q0 => implWho_c ⟨some ⟨g0.l, 0, none⟩, wl0.cn, wl0.cn, wl0.cz, wl0.k, wl0.e, wl0.f, wl0.s, wl0.n, some ⟨g0.g, 0, none⟩, wl0.gn, wl0.gn, wl0.zs, some ⟨g0.r, 0, none⟩, wl0.rn, wl0.rn, wl0.rz⟩ W h0.gn)

/-! The row's step. -/
set_option maxRecDepth 100000 in
theorem lifted (os : Os) (started : os.Started) (H : Type) (enc : TypeId × Value → H) :
    ReturnsInHanded {} Try.checked os 5 .any (Rows.fnExactWhoInSpec.pre6 enc Try.prog Try.f5 Rows.fnExactWhoInRow.domain false) (Rows.fnExactWhoInSpec.post enc Try.prog Try.f5 false true false false) := by
  refine returnsInHanded_of_change (C := Try.checked) own started (by kernel_rfl) Try.func5
    (ChangeSpec.witness6 (enc := enc) (C := Try.checked) false ⟨#[], #[.agg #[.slice none 0 0, .int .i64 0, .int .i64 0, .int .i64 0, .int .i64 0, .int .i64 0, .slice none 0 0, .slice none 0 0]], []⟩ 8 (by kernel_rfl) (by kernel_rfl) (by kernel_rfl) (by kernel_rfl)) ?_
  intro W base args ds gs before hval0 hW hcnd _
  have hval : ∀ (j : Nat) t v, Try.f5.params[j]? = some t → args[j]? = some v → Value.okWide Try.prog W .any base t v := hval0
  have hW' := hW
  obtain ⟨p, q, hA0, hV, rfl, hfz, hnd⟩ := hW
  have hA : DataW.TrodAll enc Try.prog W 0 (fun _ => true) true Try.f5.params.toList args.toList ds p := hA0
  rw [Try.params5] at hA hval
  obtain ⟨v0, vs0, d0, ds0, p0, q0, hargs, rfl, rfl, h0, r0⟩ := trodAll_cons hA
  obtain ⟨rfl, rfl, rfl⟩ := trodAll_nil r0
  obtain rfl : args = #[v0] := by cases args; simp_all
  obtain ⟨rfl, rfl⟩ := trodVars_none hV
  obtain ⟨cs0, rfl, hs0⟩ := okWide_struct Try.underlying47 (hval 0 47 v0 rfl rfl)
  have k0 := h0
  have lt0 : ∀ x ∈ p0, x.block < W.heap.size := by obtain ⟨m, hm⟩ := k0; exact DataW.trod_lt m _ _ _ hm
  obtain ⟨wl0, rfl, w0⟩ : ∃ r : WlI, cs0 = #[.slice r.ca r.cn r.cc, .int .i64 r.k, .int .i64 r.e, .int .i64 r.f, .int .i64 r.s, .int .i64 r.n, .slice r.ga r.gn r.gc, .slice r.ra r.rn r.rc] ∧ (WlIn W r ∧ WlLe maxLen r) := by
    obtain ⟨fuel, hf⟩ := h0
    exact wallet_shape _ hf
  clear hA0 hval0
  refine (walk wl0 W w0).mono fun e W' ⟨he, bel⟩ => ?_
  subst he
  exact ⟨_, rfl, _, _, _, [], _, [], hW', trodAll_mk1 (shut_bool Try.underlying4 _), (trodAll_cons_mk (Below.trod laidOut (by kernel_rfl) (of_decide_eq_true (by kernel_rfl)) k0 bel lt0) trodAll_mk0), rfl, bel.frame _, fun h => by cases h⟩

theorem over : Rows.fnExactWhoInRow.holds Try.pinned (OpenSpec.ofChange Rows.fnExactWhoInSpec) :=
  OpenClaim.holds_of_wide 5 Try.f5 rfl rfl rfl rfl rfl rfl rfl ⟨rfl, rfl, rfl, rfl, rfl⟩ rfl rfl rfl rfl rfl (by kernel_rfl) Try.func5 (by kernel_rfl)
    (of_decide_eq_true (by kernel_rfl)) (by unfold Func.isWrapper; first | (rw [if_pos (by decide +kernel)]; kernel_rfl) | (rw [if_neg (by decide +kernel)]; exact ⟨rfl, rfl⟩))
    (fun os started H enc _ => lifted os started H enc)

end Go.Proofs.Ythogdfnaojijhaa.fnExactWhoIn
namespace Go.Proofs.Ythogdfnaojijhaa
theorem fnExactWhoIn_holds : Rows.FnExactWhoInSaid := fnExactWhoIn.over
#print axioms fnExactWhoIn_holds
end Go.Proofs.Ythogdfnaojijhaa
