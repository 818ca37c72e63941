/-
  PROVED: for every slice of statements the law laws.FnExactPackLog returns true, that is impl.PackLog answers as spec.PackLog there (up to 1<<20 statements, as the law itself says), writes nothing into its argument, and its list is memory of its own, behind another call too; the argument reads as it did.
  Conditions: none beside those that the given row itself bears. The frame is the shell written by program, turned for structs and slices of structs; the walk is ours.
-/
import Derived.Test.YtnlmoapopdchkaaRows
import Derived.WalkKit
import Derived.ProofKit
import Derived.OpenShut
import Derived.ShutString
import Derived.ChangeOld
import Derived.Below
import Derived.Test.YtnlmoapopdchkaaPg2
import Derived.Test.YtnlmoapopdchkaaPg3
import Derived.Test.YtnlmoapopdchkaaStA
import Derived.Test.YtnlmoapopdchkaaList2
import Derived.Deep.CutBlock
import Derived.Deep.RegionHeld3
namespace Go.Proofs.Ytnlmoapopdchkaa.fnExactPackLog
open Go.ChangeShapes Go.WideShapes Go.ChangeAt Go.RowKit
open Go.ChangeMaps (open_string shut_string)
set_option linter.unusedVariables false

theorem own : ownKnob Try.prog.godebug = none := by kernel_rfl
theorem laidOut : laidOutB Try.prog = true := by kernel_rfl

set_option linter.unusedSimpArgs false

abbrev KR0 (W W' : World) : Prop := (∀ b o, b < W.heap.size → W'.cell? ⟨b, o, none⟩ = W.cell? ⟨b, o, none⟩) ∧ Below W.heap.size W W'

set_option maxRecDepth 100000 in
set_option maxHeartbeats 8000000 in
theorem inner (a0 : Option Addr) (len0 cap0 : Nat) (z0 : List StI) (c : Int) (ys : List Int) (w : World) (hm0 : len0 ≤ maxLen) (h0 : StIn w a0 len0 z0) (hy : ys.length ≤ 1000)
    (HS : Hid (len0 ≤ 1048576 → ∀ (g0 : Nat) (W : World), StCp g0 len0 z0 W → Calls Try.prog 5 #[.slice (some ⟨g0, 0, none⟩) len0 len0] W fun e W' => ∃ a cap, e = .returned (.agg #[.int .i64 c, .slice a ys.length cap]) ∧ W'.ownsRow W.heap.size 2 1 (.slice a ys.length cap) ys.length (ys.map (Value.int .i64)) ∧ Below W.heap.size W W'))
    (HI : Hid (len0 ≤ 1048576 → ∀ (g0 : Nat) (W : World), StCp g0 len0 z0 W → Calls Try.prog 7 #[.slice (some ⟨g0, 0, none⟩) len0 len0] W fun e W' => ∃ a cap, e = .returned (.agg #[.int .i64 c, .slice a ys.length cap]) ∧ W'.ownsRow W.heap.size 2 1 (.slice a ys.length cap) ys.length (ys.map (Value.int .i64)) ∧ Below W.heap.size W W')) :
    Calls Try.prog 3 #[.slice a0 len0 cap0] w fun e w' => e = .returned (.bool true) ∧ Below w.heap.size w w' := by
  have H0 : Hid (StIn w a0 len0 z0) := h0
  have HZ0 : Hid (z0.length = len0) := h0.1
  clear h0
  have hyl : ys.length ≤ 1048576 := by omega
  have hyi : (ys.length : Int) ≤ 1000 := by omega
  obtain ⟨V, hV⟩ : ∃ V, V = w := ⟨_, rfl⟩
  have B0 : Hid (Below w.heap.size w V) := by rw [hV]; exact Below.refl _ _
  have hz0 := B0.out.size
  go_enter Try.func3, Try.ntmps3
  go_wp2_with fail
  rw [← hV]
  clear hV
  refine (szStatements_c a0 len0 cap0 1048576 _ hm0 (by omega) (by omega)).mono ?_
  rintro e w2 ⟨⟨v1, rfl, hv, hv2⟩, hb⟩
  have B3 : Hid (Below w.heap.size w w2) := B0.out.trans (hb.mono B0.out.size)
  have hz4 := hb.size
  clear B0
  clear hb
  by_cases hneg : v1 < 0
  · go_wp2
    go_ret
    exact ⟨rfl, B3.out⟩
  have hs0 : len0 ≤ 1048576 := hv2 (by omega)
  have hiv1 : 0 ≤ v1 ∧ v1 ≤ 1048576 := ⟨by omega, by omega⟩
  clear hv2 hneg
  have HS' := HS.out hs0
  have HI' := HI.out hs0
  have HSP : Hid _ := HS'
  have HIM : Hid _ := HI'
  clear HS' HI' HS HI
  go_wp2_with fail
  refine (toStatements_room a0 len0 cap0 z0 _ hs0 (H0.out.below B3.out)).mono ?_
  rintro e w5 ⟨rfl, hat, hlt, hb, hroom⟩
  have B6 : Hid (Below w.heap.size w w5) := B3.out.trans (hb.mono B3.out.size)
  have hz7 := hb.size
  clear B3
  have F8 : Hid (Hold (w2.heap.size) (w2.heap.size + 1) (StCp w2.heap.size len0 z0) w5) := StCp.hold ⟨hat, hroom⟩ hlt
  have hl9 := F8.out.le
  clear hat hroom hlt hb
  go_wp2_with fail
  refine (HSP.out _ _ F8.out.out).mono ?_
  rintro e w10 ⟨raS, rcS, rfl, how, hb⟩
  have B11 : Hid (Below w.heap.size w w10) := B6.out.trans (hb.mono B6.out.size)
  have hz12 := hb.size
  have F13 : Hid (Hold (w2.heap.size) (w2.heap.size + 1) (StCp w2.heap.size len0 z0) w10) := F8.out.below hb
  clear B6 F8
  clear F13
  have F14 : Hid (Hold (w5.heap.size) (w10.heap.size) (fun X => X.ownsRow w5.heap.size 2 1 (.slice raS ys.length rcS) ys.length (ys.map (Value.int .i64))) w10) := owns_hold0 how
  have hl15 := F14.out.le
  clear how hb
  go_upto_region 6 with fail
  obtain ⟨w16, hX⟩ : ∃ X, X = w10.alloc (.cells #[.int .i64 c, .slice raS ys.length rcS] 26) := ⟨_, rfl⟩
  rw [← hX]
  have hb : Below w10.heap.size w10 w16 := by rw [hX]; exact (Below.refl _ _).alloc (Nat.le_refl _) _
  have hbx : Hold w10.heap.size (w10.heap.size + 1) (BoxV w10.heap.size [.int .i64 c, .slice raS ys.length rcS]) w16 := by rw [hX]; exact boxV_new w10 #[.int .i64 c, .slice raS ys.length rcS] 26
  clear hX
  have B17 : Hid (Below w.heap.size w w16) := B11.out.trans (hb.mono B11.out.size)
  have hz18 := hb.size
  have F19 : Hid (Hold (w5.heap.size) (w10.heap.size) (fun X => X.ownsRow w5.heap.size 2 1 (.slice raS ys.length rcS) ys.length (ys.map (Value.int .i64))) w16) := F14.out.below hb
  clear B11 F14
  have F20 : Hid (Hold (w10.heap.size) (w10.heap.size + 1) (BoxV w10.heap.size [.int .i64 c, .slice raS ys.length rcS]) w16) := hbx
  have hl21 := F20.out.le
  clear hbx hb
  have hNB : w.heap.size ≤ w16.heap.size := B17.out.size
  go_wp2_with fail
  refine (toStatements_room a0 len0 cap0 z0 _ hs0 (H0.out.below B17.out)).mono ?_
  rintro e w22 ⟨rfl, hat, hlt, hb, hroom⟩
  have B23 : Hid (Below w.heap.size w w22) := B17.out.trans (hb.mono B17.out.size)
  have hz24 := hb.size
  have F25 : Hid (Hold (w5.heap.size) (w10.heap.size) (fun X => X.ownsRow w5.heap.size 2 1 (.slice raS ys.length rcS) ys.length (ys.map (Value.int .i64))) w22) := F19.out.below hb
  have F26 : Hid (Hold (w10.heap.size) (w10.heap.size + 1) (BoxV w10.heap.size [.int .i64 c, .slice raS ys.length rcS]) w22) := F20.out.below hb
  clear B17 F19 F20
  obtain ⟨xg0, hxg0⟩ : ∃ g, g = w16.heap.size := ⟨_, rfl⟩
  have hgexg0 : w16.heap.size ≤ xg0 := by omega
  rw [← hxg0] at hat hroom hlt ⊢
  have F27 : Hid (Hold (xg0) (xg0 + 1) (StCp xg0 len0 z0) w22) := StCp.hold ⟨hat, hroom⟩ hlt
  have hl28 := F27.out.le
  clear hxg0 hat hroom hlt hb
  go_wp2_with fail
  refine (HIM.out _ _ F27.out.out).mono ?_
  rintro e w29 ⟨raI, rcI, rfl, how, hb⟩
  have B30 : Hid (Below w.heap.size w w29) := B23.out.trans (hb.mono B23.out.size)
  have hz31 := hb.size
  have F32 : Hid (Hold (w5.heap.size) (w10.heap.size) (fun X => X.ownsRow w5.heap.size 2 1 (.slice raS ys.length rcS) ys.length (ys.map (Value.int .i64))) w29) := F25.out.below hb
  have F33 : Hid (Hold (w10.heap.size) (w10.heap.size + 1) (BoxV w10.heap.size [.int .i64 c, .slice raS ys.length rcS]) w29) := F26.out.below hb
  have F34 : Hid (Hold (xg0) (xg0 + 1) (StCp xg0 len0 z0) w29) := F27.out.below hb
  clear B23 F25 F26 F27
  have F35 : Hid (Hold (w22.heap.size) (w29.heap.size) (fun X => X.ownsRow w22.heap.size 2 1 (.slice raI ys.length rcI) ys.length (ys.map (Value.int .i64))) w29) := owns_hold0 how
  have hl36 := F35.out.le
  clear how hb
  have HRW : Hid (∀ q, (Value.slice raI ys.length rcI).ownBlock = some q → w22.heap.size ≤ q ∧ q < w29.heap.size) := fun q e => (F35.out.out.lt q e)
  go_upto_region 8 with fail
  obtain ⟨w37, hX⟩ : ∃ X, X = w29.alloc (.cells #[.int .i64 c, .slice raI ys.length rcI] 26) := ⟨_, rfl⟩
  rw [← hX]
  have hb : Below w29.heap.size w29 w37 := by rw [hX]; exact (Below.refl _ _).alloc (Nat.le_refl _) _
  have hbx : Hold w29.heap.size (w29.heap.size + 1) (BoxV w29.heap.size [.int .i64 c, .slice raI ys.length rcI]) w37 := by rw [hX]; exact boxV_new w29 #[.int .i64 c, .slice raI ys.length rcI] 26
  clear hX
  have B38 : Hid (Below w.heap.size w w37) := B30.out.trans (hb.mono B30.out.size)
  have hz39 := hb.size
  have F40 : Hid (Hold (w5.heap.size) (w10.heap.size) (fun X => X.ownsRow w5.heap.size 2 1 (.slice raS ys.length rcS) ys.length (ys.map (Value.int .i64))) w37) := F32.out.below hb
  have F41 : Hid (Hold (w10.heap.size) (w10.heap.size + 1) (BoxV w10.heap.size [.int .i64 c, .slice raS ys.length rcS]) w37) := F33.out.below hb
  have F42 : Hid (Hold (xg0) (xg0 + 1) (StCp xg0 len0 z0) w37) := F34.out.below hb
  have F43 : Hid (Hold (w22.heap.size) (w29.heap.size) (fun X => X.ownsRow w22.heap.size 2 1 (.slice raI ys.length rcI) ys.length (ys.map (Value.int .i64))) w37) := F35.out.below hb
  clear B30 F32 F33 F34 F35
  have F44 : Hid (Hold (w29.heap.size) (w29.heap.size + 1) (BoxV w29.heap.size [.int .i64 c, .slice raI ys.length rcI]) w37) := hbx
  have hl45 := F44.out.le
  clear hbx hb
  have p0 := F44.out.out 0 _ rfl
  have p1 := F44.out.out 1 _ rfl
  have q0 := F41.out.out 0 _ rfl
  have q1 := F41.out.out 1 _ rfl
  go_wp2_with fail
  refine (eqInts_same c raI raS ys.length rcI rcS ys _ hyl (row_of_owns F43.out.out) (row_of_owns F40.out.out)).mono ?_
  rintro e w46 ⟨rfl, hb⟩
  clear p0 p1 q0 q1
  have B47 : Hid (Below w.heap.size w w46) := B38.out.trans (hb.mono B38.out.size)
  have hz48 := hb.size
  have F49 : Hid (Hold (w5.heap.size) (w10.heap.size) (fun X => X.ownsRow w5.heap.size 2 1 (.slice raS ys.length rcS) ys.length (ys.map (Value.int .i64))) w46) := F40.out.below hb
  have F50 : Hid (Hold (w10.heap.size) (w10.heap.size + 1) (BoxV w10.heap.size [.int .i64 c, .slice raS ys.length rcS]) w46) := F41.out.below hb
  have F51 : Hid (Hold (xg0) (xg0 + 1) (StCp xg0 len0 z0) w46) := F42.out.below hb
  have F52 : Hid (Hold (w22.heap.size) (w29.heap.size) (fun X => X.ownsRow w22.heap.size 2 1 (.slice raI ys.length rcI) ys.length (ys.map (Value.int .i64))) w46) := F43.out.below hb
  have F53 : Hid (Hold (w29.heap.size) (w29.heap.size + 1) (BoxV w29.heap.size [.int .i64 c, .slice raI ys.length rcI]) w46) := F44.out.below hb
  clear B38 F40 F41 F42 F43 F44
  clear hb
  go_wp2_with fail
  refine (toStatements_room a0 len0 cap0 z0 _ hs0 (H0.out.below B47.out)).mono ?_
  rintro e w54 ⟨rfl, hat, hlt, hb, hroom⟩
  have B55 : Hid (Below w.heap.size w w54) := B47.out.trans (hb.mono B47.out.size)
  have hz56 := hb.size
  have F57 : Hid (Hold (w5.heap.size) (w10.heap.size) (fun X => X.ownsRow w5.heap.size 2 1 (.slice raS ys.length rcS) ys.length (ys.map (Value.int .i64))) w54) := F49.out.below hb
  have F58 : Hid (Hold (w10.heap.size) (w10.heap.size + 1) (BoxV w10.heap.size [.int .i64 c, .slice raS ys.length rcS]) w54) := F50.out.below hb
  have F59 : Hid (Hold (xg0) (xg0 + 1) (StCp xg0 len0 z0) w54) := F51.out.below hb
  have F60 : Hid (Hold (w22.heap.size) (w29.heap.size) (fun X => X.ownsRow w22.heap.size 2 1 (.slice raI ys.length rcI) ys.length (ys.map (Value.int .i64))) w54) := F52.out.below hb
  have F61 : Hid (Hold (w29.heap.size) (w29.heap.size + 1) (BoxV w29.heap.size [.int .i64 c, .slice raI ys.length rcI]) w54) := F53.out.below hb
  clear B47 F49 F50 F51 F52 F53
  have F62 : Hid (Hold (w46.heap.size) (w46.heap.size + 1) (StCp w46.heap.size len0 z0) w54) := StCp.hold ⟨hat, hroom⟩ hlt
  have hl63 := F62.out.le
  clear hat hroom hlt hb
  go_wp2_with fail
  refine (eqStatements_same _ _ len0 _ _ z0 _ hs0 (StIn.of HZ0.out F59.out.out.1) (StIn.of HZ0.out F62.out.out.1)).mono ?_
  rintro e w64 ⟨rfl, hb⟩
  clear F62
  have B65 : Hid (Below w.heap.size w w64) := B55.out.trans (hb.mono B55.out.size)
  have hz66 := hb.size
  have F67 : Hid (Hold (w5.heap.size) (w10.heap.size) (fun X => X.ownsRow w5.heap.size 2 1 (.slice raS ys.length rcS) ys.length (ys.map (Value.int .i64))) w64) := F57.out.below hb
  have F68 : Hid (Hold (w10.heap.size) (w10.heap.size + 1) (BoxV w10.heap.size [.int .i64 c, .slice raS ys.length rcS]) w64) := F58.out.below hb
  have F69 : Hid (Hold (xg0) (xg0 + 1) (StCp xg0 len0 z0) w64) := F59.out.below hb
  have F70 : Hid (Hold (w22.heap.size) (w29.heap.size) (fun X => X.ownsRow w22.heap.size 2 1 (.slice raI ys.length rcI) ys.length (ys.map (Value.int .i64))) w64) := F60.out.below hb
  have F71 : Hid (Hold (w29.heap.size) (w29.heap.size + 1) (BoxV w29.heap.size [.int .i64 c, .slice raI ys.length rcI]) w64) := F61.out.below hb
  clear B55 F57 F58 F59 F60 F61
  clear hb
  go_wp2_with fail
  refine (markStatementsRoom_c xg0 len0 len0 1 _ hs0 (by omega) (by omega) F69.out.out.2).mono ?_
  rintro e w72 ⟨rfl, hg⟩
  have hch : Chg xg0 (xg0 + 1) w64 w72 := Chg.grown hg (fun q e => by cases e; omega)
  have B73 : Hid (Below w.heap.size w w72) := below_chg B65.out hch (by have := hNB; omega) B65.out.size
  have hz74 := hch.size
  have F75 : Hid (Hold (w5.heap.size) (w10.heap.size) (fun X => X.ownsRow w5.heap.size 2 1 (.slice raS ys.length rcS) ys.length (ys.map (Value.int .i64))) w72) := F67.out.chg hch (by omega)
  have F76 : Hid (Hold (w10.heap.size) (w10.heap.size + 1) (BoxV w10.heap.size [.int .i64 c, .slice raS ys.length rcS]) w72) := F68.out.chg hch (by omega)
  have F77 : Hid (Hold (w22.heap.size) (w29.heap.size) (fun X => X.ownsRow w22.heap.size 2 1 (.slice raI ys.length rcI) ys.length (ys.map (Value.int .i64))) w72) := F70.out.chg hch (by omega)
  have F78 : Hid (Hold (w29.heap.size) (w29.heap.size + 1) (BoxV w29.heap.size [.int .i64 c, .slice raI ys.length rcI]) w72) := F71.out.chg hch (by omega)
  clear B65 F67 F68 F70 F71 F69
  clear hch hg
  have hk0 : decide (((1 : Int) + 5 * (len0 : Int) : Int) < 0) = false := by simp; omega
  have p0 := F78.out.out 0 _ rfl
  have p1 := F78.out.out 1 _ rfl
  have q0 := F76.out.out 0 _ rfl
  have q1 := F76.out.out 1 _ rfl
  go_wp2_with fail
  refine (eqInts_same c raI raS ys.length rcI rcS ys _ hyl (row_of_owns F77.out.out) (row_of_owns F75.out.out)).mono ?_
  rintro e w79 ⟨rfl, hb⟩
  clear p0 p1 q0 q1
  have B80 : Hid (Below w.heap.size w w79) := B73.out.trans (hb.mono B73.out.size)
  have hz81 := hb.size
  have F82 : Hid (Hold (w5.heap.size) (w10.heap.size) (fun X => X.ownsRow w5.heap.size 2 1 (.slice raS ys.length rcS) ys.length (ys.map (Value.int .i64))) w79) := F75.out.below hb
  have F83 : Hid (Hold (w10.heap.size) (w10.heap.size + 1) (BoxV w10.heap.size [.int .i64 c, .slice raS ys.length rcS]) w79) := F76.out.below hb
  have F84 : Hid (Hold (w22.heap.size) (w29.heap.size) (fun X => X.ownsRow w22.heap.size 2 1 (.slice raI ys.length rcI) ys.length (ys.map (Value.int .i64))) w79) := F77.out.below hb
  have F85 : Hid (Hold (w29.heap.size) (w29.heap.size + 1) (BoxV w29.heap.size [.int .i64 c, .slice raI ys.length rcI]) w79) := F78.out.below hb
  clear B73 F75 F76 F77 F78
  clear hb
  have p0 := F85.out.out 0 _ rfl
  have p1 := F85.out.out 1 _ rfl
  go_wp2_with fail
  refine (mark1 c _ raI ys.length rcI _ _ hyl F84.out.out).mono ?_
  rintro e w86 ⟨rfl, how, hg⟩
  clear p0 p1
  have hch : Chg w22.heap.size w29.heap.size w79 w86 := Chg.grown hg (fun q e => HRW.out q e)
  have hzc := hch.size
  have B87 : Hid (Below w.heap.size w w86) := below_chg B80.out hch (by have := hNB; omega) B80.out.size
  have hz88 := hch.size
  have F89 : Hid (Hold (w5.heap.size) (w10.heap.size) (fun X => X.ownsRow w5.heap.size 2 1 (.slice raS ys.length rcS) ys.length (ys.map (Value.int .i64))) w86) := F82.out.chg hch (by omega)
  have F90 : Hid (Hold (w10.heap.size) (w10.heap.size + 1) (BoxV w10.heap.size [.int .i64 c, .slice raS ys.length rcS]) w86) := F83.out.chg hch (by omega)
  have F91 : Hid (Hold (w29.heap.size) (w29.heap.size + 1) (BoxV w29.heap.size [.int .i64 c, .slice raI ys.length rcI]) w86) := F85.out.chg hch (by omega)
  clear B80 F82 F83 F85 F84
  have F92 : Hid (Hold (w22.heap.size) (w29.heap.size) (fun X => X.ownsRow w22.heap.size 2 1 (.slice raI ys.length rcI) ys.length ((marks 1 ys.length).map (Value.int .i64))) w86) := owns_hold how _ (fun q e => (HRW.out q e).2) (by omega)
  have hl93 := F92.out.le
  clear how hg hch hzc
  have hq0 : decide ((1 : Int) + (ys.length : Int) < 0) = false := by simp; omega
  have p0 := F91.out.out 0 _ rfl
  have p1 := F91.out.out 1 _ rfl
  go_wp2_with fail
  refine (held1 c raI ys.length rcI _ hyl (row_of_owns F92.out.out)).mono ?_
  rintro e w94 ⟨rfl, hb⟩
  clear p0 p1
  have B95 : Hid (Below w.heap.size w w94) := B87.out.trans (hb.mono B87.out.size)
  have hz96 := hb.size
  have F97 : Hid (Hold (w5.heap.size) (w10.heap.size) (fun X => X.ownsRow w5.heap.size 2 1 (.slice raS ys.length rcS) ys.length (ys.map (Value.int .i64))) w94) := F89.out.below hb
  have F98 : Hid (Hold (w10.heap.size) (w10.heap.size + 1) (BoxV w10.heap.size [.int .i64 c, .slice raS ys.length rcS]) w94) := F90.out.below hb
  have F99 : Hid (Hold (w29.heap.size) (w29.heap.size + 1) (BoxV w29.heap.size [.int .i64 c, .slice raI ys.length rcI]) w94) := F91.out.below hb
  have F100 : Hid (Hold (w22.heap.size) (w29.heap.size) (fun X => X.ownsRow w22.heap.size 2 1 (.slice raI ys.length rcI) ys.length ((marks 1 ys.length).map (Value.int .i64))) w94) := F92.out.below hb
  clear B87 F89 F90 F91 F92
  clear hb
  go_wp2_with fail
  refine (toStatements_room a0 len0 cap0 z0 _ hs0 (H0.out.below B95.out)).mono ?_
  rintro e w101 ⟨rfl, hat, hlt, hb, hroom⟩
  have B102 : Hid (Below w.heap.size w w101) := B95.out.trans (hb.mono B95.out.size)
  have hz103 := hb.size
  have F104 : Hid (Hold (w5.heap.size) (w10.heap.size) (fun X => X.ownsRow w5.heap.size 2 1 (.slice raS ys.length rcS) ys.length (ys.map (Value.int .i64))) w101) := F97.out.below hb
  have F105 : Hid (Hold (w10.heap.size) (w10.heap.size + 1) (BoxV w10.heap.size [.int .i64 c, .slice raS ys.length rcS]) w101) := F98.out.below hb
  have F106 : Hid (Hold (w29.heap.size) (w29.heap.size + 1) (BoxV w29.heap.size [.int .i64 c, .slice raI ys.length rcI]) w101) := F99.out.below hb
  have F107 : Hid (Hold (w22.heap.size) (w29.heap.size) (fun X => X.ownsRow w22.heap.size 2 1 (.slice raI ys.length rcI) ys.length ((marks 1 ys.length).map (Value.int .i64))) w101) := F100.out.below hb
  clear B95 F97 F98 F99 F100
  have F108 : Hid (Hold (w94.heap.size) (w94.heap.size + 1) (StCp w94.heap.size len0 z0) w101) := StCp.hold ⟨hat, hroom⟩ hlt
  have hl109 := F108.out.le
  clear hat hroom hlt hb
  go_wp2_with fail
  refine (HIM.out _ _ F108.out.out).mono ?_
  rintro e w110 ⟨raH, rcH, rfl, how, hb⟩
  have B111 : Hid (Below w.heap.size w w110) := B102.out.trans (hb.mono B102.out.size)
  have hz112 := hb.size
  have F113 : Hid (Hold (w5.heap.size) (w10.heap.size) (fun X => X.ownsRow w5.heap.size 2 1 (.slice raS ys.length rcS) ys.length (ys.map (Value.int .i64))) w110) := F104.out.below hb
  have F114 : Hid (Hold (w10.heap.size) (w10.heap.size + 1) (BoxV w10.heap.size [.int .i64 c, .slice raS ys.length rcS]) w110) := F105.out.below hb
  have F115 : Hid (Hold (w29.heap.size) (w29.heap.size + 1) (BoxV w29.heap.size [.int .i64 c, .slice raI ys.length rcI]) w110) := F106.out.below hb
  have F116 : Hid (Hold (w22.heap.size) (w29.heap.size) (fun X => X.ownsRow w22.heap.size 2 1 (.slice raI ys.length rcI) ys.length ((marks 1 ys.length).map (Value.int .i64))) w110) := F107.out.below hb
  have F117 : Hid (Hold (w94.heap.size) (w94.heap.size + 1) (StCp w94.heap.size len0 z0) w110) := F108.out.below hb
  clear B102 F104 F105 F106 F107 F108
  clear F117
  have F118 : Hid (Hold (w101.heap.size) (w110.heap.size) (fun X => X.ownsRow w101.heap.size 2 1 (.slice raH ys.length rcH) ys.length (ys.map (Value.int .i64))) w110) := owns_hold0 how
  have hl119 := F118.out.le
  clear how hb
  go_upto_region 25 with fail
  obtain ⟨w120, hX⟩ : ∃ X, X = w110.alloc (.cells #[.int .i64 c, .slice raH ys.length rcH] 26) := ⟨_, rfl⟩
  rw [← hX]
  have hb : Below w110.heap.size w110 w120 := by rw [hX]; exact (Below.refl _ _).alloc (Nat.le_refl _) _
  have hbx : Hold w110.heap.size (w110.heap.size + 1) (BoxV w110.heap.size [.int .i64 c, .slice raH ys.length rcH]) w120 := by rw [hX]; exact boxV_new w110 #[.int .i64 c, .slice raH ys.length rcH] 26
  clear hX
  have B121 : Hid (Below w.heap.size w w120) := B111.out.trans (hb.mono B111.out.size)
  have hz122 := hb.size
  have F123 : Hid (Hold (w5.heap.size) (w10.heap.size) (fun X => X.ownsRow w5.heap.size 2 1 (.slice raS ys.length rcS) ys.length (ys.map (Value.int .i64))) w120) := F113.out.below hb
  have F124 : Hid (Hold (w10.heap.size) (w10.heap.size + 1) (BoxV w10.heap.size [.int .i64 c, .slice raS ys.length rcS]) w120) := F114.out.below hb
  have F125 : Hid (Hold (w29.heap.size) (w29.heap.size + 1) (BoxV w29.heap.size [.int .i64 c, .slice raI ys.length rcI]) w120) := F115.out.below hb
  have F126 : Hid (Hold (w22.heap.size) (w29.heap.size) (fun X => X.ownsRow w22.heap.size 2 1 (.slice raI ys.length rcI) ys.length ((marks 1 ys.length).map (Value.int .i64))) w120) := F116.out.below hb
  have F127 : Hid (Hold (w101.heap.size) (w110.heap.size) (fun X => X.ownsRow w101.heap.size 2 1 (.slice raH ys.length rcH) ys.length (ys.map (Value.int .i64))) w120) := F118.out.below hb
  clear B111 F113 F114 F115 F116 F118
  have F128 : Hid (Hold (w110.heap.size) (w110.heap.size + 1) (BoxV w110.heap.size [.int .i64 c, .slice raH ys.length rcH]) w120) := hbx
  have hl129 := F128.out.le
  clear hbx hb
  have p0 := F128.out.out 0 _ rfl
  have p1 := F128.out.out 1 _ rfl
  have q0 := F124.out.out 0 _ rfl
  have q1 := F124.out.out 1 _ rfl
  go_wp2_with fail
  refine (eqInts_same c raH raS ys.length rcH rcS ys _ hyl (row_of_owns F127.out.out) (row_of_owns F123.out.out)).mono ?_
  rintro e w130 ⟨rfl, hb⟩
  clear p0 p1 q0 q1
  have B131 : Hid (Below w.heap.size w w130) := B121.out.trans (hb.mono B121.out.size)
  have hz132 := hb.size
  have F133 : Hid (Hold (w5.heap.size) (w10.heap.size) (fun X => X.ownsRow w5.heap.size 2 1 (.slice raS ys.length rcS) ys.length (ys.map (Value.int .i64))) w130) := F123.out.below hb
  have F134 : Hid (Hold (w10.heap.size) (w10.heap.size + 1) (BoxV w10.heap.size [.int .i64 c, .slice raS ys.length rcS]) w130) := F124.out.below hb
  have F135 : Hid (Hold (w29.heap.size) (w29.heap.size + 1) (BoxV w29.heap.size [.int .i64 c, .slice raI ys.length rcI]) w130) := F125.out.below hb
  have F136 : Hid (Hold (w22.heap.size) (w29.heap.size) (fun X => X.ownsRow w22.heap.size 2 1 (.slice raI ys.length rcI) ys.length ((marks 1 ys.length).map (Value.int .i64))) w130) := F126.out.below hb
  have F137 : Hid (Hold (w101.heap.size) (w110.heap.size) (fun X => X.ownsRow w101.heap.size 2 1 (.slice raH ys.length rcH) ys.length (ys.map (Value.int .i64))) w130) := F127.out.below hb
  have F138 : Hid (Hold (w110.heap.size) (w110.heap.size + 1) (BoxV w110.heap.size [.int .i64 c, .slice raH ys.length rcH]) w130) := F128.out.below hb
  clear B121 F123 F124 F125 F126 F127 F128
  clear hb
  have p0 := F135.out.out 0 _ rfl
  have p1 := F135.out.out 1 _ rfl
  go_wp2_with fail
  refine (held1 c raI ys.length rcI _ hyl (row_of_owns F136.out.out)).mono ?_
  rintro e w139 ⟨rfl, hb⟩
  clear p0 p1
  have B140 : Hid (Below w.heap.size w w139) := B131.out.trans (hb.mono B131.out.size)
  have hz141 := hb.size
  have F142 : Hid (Hold (w5.heap.size) (w10.heap.size) (fun X => X.ownsRow w5.heap.size 2 1 (.slice raS ys.length rcS) ys.length (ys.map (Value.int .i64))) w139) := F133.out.below hb
  have F143 : Hid (Hold (w10.heap.size) (w10.heap.size + 1) (BoxV w10.heap.size [.int .i64 c, .slice raS ys.length rcS]) w139) := F134.out.below hb
  have F144 : Hid (Hold (w29.heap.size) (w29.heap.size + 1) (BoxV w29.heap.size [.int .i64 c, .slice raI ys.length rcI]) w139) := F135.out.below hb
  have F145 : Hid (Hold (w22.heap.size) (w29.heap.size) (fun X => X.ownsRow w22.heap.size 2 1 (.slice raI ys.length rcI) ys.length ((marks 1 ys.length).map (Value.int .i64))) w139) := F136.out.below hb
  have F146 : Hid (Hold (w101.heap.size) (w110.heap.size) (fun X => X.ownsRow w101.heap.size 2 1 (.slice raH ys.length rcH) ys.length (ys.map (Value.int .i64))) w139) := F137.out.below hb
  have F147 : Hid (Hold (w110.heap.size) (w110.heap.size + 1) (BoxV w110.heap.size [.int .i64 c, .slice raH ys.length rcH]) w139) := F138.out.below hb
  clear B131 F133 F134 F135 F136 F137 F138
  clear hb
  go_wp2
  go_ret
  exact ⟨rfl, B140.out⟩

/-! The walk: the Go text returns true. -/
theorem walk (a0 : Option Addr) (len0 cap0 : Nat) (z0 : List StI) (w : World) (w0 : StArg w a0 len0 z0) :
    Calls Try.prog 3 #[.slice a0 len0 cap0] w fun e w' => e = .returned (.bool true) ∧ Below w.heap.size w w' := by
  have hy : (plL z0).length ≤ 1000 := by
    unfold plL
    split
    · rename_i q
      unfold plCode at q
      by_cases r : 40 < z0.length
      · rw [if_pos r] at q; omega
      · rw [packTo_len (Nat.le_refl _)]; omega
    · simp
  exact inner a0 len0 cap0 z0 (plCode z0) (plL z0) w w0.2 w0.1 hy
    (fun h1 g0 W q0 => specPackLog_c _ len0 len0 z0 W h1 (StIn.of w0.1.1 q0.1))
    (fun h1 g0 W q0 => implPackLog_c _ len0 len0 z0 W h1 (StIn.of w0.1.1 q0.1))

/-! The row's step. -/
set_option maxRecDepth 100000 in
theorem lifted (os : Os) (started : os.Started) (H : Type) (enc : TypeId × Value → H) :
    ReturnsInHanded {} Try.checked os 3 .any (Rows.fnExactPackLogSpec.pre6 enc Try.prog Try.f3 Rows.fnExactPackLogRow.domain false) (Rows.fnExactPackLogSpec.post enc Try.prog Try.f3 false true false false) := by
  refine returnsInHanded_of_change (C := Try.checked) own started (by kernel_rfl) Try.func3
    (ChangeSpec.witness6 (enc := enc) (C := Try.checked) false ⟨#[], #[.slice none 0 0], []⟩ 8 (by kernel_rfl) (by kernel_rfl) (by kernel_rfl) (by kernel_rfl)) ?_
  intro W base args ds gs before hval0 hW hcnd _
  have hval : ∀ (j : Nat) t v, Try.f3.params[j]? = some t → args[j]? = some v → Value.okWide Try.prog W .any base t v := hval0
  have hW' := hW
  obtain ⟨p, q, hA0, hV, rfl, hfz, hnd⟩ := hW
  have hA : DataW.TrodAll enc Try.prog W 0 (fun _ => true) true Try.f3.params.toList args.toList ds p := hA0
  rw [Try.params3] at hA hval
  obtain ⟨v0, vs0, d0, ds0, p0, q0, hargs, rfl, rfl, h0, r0⟩ := trodAll_cons hA
  obtain ⟨rfl, rfl, rfl⟩ := trodAll_nil r0
  obtain rfl : args = #[v0] := by cases args; simp_all
  obtain ⟨rfl, rfl⟩ := trodVars_none hV
  obtain ⟨a0, len0, cap0, rfl⟩ := okWide_slice Try.underlying22 (hval 0 22 v0 rfl rfl)
  have k0 := h0
  have lt0 : ∀ x ∈ p0, x.block < W.heap.size := by obtain ⟨m, hm⟩ := k0; exact DataW.trod_lt m _ _ _ hm
  obtain ⟨z0, w0⟩ : ∃ zs : List StI, StArg W a0 len0 zs := by
    obtain ⟨fuel, hf⟩ := h0
    exact statements_shape hf
  clear hA0 hval0
  refine (walk a0 len0 cap0 z0 W w0).mono fun e W' ⟨he, bel⟩ => ?_
  subst he
  exact ⟨_, rfl, _, _, _, [], _, [], hW', trodAll_mk1 (shut_bool Try.underlying4 _), (trodAll_cons_mk (Below.trod laidOut (by kernel_rfl) (of_decide_eq_true (by kernel_rfl)) k0 bel lt0) trodAll_mk0), rfl, bel.frame _, fun h => by cases h⟩

theorem over : Rows.fnExactPackLogRow.holds Try.pinned (OpenSpec.ofChange Rows.fnExactPackLogSpec) :=
  OpenClaim.holds_of_wide 3 Try.f3 rfl rfl rfl rfl rfl rfl rfl ⟨rfl, rfl, rfl, rfl, rfl⟩ rfl rfl rfl rfl rfl (by kernel_rfl) Try.func3 (by kernel_rfl)
    (of_decide_eq_true (by kernel_rfl)) (by unfold Func.isWrapper; first | (rw [if_pos (by decide +kernel)]; kernel_rfl) | (rw [if_neg (by decide +kernel)]; exact ⟨rfl, rfl⟩))
    (fun os started H enc _ => lifted os started H enc)

end Go.Proofs.Ytnlmoapopdchkaa.fnExactPackLog
namespace Go.Proofs.Ytnlmoapopdchkaa
theorem fnExactPackLog_holds : Rows.FnExactPackLogSaid := fnExactPackLog.over
#print axioms fnExactPackLog_holds
end Go.Proofs.Ytnlmoapopdchkaa
