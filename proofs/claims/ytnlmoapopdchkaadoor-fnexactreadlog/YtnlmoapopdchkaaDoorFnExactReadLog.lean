/-
  PROVED: for every slice of int64 the law laws.FnExactReadLog returns true, that is impl.ReadLog answers as spec.ReadLog there (up to 1<<20 words, as the law itself says), writes nothing into its argument, and its statements are memory of their own, behind another call too; the argument and the variable errUnreadable read as they did.
  Conditions: none beside those that the given row and card themselves bear. The frame is the shell written by program, turned for the listed variable; the walk is ours.
-/
import Derived.Test.YtnlmoapopdchkaaDoorRows
import Derived.WalkKit
import Derived.ProofKit
import Derived.LaidMore
import Derived.Stop.Joined
import Derived.SevenTiedAt
import Derived.Test.YtnlmoapopdchkaaDoorTie
import Derived.Test.YtnlmoapopdchkaaDoorCards
import Derived.OpenShut
import Derived.ShutString
import Derived.ChangeOld
import Derived.Below
import Derived.Test.YtnlmoapopdchkaaDoorPg8
import Derived.Test.YtnlmoapopdchkaaDoorEr0
import Derived.Test.YtnlmoapopdchkaaDoorList2
import Derived.Deep.CutBlock
import Derived.Deep.RegionHeld3
namespace Go.Proofs.YtnlmoapopdchkaaDoor.fnExactReadLog
open Go.ChangeShapes Go.WideShapes Go.ChangeAt Go.RowKit
open Go.ChangeMaps (open_string shut_string)
set_option linter.unusedVariables false

theorem own : ownKnob Tryd.prog.godebug = none := by kernel_rfl
theorem laidOut : laidOutB Tryd.prog = true := by kernel_rfl

/-- WHAT THE WALK IS TOLD OF A SLICE OF INTEGERS THAT CAME IN: it is nil; or it leads to a row of 'cap' cells, the numbers 'zs' (the first 'len' are its elements, the rest its spare room), each fitting its kind. -/
def IsRow (k : IntKind) (w : World) (a : Option Addr) (len cap : Nat) (zs : List Int) : Prop :=
  (a = none ∧ len = 0 ∧ cap = 0 ∧ zs = []) ∨
  ∃ x, a = some x ∧ len ≤ cap ∧ cap ≤ maxLen ∧ zs.length = cap ∧ (∀ i, i < zs.length → w.cell? (x.add i) = some (.int k (zs.getD i 0))) ∧ ∀ n ∈ zs, (Lit.int k n).wf = true

theorem rowIn_of {w : World} {a0 : Option Addr} {len cap : Nat} {zs : List Int} (h : IsRow .i64 w a0 len cap zs) : RowIn w a0 len zs := by
  rcases h with ⟨rfl, rfl, rfl, rfl⟩ | ⟨x, rfl, hl, hm, hz, hc, hw⟩
  · exact ⟨Nat.zero_le _, fun k hk => by omega⟩
  · refine ⟨by omega, fun k hk => ?_⟩
    obtain ⟨b, off, rfl, hcc⟩ := ints_at hc (by omega)
    refine ⟨b, off, rfl, ?_⟩
    have := hcc k (by omega)
    simpa using this

theorem len_of {w : World} {a0 : Option Addr} {len cap : Nat} {zs : List Int} (h : IsRow .i64 w a0 len cap zs) : len ≤ maxLen := by
  rcases h with ⟨rfl, rfl, rfl, rfl⟩ | ⟨x, rfl, hl, hm, _⟩
  · exact Nat.zero_le _
  · omega

set_option linter.unusedSimpArgs false

abbrev KR0 (W W' : World) : Prop := (∀ b o, b < W.heap.size → W'.cell? ⟨b, o, none⟩ = W.cell? ⟨b, o, none⟩) ∧ Below W.heap.size W W'

set_option maxRecDepth 100000 in
set_option maxHeartbeats 8000000 in
theorem inner (a0 : Option Addr) (len0 cap0 : Nat) (z0 : List Int) (c : Int) (ys : List StI) (w : World) (hm0 : len0 ≤ maxLen) (h0 : IntIn w a0 len0 z0) (hy : ys.length ≤ 1000) (hE : ErrAt 0 w)
    (HS : Hid (len0 ≤ 1048576 → ∀ (g0 : Nat) (W : World), IntCp g0 len0 z0 W → Calls Tryd.prog 5 #[.slice (some ⟨g0, 0, none⟩) len0 len0] W fun e W' => ∃ a cap, e = .returned (.agg #[.int .i64 c, .slice a ys.length cap]) ∧ OwnSt W' W.heap.size (.slice a ys.length cap) ys ∧ Below W.heap.size W W'))
    (HI : Hid (len0 ≤ 1048576 → ∀ (g0 : Nat) (W : World), IntCp g0 len0 z0 W → ErrAt 0 W → Calls Tryd.prog 7 #[.slice (some ⟨g0, 0, none⟩) len0 len0] W fun e W' => ∃ a cap, e = .returned (.agg #[.int .i64 c, .slice a ys.length cap]) ∧ OwnSt W' W.heap.size (.slice a ys.length cap) ys ∧ Below W.heap.size W W')) :
    Calls Tryd.prog 3 #[.slice a0 len0 cap0] w fun e w' => e = .returned (.bool true) ∧ Below w.heap.size w w' := by
  have H0 : Hid (IntIn w a0 len0 z0) := h0
  have HZ0 : Hid (z0.length = len0) := h0.1
  clear h0
  have HER : Hid (ErrAt 0 w) := hE
  clear hE
  have hyl : ys.length ≤ 1048576 := by omega
  have hyi : (ys.length : Int) ≤ 1000 := by omega
  obtain ⟨V, hV⟩ : ∃ V, V = w := ⟨_, rfl⟩
  have B0 : Hid (Below w.heap.size w V) := by rw [hV]; exact Below.refl _ _
  have hz0 := B0.out.size
  go_enter Tryd.func3, Tryd.ntmps3
  have hmI0 : (len0 : Int) ≤ 9223372036854775807 := by unfold maxLen at hm0; omega
  by_cases hbig : (1048576 : Int) < (len0 : Int)
  · go_wp2
    try (rw [← hV])
    go_ret
    exact ⟨rfl, by first | exact Below.refl _ _ | exact B0.out⟩
  have hs0 : len0 ≤ 1048576 := by omega
  have hsi0 : (len0 : Int) ≤ 1048576 := by omega
  subst V
  have HS' := HS.out hs0
  have HI' := HI.out hs0
  have HSP : Hid _ := HS'
  have HIM : Hid _ := HI'
  clear HS' HI' HS HI
  go_wp2_with fail
  refine (toInts_room a0 len0 cap0 z0 _ hs0 (H0.out.below B0.out)).mono ?_
  rintro e w1 ⟨rfl, hat, hlt, hb, hroom⟩
  have B2 : Hid (Below w.heap.size w w1) := B0.out.trans (hb.mono B0.out.size)
  have hz3 := hb.size
  clear B0
  have F4 : Hid (Hold (w.heap.size) (w.heap.size + 1) (IntCp w.heap.size len0 z0) w1) := IntCp.hold ⟨hat, hroom⟩ hlt
  have hl5 := F4.out.le
  clear hat hroom hlt hb
  go_wp2_with fail
  refine (HSP.out _ _ F4.out.out).mono ?_
  rintro e w6 ⟨raS, rcS, rfl, how, hb⟩
  have B7 : Hid (Below w.heap.size w w6) := B2.out.trans (hb.mono B2.out.size)
  have hz8 := hb.size
  have F9 : Hid (Hold (w.heap.size) (w.heap.size + 1) (IntCp w.heap.size len0 z0) w6) := F4.out.below hb
  clear B2 F4
  clear F9
  have F10 : Hid (Hold (w1.heap.size) (w6.heap.size) (fun X => OwnSt X w1.heap.size (.slice raS ys.length rcS) ys) w6) := owns_hold0 how
  have hl11 := F10.out.le
  clear how hb
  go_upto_region 4 with fail
  obtain ⟨w12, hX⟩ : ∃ X, X = w6.alloc (.cells #[.int .i64 c, .slice raS ys.length rcS] 25) := ⟨_, rfl⟩
  rw [← hX]
  have hb : Below w6.heap.size w6 w12 := by rw [hX]; exact (Below.refl _ _).alloc (Nat.le_refl _) _
  have hbx : Hold w6.heap.size (w6.heap.size + 1) (BoxV w6.heap.size [.int .i64 c, .slice raS ys.length rcS]) w12 := by rw [hX]; exact boxV_new w6 #[.int .i64 c, .slice raS ys.length rcS] 25
  clear hX
  have B13 : Hid (Below w.heap.size w w12) := B7.out.trans (hb.mono B7.out.size)
  have hz14 := hb.size
  have F15 : Hid (Hold (w1.heap.size) (w6.heap.size) (fun X => OwnSt X w1.heap.size (.slice raS ys.length rcS) ys) w12) := F10.out.below hb
  clear B7 F10
  have F16 : Hid (Hold (w6.heap.size) (w6.heap.size + 1) (BoxV w6.heap.size [.int .i64 c, .slice raS ys.length rcS]) w12) := hbx
  have hl17 := F16.out.le
  clear hbx hb
  have hNB : w.heap.size ≤ w12.heap.size := B13.out.size
  go_wp2_with fail
  refine (toInts_room a0 len0 cap0 z0 _ hs0 (H0.out.below B13.out)).mono ?_
  rintro e w18 ⟨rfl, hat, hlt, hb, hroom⟩
  have B19 : Hid (Below w.heap.size w w18) := B13.out.trans (hb.mono B13.out.size)
  have hz20 := hb.size
  have F21 : Hid (Hold (w1.heap.size) (w6.heap.size) (fun X => OwnSt X w1.heap.size (.slice raS ys.length rcS) ys) w18) := F15.out.below hb
  have F22 : Hid (Hold (w6.heap.size) (w6.heap.size + 1) (BoxV w6.heap.size [.int .i64 c, .slice raS ys.length rcS]) w18) := F16.out.below hb
  clear B13 F15 F16
  obtain ⟨xg0, hxg0⟩ : ∃ g, g = w12.heap.size := ⟨_, rfl⟩
  have hgexg0 : w12.heap.size ≤ xg0 := by omega
  rw [← hxg0] at hat hroom hlt ⊢
  have F23 : Hid (Hold (xg0) (xg0 + 1) (IntCp xg0 len0 z0) w18) := IntCp.hold ⟨hat, hroom⟩ hlt
  have hl24 := F23.out.le
  clear hxg0 hat hroom hlt hb
  go_wp2_with fail
  refine (HIM.out _ _ F23.out.out (HER.out.below B19.out)).mono ?_
  rintro e w25 ⟨raI, rcI, rfl, how, hb⟩
  have B26 : Hid (Below w.heap.size w w25) := B19.out.trans (hb.mono B19.out.size)
  have hz27 := hb.size
  have F28 : Hid (Hold (w1.heap.size) (w6.heap.size) (fun X => OwnSt X w1.heap.size (.slice raS ys.length rcS) ys) w25) := F21.out.below hb
  have F29 : Hid (Hold (w6.heap.size) (w6.heap.size + 1) (BoxV w6.heap.size [.int .i64 c, .slice raS ys.length rcS]) w25) := F22.out.below hb
  have F30 : Hid (Hold (xg0) (xg0 + 1) (IntCp xg0 len0 z0) w25) := F23.out.below hb
  clear B19 F21 F22 F23
  have F31 : Hid (Hold (w18.heap.size) (w25.heap.size) (fun X => OwnSt X w18.heap.size (.slice raI ys.length rcI) ys) w25) := owns_hold0 how
  have hl32 := F31.out.le
  clear how hb
  have HRW : Hid (∀ q, (Value.slice raI ys.length rcI).ownBlock = some q → w18.heap.size ≤ q ∧ q < w25.heap.size) := fun q e => (F31.out.out.lt q e)
  go_upto_region 6 with fail
  obtain ⟨w33, hX⟩ : ∃ X, X = w25.alloc (.cells #[.int .i64 c, .slice raI ys.length rcI] 25) := ⟨_, rfl⟩
  rw [← hX]
  have hb : Below w25.heap.size w25 w33 := by rw [hX]; exact (Below.refl _ _).alloc (Nat.le_refl _) _
  have hbx : Hold w25.heap.size (w25.heap.size + 1) (BoxV w25.heap.size [.int .i64 c, .slice raI ys.length rcI]) w33 := by rw [hX]; exact boxV_new w25 #[.int .i64 c, .slice raI ys.length rcI] 25
  clear hX
  have B34 : Hid (Below w.heap.size w w33) := B26.out.trans (hb.mono B26.out.size)
  have hz35 := hb.size
  have F36 : Hid (Hold (w1.heap.size) (w6.heap.size) (fun X => OwnSt X w1.heap.size (.slice raS ys.length rcS) ys) w33) := F28.out.below hb
  have F37 : Hid (Hold (w6.heap.size) (w6.heap.size + 1) (BoxV w6.heap.size [.int .i64 c, .slice raS ys.length rcS]) w33) := F29.out.below hb
  have F38 : Hid (Hold (xg0) (xg0 + 1) (IntCp xg0 len0 z0) w33) := F30.out.below hb
  have F39 : Hid (Hold (w18.heap.size) (w25.heap.size) (fun X => OwnSt X w18.heap.size (.slice raI ys.length rcI) ys) w33) := F31.out.below hb
  clear B26 F28 F29 F30 F31
  have F40 : Hid (Hold (w25.heap.size) (w25.heap.size + 1) (BoxV w25.heap.size [.int .i64 c, .slice raI ys.length rcI]) w33) := hbx
  have hl41 := F40.out.le
  clear hbx hb
  have p0 := F40.out.out 0 _ rfl
  have p1 := F40.out.out 1 _ rfl
  have q0 := F37.out.out 0 _ rfl
  have q1 := F37.out.out 1 _ rfl
  go_wp2_with fail
  refine (eqSaid_c c raI raS ys.length rcI rcS ys _ rfl hyl (OwnSt.view F39.out.out) (OwnSt.view F36.out.out)).mono ?_
  rintro e w42 ⟨rfl, hb⟩
  clear p0 p1 q0 q1
  have B43 : Hid (Below w.heap.size w w42) := B34.out.trans (hb.mono B34.out.size)
  have hz44 := hb.size
  have F45 : Hid (Hold (w1.heap.size) (w6.heap.size) (fun X => OwnSt X w1.heap.size (.slice raS ys.length rcS) ys) w42) := F36.out.below hb
  have F46 : Hid (Hold (w6.heap.size) (w6.heap.size + 1) (BoxV w6.heap.size [.int .i64 c, .slice raS ys.length rcS]) w42) := F37.out.below hb
  have F47 : Hid (Hold (xg0) (xg0 + 1) (IntCp xg0 len0 z0) w42) := F38.out.below hb
  have F48 : Hid (Hold (w18.heap.size) (w25.heap.size) (fun X => OwnSt X w18.heap.size (.slice raI ys.length rcI) ys) w42) := F39.out.below hb
  have F49 : Hid (Hold (w25.heap.size) (w25.heap.size + 1) (BoxV w25.heap.size [.int .i64 c, .slice raI ys.length rcI]) w42) := F40.out.below hb
  clear B34 F36 F37 F38 F39 F40
  clear hb
  go_wp2_with fail
  refine (toInts_room a0 len0 cap0 z0 _ hs0 (H0.out.below B43.out)).mono ?_
  rintro e w50 ⟨rfl, hat, hlt, hb, hroom⟩
  have B51 : Hid (Below w.heap.size w w50) := B43.out.trans (hb.mono B43.out.size)
  have hz52 := hb.size
  have F53 : Hid (Hold (w1.heap.size) (w6.heap.size) (fun X => OwnSt X w1.heap.size (.slice raS ys.length rcS) ys) w50) := F45.out.below hb
  have F54 : Hid (Hold (w6.heap.size) (w6.heap.size + 1) (BoxV w6.heap.size [.int .i64 c, .slice raS ys.length rcS]) w50) := F46.out.below hb
  have F55 : Hid (Hold (xg0) (xg0 + 1) (IntCp xg0 len0 z0) w50) := F47.out.below hb
  have F56 : Hid (Hold (w18.heap.size) (w25.heap.size) (fun X => OwnSt X w18.heap.size (.slice raI ys.length rcI) ys) w50) := F48.out.below hb
  have F57 : Hid (Hold (w25.heap.size) (w25.heap.size + 1) (BoxV w25.heap.size [.int .i64 c, .slice raI ys.length rcI]) w50) := F49.out.below hb
  clear B43 F45 F46 F47 F48 F49
  have F58 : Hid (Hold (w42.heap.size) (w42.heap.size + 1) (IntCp w42.heap.size len0 z0) w50) := IntCp.hold ⟨hat, hroom⟩ hlt
  have hl59 := F58.out.le
  clear hat hroom hlt hb
  go_wp2_with fail
  refine (eqIntsS_same _ _ len0 _ _ z0 _ hs0 (IntIn.of HZ0.out F55.out.out.1) (IntIn.of HZ0.out F58.out.out.1)).mono ?_
  rintro e w60 ⟨rfl, hb⟩
  clear F58
  have B61 : Hid (Below w.heap.size w w60) := B51.out.trans (hb.mono B51.out.size)
  have hz62 := hb.size
  have F63 : Hid (Hold (w1.heap.size) (w6.heap.size) (fun X => OwnSt X w1.heap.size (.slice raS ys.length rcS) ys) w60) := F53.out.below hb
  have F64 : Hid (Hold (w6.heap.size) (w6.heap.size + 1) (BoxV w6.heap.size [.int .i64 c, .slice raS ys.length rcS]) w60) := F54.out.below hb
  have F65 : Hid (Hold (xg0) (xg0 + 1) (IntCp xg0 len0 z0) w60) := F55.out.below hb
  have F66 : Hid (Hold (w18.heap.size) (w25.heap.size) (fun X => OwnSt X w18.heap.size (.slice raI ys.length rcI) ys) w60) := F56.out.below hb
  have F67 : Hid (Hold (w25.heap.size) (w25.heap.size + 1) (BoxV w25.heap.size [.int .i64 c, .slice raI ys.length rcI]) w60) := F57.out.below hb
  clear B51 F53 F54 F55 F56 F57
  clear hb
  go_wp2_with fail
  refine (markIntRow_c xg0 len0 len0 1 _ hs0 (by omega) (by omega) F65.out.out.2).mono ?_
  rintro e w68 ⟨rfl, hg⟩
  have hch : Chg xg0 (xg0 + 1) w60 w68 := Chg.grown hg (fun q e => by cases e; omega)
  have B69 : Hid (Below w.heap.size w w68) := below_chg B61.out hch (by have := hNB; omega) B61.out.size
  have hz70 := hch.size
  have F71 : Hid (Hold (w1.heap.size) (w6.heap.size) (fun X => OwnSt X w1.heap.size (.slice raS ys.length rcS) ys) w68) := F63.out.chg hch (by omega)
  have F72 : Hid (Hold (w6.heap.size) (w6.heap.size + 1) (BoxV w6.heap.size [.int .i64 c, .slice raS ys.length rcS]) w68) := F64.out.chg hch (by omega)
  have F73 : Hid (Hold (w18.heap.size) (w25.heap.size) (fun X => OwnSt X w18.heap.size (.slice raI ys.length rcI) ys) w68) := F66.out.chg hch (by omega)
  have F74 : Hid (Hold (w25.heap.size) (w25.heap.size + 1) (BoxV w25.heap.size [.int .i64 c, .slice raI ys.length rcI]) w68) := F67.out.chg hch (by omega)
  clear B61 F63 F64 F66 F67 F65
  clear hch hg
  have hk0 : decide (((1 : Int) + (len0 : Int) : Int) < 0) = false := by simp; omega
  have p0 := F74.out.out 0 _ rfl
  have p1 := F74.out.out 1 _ rfl
  have q0 := F72.out.out 0 _ rfl
  have q1 := F72.out.out 1 _ rfl
  go_wp2_with fail
  refine (eqSaid_c c raI raS ys.length rcI rcS ys _ rfl hyl (OwnSt.view F73.out.out) (OwnSt.view F71.out.out)).mono ?_
  rintro e w75 ⟨rfl, hb⟩
  clear p0 p1 q0 q1
  have B76 : Hid (Below w.heap.size w w75) := B69.out.trans (hb.mono B69.out.size)
  have hz77 := hb.size
  have F78 : Hid (Hold (w1.heap.size) (w6.heap.size) (fun X => OwnSt X w1.heap.size (.slice raS ys.length rcS) ys) w75) := F71.out.below hb
  have F79 : Hid (Hold (w6.heap.size) (w6.heap.size + 1) (BoxV w6.heap.size [.int .i64 c, .slice raS ys.length rcS]) w75) := F72.out.below hb
  have F80 : Hid (Hold (w18.heap.size) (w25.heap.size) (fun X => OwnSt X w18.heap.size (.slice raI ys.length rcI) ys) w75) := F73.out.below hb
  have F81 : Hid (Hold (w25.heap.size) (w25.heap.size + 1) (BoxV w25.heap.size [.int .i64 c, .slice raI ys.length rcI]) w75) := F74.out.below hb
  clear B69 F71 F72 F73 F74
  clear hb
  have p0 := F81.out.out 0 _ rfl
  have p1 := F81.out.out 1 _ rfl
  go_wp2_with fail
  refine (markSaid_c c _ raI ys.length rcI ys _ rfl hyl F80.out.out).mono ?_
  rintro e w82 ⟨rfl, how, hg⟩
  clear p0 p1
  have hch : Chg w18.heap.size w25.heap.size w75 w82 := Chg.grown hg (fun q e => HRW.out q e)
  have hzc := hch.size
  have B83 : Hid (Below w.heap.size w w82) := below_chg B76.out hch (by have := hNB; omega) B76.out.size
  have hz84 := hch.size
  have F85 : Hid (Hold (w1.heap.size) (w6.heap.size) (fun X => OwnSt X w1.heap.size (.slice raS ys.length rcS) ys) w82) := F78.out.chg hch (by omega)
  have F86 : Hid (Hold (w6.heap.size) (w6.heap.size + 1) (BoxV w6.heap.size [.int .i64 c, .slice raS ys.length rcS]) w82) := F79.out.chg hch (by omega)
  have F87 : Hid (Hold (w25.heap.size) (w25.heap.size + 1) (BoxV w25.heap.size [.int .i64 c, .slice raI ys.length rcI]) w82) := F81.out.chg hch (by omega)
  clear B76 F78 F79 F81 F80
  have F88 : Hid (Hold (w18.heap.size) (w25.heap.size) (fun X => X.ownsRow w18.heap.size 47 5 (.slice raI ys.length rcI) (mkSt ys.length).length (flatSt (mkSt ys.length))) w82) := owns_hold how _ (fun q e => (HRW.out q e).2) (by omega)
  have hl89 := F88.out.le
  clear how hg hch hzc
  have hq0 : decide ((1 : Int) + 5 * (ys.length : Int) < 0) = false := by simp; omega
  have p0 := F87.out.out 0 _ rfl
  have p1 := F87.out.out 1 _ rfl
  go_wp2_with fail
  refine (heldSaid_c c raI ys.length rcI _ hyl (OwnSt.view F88.out.out)).mono ?_
  rintro e w90 ⟨rfl, hb⟩
  clear p0 p1
  have B91 : Hid (Below w.heap.size w w90) := B83.out.trans (hb.mono B83.out.size)
  have hz92 := hb.size
  have F93 : Hid (Hold (w1.heap.size) (w6.heap.size) (fun X => OwnSt X w1.heap.size (.slice raS ys.length rcS) ys) w90) := F85.out.below hb
  have F94 : Hid (Hold (w6.heap.size) (w6.heap.size + 1) (BoxV w6.heap.size [.int .i64 c, .slice raS ys.length rcS]) w90) := F86.out.below hb
  have F95 : Hid (Hold (w25.heap.size) (w25.heap.size + 1) (BoxV w25.heap.size [.int .i64 c, .slice raI ys.length rcI]) w90) := F87.out.below hb
  have F96 : Hid (Hold (w18.heap.size) (w25.heap.size) (fun X => X.ownsRow w18.heap.size 47 5 (.slice raI ys.length rcI) (mkSt ys.length).length (flatSt (mkSt ys.length))) w90) := F88.out.below hb
  clear B83 F85 F86 F87 F88
  clear hb
  go_wp2_with fail
  refine (toInts_room a0 len0 cap0 z0 _ hs0 (H0.out.below B91.out)).mono ?_
  rintro e w97 ⟨rfl, hat, hlt, hb, hroom⟩
  have B98 : Hid (Below w.heap.size w w97) := B91.out.trans (hb.mono B91.out.size)
  have hz99 := hb.size
  have F100 : Hid (Hold (w1.heap.size) (w6.heap.size) (fun X => OwnSt X w1.heap.size (.slice raS ys.length rcS) ys) w97) := F93.out.below hb
  have F101 : Hid (Hold (w6.heap.size) (w6.heap.size + 1) (BoxV w6.heap.size [.int .i64 c, .slice raS ys.length rcS]) w97) := F94.out.below hb
  have F102 : Hid (Hold (w25.heap.size) (w25.heap.size + 1) (BoxV w25.heap.size [.int .i64 c, .slice raI ys.length rcI]) w97) := F95.out.below hb
  have F103 : Hid (Hold (w18.heap.size) (w25.heap.size) (fun X => X.ownsRow w18.heap.size 47 5 (.slice raI ys.length rcI) (mkSt ys.length).length (flatSt (mkSt ys.length))) w97) := F96.out.below hb
  clear B91 F93 F94 F95 F96
  have F104 : Hid (Hold (w90.heap.size) (w90.heap.size + 1) (IntCp w90.heap.size len0 z0) w97) := IntCp.hold ⟨hat, hroom⟩ hlt
  have hl105 := F104.out.le
  clear hat hroom hlt hb
  go_wp2_with fail
  refine (HIM.out _ _ F104.out.out (HER.out.below B98.out)).mono ?_
  rintro e w106 ⟨raH, rcH, rfl, how, hb⟩
  have B107 : Hid (Below w.heap.size w w106) := B98.out.trans (hb.mono B98.out.size)
  have hz108 := hb.size
  have F109 : Hid (Hold (w1.heap.size) (w6.heap.size) (fun X => OwnSt X w1.heap.size (.slice raS ys.length rcS) ys) w106) := F100.out.below hb
  have F110 : Hid (Hold (w6.heap.size) (w6.heap.size + 1) (BoxV w6.heap.size [.int .i64 c, .slice raS ys.length rcS]) w106) := F101.out.below hb
  have F111 : Hid (Hold (w25.heap.size) (w25.heap.size + 1) (BoxV w25.heap.size [.int .i64 c, .slice raI ys.length rcI]) w106) := F102.out.below hb
  have F112 : Hid (Hold (w18.heap.size) (w25.heap.size) (fun X => X.ownsRow w18.heap.size 47 5 (.slice raI ys.length rcI) (mkSt ys.length).length (flatSt (mkSt ys.length))) w106) := F103.out.below hb
  have F113 : Hid (Hold (w90.heap.size) (w90.heap.size + 1) (IntCp w90.heap.size len0 z0) w106) := F104.out.below hb
  clear B98 F100 F101 F102 F103 F104
  clear F113
  have F114 : Hid (Hold (w97.heap.size) (w106.heap.size) (fun X => OwnSt X w97.heap.size (.slice raH ys.length rcH) ys) w106) := owns_hold0 how
  have hl115 := F114.out.le
  clear how hb
  go_upto_region 23 with fail
  obtain ⟨w116, hX⟩ : ∃ X, X = w106.alloc (.cells #[.int .i64 c, .slice raH ys.length rcH] 25) := ⟨_, rfl⟩
  rw [← hX]
  have hb : Below w106.heap.size w106 w116 := by rw [hX]; exact (Below.refl _ _).alloc (Nat.le_refl _) _
  have hbx : Hold w106.heap.size (w106.heap.size + 1) (BoxV w106.heap.size [.int .i64 c, .slice raH ys.length rcH]) w116 := by rw [hX]; exact boxV_new w106 #[.int .i64 c, .slice raH ys.length rcH] 25
  clear hX
  have B117 : Hid (Below w.heap.size w w116) := B107.out.trans (hb.mono B107.out.size)
  have hz118 := hb.size
  have F119 : Hid (Hold (w1.heap.size) (w6.heap.size) (fun X => OwnSt X w1.heap.size (.slice raS ys.length rcS) ys) w116) := F109.out.below hb
  have F120 : Hid (Hold (w6.heap.size) (w6.heap.size + 1) (BoxV w6.heap.size [.int .i64 c, .slice raS ys.length rcS]) w116) := F110.out.below hb
  have F121 : Hid (Hold (w25.heap.size) (w25.heap.size + 1) (BoxV w25.heap.size [.int .i64 c, .slice raI ys.length rcI]) w116) := F111.out.below hb
  have F122 : Hid (Hold (w18.heap.size) (w25.heap.size) (fun X => X.ownsRow w18.heap.size 47 5 (.slice raI ys.length rcI) (mkSt ys.length).length (flatSt (mkSt ys.length))) w116) := F112.out.below hb
  have F123 : Hid (Hold (w97.heap.size) (w106.heap.size) (fun X => OwnSt X w97.heap.size (.slice raH ys.length rcH) ys) w116) := F114.out.below hb
  clear B107 F109 F110 F111 F112 F114
  have F124 : Hid (Hold (w106.heap.size) (w106.heap.size + 1) (BoxV w106.heap.size [.int .i64 c, .slice raH ys.length rcH]) w116) := hbx
  have hl125 := F124.out.le
  clear hbx hb
  have p0 := F124.out.out 0 _ rfl
  have p1 := F124.out.out 1 _ rfl
  have q0 := F120.out.out 0 _ rfl
  have q1 := F120.out.out 1 _ rfl
  go_wp2_with fail
  refine (eqSaid_c c raH raS ys.length rcH rcS ys _ rfl hyl (OwnSt.view F123.out.out) (OwnSt.view F119.out.out)).mono ?_
  rintro e w126 ⟨rfl, hb⟩
  clear p0 p1 q0 q1
  have B127 : Hid (Below w.heap.size w w126) := B117.out.trans (hb.mono B117.out.size)
  have hz128 := hb.size
  have F129 : Hid (Hold (w1.heap.size) (w6.heap.size) (fun X => OwnSt X w1.heap.size (.slice raS ys.length rcS) ys) w126) := F119.out.below hb
  have F130 : Hid (Hold (w6.heap.size) (w6.heap.size + 1) (BoxV w6.heap.size [.int .i64 c, .slice raS ys.length rcS]) w126) := F120.out.below hb
  have F131 : Hid (Hold (w25.heap.size) (w25.heap.size + 1) (BoxV w25.heap.size [.int .i64 c, .slice raI ys.length rcI]) w126) := F121.out.below hb
  have F132 : Hid (Hold (w18.heap.size) (w25.heap.size) (fun X => X.ownsRow w18.heap.size 47 5 (.slice raI ys.length rcI) (mkSt ys.length).length (flatSt (mkSt ys.length))) w126) := F122.out.below hb
  have F133 : Hid (Hold (w97.heap.size) (w106.heap.size) (fun X => OwnSt X w97.heap.size (.slice raH ys.length rcH) ys) w126) := F123.out.below hb
  have F134 : Hid (Hold (w106.heap.size) (w106.heap.size + 1) (BoxV w106.heap.size [.int .i64 c, .slice raH ys.length rcH]) w126) := F124.out.below hb
  clear B117 F119 F120 F121 F122 F123 F124
  clear hb
  have p0 := F131.out.out 0 _ rfl
  have p1 := F131.out.out 1 _ rfl
  go_wp2_with fail
  refine (heldSaid_c c raI ys.length rcI _ hyl (OwnSt.view F132.out.out)).mono ?_
  rintro e w135 ⟨rfl, hb⟩
  clear p0 p1
  have B136 : Hid (Below w.heap.size w w135) := B127.out.trans (hb.mono B127.out.size)
  have hz137 := hb.size
  have F138 : Hid (Hold (w1.heap.size) (w6.heap.size) (fun X => OwnSt X w1.heap.size (.slice raS ys.length rcS) ys) w135) := F129.out.below hb
  have F139 : Hid (Hold (w6.heap.size) (w6.heap.size + 1) (BoxV w6.heap.size [.int .i64 c, .slice raS ys.length rcS]) w135) := F130.out.below hb
  have F140 : Hid (Hold (w25.heap.size) (w25.heap.size + 1) (BoxV w25.heap.size [.int .i64 c, .slice raI ys.length rcI]) w135) := F131.out.below hb
  have F141 : Hid (Hold (w18.heap.size) (w25.heap.size) (fun X => X.ownsRow w18.heap.size 47 5 (.slice raI ys.length rcI) (mkSt ys.length).length (flatSt (mkSt ys.length))) w135) := F132.out.below hb
  have F142 : Hid (Hold (w97.heap.size) (w106.heap.size) (fun X => OwnSt X w97.heap.size (.slice raH ys.length rcH) ys) w135) := F133.out.below hb
  have F143 : Hid (Hold (w106.heap.size) (w106.heap.size + 1) (BoxV w106.heap.size [.int .i64 c, .slice raH ys.length rcH]) w135) := F134.out.below hb
  clear B127 F129 F130 F131 F132 F133 F134
  clear hb
  go_wp2
  go_ret
  exact ⟨rfl, B136.out⟩

/-! The listed variables: the program's own start meets the condition. -/
abbrev doorFuel : Nat := 400
theorem door_met (os : Os) (args : Array Value) : laidMetH Tryd.prog Rows.fnExactReadLogRow.laid ((World.doorLaid Tryd.prog doorFuel os).forCall (fun _ _ => 0) ⟨#[], args, []⟩).memory :=
  laidMetH_of_parts3 (fuel := 8) (laidMet_of_run' 8 (by kernel_rfl) (by kernel_rfl)) (by kernel_rfl) (by kernel_rfl)

/-! The walk: the Go text returns true. -/
theorem walk (a0 : Option Addr) (len0 cap0 : Nat) (z0 : List Int) (w : World) (w0 : IsRow .i64 w a0 len0 cap0 z0) (hE : ErrAt 0 w) :
    Calls Tryd.prog 3 #[.slice a0 len0 cap0] w fun e w' => e = .returned (.bool true) ∧ Below w.heap.size w w' := by
  have hy : (rdX (z0.take len0)).length ≤ 1000 := by
    unfold rdX
    split
    · simp
    · have := rd_end (zs := z0.take len0)
      omega
  exact inner a0 len0 cap0 (z0.take len0) (whC (z0.take len0)) (rdX (z0.take len0)) w (len_of w0) (rowIn_of w0).ints hy hE
    (fun h1 g0 W q0 => specRead_c _ len0 len0 _ W h1 (Nat.le_refl _) (len_of w0) (IntIn.of (rowIn_of w0).ints.1 q0.1))
    (fun h1 g0 W q0 r0 => implRead_c _ len0 len0 _ W h1 (IntIn.of (rowIn_of w0).ints.1 q0.1) r0)

/-! The row's step. -/
set_option maxRecDepth 100000 in
theorem lifted (os : Os) (started : os.Started) (H : Type) (enc : TypeId × Value → H) :
    ReturnsInHanded {} Tryd.checked os 3 .any (fun w args => (Rows.fnExactReadLogSpec.pre enc Tryd.prog Tryd.f3 [] false w args ∧ laidMetH Tryd.prog Rows.fnExactReadLogRow.laid w) ∧ sizedMet enc Tryd.prog Tryd.f3 (OpenSpec.ofChange Rows.fnExactReadLogSpec) false w args) (Rows.fnExactReadLogSpec.post enc Tryd.prog Tryd.f3 false true false false) := by
  refine returnsInHanded_of_change_and (C := Tryd.checked) (X := fun w _ => laidMetH Tryd.prog Rows.fnExactReadLogRow.laid w) (fun _ _ _ hh h => h.of_heap hh) own started (by kernel_rfl) Tryd.func3
    (ChangeSpec.witness_shaped (enc := enc) (C := Tryd.checked) (os := os) (X := fun w _ => laidMetH Tryd.prog Rows.fnExactReadLogRow.laid w) false (World.doorLaid Tryd.prog doorFuel os) #[.slice none 0 0] 8 rfl (World.shaped_of_RefB (by kernel_rfl) (by kernel_rfl)) (by kernel_rfl) (by kernel_rfl) (by kernel_rfl) (door_met os _)) ?_
  intro W base args ds gs before hval0 hW _ _ hL _
  have hval : ∀ (j : Nat) t v, Tryd.f3.params[j]? = some t → args[j]? = some v → Value.okWide Tryd.prog W .any base t v := hval0
  have hW' := hW
  obtain ⟨p, q, hA0, hV, rfl, hfz, hnd⟩ := hW
  have hA : DataW.TrodAll enc Tryd.prog W 0 (fun _ => true) true Tryd.f3.params.toList args.toList ds p := hA0
  rw [Tryd.params3] at hA hval
  obtain ⟨v0, vs0, d0, ds0, p0, q0, hargs, rfl, rfl, h0, r0⟩ := trodAll_cons hA
  obtain ⟨rfl, rfl, rfl⟩ := trodAll_nil r0
  obtain rfl : args = #[v0] := by cases args; simp_all
  have hV2 := hV
  obtain ⟨y0, rfl⟩ := vars_one hV
  obtain ⟨a0, len0, cap0, rfl⟩ := okWide_slice Tryd.underlying22 (hval 0 22 v0 rfl rfl)
  have k0 := h0
  have lt0 : ∀ x ∈ p0, x.block < W.heap.size := by obtain ⟨m, hm⟩ := k0; exact DataW.trod_lt m _ _ _ hm
  obtain ⟨z0, w0⟩ : ∃ zs, IsRow .i64 W a0 len0 cap0 zs := by
    obtain ⟨fuel, hf⟩ := h0
    rcases open_ints Tryd.underlying22 Tryd.underlying2 (by kernel_rfl) hf with ⟨hcs, _⟩ | ⟨x, l, c, zs, hcs, _, hl, hm, hz, _, hcell, hwz⟩
    · simp [Value.cells] at hcs
      obtain ⟨rfl, rfl, rfl⟩ := hcs
      exact ⟨[], .inl ⟨rfl, rfl, rfl, rfl⟩⟩
    · simp [Value.cells] at hcs
      obtain ⟨rfl, rfl, rfl⟩ := hcs
      exact ⟨zs, .inr ⟨_, rfl, hl, hm, by simpa using hz, hcell, hwz⟩⟩
  clear hA0 hval0
  refine (walk a0 len0 cap0 z0 W w0 (errU_of hL)).mono fun e W' ⟨he, bel⟩ => ?_
  subst he
  exact ⟨_, rfl, _, _, _, [], _, _, hW', trodAll_mk1 (shut_bool Tryd.underlying4 _), (trodAll_cons_mk (Below.trod laidOut (by kernel_rfl) (of_decide_eq_true (by kernel_rfl)) k0 bel lt0) trodAll_mk0), Below.trodVars laidOut bel (by kernel_rfl) hV2, bel.frame _, fun h => by cases h⟩

theorem over : Rows.fnExactReadLogRow.holds Tryd.pinned (OpenSpec.ofChange Rows.fnExactReadLogSpec) :=
  OpenClaim.holds_of_wide 3 Tryd.f3 rfl rfl rfl rfl rfl rfl rfl ⟨rfl, rfl, rfl, rfl, rfl⟩ rfl rfl rfl rfl rfl (by kernel_rfl) Tryd.func3 (by kernel_rfl)
    (of_decide_eq_true (by kernel_rfl)) (by unfold Func.isWrapper; first | (rw [if_pos (by decide +kernel)]; kernel_rfl) | (rw [if_neg (by decide +kernel)]; exact ⟨rfl, rfl⟩))
    (fun os started H enc _ => lifted os started H enc)

end Go.Proofs.YtnlmoapopdchkaaDoor.fnExactReadLog
namespace Go.Proofs.YtnlmoapopdchkaaDoor
theorem fnExactReadLog_holds : Rows.FnExactReadLogSaid := fnExactReadLog.over
#print axioms fnExactReadLog_holds
theorem fnExactReadLog_card : Rows.FnExactReadLogCardSaid :=
  Claim7.holds_tied_plain_at .later [] [.sentinel] true (true, "1952477becfe22b0e3bca6d4d36824524c293950fb67f4fae1f4c9a33aff13b6") false
    fnExactReadLog_holds (fun _ h => by cases h) (by kernel_rfl) (fun _ h => by cases h) fnExactReadLog_row_tie rfl ⟨rfl, rfl⟩ (by kernel_rfl) rfl
    (fun f fn hf hfn => by
      obtain rfl : f = 3 := Option.some.inj ((show Tryd.prog.funcNamed "loop.example/g00338/laws.FnExactReadLog" = some 3 by kernel_rfl).symm.trans hf) |>.symm
      obtain rfl : fn = Tryd.f3 := (Option.some.inj (Tryd.func3.symm.trans hfn)).symm
      exact ⟨by kernel_rfl, fun j t ht => by
        rw [Tryd.params3] at ht
        have hm : t ∈ [22] := by simpa using Array.mem_of_getElem? ht
        have hall : ([22].all fun u => !Tryd.prog.wantsStandIn u) = true := by kernel_rfl
        exact (show Tryd.prog.wantsStandIn t = false by simpa using List.all_eq_true.1 hall t hm)⟩)
    (by kernel_rfl)
#print axioms fnExactReadLog_card
end Go.Proofs.YtnlmoapopdchkaaDoor
