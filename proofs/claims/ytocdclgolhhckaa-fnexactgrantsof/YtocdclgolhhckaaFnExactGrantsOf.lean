/-
  PROVED: for every slice of rules the law laws.FnExactGrantsOf returns true, that is impl.GrantsOf answers as spec.GrantsOf there (up to 1<<20 rules, as the law itself says), writes nothing into its argument, and its list is memory of its own, behind another call too; the argument reads as it did.
  Conditions: none beside those that the given row itself bears. The frame is the shell written by program, turned for a slice of structs; the walk is ours.
-/
import Derived.Test.YtocdclgolhhckaaRows
import Derived.WalkKit
import Derived.ProofKit
import Derived.OpenShut
import Derived.ShutString
import Derived.ChangeOld
import Derived.Below
import Derived.Test.YtocdclgolhhckaaPk18
import Derived.Test.YtocdclgolhhckaaPk19
namespace Go.Proofs.Ytocdclgolhhckaa.fnExactGrantsOf
open Go.ChangeShapes Go.WideShapes Go.ChangeAt Go.RowKit
open Go.ChangeMaps (open_string shut_string)
set_option linter.unusedVariables false

theorem own : ownKnob Try.prog.godebug = none := by kernel_rfl
theorem laidOut : laidOutB Try.prog = true := by kernel_rfl

set_option maxRecDepth 20000 in
set_option maxHeartbeats 2000000 in
theorem inner (a0 : Option Addr) (len cap : Nat) (zs : List RuleI) (c : Int) (ys : List GrI) (w : World) (hl : len ≤ 1048576) (hy : ys.length ≤ 1000) (hr : RulesIn w a0 len zs)
    (HS : Hid (∀ (g : Nat) (w : World), RulesAt w g 0 zs → GivesG 19 (some ⟨g, 0, none⟩) len len c ys w))
    (HI : Hid (∀ (g : Nat) (w : World), RulesAt w g 0 zs → GivesG 20 (some ⟨g, 0, none⟩) len len c ys w)) :
    Calls Try.prog 4 #[.slice a0 len cap] w fun e w' => e = .returned (.bool true) ∧ Below w.heap.size w w' := by
  have hl' : (len : Int) ≤ 1048576 := by omega
  have HR : Hid (RulesIn w a0 len zs) := hr
  have HZ : Hid (zs.length = len) := hr.1
  have HLT : Hid (∀ b off, a0 = some ⟨b, off, none⟩ → len = 0 ∨ b < w.heap.size) := rules_lt hr
  clear hr
  go_enter Try.func4, Try.ntmps4
  go_wp2_with (first | (go_at_call 12; go_in) | fail)
  refine (toRules_c a0 len cap zs _ hl HR.out).mono ?_
  rintro e w1 ⟨rfl, hat1, hlt1, hb1⟩
  have HA1 : Hid (RulesAt w1 w.heap.size 0 zs) := hat1
  clear hat1
  go_wp2_with fail
  refine (HS.out _ _ HA1.out).mono ?_
  rintro e w2 ⟨a1, cap1, rfl, hown2, hb2⟩
  have hz1 := hb1.size
  have hz2 := hb2.size
  have B3 : Hid (Below w.heap.size w (w2.alloc (.cells #[.int .i64 c, .slice a1 ys.length cap1] 38))) := (hb1.trans (hb2.mono hz1)).alloc (by omega) _
  have X3 : Hid (Box2 (w2.alloc (.cells #[.int .i64 c, .slice a1 ys.length cap1] 38)) w2.heap.size (.int .i64 c) (.slice a1 ys.length cap1)) := Box2.new _ _ _ _
  have V3 : Hid (GrV (w2.alloc (.cells #[.int .i64 c, .slice a1 ys.length cap1] 38)) a1 ys) := hown2.view.below ((Below.refl _ _).alloc (Nat.le_refl _) _)
  have L1 : Hid (∀ g, a1 = some ⟨g, 0, none⟩ → g < w2.heap.size) := fun g e => (row3_lt hown2 g e).2
  have HR3 : Hid (RulesIn (w2.alloc (.cells #[.int .i64 c, .slice a1 ys.length cap1] 38)) a0 len zs) := HR.out.below B3.out
  clear hown2 hb1 hb2 HA1 HR
  generalize hw3 : w2.alloc (.cells #[.int .i64 c, .slice a1 ys.length cap1] 38) = w3 at B3 X3 V3 HR3
  have hz3 : w3.heap.size ≤ w2.heap.size + 1 := by rw [← hw3]; simp
  have hz3' : w2.heap.size + 1 ≤ w3.heap.size := by rw [← hw3]; simp
  go_wp2_with fail
  clear hw3
  refine (toRules_room a0 len cap zs _ hl HR3.out).mono ?_
  rintro e w4 ⟨rfl, hat4, hlt4, hb4, hroom4⟩
  have HA4 : Hid (RulesAt w4 w3.heap.size 0 zs) := hat4
  have RM4 : Hid (RoomAt w4 w3.heap.size len) := hroom4
  have hz4 := hb4.size
  have B4 : Hid (Below w.heap.size w w4) := B3.out.trans (hb4.mono (by omega))
  have X4 : Hid (Box2 w4 w2.heap.size (.int .i64 c) (.slice a1 ys.length cap1)) := X3.out.below hb4
  have V4 : Hid (GrV w4 a1 ys) := V3.out.below hb4
  have HR4 : Hid (RulesIn w4 a0 len zs) := HR3.out.below hb4
  clear hat4 hroom4 hb4 B3 X3 V3 HR3
  go_wp2_with fail
  refine (HI.out _ _ HA4.out).mono ?_
  rintro e w5 ⟨a2, cap2, rfl, hown5, hb5⟩
  have hz5 := hb5.size
  have A6 : Below w5.heap.size w5 (w5.alloc (.cells #[.int .i64 c, .slice a2 ys.length cap2] 38)) := (Below.refl _ _).alloc (Nat.le_refl _) _
  have hb56 : Below w4.heap.size w4 (w5.alloc (.cells #[.int .i64 c, .slice a2 ys.length cap2] 38)) := hb5.trans (A6.mono hz5)
  have B6 : Hid (Below w.heap.size w (w5.alloc (.cells #[.int .i64 c, .slice a2 ys.length cap2] 38))) := B4.out.trans (hb56.mono (by omega))
  have X6 : Hid (Box2 (w5.alloc (.cells #[.int .i64 c, .slice a2 ys.length cap2] 38)) w2.heap.size (.int .i64 c) (.slice a1 ys.length cap1)) := X4.out.below hb56
  have V6 : Hid (GrV (w5.alloc (.cells #[.int .i64 c, .slice a2 ys.length cap2] 38)) a1 ys) := V4.out.below hb56
  have HR6 : Hid (RulesIn (w5.alloc (.cells #[.int .i64 c, .slice a2 ys.length cap2] 38)) a0 len zs) := HR4.out.below hb56
  have HA6 : Hid (RulesAt (w5.alloc (.cells #[.int .i64 c, .slice a2 ys.length cap2] 38)) w3.heap.size 0 zs) := HA4.out.below hb56
  have RM6 : Hid (RoomAt (w5.alloc (.cells #[.int .i64 c, .slice a2 ys.length cap2] 38)) w3.heap.size len) := roomAt_below RM4.out hlt4 hb56
  have Y6 : Hid (Box2 (w5.alloc (.cells #[.int .i64 c, .slice a2 ys.length cap2] 38)) w5.heap.size (.int .i64 c) (.slice a2 ys.length cap2)) := Box2.new _ _ _ _
  have O6 : Hid (Own3 (w5.alloc (.cells #[.int .i64 c, .slice a2 ys.length cap2] 38)) w4.heap.size (.slice a2 ys.length cap2) ys) := hown5.alloc _
  have L2 : Hid (∀ g, a2 = some ⟨g, 0, none⟩ → w4.heap.size ≤ g ∧ g < w5.heap.size) := row3_lt hown5
  have hs6 : w5.heap.size < (w5.alloc (.cells #[.int .i64 c, .slice a2 ys.length cap2] 38)).heap.size := by simp
  clear hown5 hb5 A6 hb56 B4 X4 V4 HR4 HA4 RM4
  go_upto_region 8 with fail
  generalize w5.alloc (.cells #[.int .i64 c, .slice a2 ys.length cap2] 38) = w6 at B6 X6 V6 HR6 HA6 RM6 Y6 O6 hs6 ⊢
  obtain ⟨x0, x1⟩ := X6.out
  obtain ⟨y0, y1⟩ := Y6.out
  go_wp2_with fail
  refine (eqGR_c c a2 a1 ys.length cap2 cap1 ys _ rfl (by omega) O6.out.view V6.out).mono ?_
  rintro e w7 ⟨rfl, hb7⟩
  have hz7 := hb7.size
  have B7 : Hid (Below w.heap.size w w7) := B6.out.trans (hb7.mono (by omega))
  have X7 : Hid (Box2 w7 w2.heap.size (.int .i64 c) (.slice a1 ys.length cap1)) := X6.out.below hb7
  have Y7 : Hid (Box2 w7 w5.heap.size (.int .i64 c) (.slice a2 ys.length cap2)) := Y6.out.below hb7
  have V7 : Hid (GrV w7 a1 ys) := V6.out.below hb7
  have O7 : Hid (Own3 w7 w4.heap.size (.slice a2 ys.length cap2) ys) := O6.out.below hb7
  have HR7 : Hid (RulesIn w7 a0 len zs) := HR6.out.below hb7
  have HA7 : Hid (RulesAt w7 w3.heap.size 0 zs) := HA6.out.below hb7
  have RM7 : Hid (RoomAt w7 w3.heap.size len) := roomAt_below RM6.out (by omega) hb7
  clear hb7 B6 X6 V6 HR6 HA6 RM6 Y6 O6 x0 x1 y0 y1
  go_wp2_with fail
  refine (toRules_c a0 len cap zs _ hl HR7.out).mono ?_
  rintro e w8 ⟨rfl, hat8, hlt8, hb8⟩
  have hz8 := hb8.size
  have HB8 : Hid (RulesAt w8 w7.heap.size 0 zs) := hat8
  have HA8 : Hid (RulesAt w8 w3.heap.size 0 zs) := HA7.out.below hb8
  clear hat8
  go_wp2_with fail
  refine (eqRules_same _ _ len _ _ zs _ hl (RulesIn.of HZ.out HA8.out) (RulesIn.of HZ.out HB8.out)).mono ?_
  rintro e w9 ⟨rfl, hb9'⟩
  have hz9 := hb9'.size
  have hb9 : Below w7.heap.size w7 w9 := hb8.trans (hb9'.mono hz8)
  have B9 : Hid (Below w.heap.size w w9) := B7.out.trans (hb9.mono (by omega))
  have X9 : Hid (Box2 w9 w2.heap.size (.int .i64 c) (.slice a1 ys.length cap1)) := X7.out.below hb9
  have Y9 : Hid (Box2 w9 w5.heap.size (.int .i64 c) (.slice a2 ys.length cap2)) := Y7.out.below hb9
  have V9 : Hid (GrV w9 a1 ys) := V7.out.below hb9
  have O9 : Hid (Own3 w9 w4.heap.size (.slice a2 ys.length cap2) ys) := O7.out.below hb9
  have HR9 : Hid (RulesIn w9 a0 len zs) := HR7.out.below hb9
  have RM9 : Hid (RoomAt w9 w3.heap.size len) := roomAt_below RM7.out (by omega) hb9
  clear hb8 hb9 hb9' B7 X7 V7 HR7 HA7 RM7 Y7 O7 HA8 HB8
  go_wp2_with fail
  refine (markRules_c w3.heap.size len len _ hl RM9.out).mono ?_
  rintro e w10 ⟨rfl, hg10⟩
  have hz10 := hg10.size
  have B10 : Hid (Below w.heap.size w w10) := B9.out.grown hg10 (by omega) (fun q e => by cases e; omega)
  have X10 : Hid (Box2 w10 w2.heap.size (.int .i64 c) (.slice a1 ys.length cap1)) := X9.out.grown hg10 (by simp; omega)
  have Y10 : Hid (Box2 w10 w5.heap.size (.int .i64 c) (.slice a2 ys.length cap2)) := Y9.out.grown hg10 (by simp; omega)
  have V10 : Hid (GrV w10 a1 ys) := V9.out.kept hg10 (fun g e => by have := L1.out g e; simp; omega)
  have O10 : Hid (Own3 w10 w4.heap.size (.slice a2 ys.length cap2) ys) := World.ownsRow.kept O9.out hg10 (by
    rcases a2 with _ | ⟨g, o, sp⟩
    · exact .inl rfl
    · rcases O9.out.form with ⟨h1, _⟩ | ⟨g', cap', h1, h2, _⟩
      · simp at h1
      · simp at h1
        obtain ⟨⟨rfl, rfl, rfl⟩, _⟩ := h1
        exact .inr (by simp [Value.ownBlock]; omega))
  have HR10 : Hid (RulesIn w10 a0 len zs) := rulesIn_kept HR9.out hg10 HLT.out (fun q e => by cases e; omega)
  clear hg10 B9 X9 Y9 V9 O9 HR9 RM9
  have hk0 : decide ((1 : Int) + 8 * (len : Int) < 0) = false := by simp; omega
  obtain ⟨x0, x1⟩ := X10.out
  obtain ⟨y0, y1⟩ := Y10.out
  go_wp2_with fail
  refine (eqGR_c c a2 a1 ys.length cap2 cap1 ys _ rfl (by omega) O10.out.view V10.out).mono ?_
  rintro e w11 ⟨rfl, hb11⟩
  have hz11 := hb11.size
  have B11 : Hid (Below w.heap.size w w11) := B10.out.trans (hb11.mono (by omega))
  have X11 : Hid (Box2 w11 w2.heap.size (.int .i64 c) (.slice a1 ys.length cap1)) := X10.out.below hb11
  have Y11 : Hid (Box2 w11 w5.heap.size (.int .i64 c) (.slice a2 ys.length cap2)) := Y10.out.below hb11
  have V11 : Hid (GrV w11 a1 ys) := V10.out.below hb11
  have O11 : Hid (Own3 w11 w4.heap.size (.slice a2 ys.length cap2) ys) := O10.out.below hb11
  have HR11 : Hid (RulesIn w11 a0 len zs) := HR10.out.below hb11
  clear hb11 B10 X10 Y10 V10 O10 HR10 x0 x1 y0 y1
  obtain ⟨y0, y1⟩ := Y11.out
  go_wp2_with fail
  refine (markGR_c c w4.heap.size a2 ys.length cap2 ys _ rfl (by omega) O11.out).mono ?_
  rintro e w12 ⟨rfl, hown12, hg12⟩
  have hz12 := hg12.size
  have hrow : ∀ q, (Value.slice a2 ys.length cap2).ownBlock = some q → w4.heap.size ≤ q ∧ q < w5.heap.size := by
    intro q e
    rcases a2 with _ | ⟨g, o, sp⟩
    · simp [Value.ownBlock] at e
    · rcases O11.out.form with ⟨h1, _⟩ | ⟨g', cap', h1, h2, _⟩
      · simp at h1
      · simp at h1
        obtain ⟨⟨rfl, rfl, rfl⟩, _⟩ := h1
        simp [Value.ownBlock] at e
        subst e
        exact L2.out _ rfl
  have B12 : Hid (Below w.heap.size w w12) := B11.out.grown hg12 (by omega) (fun q e => by have := hrow q e; omega)
  have X12 : Hid (Box2 w12 w2.heap.size (.int .i64 c) (.slice a1 ys.length cap1)) := X11.out.grown hg12 (fun e => by have := hrow _ e.symm; omega)
  have Y12 : Hid (Box2 w12 w5.heap.size (.int .i64 c) (.slice a2 ys.length cap2)) := Y11.out.grown hg12 (fun e => by have := hrow _ e.symm; omega)
  have V12 : Hid (GrV w12 a1 ys) := V11.out.kept hg12 (fun g e q => by have := L1.out g e; have := hrow _ q.symm; omega)
  have M12 : Hid (GrV w12 a2 (mk3 ys.length)) := by
    have h0 := hown12
    have h1 : Own3 w12 w4.heap.size (.slice a2 ys.length cap2) (mk3 ys.length) := h0
    exact h1.view
  have HR12 : Hid (RulesIn w12 a0 len zs) := rulesIn_kept HR11.out hg12 HLT.out (fun q e => by have := hrow q e; omega)
  clear hown12 hg12 hrow B11 X11 Y11 V11 O11 HR11 y0 y1
  obtain ⟨y0, y1⟩ := Y12.out
  have hq0 : decide ((1 : Int) + 3 * (ys.length : Int) < 0) = false := by simp; omega
  go_wp2_with fail
  refine (heldGR_c c a2 ys.length cap2 _ (by omega) M12.out).mono ?_
  rintro e w13 ⟨rfl, hb13⟩
  have hz13 := hb13.size
  have B13 : Hid (Below w.heap.size w w13) := B12.out.trans (hb13.mono (by omega))
  have X13 : Hid (Box2 w13 w2.heap.size (.int .i64 c) (.slice a1 ys.length cap1)) := X12.out.below hb13
  have Y13 : Hid (Box2 w13 w5.heap.size (.int .i64 c) (.slice a2 ys.length cap2)) := Y12.out.below hb13
  have V13 : Hid (GrV w13 a1 ys) := V12.out.below hb13
  have M13 : Hid (GrV w13 a2 (mk3 ys.length)) := M12.out.below hb13
  have HR13 : Hid (RulesIn w13 a0 len zs) := HR12.out.below hb13
  clear hb13 B12 X12 Y12 V12 M12 HR12 y0 y1
  go_wp2_with fail
  refine (toRules_c a0 len cap zs _ hl HR13.out).mono ?_
  rintro e w14 ⟨rfl, hat14, hlt14, hb14⟩
  have hz14 := hb14.size
  have HA14 : Hid (RulesAt w14 w13.heap.size 0 zs) := hat14
  clear hat14
  go_wp2_with fail
  refine (HI.out _ _ HA14.out).mono ?_
  rintro e w15 ⟨a3, cap3, rfl, hown15, hb15⟩
  have hz15 := hb15.size
  have A16 : Below w15.heap.size w15 (w15.alloc (.cells #[.int .i64 c, .slice a3 ys.length cap3] 38)) := (Below.refl _ _).alloc (Nat.le_refl _) _
  have hb1316 : Below w13.heap.size w13 (w15.alloc (.cells #[.int .i64 c, .slice a3 ys.length cap3] 38)) := (hb14.trans (hb15.mono hz14)).trans (A16.mono (by omega))
  have B16 : Hid (Below w.heap.size w (w15.alloc (.cells #[.int .i64 c, .slice a3 ys.length cap3] 38))) := B13.out.trans (hb1316.mono (by omega))
  have X16 : Hid (Box2 (w15.alloc (.cells #[.int .i64 c, .slice a3 ys.length cap3] 38)) w2.heap.size (.int .i64 c) (.slice a1 ys.length cap1)) := X13.out.below hb1316
  have Y16 : Hid (Box2 (w15.alloc (.cells #[.int .i64 c, .slice a3 ys.length cap3] 38)) w5.heap.size (.int .i64 c) (.slice a2 ys.length cap2)) := Y13.out.below hb1316
  have Z16 : Hid (Box2 (w15.alloc (.cells #[.int .i64 c, .slice a3 ys.length cap3] 38)) w15.heap.size (.int .i64 c) (.slice a3 ys.length cap3)) := Box2.new _ _ _ _
  have V16 : Hid (GrV (w15.alloc (.cells #[.int .i64 c, .slice a3 ys.length cap3] 38)) a1 ys) := V13.out.below hb1316
  have M16 : Hid (GrV (w15.alloc (.cells #[.int .i64 c, .slice a3 ys.length cap3] 38)) a2 (mk3 ys.length)) := M13.out.below hb1316
  have U16 : Hid (GrV (w15.alloc (.cells #[.int .i64 c, .slice a3 ys.length cap3] 38)) a3 ys) := hown15.view.below A16
  have hs16 : w15.heap.size < (w15.alloc (.cells #[.int .i64 c, .slice a3 ys.length cap3] 38)).heap.size := by simp
  clear hown15 hb14 hb15 A16 hb1316 B13 X13 Y13 V13 M13 HR13 HA14
  go_upto_region 25 with fail
  generalize w15.alloc (.cells #[.int .i64 c, .slice a3 ys.length cap3] 38) = w16 at B16 X16 Y16 Z16 V16 M16 U16 hs16 ⊢
  obtain ⟨x0, x1⟩ := X16.out
  obtain ⟨z0, z1⟩ := Z16.out
  go_wp2_with fail
  refine (eqGR_c c a3 a1 ys.length cap3 cap1 ys _ rfl (by omega) U16.out V16.out).mono ?_
  rintro e w17 ⟨rfl, hb17⟩
  have hz17 := hb17.size
  have B17 : Hid (Below w.heap.size w w17) := B16.out.trans (hb17.mono (by omega))
  have M17 : Hid (GrV w17 a2 (mk3 ys.length)) := M16.out.below hb17
  obtain ⟨y0, y1⟩ := Y16.out.below hb17
  clear hb17 B16 X16 Y16 Z16 V16 M16 U16 x0 x1 z0 z1
  go_wp2_with fail
  refine (heldGR_c c a2 ys.length cap2 _ (by omega) M17.out).mono ?_
  rintro e w18 ⟨rfl, hb18⟩
  have B18 : Hid (Below w.heap.size w w18) := B17.out.trans (hb18.mono (by omega))
  clear hb18 B17 M17 y0 y1
  go_wp2
  go_ret
  exact ⟨rfl, B18.out⟩

set_option maxRecDepth 20000 in
set_option maxHeartbeats 400000 in
theorem long (a0 : Option Addr) (len cap : Nat) (w : World) (hl : 1048576 < len) (hm : len ≤ maxLen) :
    Calls Try.prog 4 #[.slice a0 len cap] w fun e w' => e = .returned (.bool true) ∧ Below w.heap.size w w' := by
  unfold maxLen at hm
  have hl' : (1048576 : Int) < (len : Int) := by omega
  have hm' : (len : Int) ≤ 9223372036854775807 := by omega
  clear hm
  go_enter Try.func4, Try.ntmps4
  go_wp2
  go_ret
  exact ⟨rfl, Below.refl _ _⟩

/-! The walk: the Go text returns true. -/
theorem walk (a0 : Option Addr) (len0 cap0 : Nat) (z0 : List RuleI) (w : World) (w0 : RulesArg w a0 len0 z0) :
    Calls Try.prog 4 #[.slice a0 len0 cap0] w fun e w' => e = .returned (.bool true) ∧ Below w.heap.size w w' := by
  by_cases hl : len0 ≤ 1048576
  · have hz := w0.1.1
    by_cases hc : polCode z0 = 0
    · obtain ⟨gs, hgs⟩ := all_some z0 hc
      exact inner a0 len0 cap0 z0 0 gs w hl (by have := sg_len hgs.sg; omega) w0.1 (fun g w h => specGrantsOf_ok _ _ _ _ _ _ (RulesIn.of hz h) hc hgs) (fun g w h => implGrantsOf_ok _ _ _ _ _ _ (Nat.le_refl _) (by unfold maxLen; omega) (RulesIn.of hz h) hc hgs)
    · exact inner a0 len0 cap0 z0 (polCode z0) [] w hl (by simp) w0.1 (fun g w h => specGrantsOf_bad _ _ _ _ _ _ hl (RulesIn.of hz h) rfl hc) (fun g w h => implGrantsOf_bad _ _ _ _ _ _ hl (Nat.le_refl _) (by unfold maxLen; omega) (RulesIn.of hz h) rfl hc)
  · exact long a0 len0 cap0 w (by omega) w0.2

/-! The row's step. -/
set_option maxRecDepth 100000 in
theorem lifted (os : Os) (started : os.Started) (H : Type) (enc : TypeId × Value → H) :
    ReturnsInHanded {} Try.checked os 4 .any (Rows.fnExactGrantsOfSpec.pre6 enc Try.prog Try.f4 Rows.fnExactGrantsOfRow.domain false) (Rows.fnExactGrantsOfSpec.post enc Try.prog Try.f4 false true false false) := by
  refine returnsInHanded_of_change (C := Try.checked) own started (by kernel_rfl) Try.func4
    (ChangeSpec.witness6 (enc := enc) (C := Try.checked) false ⟨#[], #[.slice none 0 0], []⟩ 8 (by kernel_rfl) (by kernel_rfl) (by kernel_rfl) (by kernel_rfl)) ?_
  intro W base args ds gs before hval0 hW hcnd _
  have hval : ∀ (j : Nat) t v, Try.f4.params[j]? = some t → args[j]? = some v → Value.okWide Try.prog W .any base t v := hval0
  have hW' := hW
  obtain ⟨p, q, hA0, hV, rfl, hfz, hnd⟩ := hW
  have hA : DataW.TrodAll enc Try.prog W 0 (fun _ => true) true Try.f4.params.toList args.toList ds p := hA0
  rw [Try.params4] at hA hval
  obtain ⟨v0, vs0, d0, ds0, p0, q0, hargs, rfl, rfl, h0, r0⟩ := trodAll_cons hA
  obtain ⟨rfl, rfl, rfl⟩ := trodAll_nil r0
  obtain rfl : args = #[v0] := by cases args; simp_all
  obtain ⟨rfl, rfl⟩ := trodVars_none hV
  obtain ⟨a0, len0, cap0, rfl⟩ := okWide_slice Try.underlying22 (hval 0 22 v0 rfl rfl)
  have k0 := h0
  have lt0 : ∀ x ∈ p0, x.block < W.heap.size := by obtain ⟨m, hm⟩ := k0; exact DataW.trod_lt m _ _ _ hm
  obtain ⟨z0, w0⟩ : ∃ zs : List RuleI, RulesArg W a0 len0 zs := by
    obtain ⟨fuel, hf⟩ := h0
    exact rules_shape hf
  clear hA0 hval0
  refine (walk a0 len0 cap0 z0 W w0).mono fun e W' ⟨he, bel⟩ => ?_
  subst he
  exact ⟨_, rfl, _, _, _, [], _, [], hW', trodAll_mk1 (shut_bool Try.underlying4 _), (trodAll_cons_mk (Below.trod laidOut (by kernel_rfl) (of_decide_eq_true (by kernel_rfl)) k0 bel lt0) trodAll_mk0), rfl, bel.frame _, fun h => by cases h⟩

theorem over : Rows.fnExactGrantsOfRow.holds Try.pinned (OpenSpec.ofChange Rows.fnExactGrantsOfSpec) :=
  OpenClaim.holds_of_wide 4 Try.f4 rfl rfl rfl rfl rfl rfl rfl ⟨rfl, rfl, rfl, rfl, rfl⟩ rfl rfl rfl rfl rfl (by kernel_rfl) Try.func4 (by kernel_rfl)
    (of_decide_eq_true (by kernel_rfl)) (by unfold Func.isWrapper; first | (rw [if_pos (by decide +kernel)]; kernel_rfl) | (rw [if_neg (by decide +kernel)]; exact ⟨rfl, rfl⟩))
    (fun os started H enc _ => lifted os started H enc)

end Go.Proofs.Ytocdclgolhhckaa.fnExactGrantsOf
namespace Go.Proofs.Ytocdclgolhhckaa
theorem fnExactGrantsOf_holds : Rows.FnExactGrantsOfSaid := fnExactGrantsOf.over
#print axioms fnExactGrantsOf_holds
end Go.Proofs.Ytocdclgolhhckaa
