/-
  PROVED: for every slice of rules and every role the law laws.FnExactMembersOf returns true, that is impl.MembersOf answers as spec.MembersOf there (up to 1<<20 rules, as the law itself says), and writes nothing into its argument; the arguments read as they did.
  Conditions: none beside those that the given row itself bears. The frame is the shell written by program, turned for a slice of structs and a struct; the walk is ours.
-/
import Derived.Test.YtocdclgolhhckaaRows
import Derived.WalkKit
import Derived.ProofKit
import Derived.OpenShut
import Derived.ShutString
import Derived.ChangeOld
import Derived.Below
import Derived.Test.YtocdclgolhhckaaPk19
namespace Go.Proofs.Ytocdclgolhhckaa.fnExactMembersOf
open Go.ChangeShapes Go.WideShapes Go.ChangeAt Go.RowKit
open Go.ChangeMaps (open_string shut_string)
set_option linter.unusedVariables false

theorem own : ownKnob Try.prog.godebug = none := by kernel_rfl
theorem laidOut : laidOutB Try.prog = true := by kernel_rfl

theorem at_cast {w : World} {g g' : Nat} {zs : List RuleI} (h : RulesAt w g 0 zs) (e : g = g') : RulesAt w g' 0 zs := e ▸ h
/-- An empty box of two numbers. -/
def BoxAt (w : World) (B : Nat) : Prop := w.cell? ⟨B, 0, none⟩ = some (.int .i64 0) ∧ w.cell? ⟨B, 1, none⟩ = some (.int .i64 0) ∧ w.frozen? ⟨B, 0, none⟩ = false ∧ w.frozen? ⟨B, 1, none⟩ = false
theorem BoxAt.new (X : World) : BoxAt (X.alloc (.cells #[.int .i64 0, .int .i64 0] 27)) X.heap.size := ⟨by simp, by simp, by simp [go_sem], by simp [go_sem]⟩
theorem BoxAt.newD (X : World) : BoxAt (X.drew.alloc (.cells #[.int .i64 0, .int .i64 0] 27)) X.heap.size := BoxAt.new X.drew
theorem BoxAt.below {w w' : World} {B : Nat} (h : BoxAt w B) (hb : Below w.heap.size w w') : BoxAt w' B := by
  have hl : B < w.heap.size := World.block_lt_of_cell? w ⟨B, 0, none⟩ h.1
  exact ⟨(hb.cell (p := ⟨B, 0, none⟩) hl).trans h.1, (hb.cell (p := ⟨B, 1, none⟩) hl).trans h.2.1, (hb.frozen (p := ⟨B, 0, none⟩) hl).trans h.2.2.1, (hb.frozen (p := ⟨B, 1, none⟩) hl).trans h.2.2.2⟩

theorem BoxAt.put {w : World} {B : Nat} (h : BoxAt w B) (c v : Int) : Box2 ((w.setCell ⟨B, 0, none⟩ (.int .i64 c)).setCell ⟨B, 1, none⟩ (.int .i64 v)) B (.int .i64 c) (.int .i64 v) := by
  obtain ⟨h0, h1, _, _⟩ := h
  exact ⟨by simp [go_sem, h0], by simp [go_sem, h1]⟩

set_option maxRecDepth 100000 in
set_option maxHeartbeats 8000000 in
theorem inner (a0 : Option Addr) (len cap : Nat) (zs : List RuleI) (r : RoI) (c v : Int) (w : World) (hl : len ≤ 1048576) (hr : RulesIn w a0 len zs)
    (HS : Hid (∀ (g : Nat) (w : World), RulesAt w g 0 zs → GivesI 13 (some ⟨g, 0, none⟩) len len r c v w))
    (HI : Hid (∀ (g : Nat) (w : World), RulesAt w g 0 zs → GivesI 16 (some ⟨g, 0, none⟩) len len r c v w)) :
    Calls Try.prog 3 #[.slice a0 len cap, .agg #[.int .i64 r.1, .int .i64 r.2]] w fun e w' => e = .returned (.bool true) ∧ Below w.heap.size w w' := by
  have hl' : (len : Int) ≤ 1048576 := by omega
  obtain ⟨W, hW⟩ : ∃ W, W = w.alloc (.cells #[.int .i64 r.1, .int .i64 r.2] 24) := ⟨_, rfl⟩
  have hs : W.heap.size = w.heap.size + 1 := by rw [hW]; simp
  have B0 : Below w.heap.size w W := by rw [hW]; exact (Below.refl _ _).alloc (Nat.le_refl _) _
  have r0 : W.cell? ⟨w.heap.size, 0, none⟩ = some (.int .i64 r.1) := by rw [hW]; simp
  have r1 : W.cell? ⟨w.heap.size, 1, none⟩ = some (.int .i64 r.2) := by rw [hW]; simp
  have HR : Hid (RulesIn W a0 len zs) := hr.below B0
  have HZ : Hid (zs.length = len) := hr.1
  clear hr
  go_enter Try.func3, Try.ntmps3
  go_wp2_with (first | (go_at_call 12; go_in) | fail)
  rw [← hW]
  clear hW
  have hlt0 : w.heap.size < W.heap.size := by omega
  clear hs
  go_region_with (first
    | (go_at_call 14; refine (toRules_c a0 len cap zs _ hl (HR.out.below (by first | exact (Below.refl _ W).drew | exact (Below.refl _ W).drew.alloc (Nat.le_refl _) _ | exact hbA | exact hbR | exact hbA.alloc hbA.size _ | exact hbR.alloc hbR.size _))).mono ?_; rintro e w1 ⟨rfl, hat1, hlt1, hb1'⟩; have hbA : Below W.heap.size W w1 := Below.trans (by first | exact (Below.refl _ W).drew | exact (Below.refl _ W).drew.alloc (Nat.le_refl _) _ | exact hbA | exact hbR | exact hbA.alloc hbA.size _ | exact hbR.alloc hbR.size _) (hb1'.mono (Below.size (B := W.heap.size) (by first | exact (Below.refl _ W).drew | exact (Below.refl _ W).drew.alloc (Nat.le_refl _) _ | exact hbA | exact hbR | exact hbA.alloc hbA.size _ | exact hbR.alloc hbR.size _))); have hl1 : w.heap.size < w1.heap.size := Nat.lt_of_lt_of_le hlt0 hbA.size; have x0 := (hbA.cell (p := ⟨w.heap.size, 0, none⟩) hlt0).trans r0; have x1 := (hbA.cell (p := ⟨w.heap.size, 1, none⟩) hlt0).trans r1; first | (have HX1 : Hid (BoxAt w1 _) := HXR.out.below hb1') | (have HX1 : Hid (BoxAt w1 _) := (BoxAt.newD _).below hb1') | (have HX1 : Hid (BoxAt w1 _) := (BoxAt.new _).below hb1') | skip)
    | (go_at_call 15; refine (toRole_c r.1 r.2 _).mono ?_; rintro e wR ⟨rfl, hbR'⟩; have hbR : Below W.heap.size W wR := Below.trans (by first | exact (Below.refl _ W).drew | exact (Below.refl _ W).drew.alloc (Nat.le_refl _) _ | exact hbA | exact hbR | exact hbA.alloc hbA.size _ | exact hbR.alloc hbR.size _) (hbR'.mono (Below.size (B := W.heap.size) (by first | exact (Below.refl _ W).drew | exact (Below.refl _ W).drew.alloc (Nat.le_refl _) _ | exact hbA | exact hbR | exact hbA.alloc hbA.size _ | exact hbR.alloc hbR.size _))); first | (have HXR : Hid (BoxAt wR _) := HX1.out.below hbR') | (have HXR : Hid (BoxAt wR _) := (BoxAt.newD _).below hbR') | (have HXR : Hid (BoxAt wR _) := (BoxAt.new _).below hbR') | skip)
    | (go_at_call 13; refine (HS.out _ _ ?_).mono ?_; (· first | exact hat1 | exact hat1.below hbR' | exact (at_cast hat1 (by simp [go_sem])).below hbR' | exact at_cast hat1 (by simp [go_sem]) | exact (at_cast hat1 (by simp [go_sem])).below ((Below.refl _ _).alloc (Nat.le_refl _) _) | exact hat1.below ((Below.refl _ _).alloc (Nat.le_refl _) _) | exact (hat1.below hbR').below ((Below.refl _ _).alloc (Nat.le_refl _) _) | exact (hat1.below ((Below.refl _ _).alloc (Nat.le_refl _) _)).below hbR'); rintro e w2 ⟨rfl, hb2'⟩; have hb2 : Below W.heap.size W w2 := Below.trans (by first | exact (Below.refl _ W).drew | exact (Below.refl _ W).drew.alloc (Nat.le_refl _) _ | exact hbA | exact hbR | exact hbA.alloc hbA.size _ | exact hbR.alloc hbR.size _) (hb2'.mono (Below.size (B := W.heap.size) (by first | exact (Below.refl _ W).drew | exact (Below.refl _ W).drew.alloc (Nat.le_refl _) _ | exact hbA | exact hbR | exact hbA.alloc hbA.size _ | exact hbR.alloc hbR.size _))); (first | (have HX2 : Hid (BoxAt w2 _) := HXR.out.below hb2') | (have HX2 : Hid (BoxAt w2 _) := HX1.out.below hb2') | (have HX2 : Hid (BoxAt w2 _) := (BoxAt.new _).below hb2') | skip); (first | (obtain ⟨y0, y1, g0, g1⟩ := HX2.out) | skip)))
  all_goals
    go_wp2_with fail
    refine (toRules_c a0 len cap zs _ hl (HR.out.below (by first | exact hb2.alloc hb2.size _ | exact (hb2.setCell (by first | exact Nat.le_refl _ | exact hbA.size | exact hbR.size | exact hb2.size) _).setCell (by first | exact Nat.le_refl _ | exact hbA.size | exact hbR.size | exact hb2.size) _ | exact ((hb2.alloc hb2.size _).setCell hb2.size _).setCell hb2.size _))).mono ?_
    rintro e w3 ⟨rfl, hat3, hlt3, hb3'⟩
    have HB3 : Hid (Below W.heap.size W w3) := Below.trans (by first | exact hb2.alloc hb2.size _ | exact (hb2.setCell (by first | exact Nat.le_refl _ | exact hbA.size | exact hbR.size | exact hb2.size) _).setCell (by first | exact Nat.le_refl _ | exact hbA.size | exact hbR.size | exact hb2.size) _ | exact ((hb2.alloc hb2.size _).setCell hb2.size _).setCell hb2.size _) (hb3'.mono (Below.size (B := W.heap.size) (by first | exact hb2.alloc hb2.size _ | exact (hb2.setCell (by first | exact Nat.le_refl _ | exact hbA.size | exact hbR.size | exact hb2.size) _).setCell (by first | exact Nat.le_refl _ | exact hbA.size | exact hbR.size | exact hb2.size) _ | exact ((hb2.alloc hb2.size _).setCell hb2.size _).setCell hb2.size _)))
    first
      | (have X3 : Hid (Box2 w3 _ (.int .i64 c) (.int .i64 v)) := (Box2.new w2 (.int .i64 c) (.int .i64 v) 27).below hb3')
      | (have X3 : Hid (Box2 w3 _ (.int .i64 c) (.int .i64 v)) := (BoxAt.put HX2.out c v).below hb3')
      | (have X3 : Hid (Box2 w3 _ (.int .i64 c) (.int .i64 v)) := (BoxAt.put (BoxAt.new w2) c v).below hb3')
    have hz3 := HB3.out.size
    have HA3 : Hid (RulesAt w3 _ 0 zs) := hat3
    have x0 := (HB3.out.cell (p := ⟨w.heap.size, 0, none⟩) hlt0).trans r0
    have x1 := (HB3.out.cell (p := ⟨w.heap.size, 1, none⟩) hlt0).trans r1
    clear hat3
    go_wp2_with fail
    refine (toRole_c r.1 r.2 _).mono ?_
    rintro e w4 ⟨rfl, hb4'⟩
    have hz4 := hb4'.size
    have HB4 : Hid (Below W.heap.size W w4) := HB3.out.trans (hb4'.mono (by omega))
    have HA4 : Hid (RulesAt w4 _ 0 zs) := HA3.out.below hb4'
    have X4 : Hid (Box2 w4 _ (.int .i64 c) (.int .i64 v)) := X3.out.below hb4'
    clear hb4' x0 x1
    go_wp2_with fail
    refine (HI.out _ _ ?_).mono ?_
    · first | exact HA4.out | (have := HA4.out; simpa only [World.size_alloc, World.size_setCell] using this)
    rintro e w5 ⟨rfl, hb5'⟩
    have hz5 := hb5'.size
    have A6 : Below w5.heap.size w5 (w5.alloc (.cells #[.int .i64 c, .int .i64 v] 27)) := (Below.refl _ _).alloc (Nat.le_refl _) _
    have hb46 : Below w4.heap.size w4 (w5.alloc (.cells #[.int .i64 c, .int .i64 v] 27)) := hb5'.trans (A6.mono hz5)
    have HB6 : Hid (Below W.heap.size W (w5.alloc (.cells #[.int .i64 c, .int .i64 v] 27))) := HB4.out.trans (hb46.mono (by omega))
    have HA6 : Hid (RulesAt (w5.alloc (.cells #[.int .i64 c, .int .i64 v] 27)) _ 0 zs) := HA4.out.below hb46
    have X6 : Hid (Box2 (w5.alloc (.cells #[.int .i64 c, .int .i64 v] 27)) _ (.int .i64 c) (.int .i64 v)) := X4.out.below hb46
    have Y6 : Hid (Box2 (w5.alloc (.cells #[.int .i64 c, .int .i64 v] 27)) w5.heap.size (.int .i64 c) (.int .i64 v)) := Box2.new _ _ _ _
    have hs6 : w5.heap.size < (w5.alloc (.cells #[.int .i64 c, .int .i64 v] 27)).heap.size := by simp
    clear hb5' A6 hb46
    go_upto_region 8 with fail
    generalize w5.alloc (.cells #[.int .i64 c, .int .i64 v] 27) = w6 at HB6 HA6 X6 Y6 hs6 ⊢
    obtain ⟨p0, p1⟩ := X6.out
    obtain ⟨q0, q1⟩ := Y6.out
    go_wp2_with fail
    refine (eqIR_c c v _).mono ?_
    rintro e w7 ⟨rfl, hb7⟩
    have hz7 := hb7.size
    have HB7 : Hid (Below W.heap.size W w7) := HB6.out.trans (hb7.mono (by omega))
    have HA7 : Hid (RulesAt w7 _ 0 zs) := HA6.out.below hb7
    clear hb7 p0 p1 q0 q1
    go_wp2_with fail
    refine (toRules_c a0 len cap zs _ hl (HR.out.below HB7.out)).mono ?_
    rintro e w8 ⟨rfl, hat8, hlt8, hb8'⟩
    have hz8 := hb8'.size
    have HB8 : Hid (Below W.heap.size W w8) := HB7.out.trans (hb8'.mono (by omega))
    have HA8 : Hid (RulesAt w8 _ 0 zs) := HA7.out.below hb8'
    have HC8 : Hid (RulesAt w8 w7.heap.size 0 zs) := hat8
    clear hat8 hb8'
    go_wp2_with fail
    refine (eqRules_same _ _ len _ _ zs _ hl (RulesIn.of HZ.out ?_) (RulesIn.of HZ.out HC8.out)).mono ?_
    · first | exact HA8.out | (have := HA8.out; simpa only [World.size_alloc, World.size_setCell] using this)
    rintro e w9 ⟨rfl, hb9'⟩
    have HB9 : Hid (Below W.heap.size W w9) := HB8.out.trans (hb9'.mono (by omega))
    clear hb9'
    go_wp2
    go_ret
    exact ⟨rfl, B0.trans (HB9.out.mono B0.size)⟩

set_option maxRecDepth 20000 in
set_option maxHeartbeats 400000 in
theorem long (a0 : Option Addr) (len cap : Nat) (o n : Int) (w : World) (hl : 1048576 < len) (hm : len ≤ maxLen) :
    Calls Try.prog 3 #[.slice a0 len cap, .agg #[.int .i64 o, .int .i64 n]] w fun e w' => e = .returned (.bool true) ∧ Below w.heap.size w w' := by
  unfold maxLen at hm
  have hl' : (1048576 : Int) < (len : Int) := by omega
  have hm' : (len : Int) ≤ 9223372036854775807 := by omega
  clear hm
  go_enter Try.func3, Try.ntmps3
  go_wp2
  go_ret
  exact ⟨rfl, by go_grown⟩

/-! The walk: the Go text returns true. -/
theorem walk (a0 : Option Addr) (len0 cap0 : Nat) (z0 : List RuleI) (o1 n1 : Int) (w : World) (w0 : RulesArg w a0 len0 z0) :
    Calls Try.prog 3 #[.slice a0 len0 cap0, .agg #[.int .i64 o1, .int .i64 n1]] w fun e w' => e = .returned (.bool true) ∧ Below w.heap.size w w' := by
  by_cases hl : len0 ≤ 1048576
  · obtain ⟨c, v, _, hS, hI⟩ := members_both z0 (o1, n1) len0 hl w0.1.1
    exact inner a0 len0 cap0 z0 (o1, n1) c v w hl w0.1 hS hI
  · exact long a0 len0 cap0 o1 n1 w (by omega) w0.2

/-! The row's step. -/
set_option maxRecDepth 100000 in
theorem lifted (os : Os) (started : os.Started) (H : Type) (enc : TypeId × Value → H) :
    ReturnsInHanded {} Try.checked os 3 .any (Rows.fnExactMembersOfSpec.pre6 enc Try.prog Try.f3 Rows.fnExactMembersOfRow.domain false) (Rows.fnExactMembersOfSpec.post enc Try.prog Try.f3 false true false false) := by
  refine returnsInHanded_of_change (C := Try.checked) own started (by kernel_rfl) Try.func3
    (ChangeSpec.witness6 (enc := enc) (C := Try.checked) false ⟨#[], #[.slice none 0 0, .agg #[.int .i64 0, .int .i64 0]], []⟩ 8 (by kernel_rfl) (by kernel_rfl) (by kernel_rfl) (by kernel_rfl)) ?_
  intro W base args ds gs before hval0 hW hcnd _
  have hval : ∀ (j : Nat) t v, Try.f3.params[j]? = some t → args[j]? = some v → Value.okWide Try.prog W .any base t v := hval0
  have hW' := hW
  obtain ⟨p, q, hA0, hV, rfl, hfz, hnd⟩ := hW
  have hA : DataW.TrodAll enc Try.prog W 0 (fun _ => true) true Try.f3.params.toList args.toList ds p := hA0
  rw [Try.params3] at hA hval
  obtain ⟨v0, vs0, d0, ds0, p0, q0, hargs, rfl, rfl, h0, r0⟩ := trodAll_cons hA
  obtain ⟨v1, vs1, d1, ds1, p1, q1, rfl, rfl, rfl, h1, r1⟩ := trodAll_cons r0
  obtain ⟨rfl, rfl, rfl⟩ := trodAll_nil r1
  obtain rfl : args = #[v0, v1] := by cases args; simp_all
  obtain ⟨rfl, rfl⟩ := trodVars_none hV
  obtain ⟨a0, len0, cap0, rfl⟩ := okWide_slice Try.underlying22 (hval 0 22 v0 rfl rfl)
  have k0 := h0
  have lt0 : ∀ x ∈ p0, x.block < W.heap.size := by obtain ⟨m, hm⟩ := k0; exact DataW.trod_lt m _ _ _ hm
  obtain ⟨z0, w0⟩ : ∃ zs : List RuleI, RulesArg W a0 len0 zs := by
    obtain ⟨fuel, hf⟩ := h0
    exact rules_shape hf
  obtain ⟨cs1, rfl, hs1⟩ := okWide_struct Try.underlying24 (hval 1 24 v1 rfl rfl)
  have k1 := h1
  have lt1 : ∀ x ∈ p1, x.block < W.heap.size := by obtain ⟨m, hm⟩ := k1; exact DataW.trod_lt m _ _ _ hm
  obtain ⟨o1, n1, rfl⟩ : ∃ o n, cs1 = #[.int .i64 o, .int .i64 n] := by
    obtain ⟨fuel, hf⟩ := h1
    exact role_shape _ hf
  clear hA0 hval0
  refine (walk a0 len0 cap0 z0 o1 n1 W w0).mono fun e W' ⟨he, bel⟩ => ?_
  subst he
  exact ⟨_, rfl, _, _, _, [], _, [], hW', trodAll_mk1 (shut_bool Try.underlying4 _), (trodAll_cons_mk (Below.trod laidOut (by kernel_rfl) (of_decide_eq_true (by kernel_rfl)) k0 bel lt0) (trodAll_cons_mk (Below.trod laidOut (by kernel_rfl) (of_decide_eq_true (by kernel_rfl)) k1 bel lt1) trodAll_mk0)), rfl, bel.frame _, fun h => by cases h⟩

theorem over : Rows.fnExactMembersOfRow.holds Try.pinned (OpenSpec.ofChange Rows.fnExactMembersOfSpec) :=
  OpenClaim.holds_of_wide 3 Try.f3 rfl rfl rfl rfl rfl rfl rfl ⟨rfl, rfl, rfl, rfl, rfl⟩ rfl rfl rfl rfl rfl (by kernel_rfl) Try.func3 (by kernel_rfl)
    (of_decide_eq_true (by kernel_rfl)) (by unfold Func.isWrapper; first | (rw [if_pos (by decide +kernel)]; kernel_rfl) | (rw [if_neg (by decide +kernel)]; exact ⟨rfl, rfl⟩))
    (fun os started H enc _ => lifted os started H enc)

end Go.Proofs.Ytocdclgolhhckaa.fnExactMembersOf
namespace Go.Proofs.Ytocdclgolhhckaa
theorem fnExactMembersOf_holds : Rows.FnExactMembersOfSaid := fnExactMembersOf.over
#print axioms fnExactMembersOf_holds
end Go.Proofs.Ytocdclgolhhckaa
