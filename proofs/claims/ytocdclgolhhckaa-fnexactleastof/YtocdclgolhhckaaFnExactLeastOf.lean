/-
  PROVED: for every slice of rules and every slice of parts the law laws.FnExactLeastOf returns true, that is impl.LeastOf answers as spec.LeastOf there (up to 1<<20 rules and parts together, as the law itself says) and writes nothing into its arguments; the arguments read as they did.
  Conditions: none beside those that the given row itself bears. The frame is the shell written by program, turned for slices of structs; the walk is ours.
-/
import Derived.Test.YtocdclgolhhckaaRows
import Derived.WalkKit
import Derived.ProofKit
import Derived.OpenShut
import Derived.ShutString
import Derived.ChangeOld
import Derived.Below
import Derived.Test.YtocdclgolhhckaaPk30
import Derived.Test.YtocdclgolhhckaaPk19
namespace Go.Proofs.Ytocdclgolhhckaa.fnExactLeastOf
open Go.ChangeShapes Go.WideShapes Go.ChangeAt Go.RowKit
open Go.ChangeMaps (open_string shut_string)
set_option linter.unusedVariables false

theorem own : ownKnob Try.prog.godebug = none := by kernel_rfl
theorem laidOut : laidOutB Try.prog = true := by kernel_rfl

set_option maxRecDepth 100000 in
set_option maxHeartbeats 4000000 in
theorem inner (a0 : Option Addr) (len cap : Nat) (zs : List RuleI) (b0 : Option Addr) (m cap2 : Nat) (ys : List PartI) (c v : Int) (w : World) (hl : len ≤ 1048576) (hlm : len + m ≤ 1048576) (hr : RulesIn w a0 len zs) (hg : PartsIn w b0 m ys)
    (HS : Hid (∀ (g k : Nat) (w : World), RulesAt w g 0 zs → PartsAt w k 0 ys → GivesL 49 (some ⟨g, 0, none⟩) len len (some ⟨k, 0, none⟩) m m c v w))
    (HI : Hid (∀ (g k : Nat) (w : World), RulesAt w g 0 zs → PartsAt w k 0 ys → GivesL 50 (some ⟨g, 0, none⟩) len len (some ⟨k, 0, none⟩) m m c v w)) :
    Calls Try.prog 10 #[.slice a0 len cap, .slice b0 m cap2] w fun e w' => e = .returned (.bool true) ∧ Below w.heap.size w w' := by
  have hl' : (len : Int) ≤ 1048576 := by omega
  have hlm' : (len : Int) + (m : Int) ≤ 1048576 := by omega
  have hm : m ≤ 1048576 := by omega
  have HR : Hid (RulesIn w a0 len zs) := hr
  have HG : Hid (PartsIn w b0 m ys) := hg
  have HZ : Hid (zs.length = len) := hr.1
  have HY : Hid (ys.length = m) := hg.1
  clear hr hg
  go_enter Try.func10, Try.ntmps10
  go_wp2_with (first | (go_at_call 12; go_in) | (go_at_call 38; go_in) | fail)
  refine (toRules_c a0 len cap zs _ hl HR.out).mono ?_
  rintro e w1 ⟨rfl, hat1, hlt1, hb1⟩
  have HA1 : Hid (RulesAt w1 w.heap.size 0 zs) := hat1
  have HG1 : Hid (PartsIn w1 b0 m ys) := HG.out.below hb1
  clear hat1
  go_wp2_with fail
  refine (toParts_c b0 m cap2 ys _ hm HG1.out).mono ?_
  rintro e w2 ⟨rfl, hat2, hlt2, hb2⟩
  have HA2 : Hid (RulesAt w2 w.heap.size 0 zs) := HA1.out.below hb2
  have HB2 : Hid (PartsAt w2 w1.heap.size 0 ys) := hat2
  clear hat2
  go_wp2_with fail
  refine (HS.out _ _ _ HA2.out HB2.out).mono ?_
  rintro e w3' ⟨rfl, hb3⟩
  have hz1 := hb1.size
  have hz2 := hb2.size
  have hz3 := hb3.size
  have hbw3' : Below w.heap.size w w3' := (hb1.trans (hb2.mono hz1)).trans (hb3.mono (by omega))
  have hbw3 : Below w.heap.size w (w3'.alloc (.cells #[.int .i64 c, .int .i64 v] 27)) := hbw3'.alloc hbw3'.size _
  have X3 : Hid (Box2 (w3'.alloc (.cells #[.int .i64 c, .int .i64 v] 27)) w3'.heap.size (.int .i64 c) (.int .i64 v)) := Box2.new _ _ _ _
  have HR3 : Hid (RulesIn (w3'.alloc (.cells #[.int .i64 c, .int .i64 v] 27)) a0 len zs) := HR.out.below hbw3
  have HG3 : Hid (PartsIn (w3'.alloc (.cells #[.int .i64 c, .int .i64 v] 27)) b0 m ys) := HG.out.below hbw3
  have hs3 : w3'.heap.size < (w3'.alloc (.cells #[.int .i64 c, .int .i64 v] 27)).heap.size := by simp
  clear HA1 HG1 HA2 HB2 hb1 hb2 hb3 hbw3'
  go_wp2_with fail
  generalize w3'.alloc (.cells #[.int .i64 c, .int .i64 v] 27) = w3 at hbw3 X3 HR3 HG3 hs3 ⊢
  refine (toRules_c a0 len cap zs _ hl HR3.out).mono ?_
  rintro e w4 ⟨rfl, hat4, hlt4, hb4⟩
  have hz4 := hb4.size
  have HA4 : Hid (RulesAt w4 w3.heap.size 0 zs) := hat4
  have HG4 : Hid (PartsIn w4 b0 m ys) := HG3.out.below hb4
  have X4 : Hid (Box2 w4 w3'.heap.size (.int .i64 c) (.int .i64 v)) := X3.out.below hb4
  clear hat4
  go_wp2_with fail
  refine (toParts_c b0 m cap2 ys _ hm HG4.out).mono ?_
  rintro e w5 ⟨rfl, hat5, hlt5, hb5⟩
  have hz5 := hb5.size
  have HA5 : Hid (RulesAt w5 w3.heap.size 0 zs) := HA4.out.below hb5
  have HB5 : Hid (PartsAt w5 w4.heap.size 0 ys) := hat5
  have X5 : Hid (Box2 w5 w3'.heap.size (.int .i64 c) (.int .i64 v)) := X4.out.below hb5
  clear hat5
  go_wp2_with fail
  refine (HI.out _ _ _ HA5.out HB5.out).mono ?_
  rintro e w6' ⟨rfl, hb6'⟩
  have hz6' := hb6'.size
  have A6 : Below w6'.heap.size w6' (w6'.alloc (.cells #[.int .i64 c, .int .i64 v] 27)) := (Below.refl _ _).alloc (Nat.le_refl _) _
  have hb6 : Below w5.heap.size w5 (w6'.alloc (.cells #[.int .i64 c, .int .i64 v] 27)) := hb6'.trans (A6.mono hz6')
  have hb36 : Below w3.heap.size w3 (w6'.alloc (.cells #[.int .i64 c, .int .i64 v] 27)) := (hb4.trans (hb5.mono hz4)).trans (hb6.mono (by omega))
  have hbw6 : Below w.heap.size w (w6'.alloc (.cells #[.int .i64 c, .int .i64 v] 27)) := hbw3.trans (hb36.mono hbw3.size)
  have HA6 : Hid (RulesAt (w6'.alloc (.cells #[.int .i64 c, .int .i64 v] 27)) w3.heap.size 0 zs) := HA5.out.below hb6
  have HB6 : Hid (PartsAt (w6'.alloc (.cells #[.int .i64 c, .int .i64 v] 27)) w4.heap.size 0 ys) := HB5.out.below hb6
  have X6 : Hid (Box2 (w6'.alloc (.cells #[.int .i64 c, .int .i64 v] 27)) w3'.heap.size (.int .i64 c) (.int .i64 v)) := X5.out.below hb6
  have Y6 : Hid (Box2 (w6'.alloc (.cells #[.int .i64 c, .int .i64 v] 27)) w6'.heap.size (.int .i64 c) (.int .i64 v)) := Box2.new _ _ _ _
  have hs6 : w6'.heap.size < (w6'.alloc (.cells #[.int .i64 c, .int .i64 v] 27)).heap.size := by simp
  clear HA4 HG4 HA5 HB5 hb4 hb5 hb6' A6 hb6 hb36 X3 X4 X5
  go_upto_region 12 with fail
  generalize w6'.alloc (.cells #[.int .i64 c, .int .i64 v] 27) = w6 at hbw6 HA6 HB6 X6 Y6 hs6 ⊢
  obtain ⟨p0, p1⟩ := X6.out
  obtain ⟨q0, q1⟩ := Y6.out
  have hx6 := X6.out.lt
  go_wp2_with fail
  refine (eqIR_c c v _).mono ?_
  rintro e w7' ⟨rfl, hb7'⟩
  have hz7' := hb7'.size
  have hbw7 : Below w.heap.size w w7' := hbw6.trans (hb7'.mono hbw6.size)
  have HA7' : Hid (RulesAt w7' w3.heap.size 0 zs) := HA6.out.below hb7'
  have HB7' : Hid (PartsAt w7' w4.heap.size 0 ys) := HB6.out.below hb7'
  have HR7 : Hid (RulesIn w7' a0 len zs) := HR.out.below hbw7
  clear p0 p1 q0 q1 X6 Y6 hb7' HA6 HB6
  go_wp2_with fail
  refine (toRules_c a0 len cap zs _ hl HR7.out).mono ?_
  rintro e w7 ⟨rfl, hat7, hlt7, hb7⟩
  have hz7 := hb7.size
  have HA7 : Hid (RulesAt w7 w3.heap.size 0 zs) := HA7'.out.below hb7
  have HC7 : Hid (RulesAt w7 w7'.heap.size 0 zs) := hat7
  clear hat7
  go_wp2_with fail
  refine (eqRules_same _ _ len _ _ zs _ hl (RulesIn.of HZ.out HA7.out) (RulesIn.of HZ.out HC7.out)).mono ?_
  rintro e w8 ⟨rfl, hb8⟩
  have hz8 := hb8.size
  have hb68 : Below w7'.heap.size w7' w8 := hb7.trans (hb8.mono hz7)
  have hbw8 : Below w.heap.size w w8 := hbw7.trans (hb68.mono hbw7.size)
  have HB8 : Hid (PartsAt w8 w4.heap.size 0 ys) := HB7'.out.below hb68
  have HG8 : Hid (PartsIn w8 b0 m ys) := HG.out.below hbw8
  clear HA7' HB7' HA7 HC7 hb7 hb8 hb68
  go_wp2_with fail
  refine (toParts_c b0 m cap2 ys _ hm HG8.out).mono ?_
  rintro e w9 ⟨rfl, hat9, hlt9, hb9⟩
  have hz9 := hb9.size
  have HB9 : Hid (PartsAt w9 w4.heap.size 0 ys) := HB8.out.below hb9
  have HC9 : Hid (PartsAt w9 w8.heap.size 0 ys) := hat9
  clear hat9
  go_wp2_with fail
  refine (eqParts_same _ _ m _ _ ys _ hm (PartsIn.of HY.out HB9.out) (PartsIn.of HY.out HC9.out)).mono ?_
  rintro e w10 ⟨rfl, hb10⟩
  have B10 : Hid (Below w.heap.size w w10) := hbw8.trans ((hb9.trans (hb10.mono hz9)).mono hbw8.size)
  clear hb9 hb10
  go_wp2
  go_ret
  exact ⟨rfl, B10.out⟩

set_option maxRecDepth 20000 in
set_option maxHeartbeats 400000 in
theorem long (a0 : Option Addr) (len cap : Nat) (b0 : Option Addr) (m cap2 : Nat) (w : World) (hl : 1048576 < len) (hm : len ≤ maxLen) :
    Calls Try.prog 10 #[.slice a0 len cap, .slice b0 m cap2] w fun e w' => e = .returned (.bool true) ∧ Below w.heap.size w w' := by
  unfold maxLen at hm
  have hl' : (1048576 : Int) < (len : Int) := by omega
  have hm' : (len : Int) ≤ 9223372036854775807 := by omega
  clear hm
  go_enter Try.func10, Try.ntmps10
  go_wp2
  go_ret
  exact ⟨rfl, Below.refl _ _⟩

set_option maxRecDepth 20000 in
set_option maxHeartbeats 400000 in
theorem long2 (a0 : Option Addr) (len cap : Nat) (b0 : Option Addr) (m cap2 : Nat) (w : World) (hl : len ≤ 1048576) (hl2 : 1048576 < len + m) (hm : m ≤ maxLen) :
    Calls Try.prog 10 #[.slice a0 len cap, .slice b0 m cap2] w fun e w' => e = .returned (.bool true) ∧ Below w.heap.size w w' := by
  unfold maxLen at hm
  have hl' : (len : Int) ≤ 1048576 := by omega
  have hl2' : (1048576 : Int) < (len : Int) + (m : Int) := by omega
  have hm' : (m : Int) ≤ 9223372036854775807 := by omega
  clear hm
  go_enter Try.func10, Try.ntmps10
  go_wp2
  go_ret
  exact ⟨rfl, Below.refl _ _⟩

/-! The walk: the Go text returns true. -/
theorem walk (a0 : Option Addr) (len0 cap0 : Nat) (z0 : List RuleI) (a1 : Option Addr) (len1 cap1 : Nat) (z1 : List PartI) (w : World) (w0 : RulesArg w a0 len0 z0) (w1 : PartsArg w a1 len1 z1) :
    Calls Try.prog 10 #[.slice a0 len0 cap0, .slice a1 len1 cap1] w fun e w' => e = .returned (.bool true) ∧ Below w.heap.size w w' := by
  by_cases hl : len0 ≤ 1048576
  · by_cases hl2 : len0 + len1 ≤ 1048576
    · have hmx : len0 ≤ maxLen := by unfold maxLen; omega
      have hz := w0.1.1
      have hzp := w1.1.1
      by_cases hc : manyCode z0 z1 = 0
      · obtain ⟨gs, hg⟩ := all_some z0 (many_zero hc).1
        obtain ⟨c, v, hlv⟩ := least_is (tellsL (ofG gs) z1)
        exact inner a0 len0 cap0 z0 a1 len1 cap1 z1 c v w hl hl2 w0.1 w1.1 (fun g k w h h' => specLeast_ok _ _ _ _ _ _ _ c v _ hlv (fun w2 q => specSets_ok _ _ _ _ _ _ _ _ gs _ hl (by omega) ((RulesIn.of hz h).below q) ((PartsIn.of hzp h').below q) hc hg)) (fun g k w h h' => implLeast_ok _ _ _ _ _ _ _ _ gs c v _ hl (by omega) (Nat.le_refl _) hmx (RulesIn.of hz h) (PartsIn.of hzp h') hc hg hlv)
      · exact inner a0 len0 cap0 z0 a1 len1 cap1 z1 (manyCode z0 z1) 0 w hl hl2 w0.1 w1.1 (fun g k w h h' => specLeast_bad _ _ _ _ _ _ _ _ hc (fun w2 q => specSets_bad _ _ _ _ _ _ _ _ _ _ hl (by omega) ((RulesIn.of hz h).below q) ((PartsIn.of hzp h').below q) rfl hc)) (fun g k w h h' => implLeast_bad _ _ _ _ _ _ _ _ _ _ hl (by omega) (Nat.le_refl _) hmx (RulesIn.of hz h) (PartsIn.of hzp h') rfl hc)
    · exact long2 a0 len0 cap0 a1 len1 cap1 w hl (by omega) w1.2
  · exact long a0 len0 cap0 a1 len1 cap1 w (by omega) w0.2

/-! The row's step. -/
set_option maxRecDepth 100000 in
theorem lifted (os : Os) (started : os.Started) (H : Type) (enc : TypeId × Value → H) :
    ReturnsInHanded {} Try.checked os 10 .any (Rows.fnExactLeastOfSpec.pre6 enc Try.prog Try.f10 Rows.fnExactLeastOfRow.domain false) (Rows.fnExactLeastOfSpec.post enc Try.prog Try.f10 false true false false) := by
  refine returnsInHanded_of_change (C := Try.checked) own started (by kernel_rfl) Try.func10
    (ChangeSpec.witness6 (enc := enc) (C := Try.checked) false ⟨#[], #[.slice none 0 0, .slice none 0 0], []⟩ 8 (by kernel_rfl) (by kernel_rfl) (by kernel_rfl) (by kernel_rfl)) ?_
  intro W base args ds gs before hval0 hW hcnd _
  have hval : ∀ (j : Nat) t v, Try.f10.params[j]? = some t → args[j]? = some v → Value.okWide Try.prog W .any base t v := hval0
  have hW' := hW
  obtain ⟨p, q, hA0, hV, rfl, hfz, hnd⟩ := hW
  have hA : DataW.TrodAll enc Try.prog W 0 (fun _ => true) true Try.f10.params.toList args.toList ds p := hA0
  rw [Try.params10] at hA hval
  obtain ⟨v0, vs0, d0, ds0, p0, q0, hargs, rfl, rfl, h0, r0⟩ := trodAll_cons hA
  obtain ⟨v1, vs1, d1, ds1, p1, q1, rfl, rfl, rfl, h1, r1⟩ := trodAll_cons r0
  obtain ⟨rfl, rfl, rfl⟩ := trodAll_nil r1
  obtain rfl : args = #[v0, v1] := by cases args; simp_all
  obtain ⟨rfl, rfl⟩ := trodVars_none hV
  obtain ⟨a0, len0, cap0, rfl⟩ := okWide_slice Try.underlying22 (hval 0 22 v0 rfl rfl)
  have k0 := h0
  have lt0 : ∀ x ∈ p0, x.block < W.heap.size := by obtain ⟨m, hm⟩ := k0; exact DataW.trod_lt m _ _ _ hm
  obtain ⟨z0, w0⟩ : ∃ zs : List RuleI, RulesArg W a0 len0 zs := by
    obtain ⟨fuel, hf⟩ := h0
    exact rules_shape hf
  obtain ⟨a1, len1, cap1, rfl⟩ := okWide_slice Try.underlying59 (hval 1 59 v1 rfl rfl)
  have k1 := h1
  have lt1 : ∀ x ∈ p1, x.block < W.heap.size := by obtain ⟨m, hm⟩ := k1; exact DataW.trod_lt m _ _ _ hm
  obtain ⟨z1, w1⟩ : ∃ zs : List PartI, PartsArg W a1 len1 zs := by
    obtain ⟨fuel, hf⟩ := h1
    exact parts_shape hf
  clear hA0 hval0
  refine (walk a0 len0 cap0 z0 a1 len1 cap1 z1 W w0 w1).mono fun e W' ⟨he, bel⟩ => ?_
  subst he
  exact ⟨_, rfl, _, _, _, [], _, [], hW', trodAll_mk1 (shut_bool Try.underlying4 _), (trodAll_cons_mk (Below.trod laidOut (by kernel_rfl) (of_decide_eq_true (by kernel_rfl)) k0 bel lt0) (trodAll_cons_mk (Below.trod laidOut (by kernel_rfl) (of_decide_eq_true (by kernel_rfl)) k1 bel lt1) trodAll_mk0)), rfl, bel.frame _, fun h => by cases h⟩

theorem over : Rows.fnExactLeastOfRow.holds Try.pinned (OpenSpec.ofChange Rows.fnExactLeastOfSpec) :=
  OpenClaim.holds_of_wide 10 Try.f10 rfl rfl rfl rfl rfl rfl rfl ⟨rfl, rfl, rfl, rfl, rfl⟩ rfl rfl rfl rfl rfl (by kernel_rfl) Try.func10 (by kernel_rfl)
    (of_decide_eq_true (by kernel_rfl)) (by unfold Func.isWrapper; first | (rw [if_pos (by decide +kernel)]; kernel_rfl) | (rw [if_neg (by decide +kernel)]; exact ⟨rfl, rfl⟩))
    (fun os started H enc _ => lifted os started H enc)

end Go.Proofs.Ytocdclgolhhckaa.fnExactLeastOf
namespace Go.Proofs.Ytocdclgolhhckaa
theorem fnExactLeastOf_holds : Rows.FnExactLeastOfSaid := fnExactLeastOf.over
#print axioms fnExactLeastOf_holds
end Go.Proofs.Ytocdclgolhhckaa
