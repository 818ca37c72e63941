/-
  PROVED: for every slice of rules, every role and every int64 the law laws.FnExactHasRole returns true, that is impl.HasRole answers as spec.HasRole there (up to 1<<20 rules, as the law itself says), and writes nothing into its argument; the arguments read as they did.
  Conditions: none beside those that the given row itself bears. The frame is the shell written by program, turned for a slice of structs and a struct; the walk is ours.
-/
import Derived.Test.YtocdclgolhhckaaRows
import Derived.WalkKit
import Derived.ProofKit
import Derived.OpenShut
import Derived.ShutString
import Derived.ChangeOld
import Derived.Below
import Derived.Test.YtocdclgolhhckaaPk22
import Derived.Test.YtocdclgolhhckaaPk19
namespace Go.Proofs.Ytocdclgolhhckaa.fnExactHasRole
open Go.ChangeShapes Go.WideShapes Go.ChangeAt Go.RowKit
open Go.ChangeMaps (open_string shut_string)
set_option linter.unusedVariables false

theorem own : ownKnob Try.prog.godebug = none := by kernel_rfl
theorem laidOut : laidOutB Try.prog = true := by kernel_rfl

set_option maxRecDepth 100000 in
set_option maxHeartbeats 2000000 in
theorem inner (a0 : Option Addr) (len cap : Nat) (zs : List RuleI) (r : RoI) (p : Int) (b : Bool) (w : World) (hl : len ≤ 1048576) (hr : RulesIn w a0 len zs)
    (HS : Hid (∀ (g : Nat) (w : World), RulesAt w g 0 zs → GivesB 31 (some ⟨g, 0, none⟩) len len r p b w))
    (HI : Hid (∀ (g : Nat) (w : World), RulesAt w g 0 zs → GivesB 32 (some ⟨g, 0, none⟩) len len r p b w)) :
    Calls Try.prog 6 #[.slice a0 len cap, .agg #[.int .i64 r.1, .int .i64 r.2], .int .i64 p] w fun e w' => e = .returned (.bool true) ∧ Below w.heap.size w w' := by
  have hl' : (len : Int) ≤ 1048576 := by omega
  obtain ⟨W, hW⟩ : ∃ W, W = w.alloc (.cells #[.int .i64 r.1, .int .i64 r.2] 24) := ⟨_, rfl⟩
  have hs : W.heap.size = w.heap.size + 1 := by rw [hW]; simp
  have B0 : Hid (Below w.heap.size w W) := by rw [hW]; exact (Below.refl _ _).alloc (Nat.le_refl _) _
  have r0 : W.cell? ⟨w.heap.size, 0, none⟩ = some (.int .i64 r.1) := by rw [hW]; simp
  have r1 : W.cell? ⟨w.heap.size, 1, none⟩ = some (.int .i64 r.2) := by rw [hW]; simp
  have HR : Hid (RulesIn W a0 len zs) := hr.below B0.out
  have HZ : Hid (zs.length = len) := hr.1
  clear hr
  go_enter Try.func6, Try.ntmps6
  go_wp2_with (first | (go_at_call 12; go_in) | fail)
  rw [← hW]
  clear hW
  have hlt0 : w.heap.size < W.heap.size := by omega
  clear hs
  go_region_with (first
    | (go_at_call 14; refine (toRules_c a0 len cap zs _ hl (HR.out.below (by first | exact hbR | exact (Below.refl _ W).drew))).mono ?_; rintro e w1 ⟨rfl, hat1, hlt1, hb1'⟩; have hbA : Below W.heap.size W w1 := (by first | exact hbR.trans (hb1'.mono hbR.size) | exact (Below.refl _ W).drew.trans hb1'); have x0 := (hbA.cell (p := ⟨w.heap.size, 0, none⟩) hlt0).trans r0; have x1 := (hbA.cell (p := ⟨w.heap.size, 1, none⟩) hlt0).trans r1)
    | (go_at_call 15; refine (toRole_c r.1 r.2 _).mono ?_; rintro e wR ⟨rfl, hbR'⟩; have hbR : Below W.heap.size W wR := (by first | exact hbA.trans (hbR'.mono hbA.size) | exact (Below.refl _ W).drew.trans hbR'))
    | (go_at_call 31; refine (HS.out _ _ ?_).mono ?_; (· first | exact hat1 | exact hat1.below hbR'); rintro e w2 ⟨rfl, hb2'⟩; have hb2 : Below W.heap.size W w2 := (by first | exact hbA.trans (hb2'.mono hbA.size) | exact hbR.trans (hb2'.mono hbR.size))))
  all_goals
    have HB2 : Hid (Below W.heap.size W w2) := hb2
    have hz2 := hb2.size
    clear hat1 hlt1 hb1' hbA hbR' hbR hb2' hb2 x0 x1
    go_wp2_with fail
    refine (toRules_c a0 len cap zs _ hl (HR.out.below HB2.out)).mono ?_
    rintro e w3 ⟨rfl, hat3, hlt3, hb3'⟩
    have hz3 := hb3'.size
    have HB3 : Hid (Below W.heap.size W w3) := HB2.out.trans (hb3'.mono hz2)
    have HA3 : Hid (RulesAt w3 w2.heap.size 0 zs) := hat3
    have x0 := (HB3.out.cell (p := ⟨w.heap.size, 0, none⟩) hlt0).trans r0
    have x1 := (HB3.out.cell (p := ⟨w.heap.size, 1, none⟩) hlt0).trans r1
    clear hat3 hb3'
    go_wp2_with fail
    refine (toRole_c r.1 r.2 _).mono ?_
    rintro e w4 ⟨rfl, hb4'⟩
    have hz4 := hb4'.size
    have HB4 : Hid (Below W.heap.size W w4) := HB3.out.trans (hb4'.mono (by omega))
    have HA4 : Hid (RulesAt w4 w2.heap.size 0 zs) := HA3.out.below hb4'
    clear hb4' x0 x1
    go_wp2_with fail
    refine (HI.out _ _ HA4.out).mono ?_
    rintro e w5 ⟨rfl, hb5'⟩
    have hz5 := hb5'.size
    have HB5 : Hid (Below W.heap.size W w5) := HB4.out.trans (hb5'.mono (by omega))
    have HA5 : Hid (RulesAt w5 w2.heap.size 0 zs) := HA4.out.below hb5'
    have hbb : (b != b) = false := by simp
    clear hb5'
    go_wp2_with fail
    refine (toRules_c a0 len cap zs _ hl (HR.out.below HB5.out)).mono ?_
    rintro e w6 ⟨rfl, hat6, hlt6, hb6'⟩
    have hz6 := hb6'.size
    have HB6 : Hid (Below W.heap.size W w6) := HB5.out.trans (hb6'.mono (by omega))
    have HA6 : Hid (RulesAt w6 w2.heap.size 0 zs) := HA5.out.below hb6'
    have HC6 : Hid (RulesAt w6 w5.heap.size 0 zs) := hat6
    clear hat6 hb6'
    go_wp2_with fail
    refine (eqRules_same _ _ len _ _ zs _ hl (RulesIn.of HZ.out HA6.out) (RulesIn.of HZ.out HC6.out)).mono ?_
    rintro e w7 ⟨rfl, hb7'⟩
    have HB7 : Hid (Below W.heap.size W w7) := HB6.out.trans (hb7'.mono (by omega))
    clear hb7'
    go_wp2
    go_ret
    exact ⟨rfl, B0.out.trans (HB7.out.mono B0.out.size)⟩

set_option maxRecDepth 20000 in
set_option maxHeartbeats 400000 in
theorem long (a0 : Option Addr) (len cap : Nat) (o n p : Int) (w : World) (hl : 1048576 < len) (hm : len ≤ maxLen) :
    Calls Try.prog 6 #[.slice a0 len cap, .agg #[.int .i64 o, .int .i64 n], .int .i64 p] w fun e w' => e = .returned (.bool true) ∧ Below w.heap.size w w' := by
  unfold maxLen at hm
  have hl' : (1048576 : Int) < (len : Int) := by omega
  have hm' : (len : Int) ≤ 9223372036854775807 := by omega
  clear hm
  go_enter Try.func6, Try.ntmps6
  go_wp2
  go_ret
  exact ⟨rfl, by go_grown⟩

/-! The walk: the Go text returns true. -/
theorem walk (a0 : Option Addr) (len0 cap0 : Nat) (z0 : List RuleI) (o1 n1 : Int) (a2 : Int) (w : World) (w0 : RulesArg w a0 len0 z0) (w2 : (Lit.int .i64 a2).wf = true) :
    Calls Try.prog 6 #[.slice a0 len0 cap0, .agg #[.int .i64 o1, .int .i64 n1], .int .i64 a2] w fun e w' => e = .returned (.bool true) ∧ Below w.heap.size w w' := by
  by_cases hl : len0 ≤ 1048576
  · obtain ⟨b, hS, hI⟩ := hasRole_both z0 (o1, n1) a2 len0 hl w0.1.1
    exact inner a0 len0 cap0 z0 (o1, n1) a2 b w hl w0.1 hS hI
  · exact long a0 len0 cap0 o1 n1 a2 w (by omega) w0.2

/-! The row's step. -/
set_option maxRecDepth 100000 in
theorem lifted (os : Os) (started : os.Started) (H : Type) (enc : TypeId × Value → H) :
    ReturnsInHanded {} Try.checked os 6 .any (Rows.fnExactHasRoleSpec.pre6 enc Try.prog Try.f6 Rows.fnExactHasRoleRow.domain false) (Rows.fnExactHasRoleSpec.post enc Try.prog Try.f6 false true false false) := by
  refine returnsInHanded_of_change (C := Try.checked) own started (by kernel_rfl) Try.func6
    (ChangeSpec.witness6 (enc := enc) (C := Try.checked) false ⟨#[], #[.slice none 0 0, .agg #[.int .i64 0, .int .i64 0], .int .i64 0], []⟩ 8 (by kernel_rfl) (by kernel_rfl) (by kernel_rfl) (by kernel_rfl)) ?_
  intro W base args ds gs before hval0 hW hcnd _
  have hval : ∀ (j : Nat) t v, Try.f6.params[j]? = some t → args[j]? = some v → Value.okWide Try.prog W .any base t v := hval0
  have hW' := hW
  obtain ⟨p, q, hA0, hV, rfl, hfz, hnd⟩ := hW
  have hA : DataW.TrodAll enc Try.prog W 0 (fun _ => true) true Try.f6.params.toList args.toList ds p := hA0
  rw [Try.params6] at hA hval
  obtain ⟨v0, vs0, d0, ds0, p0, q0, hargs, rfl, rfl, h0, r0⟩ := trodAll_cons hA
  obtain ⟨v1, vs1, d1, ds1, p1, q1, rfl, rfl, rfl, h1, r1⟩ := trodAll_cons r0
  obtain ⟨v2, vs2, d2, ds2, p2, q2, rfl, rfl, rfl, h2, r2⟩ := trodAll_cons r1
  obtain ⟨rfl, rfl, rfl⟩ := trodAll_nil r2
  obtain rfl : args = #[v0, v1, v2] := by cases args; simp_all
  obtain ⟨rfl, rfl⟩ := trodVars_none hV
  obtain ⟨a0, len0, cap0, rfl⟩ := okWide_slice Try.underlying22 (hval 0 22 v0 rfl rfl)
  have k0 := h0
  have lt0 : ∀ x ∈ p0, x.block < W.heap.size := by obtain ⟨m, hm⟩ := k0; exact DataW.trod_lt m _ _ _ hm
  obtain ⟨z0, w0⟩ : ∃ zs : List RuleI, RulesArg W a0 len0 zs := by
    obtain ⟨fuel, hf⟩ := h0
    exact rules_shape hf
  obtain ⟨cs1, rfl, hs1⟩ := okWide_struct Try.underlying24 (hval 1 24 v1 rfl rfl)
  have k1 := h1
  have lt1 : ∀ x ∈ p1, x.block < W.heap.size := by obtain ⟨m, hm⟩ := k1; exact DataW.trod_lt m _ _ _ hm
  obtain ⟨o1, n1, rfl⟩ : ∃ o n, cs1 = #[.int .i64 o, .int .i64 n] := by
    obtain ⟨fuel, hf⟩ := h1
    exact role_shape _ hf
  obtain ⟨a2, rfl, rfl, rfl, w2⟩ := open_int Try.underlying2 (hval 2 2 v2 rfl rfl) h2
  clear hA0 hval0
  refine (walk a0 len0 cap0 z0 o1 n1 a2 W w0 w2).mono fun e W' ⟨he, bel⟩ => ?_
  subst he
  exact ⟨_, rfl, _, _, _, [], _, [], hW', trodAll_mk1 (shut_bool Try.underlying4 _), (trodAll_cons_mk (Below.trod laidOut (by kernel_rfl) (of_decide_eq_true (by kernel_rfl)) k0 bel lt0) (trodAll_cons_mk (Below.trod laidOut (by kernel_rfl) (of_decide_eq_true (by kernel_rfl)) k1 bel lt1) (trodAll_cons_mk (shut_int Try.underlying2 w2) trodAll_mk0))), rfl, bel.frame _, fun h => by cases h⟩

theorem over : Rows.fnExactHasRoleRow.holds Try.pinned (OpenSpec.ofChange Rows.fnExactHasRoleSpec) :=
  OpenClaim.holds_of_wide 6 Try.f6 rfl rfl rfl rfl rfl rfl rfl ⟨rfl, rfl, rfl, rfl, rfl⟩ rfl rfl rfl rfl rfl (by kernel_rfl) Try.func6 (by kernel_rfl)
    (of_decide_eq_true (by kernel_rfl)) (by unfold Func.isWrapper; first | (rw [if_pos (by decide +kernel)]; kernel_rfl) | (rw [if_neg (by decide +kernel)]; exact ⟨rfl, rfl⟩))
    (fun os started H enc _ => lifted os started H enc)

end Go.Proofs.Ytocdclgolhhckaa.fnExactHasRole
namespace Go.Proofs.Ytocdclgolhhckaa
theorem fnExactHasRole_holds : Rows.FnExactHasRoleSaid := fnExactHasRole.over
#print axioms fnExactHasRole_holds
end Go.Proofs.Ytocdclgolhhckaa
