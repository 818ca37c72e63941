/-
  PROVED: for every slice of shares and every int64 the law laws.FnExactSharesFault returns true, that is impl.SharesFault answers as spec.SharesFault there (up to 1<<20 shares, as the law itself says) and writes nothing into its arguments; the arguments read as they did.
  Conditions: none beside those that the given row itself bears. The frame is the shell written by program, turned for a slice of structs; the walk is ours.
-/
import Derived.Test.YtdfhebmecbcegaaRows
import Derived.WalkKit
import Derived.ProofKit
import Derived.OpenShut
import Derived.ShutString
import Derived.ChangeOld
import Derived.Below
import Derived.Test.YtdfhebmecbcegaaCe3
import Derived.Test.YtdfhebmecbcegaaShA
namespace Go.Proofs.Ytdfhebmecbcegaa.fnExactSharesFault
open Go.ChangeShapes Go.WideShapes Go.ChangeAt Go.RowKit
open Go.ChangeMaps (open_string shut_string)
set_option linter.unusedVariables false

theorem own : ownKnob Try.prog.godebug = none := by kernel_rfl
theorem laidOut : laidOutB Try.prog = true := by kernel_rfl

set_option maxHeartbeats 1000000 in
theorem inner (a0 : Option Addr) (len cap : Nat) (zs : List ShI) (f : Int) (w : World) (hl : len ≤ 1048576) (hr : ShIn w a0 len zs) :
    Calls Try.prog 6 #[.slice a0 len cap, .int .i64 f] w fun e w' => e = .returned (.bool true) ∧ Below w.heap.size w w' := by
  have hl' : (len : Int) ≤ 1048576 := by omega
  have hmx : len ≤ maxLen := by unfold maxLen; omega
  have HR : Hid (ShIn w a0 len zs) := hr
  have HZ : Hid (zs.length = len) := hr.1
  clear hr
  obtain ⟨c, hc⟩ : ∃ c, c = shCode f zs := ⟨_, rfl⟩
  have HC : Hid (c = shCode f zs) := hc
  clear hc
  go_enter Try.func6, Try.ntmps6
  go_wp2_with (first | (go_at_call 27; go_in) | fail)
  refine (toShares_c a0 len cap zs _ hl HR.out).mono ?_
  rintro e w1 ⟨rfl, hat1, hlt1, hb1⟩
  have HA1 : Hid (ShsAt w1 w.heap.size zs) := hat1
  clear hat1
  go_wp2_with fail
  refine (specSharesFault_c _ _ _ zs f _ hl (Nat.le_refl _) hmx (ShIn.of HZ.out HA1.out)).mono ?_
  rintro e w2 ⟨rfl, hb2⟩
  rw [← HC.out]
  have hz1 := hb1.size
  have hb12 : Below w.heap.size w w2 := hb1.trans (hb2.mono hz1)
  have HR2 : Hid (ShIn w2 a0 len zs) := HR.out.below hb12
  go_wp2_with fail
  refine (toShares_c a0 len cap zs _ hl HR2.out).mono ?_
  rintro e w3 ⟨rfl, hat3, hlt3, hb3⟩
  have HA3 : Hid (ShsAt w3 w2.heap.size zs) := hat3
  clear hat3
  go_wp2_with fail
  refine (implSharesFault_c _ _ _ zs f _ hl (Nat.le_refl _) hmx (ShIn.of HZ.out HA3.out)).mono ?_
  rintro e w4 ⟨rfl, hb4⟩
  rw [← HC.out]
  have hz2 := hb2.size
  have hz3 := hb3.size
  have hz4 := hb4.size
  have HA4 : Hid (ShsAt w4 w2.heap.size zs) := HA3.out.below hb4
  have hb24 : Below w2.heap.size w2 w4 := hb3.trans (hb4.mono hz3)
  have HR4 : Hid (ShIn w4 a0 len zs) := HR2.out.below hb24
  go_wp2_with fail
  refine (toShares_c a0 len cap zs _ hl HR4.out).mono ?_
  rintro e w5 ⟨rfl, hat5, hlt5, hb5⟩
  have HA5 : Hid (ShsAt w5 w4.heap.size zs) := hat5
  have HA5' : Hid (ShsAt w5 w2.heap.size zs) := HA4.out.below hb5
  clear hat5
  go_wp2_with fail
  refine (eqShares_same _ _ len _ _ zs _ hl (ShIn.of HZ.out HA5'.out) (ShIn.of HZ.out HA5.out)).mono ?_
  rintro e w6 ⟨rfl, hb6⟩
  have hz5 := hb5.size
  go_wp2
  go_ret
  exact ⟨rfl, ((hb12.trans (hb24.mono (by omega))).trans (hb5.mono (by omega))).trans (hb6.mono (by omega))⟩

set_option maxRecDepth 20000 in
set_option maxHeartbeats 400000 in
theorem long (a0 : Option Addr) (len cap : Nat) (f : Int) (w : World) (hl : 1048576 < len) (hm : len ≤ maxLen) :
    Calls Try.prog 6 #[.slice a0 len cap, .int .i64 f] w fun e w' => e = .returned (.bool true) ∧ Below w.heap.size w w' := by
  unfold maxLen at hm
  have hl' : (1048576 : Int) < (len : Int) := by omega
  have hm' : (len : Int) ≤ 9223372036854775807 := by omega
  clear hm
  go_enter Try.func6, Try.ntmps6
  go_wp2
  go_ret
  exact ⟨rfl, Below.refl _ _⟩

/-! The walk: the Go text returns true. -/
theorem walk (a0 : Option Addr) (len0 cap0 : Nat) (z0 : List ShI) (a1 : Int) (w : World) (w0 : ShArg w a0 len0 z0) (w1 : (Lit.int .i64 a1).wf = true) :
    Calls Try.prog 6 #[.slice a0 len0 cap0, .int .i64 a1] w fun e w' => e = .returned (.bool true) ∧ Below w.heap.size w w' := by
  by_cases hl : len0 ≤ 1048576
  · exact inner a0 len0 cap0 z0 a1 w hl w0.1
  · exact long a0 len0 cap0 a1 w (by omega) w0.2

/-! The row's step. -/
set_option maxRecDepth 100000 in
theorem lifted (os : Os) (started : os.Started) (H : Type) (enc : TypeId × Value → H) :
    ReturnsInHanded {} Try.checked os 6 .any (Rows.fnExactSharesFaultSpec.pre6 enc Try.prog Try.f6 Rows.fnExactSharesFaultRow.domain false) (Rows.fnExactSharesFaultSpec.post enc Try.prog Try.f6 false true false false) := by
  refine returnsInHanded_of_change (C := Try.checked) own started (by kernel_rfl) Try.func6
    (ChangeSpec.witness6 (enc := enc) (C := Try.checked) false ⟨#[], #[.slice none 0 0, .int .i64 0], []⟩ 8 (by kernel_rfl) (by kernel_rfl) (by kernel_rfl) (by kernel_rfl)) ?_
  intro W base args ds gs before hval0 hW hcnd _
  have hval : ∀ (j : Nat) t v, Try.f6.params[j]? = some t → args[j]? = some v → Value.okWide Try.prog W .any base t v := hval0
  have hW' := hW
  obtain ⟨p, q, hA0, hV, rfl, hfz, hnd⟩ := hW
  have hA : DataW.TrodAll enc Try.prog W 0 (fun _ => true) true Try.f6.params.toList args.toList ds p := hA0
  rw [Try.params6] at hA hval
  obtain ⟨v0, vs0, d0, ds0, p0, q0, hargs, rfl, rfl, h0, r0⟩ := trodAll_cons hA
  obtain ⟨v1, vs1, d1, ds1, p1, q1, rfl, rfl, rfl, h1, r1⟩ := trodAll_cons r0
  obtain ⟨rfl, rfl, rfl⟩ := trodAll_nil r1
  obtain rfl : args = #[v0, v1] := by cases args; simp_all
  obtain ⟨rfl, rfl⟩ := trodVars_none hV
  obtain ⟨a0, len0, cap0, rfl⟩ := okWide_slice Try.underlying47 (hval 0 47 v0 rfl rfl)
  have k0 := h0
  have lt0 : ∀ x ∈ p0, x.block < W.heap.size := by obtain ⟨m, hm⟩ := k0; exact DataW.trod_lt m _ _ _ hm
  obtain ⟨z0, w0⟩ : ∃ zs : List ShI, ShArg W a0 len0 zs := by
    obtain ⟨fuel, hf⟩ := h0
    exact shares_shape hf
  obtain ⟨a1, rfl, rfl, rfl, w1⟩ := open_int Try.underlying2 (hval 1 2 v1 rfl rfl) h1
  clear hA0 hval0
  refine (walk a0 len0 cap0 z0 a1 W w0 w1).mono fun e W' ⟨he, bel⟩ => ?_
  subst he
  exact ⟨_, rfl, _, _, _, [], _, [], hW', trodAll_mk1 (shut_bool Try.underlying4 _), (trodAll_cons_mk (Below.trod laidOut (by kernel_rfl) (of_decide_eq_true (by kernel_rfl)) k0 bel lt0) (trodAll_cons_mk (shut_int Try.underlying2 w1) trodAll_mk0)), rfl, bel.frame _, fun h => by cases h⟩

theorem over : Rows.fnExactSharesFaultRow.holds Try.pinned (OpenSpec.ofChange Rows.fnExactSharesFaultSpec) :=
  OpenClaim.holds_of_wide 6 Try.f6 rfl rfl rfl rfl rfl rfl rfl ⟨rfl, rfl, rfl, rfl, rfl⟩ rfl rfl rfl rfl rfl (by kernel_rfl) Try.func6 (by kernel_rfl)
    (of_decide_eq_true (by kernel_rfl)) (by unfold Func.isWrapper; first | (rw [if_pos (by decide +kernel)]; kernel_rfl) | (rw [if_neg (by decide +kernel)]; exact ⟨rfl, rfl⟩))
    (fun os started H enc _ => lifted os started H enc)

end Go.Proofs.Ytdfhebmecbcegaa.fnExactSharesFault
namespace Go.Proofs.Ytdfhebmecbcegaa
theorem fnExactSharesFault_holds : Rows.FnExactSharesFaultSaid := fnExactSharesFault.over
#print axioms fnExactSharesFault_holds
end Go.Proofs.Ytdfhebmecbcegaa
