/-
  PROVED: for every broadcast the law laws.FnExactAgreeRight returns true, that is impl.AgreeRight answers as spec.AgreeRight there (up to 1<<20 elements in all, as the law itself says) and writes nothing into its argument; the argument reads as it did.
  Conditions: none beside those that the given row itself bears. The frame is the shell written by program, turned for a struct; the walk is ours.
-/
import Derived.Test.YtbebhiglnfmjcaaRows
import Derived.WalkKit
import Derived.ProofKit
import Derived.OpenShut
import Derived.ShutString
import Derived.ChangeOld
import Derived.Below
import Derived.Test.YtbebhiglnfmjcaaCl10
import Derived.Test.YtbebhiglnfmjcaaAg10
import Derived.Test.YtbebhiglnfmjcaaCaA
namespace Go.Proofs.Ytbebhiglnfmjcaa.fnExactAgreeRight
open Go.ChangeShapes Go.WideShapes Go.ChangeAt Go.RowKit
open Go.ChangeMaps (open_string shut_string)
set_option linter.unusedVariables false

theorem own : ownKnob Try.prog.godebug = none := by kernel_rfl
theorem laidOut : laidOutB Try.prog = true := by kernel_rfl



/-! The walk: the Go text returns true. -/
theorem walk (c0 : CastI) (w : World) (w0 : CastIn w c0 ∧ CastLe maxLen c0) :
    Calls Try.prog 11 #[.agg #[.int .i64 c0.f, .int .i64 c0.s, .slice c0.ba c0.bn c0.bc, .slice c0.na c0.nn c0.nc, .slice c0.ma c0.mn c0.mc]] w fun e w' => e = .returned (.bool true) ∧ Below w.heap.size w w' := by
  exact agreeright_inner c0 (agB c0.p) w w0
    (fun y W e h hl hc => by rw [← e]; exact specAgree_c y W h hl hc)
    (fun y W e h hl hc => by rw [← e]; exact implAgree_c y W h hl hc)

/-! The row's step. -/
set_option maxRecDepth 100000 in
theorem lifted (os : Os) (started : os.Started) (H : Type) (enc : TypeId × Value → H) :
    ReturnsInHanded {} Try.checked os 11 .any (Rows.fnExactAgreeRightSpec.pre6 enc Try.prog Try.f11 Rows.fnExactAgreeRightRow.domain false) (Rows.fnExactAgreeRightSpec.post enc Try.prog Try.f11 false true false false) := by
  refine returnsInHanded_of_change (C := Try.checked) own started (by kernel_rfl) Try.func11
    (ChangeSpec.witness6 (enc := enc) (C := Try.checked) false ⟨#[], #[.agg #[.int .i64 0, .int .i64 0, .slice none 0 0, .slice none 0 0, .slice none 0 0]], []⟩ 8 (by kernel_rfl) (by kernel_rfl) (by kernel_rfl) (by kernel_rfl)) ?_
  intro W base args ds gs before hval0 hW hcnd _
  have hval : ∀ (j : Nat) t v, Try.f11.params[j]? = some t → args[j]? = some v → Value.okWide Try.prog W .any base t v := hval0
  have hW' := hW
  obtain ⟨p, q, hA0, hV, rfl, hfz, hnd⟩ := hW
  have hA : DataW.TrodAll enc Try.prog W 0 (fun _ => true) true Try.f11.params.toList args.toList ds p := hA0
  rw [Try.params11] at hA hval
  obtain ⟨v0, vs0, d0, ds0, p0, q0, hargs, rfl, rfl, h0, r0⟩ := trodAll_cons hA
  obtain ⟨rfl, rfl, rfl⟩ := trodAll_nil r0
  obtain rfl : args = #[v0] := by cases args; simp_all
  obtain ⟨rfl, rfl⟩ := trodVars_none hV
  obtain ⟨cs0, rfl, hs0⟩ := okWide_struct Try.underlying61 (hval 0 61 v0 rfl rfl)
  have k0 := h0
  have lt0 : ∀ x ∈ p0, x.block < W.heap.size := by obtain ⟨m, hm⟩ := k0; exact DataW.trod_lt m _ _ _ hm
  obtain ⟨c0, rfl, w0⟩ : ∃ c : CastI, cs0 = #[.int .i64 c.f, .int .i64 c.s, .slice c.ba c.bn c.bc, .slice c.na c.nn c.nc, .slice c.ma c.mn c.mc] ∧ (CastIn W c ∧ CastLe maxLen c) := by
    obtain ⟨fuel, hf⟩ := h0
    exact cast_shape _ hf
  clear hA0 hval0
  refine (walk c0 W w0).mono fun e W' ⟨he, bel⟩ => ?_
  subst he
  exact ⟨_, rfl, _, _, _, [], _, [], hW', trodAll_mk1 (shut_bool Try.underlying4 _), (trodAll_cons_mk (Below.trod laidOut (by kernel_rfl) (of_decide_eq_true (by kernel_rfl)) k0 bel lt0) trodAll_mk0), rfl, bel.frame _, fun h => by cases h⟩

theorem over : Rows.fnExactAgreeRightRow.holds Try.pinned (OpenSpec.ofChange Rows.fnExactAgreeRightSpec) :=
  OpenClaim.holds_of_wide 11 Try.f11 rfl rfl rfl rfl rfl rfl rfl ⟨rfl, rfl, rfl, rfl, rfl⟩ rfl rfl rfl rfl rfl (by kernel_rfl) Try.func11 (by kernel_rfl)
    (of_decide_eq_true (by kernel_rfl)) (by unfold Func.isWrapper; first | (rw [if_pos (by decide +kernel)]; kernel_rfl) | (rw [if_neg (by decide +kernel)]; exact ⟨rfl, rfl⟩))
    (fun os started H enc _ => lifted os started H enc)

end Go.Proofs.Ytbebhiglnfmjcaa.fnExactAgreeRight
namespace Go.Proofs.Ytbebhiglnfmjcaa
theorem fnExactAgreeRight_holds : Rows.FnExactAgreeRightSaid := fnExactAgreeRight.over
#print axioms fnExactAgreeRight_holds
end Go.Proofs.Ytbebhiglnfmjcaa
