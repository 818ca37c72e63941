/-
  PROVED: for every Statement the law laws.FnExactStatementFault returns true, that is impl.StatementFault answers as spec.StatementFault there; the argument reads as it did.
  Conditions: none beside those that the given row itself bears. The frame is the shell written by program, turned for a struct; the walk is ours.
-/
import Derived.Test.YtpeddanicenohaaRows
import Derived.WalkKit
import Derived.ProofKit
import Derived.OpenShut
import Derived.ShutString
import Derived.ChangeOld
import Derived.Below
import Derived.Test.YtpeddanicenohaaSt3
import Derived.Test.YtpeddanicenohaaStA
namespace Go.Proofs.Ytpeddanicenohaa.fnExactStatementFault
open Go.ChangeShapes Go.WideShapes Go.ChangeAt Go.RowKit
open Go.ChangeMaps (open_string shut_string)
set_option linter.unusedVariables false

theorem own : ownKnob Try.prog.godebug = none := by kernel_rfl
theorem laidOut : laidOutB Try.prog = true := by kernel_rfl



/-! The walk: the Go text returns true. -/
theorem walk (x0 : StI) (w : World)  :
    Calls Try.prog 3 #[.agg #[.int .i64 x0.k, .int .i64 x0.e, .int .i64 x0.f, .int .i64 x0.s, .int .i64 x0.n]] w fun e w' => e = .returned (.bool true) ∧ Below w.heap.size w w' := by
  have HI : Hid (∀ w : World, Calls Try.prog 8 #[.agg #[.int .i64 x0.k, .int .i64 x0.e, .int .i64 x0.f, .int .i64 x0.s, .int .i64 x0.n]] w fun e w' => e = .returned (.int .i64 (stCode x0)) ∧ Below w.heap.size w w') := implStatementFault_c x0
  have HS : Hid (∀ w : World, Calls Try.prog 6 #[.agg #[.int .i64 x0.k, .int .i64 x0.e, .int .i64 x0.f, .int .i64 x0.s, .int .i64 x0.n]] w fun e w' => e = .returned (.int .i64 (stCode x0)) ∧ Below w.heap.size w w') := specStatementFault_c x0
  obtain ⟨c, hc⟩ : ∃ c, c = stCode x0 := ⟨_, rfl⟩
  rw [← hc] at HI HS
  clear hc
  go_enter Try.func3, Try.ntmps3
  go_wp2_with fail
  refine (toStatement_c x0 _).mono ?_
  rintro e w1 ⟨rfl, hb1⟩
  have X1 : Hid (StAt w1 w.heap.size 0 x0) := (StAt.new w x0 _).below hb1 (by simp)
  go_wp2_with fail
  refine (HS.out _).mono ?_
  rintro e w2 ⟨rfl, hb2⟩
  have hz1 := hb1.size
  simp only [World.size_alloc] at hz1
  obtain ⟨y0, y1, y2, y3, y4⟩ := X1.out.below hb2 (by omega)
  simp only [Nat.zero_add] at y0 y1 y2 y3 y4
  go_wp2_with fail
  refine (toStatement_c x0 _).mono ?_
  rintro e w3 ⟨rfl, hb3⟩
  clear y0 y1 y2 y3 y4
  go_wp2_with fail
  refine (HI.out _).mono ?_
  rintro e w4 ⟨rfl, hb4⟩
  go_wp2
  go_ret
  have hz2 := hb2.size
  have hz3 := hb3.size
  exact ⟨rfl, (((below_new hb1).trans (hb2.mono (by omega))).trans (hb3.mono (by omega))).trans (hb4.mono (by omega))⟩

/-! The row's step. -/
set_option maxRecDepth 100000 in
theorem lifted (os : Os) (started : os.Started) (H : Type) (enc : TypeId × Value → H) :
    ReturnsInHanded {} Try.checked os 3 .any (Rows.fnExactStatementFaultSpec.pre6 enc Try.prog Try.f3 Rows.fnExactStatementFaultRow.domain false) (Rows.fnExactStatementFaultSpec.post enc Try.prog Try.f3 false true false false) := by
  refine returnsInHanded_of_change (C := Try.checked) own started (by kernel_rfl) Try.func3
    (ChangeSpec.witness6 (enc := enc) (C := Try.checked) false ⟨#[], #[.agg #[.int .i64 0, .int .i64 0, .int .i64 0, .int .i64 0, .int .i64 0]], []⟩ 8 (by kernel_rfl) (by kernel_rfl) (by kernel_rfl) (by kernel_rfl)) ?_
  intro W base args ds gs before hval0 hW hcnd _
  have hval : ∀ (j : Nat) t v, Try.f3.params[j]? = some t → args[j]? = some v → Value.okWide Try.prog W .any base t v := hval0
  have hW' := hW
  obtain ⟨p, q, hA0, hV, rfl, hfz, hnd⟩ := hW
  have hA : DataW.TrodAll enc Try.prog W 0 (fun _ => true) true Try.f3.params.toList args.toList ds p := hA0
  rw [Try.params3] at hA hval
  obtain ⟨v0, vs0, d0, ds0, p0, q0, hargs, rfl, rfl, h0, r0⟩ := trodAll_cons hA
  obtain ⟨rfl, rfl, rfl⟩ := trodAll_nil r0
  obtain rfl : args = #[v0] := by cases args; simp_all
  obtain ⟨rfl, rfl⟩ := trodVars_none hV
  obtain ⟨cs0, rfl, hs0⟩ := okWide_struct Try.underlying23 (hval 0 23 v0 rfl rfl)
  have k0 := h0
  have lt0 : ∀ x ∈ p0, x.block < W.heap.size := by obtain ⟨m, hm⟩ := k0; exact DataW.trod_lt m _ _ _ hm
  obtain ⟨x0, rfl⟩ : ∃ x : StI, cs0 = #[.int .i64 x.k, .int .i64 x.e, .int .i64 x.f, .int .i64 x.s, .int .i64 x.n] := by
    obtain ⟨fuel, hf⟩ := h0
    exact statement_shape _ hf
  clear hA0 hval0
  refine (walk x0 W ).mono fun e W' ⟨he, bel⟩ => ?_
  subst he
  exact ⟨_, rfl, _, _, _, [], _, [], hW', trodAll_mk1 (shut_bool Try.underlying4 _), (trodAll_cons_mk (Below.trod laidOut (by kernel_rfl) (of_decide_eq_true (by kernel_rfl)) k0 bel lt0) trodAll_mk0), rfl, bel.frame _, fun h => by cases h⟩

theorem over : Rows.fnExactStatementFaultRow.holds Try.pinned (OpenSpec.ofChange Rows.fnExactStatementFaultSpec) :=
  OpenClaim.holds_of_wide 3 Try.f3 rfl rfl rfl rfl rfl rfl rfl ⟨rfl, rfl, rfl, rfl, rfl⟩ rfl rfl rfl rfl rfl (by kernel_rfl) Try.func3 (by kernel_rfl)
    (of_decide_eq_true (by kernel_rfl)) (by unfold Func.isWrapper; first | (rw [if_pos (by decide +kernel)]; kernel_rfl) | (rw [if_neg (by decide +kernel)]; exact ⟨rfl, rfl⟩))
    (fun os started H enc _ => lifted os started H enc)

end Go.Proofs.Ytpeddanicenohaa.fnExactStatementFault
namespace Go.Proofs.Ytpeddanicenohaa
theorem fnExactStatementFault_holds : Rows.FnExactStatementFaultSaid := fnExactStatementFault.over
#print axioms fnExactStatementFault_holds
end Go.Proofs.Ytpeddanicenohaa
