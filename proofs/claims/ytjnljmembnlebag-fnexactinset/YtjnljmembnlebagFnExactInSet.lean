/-
  PROVED: for every two int64 the law laws.FnExactInSet returns true, that is impl.InSet answers as spec.InSet there; the arguments read as they did.
  Conditions: none beside those that the given row itself bears. The frame is the shell written by program; the walk is ours.
-/
import Derived.Test.YtjnljmembnlebagRows
import Derived.WalkKit
import Derived.ProofKit
import Derived.OpenShut
import Derived.ShutString
import Derived.Test.YtjnljmembnlebagPlain
namespace Go.Proofs.Ytjnljmembnlebag.fnExactInSet
open Go.ChangeShapes Go.WideShapes Go.ChangeAt Go.RowKit
open Go.ChangeMaps (open_string shut_string)
set_option linter.unusedVariables false      -- a walk need not use every 'w<i>' (that an integer argument fits its kind)

theorem own : ownKnob Try.prog.godebug = none := by kernel_rfl

set_option maxHeartbeats 400000 in
theorem inner (a0 p : Int) (h1 : 0 ≤ a0) (h2 : a0 ≤ 255) (w : World) (hp : p = 1 ∨ p = 2 ∨ p = 3 ∨ p = 4 ∨ p = 5 ∨ p = 6 ∨ p = 7 ∨ p = 8) :
    Calls Try.prog 6 #[.int .i64 a0, .int .i64 p] w fun e w' => e = .returned (.bool true) ∧ Grown w w' := by
  have h3 : a0 < (256 : Int) := by omega
  have e0 : (decide (a0 < 0) || decide (256 ≤ a0)) = false := by simp; omega
  rcases hp with rfl | rfl | rfl | rfl | rfl | rfl | rfl | rfl
  · have e1 := and_i64 a0 1 h1 h2 (by omega) (by omega)
    have e2 := and_u8 a0 1 h1 h2 (by omega) (by omega)
    simp at e1 e2
    go_enter Try.func6, Try.ntmps6
    go_wp2
    all_goals go_ret
    all_goals exact ⟨rfl, by repeat (first | exact Grown.refl _ | apply Grown.drew | apply Grown.alloc)⟩
  · have e1 := and_i64 a0 2 h1 h2 (by omega) (by omega)
    have e2 := and_u8 a0 2 h1 h2 (by omega) (by omega)
    simp at e1 e2
    go_enter Try.func6, Try.ntmps6
    go_wp2
    all_goals go_ret
    all_goals exact ⟨rfl, by repeat (first | exact Grown.refl _ | apply Grown.drew | apply Grown.alloc)⟩
  · have e1 := and_i64 a0 3 h1 h2 (by omega) (by omega)
    have e2 := and_u8 a0 3 h1 h2 (by omega) (by omega)
    simp at e1 e2
    go_enter Try.func6, Try.ntmps6
    go_wp2
    all_goals go_ret
    all_goals exact ⟨rfl, by repeat (first | exact Grown.refl _ | apply Grown.drew | apply Grown.alloc)⟩
  · have e1 := and_i64 a0 4 h1 h2 (by omega) (by omega)
    have e2 := and_u8 a0 4 h1 h2 (by omega) (by omega)
    simp at e1 e2
    go_enter Try.func6, Try.ntmps6
    go_wp2
    all_goals go_ret
    all_goals exact ⟨rfl, by repeat (first | exact Grown.refl _ | apply Grown.drew | apply Grown.alloc)⟩
  · have e1 := and_i64 a0 5 h1 h2 (by omega) (by omega)
    have e2 := and_u8 a0 5 h1 h2 (by omega) (by omega)
    simp at e1 e2
    go_enter Try.func6, Try.ntmps6
    go_wp2
    all_goals go_ret
    all_goals exact ⟨rfl, by repeat (first | exact Grown.refl _ | apply Grown.drew | apply Grown.alloc)⟩
  · have e1 := and_i64 a0 6 h1 h2 (by omega) (by omega)
    have e2 := and_u8 a0 6 h1 h2 (by omega) (by omega)
    simp at e1 e2
    go_enter Try.func6, Try.ntmps6
    go_wp2
    all_goals go_ret
    all_goals exact ⟨rfl, by repeat (first | exact Grown.refl _ | apply Grown.drew | apply Grown.alloc)⟩
  · have e1 := and_i64 a0 7 h1 h2 (by omega) (by omega)
    have e2 := and_u8 a0 7 h1 h2 (by omega) (by omega)
    simp at e1 e2
    go_enter Try.func6, Try.ntmps6
    go_wp2
    all_goals go_ret
    all_goals exact ⟨rfl, by repeat (first | exact Grown.refl _ | apply Grown.drew | apply Grown.alloc)⟩
  · have e1 := and_i64 a0 8 h1 h2 (by omega) (by omega)
    have e2 := and_u8 a0 8 h1 h2 (by omega) (by omega)
    simp at e1 e2
    go_enter Try.func6, Try.ntmps6
    go_wp2
    all_goals go_ret
    all_goals exact ⟨rfl, by repeat (first | exact Grown.refl _ | apply Grown.drew | apply Grown.alloc)⟩

/-! The walk: the Go text returns true. -/
theorem walk (a0 : Int) (a1 : Int) (w0 : (Lit.int .i64 a0).wf = true) (w1 : (Lit.int .i64 a1).wf = true) (w : World) :
    Calls Try.prog 6 #[.int .i64 a0, .int .i64 a1] w fun e w' => e = .returned (.bool true) ∧ Grown w w' := by
  by_cases h1 : 0 ≤ a0
  · by_cases h2 : a0 ≤ 255
    · by_cases h3 : 1 ≤ a1
      · by_cases h4 : a1 ≤ 8
        · exact inner a0 a1 h1 h2 w (by omega)
        · have h5 : a0 < (256 : Int) := by omega
          have e0 : (decide (a0 < 0) || decide (256 ≤ a0)) = false := by simp; omega
          have e1 : decide (a1 ≤ 8) = false := by simp; omega
          go_enter Try.func6, Try.ntmps6
          go_wp2
          all_goals go_ret
          all_goals exact ⟨rfl, by repeat (first | exact Grown.refl _ | apply Grown.drew | apply Grown.alloc)⟩
      · have h5 : a0 < (256 : Int) := by omega
        have e0 : (decide (a0 < 0) || decide (256 ≤ a0)) = false := by simp; omega
        have e1 : decide (1 ≤ a1) = false := by simp; omega
        go_enter Try.func6, Try.ntmps6
        go_wp2
        all_goals go_ret
        all_goals exact ⟨rfl, by repeat (first | exact Grown.refl _ | apply Grown.drew | apply Grown.alloc)⟩
    · have e1 : decide (a0 ≤ 255) = false := by simp; omega
      have h5 : (256 : Int) ≤ a0 := by omega
      go_enter Try.func6, Try.ntmps6
      go_wp2
      all_goals go_ret
      all_goals exact ⟨rfl, by repeat (first | exact Grown.refl _ | apply Grown.drew | apply Grown.alloc)⟩
  · have e1 : decide (0 ≤ a0) = false := by simp; omega
    have h5 : a0 < (0 : Int) := by omega
    go_enter Try.func6, Try.ntmps6
    go_wp2
    all_goals go_ret
    all_goals exact ⟨rfl, by repeat (first | exact Grown.refl _ | apply Grown.drew | apply Grown.alloc)⟩

/-! The row's step. -/
set_option maxRecDepth 100000 in
theorem lifted (os : Os) (started : os.Started) (H : Type) (enc : TypeId × Value → H) :
    ReturnsInHanded {} Try.checked os 6 .any (Rows.fnExactInSetSpec.pre6 enc Try.prog Try.f6 Rows.fnExactInSetRow.domain false) (Rows.fnExactInSetSpec.post enc Try.prog Try.f6 false true false false) := by
  refine returnsInHanded_of_change (C := Try.checked) own started (by kernel_rfl) Try.func6
    (ChangeSpec.witness6 (enc := enc) (C := Try.checked) false ⟨#[], #[.int .i64 0, .int .i64 0], []⟩ 8 (by kernel_rfl) (by kernel_rfl) (by kernel_rfl) (by kernel_rfl)) ?_
  intro W base args ds gs before hval0 hW hcnd _
  have hval : ∀ (j : Nat) t v, Try.f6.params[j]? = some t → args[j]? = some v → Value.okWide Try.prog W .any base t v := hval0
  have hW' := hW
  obtain ⟨p, q, hA0, hV, rfl, hfz, hnd⟩ := hW
  have hA : DataW.TrodAll enc Try.prog W 0 (fun _ => true) true Try.f6.params.toList args.toList ds p := hA0
  rw [Try.params6] at hA hval
  obtain ⟨v0, vs0, d0, ds0, p0, q0, hargs, rfl, rfl, h0, r0⟩ := trodAll_cons hA
  obtain ⟨v1, vs1, d1, ds1, p1, q1, rfl, rfl, rfl, h1, r1⟩ := trodAll_cons r0
  obtain ⟨rfl, rfl, rfl⟩ := trodAll_nil r1
  obtain rfl : args = #[v0, v1] := by cases args; simp_all
  obtain ⟨rfl, rfl⟩ := trodVars_none hV
  obtain ⟨a0, rfl, rfl, rfl, w0⟩ := open_int Try.underlying2 (hval 0 2 v0 rfl rfl) h0
  obtain ⟨a1, rfl, rfl, rfl, w1⟩ := open_int Try.underlying2 (hval 1 2 v1 rfl rfl) h1
  clear hA0 hval0
  simp only [List.append_nil] at hW'
  refine (walk a0 a1 w0 w1 W).mono fun e W' ⟨he, hg⟩ => ?_
  subst he
  exact ⟨_, rfl, post_of_same (pa := []) (pv := []) hW' (fun _ _ _ => (trodAll_cons_mk (shut_bool Try.underlying4 _) trodAll_mk0)) (fun sp _ => (trodAll_cons_mk (shut_int Try.underlying2 w0) (trodAll_cons_mk (shut_int Try.underlying2 w1) trodAll_mk0))) (fun _ _ => rfl) rfl
    (hg.frame _) hg.2.1 (ok_one (by kernel_rfl) rfl (okWide_bool_mk Try.underlying4 _))⟩

theorem over : Rows.fnExactInSetRow.holds Try.pinned (OpenSpec.ofChange Rows.fnExactInSetSpec) :=
  OpenClaim.holds_of_wide 6 Try.f6 rfl rfl rfl rfl rfl rfl rfl ⟨rfl, rfl, rfl, rfl, rfl⟩ rfl rfl rfl rfl rfl (by kernel_rfl) Try.func6 (by kernel_rfl)
    (of_decide_eq_true (by kernel_rfl)) (by unfold Func.isWrapper; first | (rw [if_pos (by decide +kernel)]; kernel_rfl) | (rw [if_neg (by decide +kernel)]; exact ⟨rfl, rfl⟩))
    (fun os started H enc _ => lifted os started H enc)

end Go.Proofs.Ytjnljmembnlebag.fnExactInSet
namespace Go.Proofs.Ytjnljmembnlebag
theorem fnExactInSet_holds : Rows.FnExactInSetSaid := fnExactInSet.over
#print axioms fnExactInSet_holds
end Go.Proofs.Ytjnljmembnlebag
