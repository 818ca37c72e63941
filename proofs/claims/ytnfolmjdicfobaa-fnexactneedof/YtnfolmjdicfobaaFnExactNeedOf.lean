/-
  PROVED: for every int64 the law laws.FnExactNeedOf returns true, that is impl.NeedOf answers as spec.NeedOf there.
  Conditions: none beside those that the given row itself bears. The frame is the shell written by program; the walk is ours.
-/
import Derived.Test.YtnfolmjdicfobaaRows
import Derived.WalkKit
import Derived.ProofKit
import Derived.Below
import Derived.OpenShut
import Derived.ShutString
import Derived.Test.YtnfolmjdicfobaaCf3
namespace Go.Proofs.Ytnfolmjdicfobaa.fnExactNeedOf
open Go.ChangeShapes Go.WideShapes Go.ChangeAt Go.RowKit
open Go.ChangeMaps (open_string shut_string)
set_option linter.unusedVariables false      -- a walk need not use every 'w<i>' (that an integer argument fits its kind)

theorem own : ownKnob Try.prog.godebug = none := by kernel_rfl

set_option maxRecDepth 20000 in
set_option maxHeartbeats 1000000 in
theorem inner (f : Int) (w : World) :
    Calls Try.prog 4 #[.int .i64 f] w fun e w' => e = .returned (.bool true) ∧ Below w.heap.size w w' := by
  have HS : Hid (∀ w : World, GivesF 13 f (nfCode f) (nfVal 2 f) w) := specNeedOf_c f
  have HI : Hid (∀ w : World, GivesF 14 f (nfCode f) (nfVal 2 f) w) := implNeedOf_c f
  generalize nfCode f = c at HS HI
  generalize nfVal 2 f = v at HS HI
  unfold GivesF at HS HI
  go_enter Try.func4, Try.ntmps4
  go_wp2_with fail
  refine (HS.out _).mono ?_
  rintro e w1 ⟨rfl, hb1⟩
  obtain ⟨V, hV⟩ : ∃ V, V = w1.alloc (.cells #[.int .i64 c, .int .i64 v] 37) := ⟨_, rfl⟩
  have B1 : Below w.heap.size w V := by rw [hV]; exact hb1.alloc hb1.size _
  have c0 : V.cell? ⟨w1.heap.size, 0, none⟩ = some (.int .i64 c) := by rw [hV]; simp
  have c1 : V.cell? ⟨w1.heap.size, 1, none⟩ = some (.int .i64 v) := by rw [hV]; simp
  go_wp2_with fail
  rw [← hV]
  clear hV hb1
  refine (HI.out _).mono ?_
  rintro e w2 ⟨rfl, hb2⟩
  have B2 : Below w.heap.size w w2 := B1.trans (hb2.mono B1.size)
  have hlt : w1.heap.size < V.heap.size := World.block_lt_of_cell? V ⟨w1.heap.size, 0, none⟩ c0
  have d0 := (hb2.cell (p := ⟨w1.heap.size, 0, none⟩) hlt).trans c0
  have d1 := (hb2.cell (p := ⟨w1.heap.size, 1, none⟩) hlt).trans c1
  have hlt2 : w1.heap.size < w2.heap.size := by have := hb2.size; omega
  clear c0 c1 hb2 B1
  have B3 : Below w.heap.size w (w2.alloc (.cells #[.int .i64 c, .int .i64 v] 37)) := B2.alloc B2.size _
  go_wp2_with fail
  refine (eqInt_same c v _).mono ?_
  rintro e w3 ⟨rfl, hb3⟩
  have B4 : Below w.heap.size w w3 := B3.trans (hb3.mono B3.size)
  clear d0 d1 hb3 B3
  go_wp2
  go_ret
  exact ⟨rfl, B4⟩

/-! The walk: the Go text returns true. -/
theorem walk (a0 : Int) (w0 : (Lit.int .i64 a0).wf = true) (w : World) :
    Calls Try.prog 4 #[.int .i64 a0] w fun e w' => e = .returned (.bool true) ∧ Below w.heap.size w w' := by
  exact inner a0 w

/-! The row's step. -/
set_option maxRecDepth 100000 in
theorem lifted (os : Os) (started : os.Started) (H : Type) (enc : TypeId × Value → H) :
    ReturnsInHanded {} Try.checked os 4 .any (Rows.fnExactNeedOfSpec.pre6 enc Try.prog Try.f4 Rows.fnExactNeedOfRow.domain false) (Rows.fnExactNeedOfSpec.post enc Try.prog Try.f4 false true false false) := by
  refine returnsInHanded_of_change (C := Try.checked) own started (by kernel_rfl) Try.func4
    (ChangeSpec.witness6 (enc := enc) (C := Try.checked) false ⟨#[], #[.int .i64 0], []⟩ 8 (by kernel_rfl) (by kernel_rfl) (by kernel_rfl) (by kernel_rfl)) ?_
  intro W base args ds gs before hval0 hW hcnd _
  have hval : ∀ (j : Nat) t v, Try.f4.params[j]? = some t → args[j]? = some v → Value.okWide Try.prog W .any base t v := hval0
  have hW' := hW
  obtain ⟨p, q, hA0, hV, rfl, hfz, hnd⟩ := hW
  have hA : DataW.TrodAll enc Try.prog W 0 (fun _ => true) true Try.f4.params.toList args.toList ds p := hA0
  rw [Try.params4] at hA hval
  obtain ⟨v0, vs0, d0, ds0, p0, q0, hargs, rfl, rfl, h0, r0⟩ := trodAll_cons hA
  obtain ⟨rfl, rfl, rfl⟩ := trodAll_nil r0
  obtain rfl : args = #[v0] := by cases args; simp_all
  obtain ⟨rfl, rfl⟩ := trodVars_none hV
  obtain ⟨a0, rfl, rfl, rfl, w0⟩ := open_int Try.underlying2 (hval 0 2 v0 rfl rfl) h0
  clear hA0 hval0
  simp only [List.append_nil] at hW'
  refine (walk a0 w0 W).mono fun e W' ⟨he, hg⟩ => ?_
  subst he
  exact ⟨_, rfl, _, _, _, [], [], [], hW', trodAll_cons_mk (shut_bool Try.underlying4 _) trodAll_mk0, (trodAll_cons_mk (shut_int Try.underlying2 w0) trodAll_mk0), rfl, hg.frame _, fun h => by cases h⟩

theorem over : Rows.fnExactNeedOfRow.holds Try.pinned (OpenSpec.ofChange Rows.fnExactNeedOfSpec) :=
  OpenClaim.holds_of_wide 4 Try.f4 rfl rfl rfl rfl rfl rfl rfl ⟨rfl, rfl, rfl, rfl, rfl⟩ rfl rfl rfl rfl rfl (by kernel_rfl) Try.func4 (by kernel_rfl)
    (of_decide_eq_true (by kernel_rfl)) (by unfold Func.isWrapper; first | (rw [if_pos (by decide +kernel)]; kernel_rfl) | (rw [if_neg (by decide +kernel)]; exact ⟨rfl, rfl⟩))
    (fun os started H enc _ => lifted os started H enc)

end Go.Proofs.Ytnfolmjdicfobaa.fnExactNeedOf
namespace Go.Proofs.Ytnfolmjdicfobaa
theorem fnExactNeedOf_holds : Rows.FnExactNeedOfSaid := fnExactNeedOf.over
#print axioms fnExactNeedOf_holds
end Go.Proofs.Ytnfolmjdicfobaa
