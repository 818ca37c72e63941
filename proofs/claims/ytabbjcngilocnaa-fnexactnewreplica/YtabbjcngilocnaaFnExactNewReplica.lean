/-
  PROVED: for every int64 the law laws.FnExactNewReplica returns true, that is impl.NewReplica answers as spec.NewReplica there, and its answer owns its memory, behind another call too.
  Conditions: none beside those that the given row itself bears. The frame is the shell written by program; the walk is ours.
-/
import Derived.Test.YtabbjcngilocnaaRows
import Derived.WalkKit
import Derived.ProofKit
import Derived.Below
import Derived.OpenShut
import Derived.ShutString
import Derived.Deep.CutBlock
import Derived.Test.YtabbjcngilocnaaNr0
namespace Go.Proofs.Ytabbjcngilocnaa.fnExactNewReplica
open Go.ChangeShapes Go.WideShapes Go.ChangeAt Go.RowKit
open Go.ChangeMaps (open_string shut_string)
set_option linter.unusedVariables false      -- a walk need not use every 'w<i>' (that an integer argument fits its kind)

theorem own : ownKnob Try.prog.godebug = none := by kernel_rfl

set_option maxRecDepth 20000 in
set_option maxHeartbeats 1000000 in
theorem inner (id c i : Int) (w : World) (HS : Hid (∀ w : World, GivesN 4 id c i w)) (HI : Hid (∀ w : World, GivesN 5 id c i w)) :
    Calls Try.prog 3 #[.int .i64 id] w fun e w' => e = .returned (.bool true) ∧ Below w.heap.size w w' := by
  unfold GivesN at HS HI
  go_enter Try.func3, Try.ntmps3
  go_wp2_with fail
  refine (HS.out _).mono ?_
  rintro e w1 ⟨rfl, hb1⟩
  obtain ⟨V, hV⟩ : ∃ V, V = w1.alloc (.cells #[.int .i64 c, .int .i64 i, .int .i64 0, .slice none 0 0, .slice none 0 0] 27) := ⟨_, rfl⟩
  have B1 : Below w.heap.size w V := by rw [hV]; exact hb1.alloc hb1.size _
  have X1 : Hid (NBox V w1.heap.size c i) := by rw [hV]; exact NBox.new _ _ _ _
  go_wp2_with fail
  rw [← hV]
  clear hV hb1
  refine (HI.out _).mono ?_
  rintro e w2 ⟨rfl, hb2⟩
  obtain ⟨U, hU⟩ : ∃ U, U = w2.alloc (.cells #[.int .i64 c, .int .i64 i, .int .i64 0, .slice none 0 0, .slice none 0 0] 27) := ⟨_, rfl⟩
  have A2 : Below V.heap.size V U := by rw [hU]; exact hb2.alloc hb2.size _
  have B2 : Below w.heap.size w U := B1.trans (A2.mono B1.size)
  have X2 : Hid (NBox U w1.heap.size c i) := X1.out.below A2
  have Y2 : Hid (NBox U w2.heap.size c i) := by rw [hU]; exact NBox.new _ _ _ _
  clear X1 B1 hb2 A2
  go_upto_region 3 with fail
  rw [← hU]
  clear hU
  obtain ⟨x0, x1, x2, x3, x4⟩ := X2.out
  obtain ⟨y0, y1, y2, y3, y4⟩ := Y2.out
  go_wp2_with fail
  refine (eqNone_c c i _).mono ?_
  rintro e w3 ⟨rfl, hb3⟩
  have X3 : Hid (NBox w3 w1.heap.size c i) := X2.out.below hb3
  have Y3 : Hid (NBox w3 w2.heap.size c i) := Y2.out.below hb3
  have B3 : Below w.heap.size w w3 := B2.trans (hb3.mono B2.size)
  clear X2 Y2 hb3 B2 x0 x1 x2 x3 x4 y0 y1 y2 y3 y4
  obtain ⟨y0, y1, y2, y3, y4⟩ := Y3.out
  go_wp2_with fail
  refine (markNone_c c i _).mono ?_
  rintro e w4 ⟨rfl, hb4⟩
  have X4 : Hid (NBox w4 w1.heap.size c i) := X3.out.below hb4
  have Y4 : Hid (NBox w4 w2.heap.size c i) := Y3.out.below hb4
  have B4 : Below w.heap.size w w4 := B3.trans (hb4.mono B3.size)
  clear X3 Y3 hb4 B3 y0 y1 y2 y3 y4
  obtain ⟨y0, y1, y2, y3, y4⟩ := Y4.out
  go_wp2_with fail
  refine (heldNone_c c i _).mono ?_
  rintro e w5 ⟨rfl, hb5⟩
  have X5 : Hid (NBox w5 w1.heap.size c i) := X4.out.below hb5
  have Y5 : Hid (NBox w5 w2.heap.size c i) := Y4.out.below hb5
  have B5 : Below w.heap.size w w5 := B4.trans (hb5.mono B4.size)
  clear X4 Y4 hb5 B4 y0 y1 y2 y3 y4
  go_wp2_with fail
  refine (HI.out _).mono ?_
  rintro e w6 ⟨rfl, hb6⟩
  obtain ⟨Z, hZ⟩ : ∃ Z, Z = w6.alloc (.cells #[.int .i64 c, .int .i64 i, .int .i64 0, .slice none 0 0, .slice none 0 0] 27) := ⟨_, rfl⟩
  have A6 : Below w5.heap.size w5 Z := by rw [hZ]; exact hb6.alloc hb6.size _
  have B6 : Below w.heap.size w Z := B5.trans (A6.mono B5.size)
  have X6 : Hid (NBox Z w1.heap.size c i) := X5.out.below A6
  have Y6 : Hid (NBox Z w2.heap.size c i) := Y5.out.below A6
  have Z6 : Hid (NBox Z w6.heap.size c i) := by rw [hZ]; exact NBox.new _ _ _ _
  clear X5 Y5 B5 hb6 A6
  go_upto_region 14 with fail
  rw [← hZ]
  clear hZ
  obtain ⟨x0, x1, x2, x3, x4⟩ := X6.out
  obtain ⟨z0, z1, z2, z3, z4⟩ := Z6.out
  go_wp2_with fail
  refine (eqNone_c c i _).mono ?_
  rintro e w7 ⟨rfl, hb7⟩
  have Y7 : Hid (NBox w7 w2.heap.size c i) := Y6.out.below hb7
  have B7 : Below w.heap.size w w7 := B6.trans (hb7.mono B6.size)
  clear X6 Y6 Z6 hb7 B6 x0 x1 x2 x3 x4 z0 z1 z2 z3 z4
  obtain ⟨y0, y1, y2, y3, y4⟩ := Y7.out
  go_wp2_with fail
  refine (heldNone_c c i _).mono ?_
  rintro e w8 ⟨rfl, hb8⟩
  have B8 : Below w.heap.size w w8 := B7.trans (hb8.mono B7.size)
  clear Y7 hb8 B7 y0 y1 y2 y3 y4
  go_wp2
  go_ret
  exact ⟨rfl, B8⟩

/-! The walk: the Go text returns true. -/
theorem walk (a0 : Int) (w0 : (Lit.int .i64 a0).wf = true) (w : World) :
    Calls Try.prog 3 #[.int .i64 a0] w fun e w' => e = .returned (.bool true) ∧ Below w.heap.size w w' := by
  by_cases h1 : a0 < 1
  · exact inner a0 3 0 w (fun w => specNew_low a0 w h1) (fun w => implNew_low a0 w h1)
  · by_cases h2 : 7 < a0
    · exact inner a0 3 0 w (fun w => specNew_high a0 w h2) (fun w => implNew_high a0 w h2)
    · exact inner a0 0 a0 w (fun w => specNew_ok a0 w (by omega) (by omega)) (fun w => implNew_ok a0 w (by omega) (by omega))

/-! The row's step. -/
set_option maxRecDepth 100000 in
theorem lifted (os : Os) (started : os.Started) (H : Type) (enc : TypeId × Value → H) :
    ReturnsInHanded {} Try.checked os 3 .any (Rows.fnExactNewReplicaSpec.pre6 enc Try.prog Try.f3 Rows.fnExactNewReplicaRow.domain false) (Rows.fnExactNewReplicaSpec.post enc Try.prog Try.f3 false true false false) := by
  refine returnsInHanded_of_change (C := Try.checked) own started (by kernel_rfl) Try.func3
    (ChangeSpec.witness6 (enc := enc) (C := Try.checked) false ⟨#[], #[.int .i64 0], []⟩ 8 (by kernel_rfl) (by kernel_rfl) (by kernel_rfl) (by kernel_rfl)) ?_
  intro W base args ds gs before hval0 hW hcnd _
  have hval : ∀ (j : Nat) t v, Try.f3.params[j]? = some t → args[j]? = some v → Value.okWide Try.prog W .any base t v := hval0
  have hW' := hW
  obtain ⟨p, q, hA0, hV, rfl, hfz, hnd⟩ := hW
  have hA : DataW.TrodAll enc Try.prog W 0 (fun _ => true) true Try.f3.params.toList args.toList ds p := hA0
  rw [Try.params3] at hA hval
  obtain ⟨v0, vs0, d0, ds0, p0, q0, hargs, rfl, rfl, h0, r0⟩ := trodAll_cons hA
  obtain ⟨rfl, rfl, rfl⟩ := trodAll_nil r0
  obtain rfl : args = #[v0] := by cases args; simp_all
  obtain ⟨rfl, rfl⟩ := trodVars_none hV
  obtain ⟨a0, rfl, rfl, rfl, w0⟩ := open_int Try.underlying2 (hval 0 2 v0 rfl rfl) h0
  clear hA0 hval0
  simp only [List.append_nil] at hW'
  refine (walk a0 w0 W).mono fun e W' ⟨he, hg⟩ => ?_
  subst he
  exact ⟨_, rfl, _, _, _, [], [], [], hW', trodAll_cons_mk (shut_bool Try.underlying4 _) trodAll_mk0, (trodAll_cons_mk (shut_int Try.underlying2 w0) trodAll_mk0), rfl, hg.frame _, fun h => by cases h⟩

theorem over : Rows.fnExactNewReplicaRow.holds Try.pinned (OpenSpec.ofChange Rows.fnExactNewReplicaSpec) :=
  OpenClaim.holds_of_wide 3 Try.f3 rfl rfl rfl rfl rfl rfl rfl ⟨rfl, rfl, rfl, rfl, rfl⟩ rfl rfl rfl rfl rfl (by kernel_rfl) Try.func3 (by kernel_rfl)
    (of_decide_eq_true (by kernel_rfl)) (by unfold Func.isWrapper; first | (rw [if_pos (by decide +kernel)]; kernel_rfl) | (rw [if_neg (by decide +kernel)]; exact ⟨rfl, rfl⟩))
    (fun os started H enc _ => lifted os started H enc)

end Go.Proofs.Ytabbjcngilocnaa.fnExactNewReplica
namespace Go.Proofs.Ytabbjcngilocnaa
theorem fnExactNewReplica_holds : Rows.FnExactNewReplicaSaid := fnExactNewReplica.over
#print axioms fnExactNewReplica_holds
end Go.Proofs.Ytabbjcngilocnaa
