/-
  PROVED: for every replica and every slice of configurations the law laws.FnExactLogOf returns true, that is impl.LogOf answers as spec.LogOf there (up to 1<<20 elements in all, as the law itself says), writes nothing into its arguments, and its list is memory of its own, behind another call too; the arguments and the variable errManyLocks read as they did. This is the tied card of the seat.
  Conditions: none beside those that the given row and card themselves bear. The frame is the shell written by program, turned for a replica, a slice of configurations and the listed variables; the walk is ours.
-/
import Derived.LaidMore
import Derived.Stop.Joined
import Derived.SevenTiedAt
import Derived.Test.YtdppdbihhlipeaaGreatDoorTie
import Derived.Test.YtdppdbihhlipeaaGreatDoorCards
import Derived.ShutString
import Derived.ChangeOld
import Derived.Test.YtdppdbihhlipeaaGreatDoorPl48
import Derived.Test.YtdppdbihhlipeaaGreatDoorPl49
import Derived.Test.YtdppdbihhlipeaaGreatDoorPl52
namespace Go.Proofs.YtdppdbihhlipeaaGreatDoor.fnExactLogOf
open Go.ChangeShapes Go.WideShapes Go.ChangeAt Go.RowKit
open Go.ChangeMaps (open_string shut_string)
set_option linter.unusedVariables false

theorem own : ownKnob Tryz.prog.godebug = none := by kernel_rfl
theorem laidOut : laidOutB Tryz.prog = true := by kernel_rfl

theorem take_vars {W : World} (h : laidMetH Tryz.prog Rows.fnExactLogOfRow.laid W) : qN8 1 W ∧ qD7 W := by
  have h' : laidMet Tryz.prog [("loop.example/g00338/impl.errManyLocks", Rows.laid_loop_example_g00338_impl_errManyLocks)] W ∧ handlesMet Tryz.prog [("errors.errorType", Rows.laid_errors_errorType)] W := h
  exact ⟨errM_of h'.1, handle_of (List.mem_singleton.2 rfl) h'.2⟩

/-! The listed variables: the program's own start meets the condition. -/
abbrev doorFuel : Nat := 400
theorem door_met (os : Os) (args : Array Value) : laidMetH Tryz.prog Rows.fnExactLogOfRow.laid ((World.doorLaid Tryz.prog doorFuel os).forCall (fun _ _ => 0) ⟨#[], args, []⟩).memory :=
  laidMetH_of_parts3 (fuel := 8) (laidMet_of_run' 8 (by kernel_rfl) (by kernel_rfl)) (by kernel_rfl) (by kernel_rfl)

/-! The walk: the Go text returns true. -/
theorem walk (rr0 : qG5) (a1 : Option Addr) (len1 cap1 : Nat) (z1 : List qA1) (w : World) (w0 : qD8 w rr0 ∧ qK5 maxLen rr0) (w1 : QJ4 w a1 len1 z1) (hE : qN8 1 w ∧ qD7 w) :
    Calls Tryz.prog 3 #[.agg #[.int .i64 rr0.i, .int .i64 rr0.u, .slice rr0.sa rr0.sn rr0.sc, .slice rr0.la rr0.ln rr0.lc], .slice a1 len1 cap1] w fun e w' => e = .returned (.bool true) ∧ Below w.heap.size w w' := by
  exact Rl5_inner rr0 a1 len1 cap1 z1 w w0 w1 hE

/-! The row's step. -/
set_option maxRecDepth 100000 in
theorem lifted (os : Os) (started : os.Started) (H : Type) (enc : TypeId × Value → H) :
    ReturnsInHanded {} Tryz.checked os 3 .any (fun w args => (Rows.fnExactLogOfSpec.pre enc Tryz.prog Tryz.f3 [] false w args ∧ laidMetH Tryz.prog Rows.fnExactLogOfRow.laid w) ∧ sizedMet enc Tryz.prog Tryz.f3 (OpenSpec.ofChange Rows.fnExactLogOfSpec) false w args) (Rows.fnExactLogOfSpec.post enc Tryz.prog Tryz.f3 false true false false) := by
  refine returnsInHanded_of_change_and (C := Tryz.checked) (X := fun w _ => laidMetH Tryz.prog Rows.fnExactLogOfRow.laid w) (fun _ _ _ hh h => h.of_heap hh) own started (by kernel_rfl) Tryz.func3
    (ChangeSpec.witness_shaped (enc := enc) (C := Tryz.checked) (os := os) (X := fun w _ => laidMetH Tryz.prog Rows.fnExactLogOfRow.laid w) false (World.doorLaid Tryz.prog doorFuel os) #[.agg #[.int .i64 0, .int .i64 0, .slice none 0 0, .slice none 0 0], .slice none 0 0] 8 rfl (World.shaped_of_RefB (by kernel_rfl) (by kernel_rfl)) (by kernel_rfl) (by kernel_rfl) (by kernel_rfl) (door_met os _)) ?_
  intro W base args ds gs before hval0 hW _ _ hL _
  have hval : ∀ (j : Nat) t v, Tryz.f3.params[j]? = some t → args[j]? = some v → Value.okWide Tryz.prog W .any base t v := hval0
  have hW' := hW
  obtain ⟨p, q, hA0, hV, rfl, hfz, hnd⟩ := hW
  have hA : DataW.TrodAll enc Tryz.prog W 0 (fun _ => true) true Tryz.f3.params.toList args.toList ds p := hA0
  rw [Tryz.params3] at hA hval
  obtain ⟨v0, vs0, d0, ds0, p0, q0, hargs, rfl, rfl, h0, r0⟩ := trodAll_cons hA
  obtain ⟨v1, vs1, d1, ds1, p1, q1, rfl, rfl, rfl, h1, r1⟩ := trodAll_cons r0
  obtain ⟨rfl, rfl, rfl⟩ := trodAll_nil r1
  obtain rfl : args = #[v0, v1] := by cases args; simp_all
  have hV2 := hV
  obtain ⟨y0, rfl⟩ := vars_one hV
  obtain ⟨cs0, rfl, hs0⟩ := okWide_struct Tryz.underlying25 (hval 0 25 v0 rfl rfl)
  have k0 := h0
  have lt0 : ∀ x ∈ p0, x.block < W.heap.size := by obtain ⟨m, hm⟩ := k0; exact DataW.trod_lt m _ _ _ hm
  obtain ⟨rr0, rfl, w0⟩ : ∃ r : qG5, cs0 = #[.int .i64 r.i, .int .i64 r.u, .slice r.sa r.sn r.sc, .slice r.la r.ln r.lc] ∧ (qD8 W r ∧ qK5 maxLen r) := by
    obtain ⟨fuel, hf⟩ := h0
    exact rep_shape _ hf
  obtain ⟨a1, len1, cap1, rfl⟩ := okWide_slice Tryz.underlying26 (hval 1 26 v1 rfl rfl)
  have k1 := h1
  have lt1 : ∀ x ∈ p1, x.block < W.heap.size := by obtain ⟨m, hm⟩ := k1; exact DataW.trod_lt m _ _ _ hm
  obtain ⟨z1, w1⟩ : ∃ zs : List qA1, QJ4 W a1 len1 zs := by
    obtain ⟨fuel, hf⟩ := h1
    exact QW8 hf
  clear hA0 hval0
  refine (walk rr0 a1 len1 cap1 z1 W w0 w1 (take_vars hL)).mono fun e W' ⟨he, bel⟩ => ?_
  subst he
  exact ⟨_, rfl, _, _, _, [], _, _, hW', trodAll_mk1 (shut_bool Tryz.underlying4 _), (trodAll_cons_mk (Below.trod laidOut (by kernel_rfl) (of_decide_eq_true (by kernel_rfl)) k0 bel lt0) (trodAll_cons_mk (Below.trod laidOut (by kernel_rfl) (of_decide_eq_true (by kernel_rfl)) k1 bel lt1) trodAll_mk0)), Below.trodVars laidOut bel (by kernel_rfl) hV2, bel.frame _, fun h => by cases h⟩

theorem over : Rows.fnExactLogOfRow.holds Tryz.pinned (OpenSpec.ofChange Rows.fnExactLogOfSpec) :=
  OpenClaim.holds_of_wide 3 Tryz.f3 rfl rfl rfl rfl rfl rfl rfl ⟨rfl, rfl, rfl, rfl, rfl⟩ rfl rfl rfl rfl rfl (by kernel_rfl) Tryz.func3 (by kernel_rfl)
    (of_decide_eq_true (by kernel_rfl)) (by unfold Func.isWrapper; first | (rw [if_pos (by decide +kernel)]; kernel_rfl) | (rw [if_neg (by decide +kernel)]; exact ⟨rfl, rfl⟩))
    (fun os started H enc _ => lifted os started H enc)

end Go.Proofs.YtdppdbihhlipeaaGreatDoor.fnExactLogOf
namespace Go.Proofs.YtdppdbihhlipeaaGreatDoor
theorem fnExactLogOf_holds : Rows.FnExactLogOfSaid := fnExactLogOf.over
#print axioms fnExactLogOf_holds
theorem fnExactLogOf_card : Rows.FnExactLogOfCardSaid :=
  Claim7.holds_tied_plain_at .later [] [.handle, .sentinel] true (true, "f2de0c6b7cf00c4bf5d98c944d4ae57842f591f0e4a4994c266c6e00becd9294") true
    fnExactLogOf_holds (fun _ h => by cases h) (by kernel_rfl) (fun _ h => by cases h) fnExactLogOf_row_tie rfl ⟨rfl, rfl⟩ (by kernel_rfl) rfl
    (fun f fn hf hfn => by
      obtain rfl : f = 3 := Option.some.inj ((show Tryz.prog.funcNamed "loop.example/g00338/laws.FnExactLogOf" = some 3 by kernel_rfl).symm.trans hf) |>.symm
      obtain rfl : fn = Tryz.f3 := (Option.some.inj (Tryz.func3.symm.trans hfn)).symm
      exact ⟨by kernel_rfl, fun j t ht => by
        rw [Tryz.params3] at ht
        have hm : t ∈ [25, 26] := by simpa using Array.mem_of_getElem? ht
        have hall : ([25, 26].all fun u => !Tryz.prog.wantsStandIn u) = true := by kernel_rfl
        exact (show Tryz.prog.wantsStandIn t = false by simpa using List.all_eq_true.1 hall t hm)⟩)
    (by kernel_rfl)
#print axioms fnExactLogOf_card
end Go.Proofs.YtdppdbihhlipeaaGreatDoor
