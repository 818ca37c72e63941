/-
  PROVED: for every replica, every slice of configurations and every statement the law laws.FnExactEndorse returns true, that is impl.Endorse answers as spec.Endorse there (up to 1<<20 elements in all, as the law itself says), writes nothing into its arguments, and its replica is memory of its own, behind another call too; the arguments and the variable errManyLocks read as they did. This is the tied card of the seat.
  Conditions: none beside those that the given row and card themselves bear. The frame is the shell written by program, turned for a replica, a slice of configurations, a statement and the listed variables; the walk is ours.
-/
import Derived.LaidMore
import Derived.Stop.Joined
import Derived.SevenTiedAt
import Derived.Test.YtlhgjackapdmbaaGreatDoorTie
import Derived.Test.YtlhgjackapdmbaaGreatDoorCards
import Derived.ShutString
import Derived.ChangeOld
import Derived.Test.YtlhgjackapdmbaaGreatDoorPe51
import Derived.Test.YtlhgjackapdmbaaGreatDoorPe52
namespace Go.Proofs.YtlhgjackapdmbaaGreatDoor.fnExactEndorse
open Go.ChangeShapes Go.WideShapes Go.ChangeAt Go.RowKit
open Go.ChangeMaps (open_string shut_string)
set_option linter.unusedVariables false

theorem own : ownKnob Tryz.prog.godebug = none := by kernel_rfl
theorem laidOut : laidOutB Tryz.prog = true := by kernel_rfl

theorem take_vars {W : World} (h : laidMetH Tryz.prog Rows.fnExactEndorseRow.laid W) : qO1 0 W ∧ qE2 W := by
  have h' : laidMet Tryz.prog [("loop.example/g00338/impl.errManyLocks", Rows.laid_loop_example_g00338_impl_errManyLocks)] W ∧ handlesMet Tryz.prog [("errors.errorType", Rows.laid_errors_errorType)] W := h
  exact ⟨errM_of h'.1, handle_of (List.mem_singleton.2 rfl) h'.2⟩

/-! The listed variables: the program's own start meets the condition. -/
abbrev doorFuel : Nat := 400
theorem door_met (os : Os) (args : Array Value) : laidMetH Tryz.prog Rows.fnExactEndorseRow.laid ((World.doorLaid Tryz.prog doorFuel os).forCall (fun _ _ => 0) ⟨#[], args, []⟩).memory :=
  laidMetH_of_parts3 (fuel := 8) (laidMet_of_run' 8 (by kernel_rfl) (by kernel_rfl)) (by kernel_rfl) (by kernel_rfl)

/-! The walk: the Go text returns true. -/
theorem walk (rr0 : qH5) (a1 : Option Addr) (len1 cap1 : Nat) (z1 : List qA5) (x2 : StI) (w : World) (w0 : qE7 w rr0 ∧ qL6 maxLen rr0) (w1 : QI9 w a1 len1 z1) (hE : qO1 0 w ∧ qE2 w) :
    Calls Tryz.prog 6 #[.agg #[.int .i64 rr0.i, .int .i64 rr0.u, .slice rr0.sa rr0.sn rr0.sc, .slice rr0.la rr0.ln rr0.lc], .slice a1 len1 cap1, .agg #[.int .i64 x2.k, .int .i64 x2.e, .int .i64 x2.f, .int .i64 x2.s, .int .i64 x2.n]] w fun e w' => e = .returned (.bool true) ∧ Below w.heap.size w w' := by
  exact Rl3_inner rr0 a1 len1 cap1 z1 x2 w w0 w1 hE

/-! The row's step. -/
set_option maxRecDepth 100000 in
theorem lifted (os : Os) (started : os.Started) (H : Type) (enc : TypeId × Value → H) :
    ReturnsInHanded {} Tryz.checked os 6 .any (fun w args => (Rows.fnExactEndorseSpec.pre enc Tryz.prog Tryz.f6 [] false w args ∧ laidMetH Tryz.prog Rows.fnExactEndorseRow.laid w) ∧ sizedMet enc Tryz.prog Tryz.f6 (OpenSpec.ofChange Rows.fnExactEndorseSpec) false w args) (Rows.fnExactEndorseSpec.post enc Tryz.prog Tryz.f6 false true false false) := by
  refine returnsInHanded_of_change_and (C := Tryz.checked) (X := fun w _ => laidMetH Tryz.prog Rows.fnExactEndorseRow.laid w) (fun _ _ _ hh h => h.of_heap hh) own started (by kernel_rfl) Tryz.func6
    (ChangeSpec.witness_shaped (enc := enc) (C := Tryz.checked) (os := os) (X := fun w _ => laidMetH Tryz.prog Rows.fnExactEndorseRow.laid w) false (World.doorLaid Tryz.prog doorFuel os) #[.agg #[.int .i64 0, .int .i64 0, .slice none 0 0, .slice none 0 0], .slice none 0 0, .agg #[.int .i64 0, .int .i64 0, .int .i64 0, .int .i64 0, .int .i64 0]] 8 rfl (World.shaped_of_RefB (by kernel_rfl) (by kernel_rfl)) (by kernel_rfl) (by kernel_rfl) (by kernel_rfl) (door_met os _)) ?_
  intro W base args ds gs before hval0 hW _ _ hL _
  have hval : ∀ (j : Nat) t v, Tryz.f6.params[j]? = some t → args[j]? = some v → Value.okWide Tryz.prog W .any base t v := hval0
  have hW' := hW
  obtain ⟨p, q, hA0, hV, rfl, hfz, hnd⟩ := hW
  have hA : DataW.TrodAll enc Tryz.prog W 0 (fun _ => true) true Tryz.f6.params.toList args.toList ds p := hA0
  rw [Tryz.params6] at hA hval
  obtain ⟨v0, vs0, d0, ds0, p0, q0, hargs, rfl, rfl, h0, r0⟩ := trodAll_cons hA
  obtain ⟨v1, vs1, d1, ds1, p1, q1, rfl, rfl, rfl, h1, r1⟩ := trodAll_cons r0
  obtain ⟨v2, vs2, d2, ds2, p2, q2, rfl, rfl, rfl, h2, r2⟩ := trodAll_cons r1
  obtain ⟨rfl, rfl, rfl⟩ := trodAll_nil r2
  obtain rfl : args = #[v0, v1, v2] := by cases args; simp_all
  have hV2 := hV
  obtain ⟨y0, rfl⟩ := vars_one hV
  obtain ⟨cs0, rfl, hs0⟩ := okWide_struct Tryz.underlying25 (hval 0 25 v0 rfl rfl)
  have k0 := h0
  have lt0 : ∀ x ∈ p0, x.block < W.heap.size := by obtain ⟨m, hm⟩ := k0; exact DataW.trod_lt m _ _ _ hm
  obtain ⟨rr0, rfl, w0⟩ : ∃ r : qH5, cs0 = #[.int .i64 r.i, .int .i64 r.u, .slice r.sa r.sn r.sc, .slice r.la r.ln r.lc] ∧ (qE7 W r ∧ qL6 maxLen r) := by
    obtain ⟨fuel, hf⟩ := h0
    exact rep_shape _ hf
  obtain ⟨a1, len1, cap1, rfl⟩ := okWide_slice Tryz.underlying26 (hval 1 26 v1 rfl rfl)
  have k1 := h1
  have lt1 : ∀ x ∈ p1, x.block < W.heap.size := by obtain ⟨m, hm⟩ := k1; exact DataW.trod_lt m _ _ _ hm
  obtain ⟨z1, w1⟩ : ∃ zs : List qA5, QI9 W a1 len1 zs := by
    obtain ⟨fuel, hf⟩ := h1
    exact QW0 hf
  obtain ⟨cs2, rfl, hs2⟩ := okWide_struct Tryz.underlying41 (hval 2 41 v2 rfl rfl)
  have k2 := h2
  have lt2 : ∀ x ∈ p2, x.block < W.heap.size := by obtain ⟨m, hm⟩ := k2; exact DataW.trod_lt m _ _ _ hm
  obtain ⟨x2, rfl⟩ : ∃ x : StI, cs2 = #[.int .i64 x.k, .int .i64 x.e, .int .i64 x.f, .int .i64 x.s, .int .i64 x.n] := by
    obtain ⟨fuel, hf⟩ := h2
    exact QJ7 _ hf
  clear hA0 hval0
  refine (walk rr0 a1 len1 cap1 z1 x2 W w0 w1 (take_vars hL)).mono fun e W' ⟨he, bel⟩ => ?_
  subst he
  exact ⟨_, rfl, _, _, _, [], _, _, hW', trodAll_mk1 (shut_bool Tryz.underlying4 _), (trodAll_cons_mk (Below.trod laidOut (by kernel_rfl) (of_decide_eq_true (by kernel_rfl)) k0 bel lt0) (trodAll_cons_mk (Below.trod laidOut (by kernel_rfl) (of_decide_eq_true (by kernel_rfl)) k1 bel lt1) (trodAll_cons_mk (Below.trod laidOut (by kernel_rfl) (of_decide_eq_true (by kernel_rfl)) k2 bel lt2) trodAll_mk0))), Below.trodVars laidOut bel (by kernel_rfl) hV2, bel.frame _, fun h => by cases h⟩

theorem over : Rows.fnExactEndorseRow.holds Tryz.pinned (OpenSpec.ofChange Rows.fnExactEndorseSpec) :=
  OpenClaim.holds_of_wide 6 Tryz.f6 rfl rfl rfl rfl rfl rfl rfl ⟨rfl, rfl, rfl, rfl, rfl⟩ rfl rfl rfl rfl rfl (by kernel_rfl) Tryz.func6 (by kernel_rfl)
    (of_decide_eq_true (by kernel_rfl)) (by unfold Func.isWrapper; first | (rw [if_pos (by decide +kernel)]; kernel_rfl) | (rw [if_neg (by decide +kernel)]; exact ⟨rfl, rfl⟩))
    (fun os started H enc _ => lifted os started H enc)

end Go.Proofs.YtlhgjackapdmbaaGreatDoor.fnExactEndorse
namespace Go.Proofs.YtlhgjackapdmbaaGreatDoor
theorem fnExactEndorse_holds : Rows.FnExactEndorseSaid := fnExactEndorse.over
#print axioms fnExactEndorse_holds
theorem fnExactEndorse_card : Rows.FnExactEndorseCardSaid :=
  Claim7.holds_tied_plain_at .later [] [.handle, .sentinel] true (true, "8161c2d9ed77c578833c1d7ef237f225ff3159d90848846a858cf232b3b4ff6e") true
    fnExactEndorse_holds (fun _ h => by cases h) (by kernel_rfl) (fun _ h => by cases h) fnExactEndorse_row_tie rfl ⟨rfl, rfl⟩ (by kernel_rfl) rfl
    (fun f fn hf hfn => by
      obtain rfl : f = 6 := Option.some.inj ((show Tryz.prog.funcNamed "loop.example/g00338/laws.FnExactEndorse" = some 6 by kernel_rfl).symm.trans hf) |>.symm
      obtain rfl : fn = Tryz.f6 := (Option.some.inj (Tryz.func6.symm.trans hfn)).symm
      exact ⟨by kernel_rfl, fun j t ht => by
        rw [Tryz.params6] at ht
        have hm : t ∈ [25, 26, 41] := by simpa using Array.mem_of_getElem? ht
        have hall : ([25, 26, 41].all fun u => !Tryz.prog.wantsStandIn u) = true := by kernel_rfl
        exact (show Tryz.prog.wantsStandIn t = false by simpa using List.all_eq_true.1 hall t hm)⟩)
    (by kernel_rfl)
#print axioms fnExactEndorse_card
end Go.Proofs.YtlhgjackapdmbaaGreatDoor
