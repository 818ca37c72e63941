/-
  PROVED: for every Statement the law laws.FnExactStatementText returns true, that is impl.StatementText answers as spec.StatementText there; the argument reads as it did. This is the tied card: the listed tables of the library are as the program's text lays them.
  Conditions: none beside those that the given row and card themselves bear. The frame is the shell written by program, turned for a struct and for the listed variables; the walk is ours.
-/
import Derived.Test.YtpeddanicenohaaDoorRows
import Derived.WalkKit
import Derived.ProofKit
import Derived.LaidMore
import Derived.Stop.Joined
import Derived.SevenTiedAt
import Derived.Test.YtpeddanicenohaaDoorTie
import Derived.Test.YtpeddanicenohaaDoorCards
import Derived.OpenShut
import Derived.ShutString
import Derived.ChangeOld
import Derived.Below
import Derived.Test.YtpeddanicenohaaDoorSt15
import Derived.Test.YtpeddanicenohaaDoorStA
import Derived.Test.YtpeddanicenohaaDoorSetText1
import Derived.Deep.CutBlock
namespace Go.Proofs.YtpeddanicenohaaDoor.fnExactStatementText
open Go.ChangeShapes Go.WideShapes Go.ChangeAt Go.RowKit
open Go.ChangeMaps (open_string shut_string)
set_option linter.unusedVariables false

theorem own : ownKnob Tryd.prog.godebug = none := by kernel_rfl
theorem laidOut : laidOutB Tryd.prog = true := by kernel_rfl

theorem st_old {w w' : World} {b : Nat} {x : StI} (h : StAt w b 0 x) (hb : Below w.heap.size w w') : StAt w' b 0 x := h.below hb (World.block_lt_of_cell? w ⟨b, 0, none⟩ h.1)

set_option maxRecDepth 20000 in
set_option maxHeartbeats 2000000 in
theorem inner (x : StI) (c : Int) (t : ByteArray) (w : World) (HS : Hid (∀ w : World, GivesX 26 x c t w)) (HI : Hid (∀ w : World, GivesX 28 x c t w)) :
    Calls Tryd.prog 5 #[.agg #[.int .i64 x.k, .int .i64 x.e, .int .i64 x.f, .int .i64 x.s, .int .i64 x.n]] w fun e w' => e = .returned (.bool true) ∧ Below w.heap.size w w' := by
  go_enter Tryd.func5, Tryd.ntmps5
  go_wp2_with fail
  refine (toStatement_c x _).mono ?_
  rintro e w1 ⟨rfl, hb1⟩
  have X1 : Hid (StAt w1 w.heap.size 0 x) := st_old (StAt.new w x _) hb1
  have B1 : Hid (Below w.heap.size w w1) := below_new hb1
  clear hb1
  go_wp2_with fail
  refine (HS.out _).mono ?_
  rintro e w2 ⟨rfl, hb2⟩
  have A2 : Below w2.heap.size w2 (w2.alloc (.cells #[.int .i64 c, .string t] 53)) := (Below.refl _ _).alloc (Nat.le_refl _) _
  have X3 : Hid (StAt (w2.alloc (.cells #[.int .i64 c, .string t] 53)) w.heap.size 0 x) := st_old (st_old X1.out hb2) A2
  have Y3 : Hid ((w2.alloc (.cells #[.int .i64 c, .string t] 53)).cell? ⟨w2.heap.size, 0, none⟩ = some (.int .i64 c) ∧ (w2.alloc (.cells #[.int .i64 c, .string t] 53)).cell? ⟨w2.heap.size, 1, none⟩ = some (.string t)) := ⟨by simp, by simp⟩
  have B3 : Hid (Below w.heap.size w (w2.alloc (.cells #[.int .i64 c, .string t] 53))) := (B1.out.trans (hb2.mono B1.out.size)).trans (A2.mono (by have := B1.out.size; have := hb2.size; omega))
  have hz3 : w2.heap.size < (w2.alloc (.cells #[.int .i64 c, .string t] 53)).heap.size := by simp
  clear hb2 A2 X1 B1
  go_upto_region 2 with fail
  generalize w2.alloc (.cells #[.int .i64 c, .string t] 53) = w3 at X3 Y3 B3 hz3 ⊢
  obtain ⟨x0, x1, x2, x3, x4⟩ := X3.out
  simp only [Nat.zero_add] at x0 x1 x2 x3 x4
  go_wp2_with fail
  refine (toStatement_c x _).mono ?_
  rintro e w4 ⟨rfl, hb4⟩
  have Y4 : Hid (w4.cell? ⟨w2.heap.size, 0, none⟩ = some (.int .i64 c) ∧ w4.cell? ⟨w2.heap.size, 1, none⟩ = some (.string t)) := ⟨(hb4.cell (p := ⟨w2.heap.size, 0, none⟩) hz3).trans Y3.out.1, (hb4.cell (p := ⟨w2.heap.size, 1, none⟩) hz3).trans Y3.out.2⟩
  have B4 : Hid (Below w.heap.size w w4) := B3.out.trans (hb4.mono B3.out.size)
  have hz4 : w2.heap.size < w4.heap.size := by have := hb4.size; omega
  clear hb4 Y3 B3 X3 x0 x1 x2 x3 x4
  go_wp2_with fail
  refine (HI.out _).mono ?_
  rintro e w5 ⟨rfl, hb5⟩
  have y0 := (hb5.cell (p := ⟨w2.heap.size, 0, none⟩) hz4).trans Y4.out.1
  have y1 := (hb5.cell (p := ⟨w2.heap.size, 1, none⟩) hz4).trans Y4.out.2
  have B5 : Hid (Below w.heap.size w w5) := B4.out.trans (hb5.mono B4.out.size)
  have hz5 : w2.heap.size < w5.heap.size := by have := hb5.size; omega
  clear hb5 Y4 B4
  go_wp2_with fail
  refine (eqText_same _ _ _).mono ?_
  rintro e w6 ⟨rfl, hb6⟩
  have B6 : Hid (Below w.heap.size w w6) := B5.out.trans ((below_new hb6).mono B5.out.size)
  clear hb6
  go_wp2
  go_ret
  exact ⟨rfl, B6.out⟩

/-! The listed variables: the program's own start meets the condition. -/
abbrev doorFuel : Nat := 400
theorem door_met (os : Os) (args : Array Value) : laidMetH Tryd.prog Rows.fnExactStatementTextRow.laid ((World.doorLaid Tryd.prog doorFuel os).forCall (fun _ _ => 0) ⟨#[], args, []⟩).memory :=
  laidMetH_of_parts3 (fuel := 8) (laidMet_of_run' 8 (by kernel_rfl) (by kernel_rfl)) (by kernel_rfl) (by kernel_rfl)

/-! The walk: the Go text returns true. -/
theorem walk (x0 : StI) (w : World)  :
    Calls Tryd.prog 5 #[.agg #[.int .i64 x0.k, .int .i64 x0.e, .int .i64 x0.f, .int .i64 x0.s, .int .i64 x0.n]] w fun e w' => e = .returned (.bool true) ∧ Below w.heap.size w w' := by
  by_cases hc : stCode x0 = 0
  · exact inner x0 0 _ w (fun w => specSText_ok x0 w hc) (fun w => implSText_ok x0 w hc)
  · exact inner x0 _ _ w (fun w => specSText_bad x0 _ w rfl hc) (fun w => implSText_bad x0 _ w rfl hc)

/-! The row's step. -/
set_option maxRecDepth 100000 in
theorem lifted (os : Os) (started : os.Started) (H : Type) (enc : TypeId × Value → H) :
    ReturnsInHanded {} Tryd.checked os 5 .any (fun w args => (Rows.fnExactStatementTextSpec.pre enc Tryd.prog Tryd.f5 [] false w args ∧ laidMetH Tryd.prog Rows.fnExactStatementTextRow.laid w) ∧ sizedMet enc Tryd.prog Tryd.f5 (OpenSpec.ofChange Rows.fnExactStatementTextSpec) false w args) (Rows.fnExactStatementTextSpec.post enc Tryd.prog Tryd.f5 false true false false) := by
  refine returnsInHanded_of_change_and (C := Tryd.checked) (X := fun w _ => laidMetH Tryd.prog Rows.fnExactStatementTextRow.laid w) (fun _ _ _ hh h => h.of_heap hh) own started (by kernel_rfl) Tryd.func5
    (ChangeSpec.witness_shaped (enc := enc) (C := Tryd.checked) (os := os) (X := fun w _ => laidMetH Tryd.prog Rows.fnExactStatementTextRow.laid w) false (World.doorLaid Tryd.prog doorFuel os) #[.agg #[.int .i64 0, .int .i64 0, .int .i64 0, .int .i64 0, .int .i64 0]] 8 rfl (World.shaped_of_RefB (by kernel_rfl) (by kernel_rfl)) (by kernel_rfl) (by kernel_rfl) (by kernel_rfl) (door_met os _)) ?_
  intro W base args ds gs before hval0 hW _ _ hL _
  have hval : ∀ (j : Nat) t v, Tryd.f5.params[j]? = some t → args[j]? = some v → Value.okWide Tryd.prog W .any base t v := hval0
  have hW' := hW
  obtain ⟨p, q, hA0, hV, rfl, hfz, hnd⟩ := hW
  have hA : DataW.TrodAll enc Tryd.prog W 0 (fun _ => true) true Tryd.f5.params.toList args.toList ds p := hA0
  rw [Tryd.params5] at hA hval
  obtain ⟨v0, vs0, d0, ds0, p0, q0, hargs, rfl, rfl, h0, r0⟩ := trodAll_cons hA
  obtain ⟨rfl, rfl, rfl⟩ := trodAll_nil r0
  obtain rfl : args = #[v0] := by cases args; simp_all
  obtain ⟨rfl, rfl⟩ := trodVars_none hV
  obtain ⟨cs0, rfl, hs0⟩ := okWide_struct Tryd.underlying51 (hval 0 51 v0 rfl rfl)
  have k0 := h0
  have lt0 : ∀ x ∈ p0, x.block < W.heap.size := by obtain ⟨m, hm⟩ := k0; exact DataW.trod_lt m _ _ _ hm
  obtain ⟨x0, rfl⟩ : ∃ x : StI, cs0 = #[.int .i64 x.k, .int .i64 x.e, .int .i64 x.f, .int .i64 x.s, .int .i64 x.n] := by
    obtain ⟨fuel, hf⟩ := h0
    exact statement_shape _ hf
  clear hA0 hval0
  refine (walk x0 W ).mono fun e W' ⟨he, bel⟩ => ?_
  subst he
  exact ⟨_, rfl, _, _, _, [], _, [], hW', trodAll_mk1 (shut_bool Tryd.underlying4 _), (trodAll_cons_mk (Below.trod laidOut (by kernel_rfl) (of_decide_eq_true (by kernel_rfl)) k0 bel lt0) trodAll_mk0), rfl, bel.frame _, fun h => by cases h⟩

theorem over : Rows.fnExactStatementTextRow.holds Tryd.pinned (OpenSpec.ofChange Rows.fnExactStatementTextSpec) :=
  OpenClaim.holds_of_wide 5 Tryd.f5 rfl rfl rfl rfl rfl rfl rfl ⟨rfl, rfl, rfl, rfl, rfl⟩ rfl rfl rfl rfl rfl (by kernel_rfl) Tryd.func5 (by kernel_rfl)
    (of_decide_eq_true (by kernel_rfl)) (by unfold Func.isWrapper; first | (rw [if_pos (by decide +kernel)]; kernel_rfl) | (rw [if_neg (by decide +kernel)]; exact ⟨rfl, rfl⟩))
    (fun os started H enc _ => lifted os started H enc)

end Go.Proofs.YtpeddanicenohaaDoor.fnExactStatementText
namespace Go.Proofs.YtpeddanicenohaaDoor
theorem fnExactStatementText_holds : Rows.FnExactStatementTextSaid := fnExactStatementText.over
#print axioms fnExactStatementText_holds
theorem fnExactStatementText_card : Rows.FnExactStatementTextCardSaid :=
  Claim7.holds_tied_plain_at .later [] [.data, .data, .data] true (true, "461d5dd8eb7c19f6ced4daf4962936bd8dd6d9e78c7e8ef2e6608b0580b27173") true
    fnExactStatementText_holds (fun _ h => by cases h) (by kernel_rfl) (fun _ h => by cases h) fnExactStatementText_row_tie rfl ⟨rfl, rfl⟩ (by kernel_rfl) rfl
    (fun f fn hf hfn => by
      obtain rfl : f = 5 := Option.some.inj ((show Tryd.prog.funcNamed "loop.example/g00338/laws.FnExactStatementText" = some 5 by kernel_rfl).symm.trans hf) |>.symm
      obtain rfl : fn = Tryd.f5 := (Option.some.inj (Tryd.func5.symm.trans hfn)).symm
      exact ⟨by kernel_rfl, fun j t ht => by
        rw [Tryd.params5] at ht
        have hm : t ∈ [51] := by simpa using Array.mem_of_getElem? ht
        have hall : ([51].all fun u => !Tryd.prog.wantsStandIn u) = true := by kernel_rfl
        exact (show Tryd.prog.wantsStandIn t = false by simpa using List.all_eq_true.1 hall t hm)⟩)
    (by kernel_rfl)
#print axioms fnExactStatementText_card
end Go.Proofs.YtpeddanicenohaaDoor
