/-
  PROVED: for every Rule the law laws.FnExactRuleText returns true, that is impl.RuleText answers as spec.RuleText there; the argument reads as it did. This is the tied card: the listed tables of the library are as the program's text lays them.
  Conditions: none beside those that the given row and card themselves bear. The frame is the shell written by program, turned for a struct and for the listed variables; the walk is ours.
-/
import Derived.Test.YtajdgbdpmmdlfaaDoorRows
import Derived.WalkKit
import Derived.ProofKit
import Derived.LaidMore
import Derived.Stop.Joined
import Derived.SevenTiedAt
import Derived.Test.YtajdgbdpmmdlfaaDoorTie
import Derived.Test.YtajdgbdpmmdlfaaDoorCards
import Derived.OpenShut
import Derived.ShutString
import Derived.ChangeOld
import Derived.Below
import Derived.Test.YtajdgbdpmmdlfaaDoorLine4
import Derived.Test.YtajdgbdpmmdlfaaDoorSetText1
import Derived.Test.YtajdgbdpmmdlfaaDoorArgs2
namespace Go.Proofs.YtajdgbdpmmdlfaaDoor.fnExactRuleText
open Go.ChangeShapes Go.WideShapes Go.ChangeAt Go.RowKit
open Go.ChangeMaps (open_string shut_string)
set_option linter.unusedVariables false

theorem own : ownKnob Tryd.prog.godebug = none := by kernel_rfl
theorem laidOut : laidOutB Tryd.prog = true := by kernel_rfl

set_option maxHeartbeats 400000 in
theorem inner (r : RuleI) (c : Int) (t : ByteArray) (w : World) (HS : Hid (∀ w : World, Calls Tryd.prog 28 #[.agg #[.int .i64 r.k, .int .i64 r.ho, .int .i64 r.hn, .int .i64 r.w, .int .i64 r.oo, .int .i64 r.on, .int .i64 r.to, .int .i64 r.tn]] w fun e w' => e = .returned (.agg #[.int .i64 c, .string t]) ∧ Below w.heap.size w w'))
    (HI : Hid (∀ w : World, Calls Tryd.prog 25 #[.agg #[.int .i64 r.k, .int .i64 r.ho, .int .i64 r.hn, .int .i64 r.w, .int .i64 r.oo, .int .i64 r.on, .int .i64 r.to, .int .i64 r.tn]] w fun e w' => e = .returned (.agg #[.int .i64 c, .string t]) ∧ Below w.heap.size w w')) :
    Calls Tryd.prog 8 #[.agg #[.int .i64 r.k, .int .i64 r.ho, .int .i64 r.hn, .int .i64 r.w, .int .i64 r.oo, .int .i64 r.on, .int .i64 r.to, .int .i64 r.tn]] w fun e w' => e = .returned (.bool true) ∧ Below w.heap.size w w' := by
  go_enter Tryd.func8, Tryd.ntmps8
  go_wp2_with fail
  refine (toRule_c r _).mono ?_
  rintro e w1 ⟨rfl, hb1⟩
  have X1 : Hid (RuleAt w1 w.heap.size 0 r) := (RuleAt.new w r _).below hb1
  go_wp2_with fail
  refine (HS.out _).mono ?_
  rintro e w2 ⟨rfl, hb2⟩
  have X2 : Hid (RuleAt (w2.alloc (.cells #[.int .i64 c, .string t] 29)) w.heap.size 0 r) := (X1.out.below hb2).below ((Below.refl _ _).alloc (Nat.le_refl _) _)
  obtain ⟨x0, x1, x2, x3, x4, x5, x6, x7⟩ := X2.out
  simp only [Nat.zero_add] at x0 x1 x2 x3 x4 x5 x6 x7
  go_wp2_with fail
  refine (toRule_c r _).mono ?_
  rintro e w3 ⟨rfl, hb3⟩
  obtain ⟨hc3, hf3⟩ := bcell hb3
  have hz3 := hb3.size
  simp only [World.size_alloc] at hc3 hf3 hz3
  clear x0 x1 x2 x3 x4 x5 x6 x7
  go_wp2_with fail
  refine (HI.out _).mono ?_
  rintro e w4 ⟨rfl, hb4⟩
  obtain ⟨hc4, hf4⟩ := bcell hb4
  have hz4 := hb4.size
  have hlt3 : w2.heap.size < w3.heap.size := by omega
  have hlt4 : w2.heap.size < w4.heap.size := by omega
  have y0 : w4.cell? ⟨w2.heap.size, 0, none⟩ = some (.int .i64 c) := (hc4 _ _ hlt3).trans ((hc3 _ _ (by omega)).trans (by go_cell))
  have y1 : w4.cell? ⟨w2.heap.size, 1, none⟩ = some (.string t) := (hc4 _ _ hlt3).trans ((hc3 _ _ (by omega)).trans (by go_cell))
  clear hc3 hf3 hc4 hf4
  go_wp2_with fail
  refine (eqText_same _ _ _).mono ?_
  rintro e w5 ⟨rfl, hb5⟩
  go_wp2
  go_ret
  have hz1 := hb1.size
  have hz2 := hb2.size
  simp only [World.size_alloc] at hz1
  have B2 : Below w.heap.size w w2 := (below_new hb1).trans (hb2.mono (by omega))
  have B4 : Below w.heap.size w w4 := ((B2.alloc (by omega) _).trans (hb3.mono (by simp; omega))).trans (hb4.mono (by omega))
  exact ⟨rfl, (B4.alloc (by omega) _).trans (hb5.mono (by simp; omega))⟩

/-! The listed variables: the program's own start meets the condition. -/
abbrev doorFuel : Nat := 400
theorem door_met (os : Os) (args : Array Value) : laidMetH Tryd.prog Rows.fnExactRuleTextRow.laid ((World.doorLaid Tryd.prog doorFuel os).forCall (fun _ _ => 0) ⟨#[], args, []⟩).memory :=
  laidMetH_of_parts3 (fuel := 8) (laidMet_of_run' 8 (by kernel_rfl) (by kernel_rfl)) (by kernel_rfl) (by kernel_rfl)

/-! The walk: the Go text returns true. -/
theorem walk (r : RuleI) (w : World) :
    Calls Tryd.prog 8 #[.agg #[.int .i64 r.k, .int .i64 r.ho, .int .i64 r.hn, .int .i64 r.w, .int .i64 r.oo, .int .i64 r.on, .int .i64 r.to, .int .i64 r.tn]] w fun e w' => e = .returned (.bool true) ∧ Below w.heap.size w w' := by
  by_cases h : ruleCode r = 0
  · exact inner r 0 _ w (specRuleText_in r h) (implRuleText_in r h)
  · exact inner r _ _ w (specRuleText_out r _ rfl h) (implRuleText_out r _ rfl h)

/-! The row's step. -/
set_option maxRecDepth 100000 in
theorem lifted (os : Os) (started : os.Started) (H : Type) (enc : TypeId × Value → H) :
    ReturnsInHanded {} Tryd.checked os 8 .any (fun w args => (Rows.fnExactRuleTextSpec.pre enc Tryd.prog Tryd.f8 [] false w args ∧ laidMetH Tryd.prog Rows.fnExactRuleTextRow.laid w) ∧ sizedMet enc Tryd.prog Tryd.f8 (OpenSpec.ofChange Rows.fnExactRuleTextSpec) false w args) (Rows.fnExactRuleTextSpec.post enc Tryd.prog Tryd.f8 false true false false) := by
  refine returnsInHanded_of_change_and (C := Tryd.checked) (X := fun w _ => laidMetH Tryd.prog Rows.fnExactRuleTextRow.laid w) (fun _ _ _ hh h => h.of_heap hh) own started (by kernel_rfl) Tryd.func8
    (ChangeSpec.witness_shaped (enc := enc) (C := Tryd.checked) (os := os) (X := fun w _ => laidMetH Tryd.prog Rows.fnExactRuleTextRow.laid w) false (World.doorLaid Tryd.prog doorFuel os) #[.agg #[.int .i64 0, .int .i64 0, .int .i64 0, .int .i64 0, .int .i64 0, .int .i64 0, .int .i64 0, .int .i64 0]] 8 rfl (World.shaped_of_RefB (by kernel_rfl) (by kernel_rfl)) (by kernel_rfl) (by kernel_rfl) (by kernel_rfl) (door_met os _)) ?_
  intro W base args ds gs before hval0 hW _ _ hL _
  have hval : ∀ (j : Nat) t v, Tryd.f8.params[j]? = some t → args[j]? = some v → Value.okWide Tryd.prog W .any base t v := hval0
  have hW' := hW
  obtain ⟨p, q, hA0, hV, rfl, hfz, hnd⟩ := hW
  have hA : DataW.TrodAll enc Tryd.prog W 0 (fun _ => true) true Tryd.f8.params.toList args.toList ds p := hA0
  rw [Tryd.params8] at hA hval
  obtain ⟨v0, vs0, d0, ds0, p0, q0, hargs, rfl, rfl, h0, r0⟩ := trodAll_cons hA
  obtain ⟨rfl, rfl, rfl⟩ := trodAll_nil r0
  obtain rfl : args = #[v0] := by cases args; simp_all
  obtain ⟨rfl, rfl⟩ := trodVars_none hV
  obtain ⟨cs0, rfl, hs0⟩ := okWide_struct Tryd.underlying61 (hval 0 61 v0 rfl rfl)
  have k0 := h0
  have lt0 : ∀ x ∈ p0, x.block < W.heap.size := by obtain ⟨m, hm⟩ := k0; exact DataW.trod_lt m _ _ _ hm
  obtain ⟨r, rfl⟩ : ∃ r : RuleI, cs0 = #[.int .i64 r.k, .int .i64 r.ho, .int .i64 r.hn, .int .i64 r.w, .int .i64 r.oo, .int .i64 r.on, .int .i64 r.to, .int .i64 r.tn] := by
    obtain ⟨fuel, hf⟩ := h0
    exact rule_shape _ hf
  clear hA0 hval0
  refine (walk r W).mono fun e W' ⟨he, bel⟩ => ?_
  subst he
  exact ⟨_, rfl, _, _, _, [], _, [], hW', trodAll_mk1 (shut_bool Tryd.underlying4 _), (trodAll_cons_mk (Below.trod laidOut (by kernel_rfl) (of_decide_eq_true (by kernel_rfl)) k0 bel lt0) trodAll_mk0), rfl, bel.frame _, fun h => by cases h⟩

theorem over : Rows.fnExactRuleTextRow.holds Tryd.pinned (OpenSpec.ofChange Rows.fnExactRuleTextSpec) :=
  OpenClaim.holds_of_wide 8 Tryd.f8 rfl rfl rfl rfl rfl rfl rfl ⟨rfl, rfl, rfl, rfl, rfl⟩ rfl rfl rfl rfl rfl (by kernel_rfl) Tryd.func8 (by kernel_rfl)
    (of_decide_eq_true (by kernel_rfl)) (by unfold Func.isWrapper; first | (rw [if_pos (by decide +kernel)]; kernel_rfl) | (rw [if_neg (by decide +kernel)]; exact ⟨rfl, rfl⟩))
    (fun os started H enc _ => lifted os started H enc)

end Go.Proofs.YtajdgbdpmmdlfaaDoor.fnExactRuleText
namespace Go.Proofs.YtajdgbdpmmdlfaaDoor
theorem fnExactRuleText_holds : Rows.FnExactRuleTextSaid := fnExactRuleText.over
#print axioms fnExactRuleText_holds
theorem fnExactRuleText_card : Rows.FnExactRuleTextCardSaid :=
  Claim7.holds_tied_plain_at .later [] [.data, .data, .data] true (true, "fdd0c5d94b31a231811ca6c417b4ca1272840f982e2bcdfffd3bc2125327f53a") true
    fnExactRuleText_holds (fun _ h => by cases h) (by kernel_rfl) (fun _ h => by cases h) fnExactRuleText_row_tie rfl ⟨rfl, rfl⟩ (by kernel_rfl) rfl
    (fun f fn hf hfn => by
      obtain rfl : f = 8 := Option.some.inj ((show Tryd.prog.funcNamed "loop.example/g00338/laws.FnExactRuleText" = some 8 by kernel_rfl).symm.trans hf) |>.symm
      obtain rfl : fn = Tryd.f8 := (Option.some.inj (Tryd.func8.symm.trans hfn)).symm
      exact ⟨by kernel_rfl, fun j t ht => by
        rw [Tryd.params8] at ht
        have hm : t ∈ [61] := by simpa using Array.mem_of_getElem? ht
        have hall : ([61].all fun u => !Tryd.prog.wantsStandIn u) = true := by kernel_rfl
        exact (show Tryd.prog.wantsStandIn t = false by simpa using List.all_eq_true.1 hall t hm)⟩)
    (by kernel_rfl)
#print axioms fnExactRuleText_card
end Go.Proofs.YtajdgbdpmmdlfaaDoor
