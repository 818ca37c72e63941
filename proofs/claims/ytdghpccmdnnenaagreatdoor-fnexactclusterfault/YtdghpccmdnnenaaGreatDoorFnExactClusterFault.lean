/-
  PROVED: for every cluster the law laws.FnExactClusterFault returns true, that is impl.ClusterFault answers as spec.ClusterFault there (up to 1<<20 elements in all, as the law itself says) and writes nothing into its argument; the argument and the variables read as they did.
  Conditions: none beside those that the given row and card themselves bear. The frame is the shell written by program, turned for a cluster and the listed variables; the walk is ours.
-/
import Derived.Test.YtdghpccmdnnenaaGreatDoorRows
import Derived.LaidMore
import Derived.Stop.Joined
import Derived.SevenTiedAt
import Derived.Test.YtdghpccmdnnenaaGreatDoorTie
import Derived.Test.YtdghpccmdnnenaaGreatDoorCards
import Derived.ShutString
import Derived.ChangeOld
import Derived.Test.YtdghpccmdnnenaaGreatDoorPx48
import Derived.Test.YtdghpccmdnnenaaGreatDoorPx51
import Derived.Test.YtdghpccmdnnenaaGreatDoorPx52
namespace Go.Proofs.YtdghpccmdnnenaaGreatDoor.fnExactClusterFault
open Go.ChangeShapes Go.WideShapes Go.ChangeAt Go.RowKit
open Go.ChangeMaps (open_string shut_string)
set_option linter.unusedVariables false

theorem own : ownKnob Tryz.prog.godebug = none := by kernel_rfl
theorem laidOut : laidOutB Tryz.prog = true := by kernel_rfl

theorem take_vars {W : World} (h : laidMetH Tryz.prog Rows.fnExactClusterFaultRow.laid W) : qM4 0 W ∧ qD9 W := by
  have h' : laidMet Tryz.prog [("loop.example/g00338/impl.errManyLocks", Rows.laid_loop_example_g00338_impl_errManyLocks)] W ∧ handlesMet Tryz.prog [("errors.errorType", Rows.laid_errors_errorType)] W := h
  exact ⟨qNF h'.1, qIc (List.mem_singleton.2 rfl) h'.2⟩

/-! The listed variables: the program's own start meets the condition. -/
abbrev doorFuel : Nat := 400
theorem door_met (os : Os) (args : Array Value) : laidMetH Tryz.prog Rows.fnExactClusterFaultRow.laid ((World.doorLaid Tryz.prog doorFuel os).forCall (fun _ _ => 0) ⟨#[], args, []⟩).memory :=
  laidMetH_of_parts3 (fuel := 8) (laidMet_of_run' 8 (by kernel_rfl) (by kernel_rfl)) (by kernel_rfl) (by kernel_rfl)

/-! The walk: the Go text returns true. -/
theorem walk (kc0 : ClI) (w : World) (w0 : qCR w kc0 ∧ qLG maxLen kc0) (hE : qM4 0 w ∧ qD9 w) :
    Calls Tryz.prog 3 #[.agg #[.slice kc0.ca kc0.cn kc0.cc, .slice kc0.ba kc0.bn kc0.bc, .slice kc0.ra kc0.rn kc0.rc, .slice kc0.za kc0.zn kc0.zc]] w fun e w' => e = .returned (.bool true) ∧ Below w.heap.size w w' := by
  exact QL2 kc0 w w0 hE

/-! The row's step. -/
set_option maxRecDepth 100000 in
theorem lifted (os : Os) (started : os.Started) (H : Type) (enc : TypeId × Value → H) :
    ReturnsInHanded {} Tryz.checked os 3 .any (fun w args => (Rows.fnExactClusterFaultSpec.pre enc Tryz.prog Tryz.f3 [] false w args ∧ laidMetH Tryz.prog Rows.fnExactClusterFaultRow.laid w) ∧ sizedMet enc Tryz.prog Tryz.f3 (OpenSpec.ofChange Rows.fnExactClusterFaultSpec) false w args) (Rows.fnExactClusterFaultSpec.post enc Tryz.prog Tryz.f3 false true false false) := by
  refine returnsInHanded_of_change_and (C := Tryz.checked) (X := fun w _ => laidMetH Tryz.prog Rows.fnExactClusterFaultRow.laid w) (fun _ _ _ hh h => h.of_heap hh) own started (by kernel_rfl) Tryz.func3
    (ChangeSpec.witness_shaped (enc := enc) (C := Tryz.checked) (os := os) (X := fun w _ => laidMetH Tryz.prog Rows.fnExactClusterFaultRow.laid w) false (World.doorLaid Tryz.prog doorFuel os) #[.agg #[.slice none 0 0, .slice none 0 0, .slice none 0 0, .slice none 0 0]] 8 rfl (World.shaped_of_RefB (by kernel_rfl) (by kernel_rfl)) (by kernel_rfl) (by kernel_rfl) (by kernel_rfl) (door_met os _)) ?_
  intro W base args ds gs before hval0 hW _ _ hL _
  have hval : ∀ (j : Nat) t v, Tryz.f3.params[j]? = some t → args[j]? = some v → Value.okWide Tryz.prog W .any base t v := hval0
  have hW' := hW
  obtain ⟨p, q, hA0, hV, rfl, hfz, hnd⟩ := hW
  have hA : DataW.TrodAll enc Tryz.prog W 0 (fun _ => true) true Tryz.f3.params.toList args.toList ds p := hA0
  rw [Tryz.params3] at hA hval
  obtain ⟨v0, vs0, d0, ds0, p0, q0, hargs, rfl, rfl, h0, r0⟩ := trodAll_cons hA
  obtain ⟨rfl, rfl, rfl⟩ := trodAll_nil r0
  obtain rfl : args = #[v0] := by cases args; simp_all
  have hV2 := hV
  obtain ⟨y0, rfl⟩ := qJQ hV
  obtain ⟨cs0, rfl, hs0⟩ := okWide_struct Tryz.underlying27 (hval 0 27 v0 rfl rfl)
  have k0 := h0
  have lt0 : ∀ x ∈ p0, x.block < W.heap.size := by obtain ⟨m, hm⟩ := k0; exact DataW.trod_lt m _ _ _ hm
  obtain ⟨kc0, rfl, w0⟩ : ∃ r : ClI, cs0 = #[.slice r.ca r.cn r.cc, .slice r.ba r.bn r.bc, .slice r.ra r.rn r.rc, .slice r.za r.zn r.zc] ∧ (qCR W r ∧ qLG maxLen r) := by
    obtain ⟨fuel, hf⟩ := h0
    exact qAb _ hf
  clear hA0 hval0
  refine (walk kc0 W w0 (take_vars hL)).mono fun e W' ⟨he, bel⟩ => ?_
  subst he
  exact ⟨_, rfl, _, _, _, [], _, _, hW', trodAll_mk1 (shut_bool Tryz.underlying4 _), (trodAll_cons_mk (Below.trod laidOut (by kernel_rfl) (of_decide_eq_true (by kernel_rfl)) k0 bel lt0) trodAll_mk0), Below.trodVars laidOut bel (by kernel_rfl) hV2, bel.frame _, fun h => by cases h⟩

theorem and2 {a b : Bool} (h : a = true) (h' : b = true) : (a && b) = true := by rw [h, h']; rfl

theorem jf0 : Rows.fnExactClusterFaultRow.wf (OpenSpec.ofChange Rows.fnExactClusterFaultSpec) = true := by kernel_rfl

theorem jf1 : laidOutB Tryz.pinned.checked.prog = true := laidOut

theorem jf2 : mapsRowed Tryz.pinned.checked.prog = true := by kernel_rfl

theorem jf3 : Tryz.f3.params.all (Tryz.pinned.checked.prog.readableRec ·) = true := by kernel_rfl

theorem jf4 : namedTie Tryz.pinned.checked.prog Rows.fnExactClusterFaultRow.named Rows.fnExactClusterFaultSpec.vars = true := by kernel_rfl

theorem jf5 : (Rows.fnExactClusterFaultRow.stops == []) = true := by kernel_rfl

theorem jf6 : (Tryz.pinned.checked.prog.stops == []) = true := by kernel_rfl

theorem jf7 : (Rows.fnExactClusterFaultRow.knobs == []) = true := by kernel_rfl

theorem jf8 : (Tryz.pinned.checked.prog.stopKnobs == []) = true := by kernel_rfl

theorem jf9 : (Rows.fnExactClusterFaultRow.inPlace == Tryz.pinned.checked.prog.inPlace 3) = true := by kernel_rfl

theorem jf10 : (Rows.fnExactClusterFaultRow.unfollowed == Tryz.pinned.checked.prog.unfollowed 3) = true := by kernel_rfl

theorem jf11 : (Rows.fnExactClusterFaultRow.recurses == Tryz.pinned.checked.prog.recurses 3) = true := by kernel_rfl

theorem jf12 : (Rows.fnExactClusterFaultRow.named == Tryz.pinned.checked.prog.varsNamed 3) = true := by kernel_rfl

theorem jf13 : (Rows.fnExactClusterFaultRow.maps == (Tryz.f3.params.toList ++ Rows.fnExactClusterFaultSpec.plain.varTypes Tryz.pinned.checked.prog).any (Tryz.pinned.checked.prog.mapsRec ·)) = true := by kernel_rfl

theorem jf14 : (Rows.fnExactClusterFaultRow.ifaces == (Tryz.f3.params.toList ++ Rows.fnExactClusterFaultSpec.plain.varTypes Tryz.pinned.checked.prog).any (Tryz.pinned.checked.prog.ifacesRec ·)) = true := by kernel_rfl

theorem jf15 : (Rows.fnExactClusterFaultRow.mapsOut == Tryz.pinned.checked.prog.mapsAmong Tryz.f3.resultTypes.toList) = true := by kernel_rfl

theorem jf16 : (Rows.fnExactClusterFaultRow.loops == (Tryz.f3.params.toList ++ Rows.fnExactClusterFaultSpec.plain.varTypes Tryz.pinned.checked.prog).any (Tryz.pinned.checked.prog.loopsFrom ·)) = true := by kernel_rfl

theorem jf17 : (Rows.fnExactClusterFaultRow.wideKeys == (Tryz.f3.params.toList ++ Rows.fnExactClusterFaultSpec.plain.varTypes Tryz.pinned.checked.prog ++ Tryz.f3.resultTypes.toList).any (Tryz.pinned.checked.prog.wideKeysFrom ·)) = true := by kernel_rfl

theorem jf18 : Rows.fnExactClusterFaultSpec.vars.all (Tryz.pinned.checked.prog.varReadable ·) = true := by kernel_rfl

theorem jf19 : Tryz.f3.resultTypes.all (fun t => Tryz.pinned.checked.prog.readableRec t && decide (t < Tryz.pinned.checked.prog.types.size)) = true := by kernel_rfl

theorem jf20 : (Rows.fnExactClusterFaultRow.ifacesOut == Tryz.f3.resultTypes.toList.any (Tryz.pinned.checked.prog.ifacesRec ·)) = true := by kernel_rfl

theorem jf21 : (Rows.fnExactClusterFaultRow.loopsOut == Tryz.f3.resultTypes.toList.any (Tryz.pinned.checked.prog.loopsFrom ·)) = true := by kernel_rfl

theorem jf22 : (Rows.fnExactClusterFaultRow.plainKeys == Tryz.pinned.checked.prog.plainKeys) = true := by kernel_rfl

theorem jf23 : Rows.fnExactClusterFaultRow.shortTexts.isNone = true := by kernel_rfl

theorem jf24 : Tryz.pinned.checked.prog.stopsHeard = true := by kernel_rfl

theorem jf25 : Tryz.pinned.checked.prog.mayEnter = true := by kernel_rfl

theorem jf26 : (Rows.fnExactClusterFaultRow.lifted == Tryz.pinned.checked.prog.liftsFinal) = true := by kernel_rfl

theorem jf27 : (Tryz.pinned.checked.prog.make == some Rows.fnExactClusterFaultRow.make) = true := by kernel_rfl

theorem jf28 (X : List (Option IntKind)) : (Rows.fnExactClusterFaultRow.kinds == (if Rows.fnExactClusterFaultRow.domain.isEmpty then [] else X)) = true := rfl

theorem jf29 : (Rows.fnExactClusterFaultRow.pinned == Rows.fnExactClusterFaultRow.pinnedBy) = true := by kernel_rfl

theorem jf30 : (Rows.fnExactClusterFaultRow.veiled == (Tryz.f3.params.toList ++ Rows.fnExactClusterFaultSpec.plain.varTypes Tryz.pinned.checked.prog ++ Tryz.f3.resultTypes.toList).any (Tryz.pinned.checked.prog.veiledRec ·)) = true := by kernel_rfl

theorem jf31 : Rows.fnExactClusterFaultRow.veiledFits Tryz.pinned.checked.prog Tryz.f3.params.toList (Tryz.f3.params.toList ++ Rows.fnExactClusterFaultSpec.plain.varTypes Tryz.pinned.checked.prog ++ Tryz.f3.resultTypes.toList) = true := by kernel_rfl

theorem jfn : Tryz.pinned.checked.prog.funcNamed Rows.fnExactClusterFaultRow.func = some 3 := by kernel_rfl

theorem jf : joinedFacts Tryz.pinned.checked.prog 3 Tryz.f3 Rows.fnExactClusterFaultSpec Rows.fnExactClusterFaultRow = true := by
  unfold joinedFacts
  exact and2 (and2 (and2 (and2 (and2 (and2 (and2 (and2 (and2 (and2 (and2 (and2 (and2 (and2 (and2 (and2 (and2 (and2 (and2 (and2 (and2 (and2 (and2 (and2 (and2 (and2 (and2 (and2 (and2 (and2 (and2 jf0 jf1) jf2) jf3) jf4) jf5) jf6) jf7) jf8) jf9) jf10) jf11) jf12) jf13) jf14) jf15) jf16) jf17) jf18) jf19) jf20) jf21) jf22) jf23) jf24) jf25) jf26) jf27) (jf28 _)) jf29) jf30) jf31

theorem over : Rows.fnExactClusterFaultRow.holds Tryz.pinned (OpenSpec.ofChange Rows.fnExactClusterFaultSpec) :=
  OpenClaim.holds_of_wide 3 Tryz.f3 rfl rfl rfl rfl rfl rfl rfl ⟨rfl, rfl, rfl, rfl, rfl⟩ rfl rfl rfl rfl rfl jfn Tryz.func3 jf
    (of_decide_eq_true (by kernel_rfl)) (by unfold Func.isWrapper; first | (rw [if_pos (by decide +kernel)]; kernel_rfl) | (rw [if_neg (by decide +kernel)]; exact ⟨rfl, rfl⟩))
    (fun os started H enc _ => lifted os started H enc)

end Go.Proofs.YtdghpccmdnnenaaGreatDoor.fnExactClusterFault
namespace Go.Proofs.YtdghpccmdnnenaaGreatDoor
theorem fnExactClusterFault_holds : Rows.FnExactClusterFaultSaid := fnExactClusterFault.over
#print axioms fnExactClusterFault_holds
theorem fnExactClusterFault_main : Tryz.pinned.checked.prog.mainIs = some (true, "d2e325f2245a79fd8f6e9c5358e79e3c494893115a323555035d47cfeceedd4e".toList) := by kernel_rfl

theorem fnExactClusterFault_goes : false = Rows.fnExactClusterFaultRow.goesBy Tryz.pinned.checked.prog := by kernel_rfl

theorem fnExactClusterFault_looks : true = Tryz.pinned.checked.prog.looks [] := by kernel_rfl

theorem fnExactClusterFault_card : Rows.FnExactClusterFaultCardSaid :=
  Claim7.holds_tied_plain_at .later [] [.handle, .sentinel] true (true, "d2e325f2245a79fd8f6e9c5358e79e3c494893115a323555035d47cfeceedd4e") true
    fnExactClusterFault_holds (fun _ h => by cases h) (by kernel_rfl) (fun _ h => by cases h) fnExactClusterFault_row_tie rfl ⟨rfl, rfl⟩ fnExactClusterFault_main rfl
    (fun f fn hf hfn => by
      obtain rfl : f = 3 := Option.some.inj ((fnExactClusterFault.jfn).symm.trans hf) |>.symm
      obtain rfl : fn = Tryz.f3 := (Option.some.inj (Tryz.func3.symm.trans hfn)).symm
      exact ⟨fnExactClusterFault_looks, fun j t ht => by
        rw [Tryz.params3] at ht
        have hm : t ∈ [27] := by simpa using Array.mem_of_getElem? ht
        have hall : ([27].all fun u => !Tryz.prog.wantsStandIn u) = true := by kernel_rfl
        exact (show Tryz.prog.wantsStandIn t = false by simpa using List.all_eq_true.1 hall t hm)⟩)
    fnExactClusterFault_goes
#print axioms fnExactClusterFault_card
end Go.Proofs.YtdghpccmdnnenaaGreatDoor
