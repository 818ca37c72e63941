/-
  PROVED: for every slice of parts the law laws.FnExactPartText returns true, that is impl.PartText answers as spec.PartText there (up to 1<<20 parts, as the law itself says) and writes nothing into its argument; the argument reads as it did. This is the tied card: the listed tables of the library are as the program's text lays them.
  Conditions: none beside those that the given row and card themselves bear. The frame is the shell written by program, turned for a slice of structs and for the listed variables; the walk is ours.
-/
import Derived.Test.YtnmidppiakdanaaDoorRows
import Derived.WalkKit
import Derived.ProofKit
import Derived.LaidMore
import Derived.Stop.Joined
import Derived.SevenTiedAt
import Derived.Test.YtnmidppiakdanaaDoorTie
import Derived.Test.YtnmidppiakdanaaDoorCards
import Derived.OpenShut
import Derived.ShutString
import Derived.ChangeOld
import Derived.Below
import Derived.Test.YtnmidppiakdanaaDoorPx4
import Derived.Test.YtnmidppiakdanaaDoorArgs4
namespace Go.Proofs.YtnmidppiakdanaaDoor.fnExactPartText
open Go.ChangeShapes Go.WideShapes Go.ChangeAt Go.RowKit
open Go.ChangeMaps (open_string shut_string)
set_option linter.unusedVariables false

theorem own : ownKnob Tryd.prog.godebug = none := by kernel_rfl
theorem laidOut : laidOutB Tryd.prog = true := by kernel_rfl

set_option maxHeartbeats 1000000 in
theorem inner (a0 : Option Addr) (len cap : Nat) (zs : List PartI) (w : World) (hl : len ≤ 1048576) (hr : PartsIn w a0 len zs) :
    Calls Tryd.prog 3 #[.slice a0 len cap] w fun e w' => e = .returned (.bool true) ∧ Below w.heap.size w w' := by
  have hl' : (len : Int) ≤ 1048576 := by omega
  have HR : Hid (PartsIn w a0 len zs) := hr
  have HZ : Hid (zs.length = len) := hr.1
  clear hr
  obtain ⟨c, t, hS, hI⟩ := partText_both len zs (by unfold maxLen; omega)
  have HSP : Hid (∀ (a : Option Addr) (cap : Nat) (w : World), PartsIn w a len zs → GivesT 5 a len cap c t w) := hS
  have HIM : Hid (∀ (a : Option Addr) (cap : Nat) (w : World), PartsIn w a len zs → GivesT 7 a len cap c t w) := hI
  clear hS hI
  go_enter Tryd.func3, Tryd.ntmps3
  go_wp2_with (first | (go_at_call 4; go_in) | fail)
  refine (toParts_c a0 len cap zs _ hl HR.out).mono ?_
  rintro e w1 ⟨rfl, hat1, hlt1, hb1⟩
  have HA1 : Hid (PartsAt w1 w.heap.size 0 zs) := hat1
  clear hat1
  go_wp2_with fail
  refine (HSP.out _ _ _ (PartsIn.of HZ.out HA1.out)).mono ?_
  rintro e w2 ⟨rfl, hb2⟩
  have hz1 := hb1.size
  have hb12 : Below w.heap.size w w2 := hb1.trans (hb2.mono hz1)
  have HA2 : Hid (Below w2.heap.size w2 (w2.alloc (.cells #[.int .i64 c, .string t] 25))) := (Below.refl _ _).alloc (Nat.le_refl _) _
  have HR2 : Hid (PartsIn (w2.alloc (.cells #[.int .i64 c, .string t] 25)) a0 len zs) := (HR.out.below hb12).below HA2.out
  go_wp2_with fail
  refine (toParts_c a0 len cap zs _ hl HR2.out).mono ?_
  rintro e w3 ⟨rfl, hat3, hlt3, hb3⟩
  simp only [World.size_alloc] at hat3 hlt3
  have HA3 : Hid (PartsAt w3 (w2.heap.size + 1) 0 zs) := hat3
  have y0 : w3.cell? ⟨w2.heap.size, 0, none⟩ = some (.int .i64 c) := (hb3.cell (p := ⟨w2.heap.size, 0, none⟩) (by simp)).trans (by simp)
  have y1 : w3.cell? ⟨w2.heap.size, 1, none⟩ = some (.string t) := (hb3.cell (p := ⟨w2.heap.size, 1, none⟩) (by simp)).trans (by simp)
  have HY : Hid (w3.cell? ⟨w2.heap.size, 0, none⟩ = some (.int .i64 c) ∧ w3.cell? ⟨w2.heap.size, 1, none⟩ = some (.string t)) := ⟨y0, y1⟩
  have HR3 : Hid (PartsIn w3 a0 len zs) := HR2.out.below hb3
  clear hat3 y0 y1
  have hlt3' : w2.heap.size < w3.heap.size := by omega
  go_wp2_with fail
  refine (HIM.out _ _ _ (PartsIn.of HZ.out HA3.out)).mono ?_
  rintro e w4 ⟨rfl, hb4⟩
  have hz2 := hb2.size
  have hz3 := hb3.size
  have hz4 := hb4.size
  simp only [World.size_alloc] at hz3
  have y0 : w4.cell? ⟨w2.heap.size, 0, none⟩ = some (.int .i64 c) := (hb4.cell (p := ⟨w2.heap.size, 0, none⟩) hlt3').trans HY.out.1
  have y1 : w4.cell? ⟨w2.heap.size, 1, none⟩ = some (.string t) := (hb4.cell (p := ⟨w2.heap.size, 1, none⟩) hlt3').trans HY.out.2
  have hlt4 : w2.heap.size < w4.heap.size := by omega
  have HA4 : Hid (PartsAt w4 (w2.heap.size + 1) 0 zs) := HA3.out.below hb4
  have HR4 : Hid (PartsIn w4 a0 len zs) := HR3.out.below hb4
  have B4 : Below w.heap.size w w4 := ((hb12.trans (HA2.out.mono hb12.size)).trans (hb3.mono (by simp; omega))).trans (hb4.mono (by omega))
  clear hb3 hb4
  go_wp2_with fail
  refine (eqText_same _ _ _).mono ?_
  rintro e w5 ⟨rfl, hb5⟩
  have B5' : Below w4.heap.size w4 w5 := below_new hb5
  have B5 : Below w.heap.size w w5 := B4.trans (B5'.mono (by omega))
  have HA5 : Hid (PartsAt w5 (w2.heap.size + 1) 0 zs) := HA4.out.below B5'
  have HR5 : Hid (PartsIn w5 a0 len zs) := HR4.out.below B5'
  clear hb5 y0 y1
  go_wp2_with fail
  refine (toParts_c a0 len cap zs _ hl HR5.out).mono ?_
  rintro e w6 ⟨rfl, hat6, hlt6, hb6⟩
  have HA6 : Hid (PartsAt w6 w5.heap.size 0 zs) := hat6
  have HA6' : Hid (PartsAt w6 (w2.heap.size + 1) 0 zs) := HA5.out.below hb6
  clear hat6
  go_wp2_with fail
  refine (eqParts_same _ _ len _ _ zs _ hl (PartsIn.of HZ.out HA6'.out) (PartsIn.of HZ.out HA6.out)).mono ?_
  rintro e w7 ⟨rfl, hb7⟩
  have hz6 := hb6.size
  go_wp2
  go_ret
  exact ⟨rfl, (B5.trans (hb6.mono B5.size)).trans (hb7.mono (by have := B5.size; omega))⟩

set_option maxRecDepth 20000 in
set_option maxHeartbeats 400000 in
theorem long (a0 : Option Addr) (len cap : Nat) (w : World) (hl : 1048576 < len) (hm : len ≤ maxLen) :
    Calls Tryd.prog 3 #[.slice a0 len cap] w fun e w' => e = .returned (.bool true) ∧ Below w.heap.size w w' := by
  unfold maxLen at hm
  have hl' : (1048576 : Int) < (len : Int) := by omega
  have hm' : (len : Int) ≤ 9223372036854775807 := by omega
  clear hm
  go_enter Tryd.func3, Tryd.ntmps3
  go_wp2
  go_ret
  exact ⟨rfl, Below.refl _ _⟩

/-! The listed variables: the program's own start meets the condition. -/
abbrev doorFuel : Nat := 400
theorem door_met (os : Os) (args : Array Value) : laidMetH Tryd.prog Rows.fnExactPartTextRow.laid ((World.doorLaid Tryd.prog doorFuel os).forCall (fun _ _ => 0) ⟨#[], args, []⟩).memory :=
  laidMetH_of_parts3 (fuel := 8) (laidMet_of_run' 8 (by kernel_rfl) (by kernel_rfl)) (by kernel_rfl) (by kernel_rfl)

/-! The walk: the Go text returns true. -/
theorem walk (a0 : Option Addr) (len0 cap0 : Nat) (z0 : List PartI) (w : World) (w0 : PartsArg w a0 len0 z0) :
    Calls Tryd.prog 3 #[.slice a0 len0 cap0] w fun e w' => e = .returned (.bool true) ∧ Below w.heap.size w w' := by
  by_cases hl : len0 ≤ 1048576
  · exact inner a0 len0 cap0 z0 w hl w0.1
  · exact long a0 len0 cap0 w (by omega) w0.2

/-! The row's step. -/
set_option maxRecDepth 100000 in
theorem lifted (os : Os) (started : os.Started) (H : Type) (enc : TypeId × Value → H) :
    ReturnsInHanded {} Tryd.checked os 3 .any (fun w args => (Rows.fnExactPartTextSpec.pre enc Tryd.prog Tryd.f3 [] false w args ∧ laidMetH Tryd.prog Rows.fnExactPartTextRow.laid w) ∧ sizedMet enc Tryd.prog Tryd.f3 (OpenSpec.ofChange Rows.fnExactPartTextSpec) false w args) (Rows.fnExactPartTextSpec.post enc Tryd.prog Tryd.f3 false true false false) := by
  refine returnsInHanded_of_change_and (C := Tryd.checked) (X := fun w _ => laidMetH Tryd.prog Rows.fnExactPartTextRow.laid w) (fun _ _ _ hh h => h.of_heap hh) own started (by kernel_rfl) Tryd.func3
    (ChangeSpec.witness_shaped (enc := enc) (C := Tryd.checked) (os := os) (X := fun w _ => laidMetH Tryd.prog Rows.fnExactPartTextRow.laid w) false (World.doorLaid Tryd.prog doorFuel os) #[.slice none 0 0] 8 rfl (World.shaped_of_RefB (by kernel_rfl) (by kernel_rfl)) (by kernel_rfl) (by kernel_rfl) (by kernel_rfl) (door_met os _)) ?_
  intro W base args ds gs before hval0 hW _ _ hL _
  have hval : ∀ (j : Nat) t v, Tryd.f3.params[j]? = some t → args[j]? = some v → Value.okWide Tryd.prog W .any base t v := hval0
  have hW' := hW
  obtain ⟨p, q, hA0, hV, rfl, hfz, hnd⟩ := hW
  have hA : DataW.TrodAll enc Tryd.prog W 0 (fun _ => true) true Tryd.f3.params.toList args.toList ds p := hA0
  rw [Tryd.params3] at hA hval
  obtain ⟨v0, vs0, d0, ds0, p0, q0, hargs, rfl, rfl, h0, r0⟩ := trodAll_cons hA
  obtain ⟨rfl, rfl, rfl⟩ := trodAll_nil r0
  obtain rfl : args = #[v0] := by cases args; simp_all
  obtain ⟨rfl, rfl⟩ := trodVars_none hV
  obtain ⟨a0, len0, cap0, rfl⟩ := okWide_slice Tryd.underlying22 (hval 0 22 v0 rfl rfl)
  have k0 := h0
  have lt0 : ∀ x ∈ p0, x.block < W.heap.size := by obtain ⟨m, hm⟩ := k0; exact DataW.trod_lt m _ _ _ hm
  obtain ⟨z0, w0⟩ : ∃ zs : List PartI, PartsArg W a0 len0 zs := by
    obtain ⟨fuel, hf⟩ := h0
    exact parts_shape hf
  clear hA0 hval0
  refine (walk a0 len0 cap0 z0 W w0).mono fun e W' ⟨he, bel⟩ => ?_
  subst he
  exact ⟨_, rfl, _, _, _, [], _, [], hW', trodAll_mk1 (shut_bool Tryd.underlying4 _), (trodAll_cons_mk (Below.trod laidOut (by kernel_rfl) (of_decide_eq_true (by kernel_rfl)) k0 bel lt0) trodAll_mk0), rfl, bel.frame _, fun h => by cases h⟩

theorem over : Rows.fnExactPartTextRow.holds Tryd.pinned (OpenSpec.ofChange Rows.fnExactPartTextSpec) :=
  OpenClaim.holds_of_wide 3 Tryd.f3 rfl rfl rfl rfl rfl rfl rfl ⟨rfl, rfl, rfl, rfl, rfl⟩ rfl rfl rfl rfl rfl (by kernel_rfl) Tryd.func3 (by kernel_rfl)
    (of_decide_eq_true (by kernel_rfl)) (by unfold Func.isWrapper; first | (rw [if_pos (by decide +kernel)]; kernel_rfl) | (rw [if_neg (by decide +kernel)]; exact ⟨rfl, rfl⟩))
    (fun os started H enc _ => lifted os started H enc)

end Go.Proofs.YtnmidppiakdanaaDoor.fnExactPartText
namespace Go.Proofs.YtnmidppiakdanaaDoor
theorem fnExactPartText_holds : Rows.FnExactPartTextSaid := fnExactPartText.over
#print axioms fnExactPartText_holds
theorem fnExactPartText_card : Rows.FnExactPartTextCardSaid :=
  Claim7.holds_tied_plain_at .later [] [.data, .data, .data] true (true, "d6f86d308348c0aaab475cb3cfbe4135431c427e3d40c120c2c413fa8280dd0f") false
    fnExactPartText_holds (fun _ h => by cases h) (by kernel_rfl) (fun _ h => by cases h) fnExactPartText_row_tie rfl ⟨rfl, rfl⟩ (by kernel_rfl) rfl
    (fun f fn hf hfn => by
      obtain rfl : f = 3 := Option.some.inj ((show Tryd.prog.funcNamed "loop.example/g00338/laws.FnExactPartText" = some 3 by kernel_rfl).symm.trans hf) |>.symm
      obtain rfl : fn = Tryd.f3 := (Option.some.inj (Tryd.func3.symm.trans hfn)).symm
      exact ⟨by kernel_rfl, fun j t ht => by
        rw [Tryd.params3] at ht
        have hm : t ∈ [22] := by simpa using Array.mem_of_getElem? ht
        have hall : ([22].all fun u => !Tryd.prog.wantsStandIn u) = true := by kernel_rfl
        exact (show Tryd.prog.wantsStandIn t = false by simpa using List.all_eq_true.1 hall t hm)⟩)
    (by kernel_rfl)
#print axioms fnExactPartText_card
end Go.Proofs.YtnmidppiakdanaaDoor
