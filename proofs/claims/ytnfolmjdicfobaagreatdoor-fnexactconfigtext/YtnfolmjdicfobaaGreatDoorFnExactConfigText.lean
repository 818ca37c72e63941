/-
  PROVED: for every configuration the law laws.FnExactConfigText returns true, that is impl.ConfigText answers as spec.ConfigText there (up to 1<<20 elements in all, as the law itself says) and writes nothing into its argument; the argument reads as it did. This is the tied card: the listed tables of the library are as the program lays them.
  Conditions: none beside those that the given row and card themselves bear. The frame is the shell written by program, turned for a configuration and for the listed variables; the walk is ours.
-/
import Derived.Test.YtnfolmjdicfobaaGreatDoorRows
import Derived.WalkKit
import Derived.ProofKit
import Derived.LaidMore
import Derived.Stop.Joined
import Derived.SevenTiedAt
import Derived.Test.YtnfolmjdicfobaaGreatDoorTie
import Derived.Test.YtnfolmjdicfobaaGreatDoorCards
import Derived.OpenShut
import Derived.ShutString
import Derived.ChangeOld
import Derived.Below
import Derived.Test.YtnfolmjdicfobaaGreatDoorPc14
import Derived.Test.YtnfolmjdicfobaaGreatDoorPc15
import Derived.Test.YtnfolmjdicfobaaGreatDoorPc16
import Derived.Deep.CutBlock
namespace Go.Proofs.YtnfolmjdicfobaaGreatDoor.fnExactConfigText
open Go.ChangeShapes Go.WideShapes Go.ChangeAt Go.RowKit
open Go.ChangeMaps (open_string shut_string)
set_option linter.unusedVariables false

theorem own : ownKnob Tryz.prog.godebug = none := by kernel_rfl
theorem laidOut : laidOutB Tryz.prog = true := by kernel_rfl

abbrev KC (W W' : World) : Prop := (∀ b o, b < W.heap.size → W'.cell? ⟨b, o, none⟩ = W.cell? ⟨b, o, none⟩) ∧ Below W.heap.size W W'

set_option maxRecDepth 100000 in
set_option maxHeartbeats 4000000 in
theorem inner (c : ConfI) (kc : Int) (tt : ByteArray) (w : World) (hle : ConfLe maxLen c) (h : ConfIn w c)
    (HSP : Hid (∀ (d : ConfI) (w : World), ConfSame c d → ConfLe 1048576 d → ConfIn w d → GivesX 11 d kc tt w))
    (HIM : Hid (∀ (d : ConfI) (w : World), ConfSame c d → ConfLe 1048576 d → d.rn ≤ d.rc → d.rc ≤ maxLen → ConfIn w d → GivesX 9 d kc tt w)) :
    Calls Tryz.prog 4 #[.agg #[.int .i64 c.e, .int .i64 c.f, .slice c.ra c.rn c.rc, .slice c.fa c.fn c.fc, .slice c.ca c.cn c.cc]] w fun e w' => e = .returned (.bool true) ∧ Below w.heap.size w w' := by
  have H : Hid (ConfIn w c) := h
  have HLE : Hid (ConfLe maxLen c) := hle
  clear h hle
  obtain ⟨W, hW⟩ : ∃ W, W = w.alloc (.cells #[.int .i64 c.e, .int .i64 c.f, .slice c.ra c.rn c.rc, .slice c.fa c.fn c.fc, .slice c.ca c.cn c.cc] 47) := ⟨_, rfl⟩
  have B0 : Below w.heap.size w W := by rw [hW]; exact (Below.refl _ _).alloc (Nat.le_refl _) _
  have K0 : Hid (ConfAt W w.heap.size c) := by rw [hW]; exact ConfAt.new w c _
  go_enter Tryz.func4, Tryz.ntmps4
  go_wp2_with fail
  rw [← hW]
  clear hW
  refine (szConfig_c c 1048576 W HLE.out (by omega) (by omega) (H.out.below B0)).mono ?_
  rintro e w1 ⟨⟨r, rfl, hr1, hr2⟩, hb1⟩
  have B1 : Below w.heap.size w w1 := B0.trans (hb1.mono B0.size)
  have K1 : Hid (ConfAt w1 w.heap.size c) := K0.out.below hb1
  clear hb1 B0 K0
  by_cases hr : r < 0
  · clear hr2
    go_wp2
    go_ret
    exact ⟨rfl, B1⟩
  · have HL : Hid (ConfLe 1048576 c) := hr2 (by omega)
    have hr' : 0 ≤ r := by omega
    obtain ⟨k0, k1, k2, k3, k4⟩ := K1.out
    have hg1 := K1.out.lt
    clear hr2
    go_wp2_with fail
    refine (toConfig_c c w1 HL.out (H.out.below B1)).mono ?_
    rintro e w2 ⟨d, rfl, hsm, hin, hnw, hb2⟩
    have HI2 : Hid (ConfIn w2 d ∧ ConfSame c d) := ⟨hin, hsm⟩
    have hz2 := hb2.size
    clear hin hnw
    go_wp2_with fail
    refine (HSP.out d w2 hsm (hsm.le H.out HI2.out.1 HL.out) HI2.out.1).mono ?_
    rintro e w3' ⟨rfl, hb3'⟩
    obtain ⟨w3, hw3⟩ : ∃ w3, w3 = w3'.alloc (.cells #[.int .i64 kc, .string tt] 33) := ⟨_, rfl⟩
    have aw3 : Below w3'.heap.size w3' w3 := by rw [hw3]; exact (Below.refl _ _).alloc (Nat.le_refl _) _
    have hb3 : Below w2.heap.size w2 w3 := hb3'.trans (aw3.mono hb3'.size)
    have B3 : Below w.heap.size w w3 := (B1.trans (hb2.mono B1.size)).trans (hb3.mono (by have := B1.size; omega))
    have K3 : Hid (ConfAt w3 w.heap.size c ∧ Box2 w3 w3'.heap.size (.int .i64 kc) (.string tt)) := ⟨(K1.out.below hb2).below hb3, by rw [hw3]; exact Box2.new _ _ _ _⟩
    clear k0 k1 k2 k3 k4 hsm HI2 hb2 hb3 hb3' aw3 hz2 B1 K1 hg1
    obtain ⟨k0, k1, k2, k3, k4⟩ := K3.out.1
    have hg3 := K3.out.1.lt
    rw [hw3] at k0 k1 k2 k3 k4 hg3
    go_wp2_with fail
    rw [← hw3]
    clear hw3 k0 k1 k2 k3 k4 hg3
    refine (toConfig_c c w3 HL.out (H.out.below B3)).mono ?_
    rintro e w4 ⟨fx, rfl, hsm, hin, hnw, hb4⟩
    have B4 : Below w.heap.size w w4 := B3.trans (hb4.mono B3.size)
    have hz4 := hb4.size
    have hrc := hnw.cap
    have hrm : fx.rc ≤ maxLen := by rw [hnw.rules.1, hsm.rn]; have := HL.out.rules; unfold maxLen; omega
    obtain ⟨V, hV⟩ : ∃ V, V = w4.alloc (.cells #[.int .i64 fx.e, .int .i64 fx.f, .slice fx.ra fx.rn fx.rc, .slice fx.fa fx.fn fx.fc, .slice fx.ca fx.cn fx.cc] 28) := ⟨_, rfl⟩
    have bV : Below w4.heap.size w4 V := by rw [hV]; exact (Below.refl _ _).alloc (Nat.le_refl _) _
    have KV : Hid (ConfAt V w.heap.size c ∧ ConfAt V w4.heap.size fx ∧ ConfIn V fx ∧ (ConfSame c fx ∧ ConfLe 1048576 fx) ∧ Box2 V w3'.heap.size (.int .i64 kc) (.string tt)) := by
      refine ⟨(K3.out.1.below hb4).below bV, ?_, hin.below bV, ⟨hsm, hsm.le H.out hin HL.out⟩, (K3.out.2.below hb4).below bV⟩
      rw [hV]; exact ConfAt.new w4 fx _
    have BV : Below w.heap.size w V := B4.trans (bV.mono B4.size)
    clear hsm hin hnw hb4 bV B3 K3
    go_wp2_with fail
    rw [← hV]
    clear hV
    refine (HIM.out fx V KV.out.2.2.2.1.1 KV.out.2.2.2.1.2 hrc hrm KV.out.2.2.1).mono ?_
    rintro e w5' ⟨rfl, hb5'⟩
    obtain ⟨w5a, hw5⟩ : ∃ w5a, w5a = w5'.alloc (.cells #[.int .i64 kc, .string tt] 33) := ⟨_, rfl⟩
    have aw5 : Below w5'.heap.size w5' w5a := by rw [hw5]; exact (Below.refl _ _).alloc (Nat.le_refl _) _
    have hb5 : Below V.heap.size V w5a := hb5'.trans (aw5.mono hb5'.size)
    have K5a : Hid (ConfAt w5a w.heap.size c ∧ ConfAt w5a w4.heap.size fx ∧ ConfIn w5a fx ∧ (ConfSame c fx ∧ ConfLe 1048576 fx)) := ⟨KV.out.1.below hb5, KV.out.2.1.below hb5, KV.out.2.2.1.below hb5, KV.out.2.2.2.1⟩
    have B5a : Below w.heap.size w w5a := BV.trans (hb5.mono BV.size)
    obtain ⟨x0, x1⟩ := KV.out.2.2.2.2.below hb5
    have hlx := (KV.out.2.2.2.2.below hb5).lt
    clear KV hb5 hb5' aw5 BV B4 hz4
    rw [hw5] at x0 x1 hlx
    go_wp2_with fail
    rw [← hw5]
    clear hw5 x0 x1 hlx
    refine (eqText_same kc tt _).mono ?_
    rintro e w5 ⟨rfl, hb5⟩
    have K5 : Hid (ConfAt w5 w.heap.size c ∧ ConfAt w5 w4.heap.size fx ∧ ConfIn w5 fx ∧ ConfSame c fx ∧ ConfLe 1048576 fx) := ⟨K5a.out.1.below hb5, K5a.out.2.1.below hb5, K5a.out.2.2.1.below hb5, K5a.out.2.2.2⟩
    have B5 : Below w.heap.size w w5 := B5a.trans (hb5.mono B5a.size)
    clear K5a hb5 B5a
    go_upto_region 10 with fail
    obtain ⟨k0, k1, k2, k3, k4⟩ := K5.out.1
    obtain ⟨m0, m1, m2, m3, m4⟩ := K5.out.2.1
    have hg := K5.out.1.lt
    have hf := K5.out.2.1.lt
    have HT : Hid (∀ w' : World, KC w5 w' → Calls Tryz.prog 19 #[.agg #[.int .i64 c.e, .int .i64 c.f, .slice c.ra c.rn c.rc, .slice c.fa c.fn c.fc, .slice c.ca c.cn c.cc]] w' fun e w'' => ∃ d : ConfI, e = .returned (.agg #[.int .i64 d.e, .int .i64 d.f, .slice d.ra d.rn d.rc, .slice d.fa d.fn d.fc, .slice d.ca d.cn d.cc]) ∧ CopyOf c w' d w'') := fun w' q => toConfig_c c w' HL.out ((H.out.below B5).below q.2)
    have HQ : Hid (∀ (w' w'' : World) (d : ConfI), KC w5 w' → CopyOf c w' d w'' → Calls Tryz.prog 21 #[.agg #[.int .i64 fx.e, .int .i64 fx.f, .slice fx.ra fx.rn fx.rc, .slice fx.fa fx.fn fx.fc, .slice fx.ca fx.cn fx.cc], .agg #[.int .i64 d.e, .int .i64 d.f, .slice d.ra d.rn d.rc, .slice d.fa d.fn d.fc, .slice d.ca d.cn d.cc]] w'' fun e w3 => e = .returned (.bool true) ∧ Below w''.heap.size w'' w3) := fun w' w'' d q r => eqConfig_same fx d w'' K5.out.2.2.2.2 (K5.out.2.2.2.1.trans r.1) ((K5.out.2.2.1.below q.2).below r.2.2.2) r.2.1
    clear K5
    go_region_with (first | (go_at_call 19; refine (HT.out _ (by first | exact hS | exact kp_drew _)).mono ?_; rintro e wA ⟨d, rfl, hcp⟩; have hq := HQ.out _ _ _ (by first | exact hS | exact kp_drew _) hcp; have hS : KC w5 wA := kp_step (by first | exact hS | exact kp_drew _) hcp.2.2.2; have n0 := (hS.1 _ 0 hf).trans m0; have n1 := (hS.1 _ 1 hf).trans m1; have n2 := (hS.1 _ 2 hf).trans m2; have n3 := (hS.1 _ 3 hf).trans m3; have n4 := (hS.1 _ 4 hf).trans m4) | (go_at_call 21; refine hq.mono ?_; rintro e wB ⟨rfl, hbB⟩; have hS := kp_step hS hbB))
    all_goals go_wp2
    all_goals go_ret
    all_goals exact ⟨rfl, B5.trans (hS.2.mono B5.size)⟩

/-! The listed variables: the program's own start meets the condition. -/
abbrev doorFuel : Nat := 400
theorem door_met (os : Os) (args : Array Value) : laidMetH Tryz.prog Rows.fnExactConfigTextRow.laid ((World.doorLaid Tryz.prog doorFuel os).forCall (fun _ _ => 0) ⟨#[], args, []⟩).memory :=
  laidMetH_of_parts3 (fuel := 8) (laidMet_of_run' 8 (by kernel_rfl) (by kernel_rfl)) (by kernel_rfl) (by kernel_rfl)

/-! The walk: the Go text returns true. -/
theorem walk (c0 : ConfI) (w : World) (w0 : ConfIn w c0 ∧ ConfLe maxLen c0) :
    Calls Tryz.prog 4 #[.agg #[.int .i64 c0.e, .int .i64 c0.f, .slice c0.ra c0.rn c0.rc, .slice c0.fa c0.fn c0.fc, .slice c0.ca c0.cn c0.cc]] w fun e w' => e = .returned (.bool true) ∧ Below w.heap.size w w' := by
  refine inner c0 (cxCode c0.e c0.f c0.zs (partsL c0.fs) c0.cs) (cxText c0.e c0.f c0.zs (partsL c0.fs) c0.cs) w w0.2 w0.1 (fun d w hs hl hi => ?_) (fun d w hs hl hr hm hi => ?_)
  · have := specConfigText_c d w hl hi
    rw [hs.e, hs.f, hs.zs, hs.ps, hs.cs] at this
    exact this
  · have := implConfigText_c d w hl hr hm hi
    rw [hs.e, hs.f, hs.zs, hs.ps, hs.cs] at this
    exact this

/-! The row's step. -/
set_option maxRecDepth 100000 in
theorem lifted (os : Os) (started : os.Started) (H : Type) (enc : TypeId × Value → H) :
    ReturnsInHanded {} Tryz.checked os 4 .any (fun w args => (Rows.fnExactConfigTextSpec.pre enc Tryz.prog Tryz.f4 [] false w args ∧ laidMetH Tryz.prog Rows.fnExactConfigTextRow.laid w) ∧ sizedMet enc Tryz.prog Tryz.f4 (OpenSpec.ofChange Rows.fnExactConfigTextSpec) false w args) (Rows.fnExactConfigTextSpec.post enc Tryz.prog Tryz.f4 false true false false) := by
  refine returnsInHanded_of_change_and (C := Tryz.checked) (X := fun w _ => laidMetH Tryz.prog Rows.fnExactConfigTextRow.laid w) (fun _ _ _ hh h => h.of_heap hh) own started (by kernel_rfl) Tryz.func4
    (ChangeSpec.witness_shaped (enc := enc) (C := Tryz.checked) (os := os) (X := fun w _ => laidMetH Tryz.prog Rows.fnExactConfigTextRow.laid w) false (World.doorLaid Tryz.prog doorFuel os) #[.agg #[.int .i64 0, .int .i64 0, .slice none 0 0, .slice none 0 0, .slice none 0 0]] 8 rfl (World.shaped_of_RefB (by kernel_rfl) (by kernel_rfl)) (by kernel_rfl) (by kernel_rfl) (by kernel_rfl) (door_met os _)) ?_
  intro W base args ds gs before hval0 hW _ _ hL _
  have hval : ∀ (j : Nat) t v, Tryz.f4.params[j]? = some t → args[j]? = some v → Value.okWide Tryz.prog W .any base t v := hval0
  have hW' := hW
  obtain ⟨p, q, hA0, hV, rfl, hfz, hnd⟩ := hW
  have hA : DataW.TrodAll enc Tryz.prog W 0 (fun _ => true) true Tryz.f4.params.toList args.toList ds p := hA0
  rw [Tryz.params4] at hA hval
  obtain ⟨v0, vs0, d0, ds0, p0, q0, hargs, rfl, rfl, h0, r0⟩ := trodAll_cons hA
  obtain ⟨rfl, rfl, rfl⟩ := trodAll_nil r0
  obtain rfl : args = #[v0] := by cases args; simp_all
  obtain ⟨rfl, rfl⟩ := trodVars_none hV
  obtain ⟨cs0, rfl, hs0⟩ := okWide_struct Tryz.underlying47 (hval 0 47 v0 rfl rfl)
  have k0 := h0
  have lt0 : ∀ x ∈ p0, x.block < W.heap.size := by obtain ⟨m, hm⟩ := k0; exact DataW.trod_lt m _ _ _ hm
  obtain ⟨c0, rfl, w0⟩ : ∃ c : ConfI, cs0 = #[.int .i64 c.e, .int .i64 c.f, .slice c.ra c.rn c.rc, .slice c.fa c.fn c.fc, .slice c.ca c.cn c.cc] ∧ (ConfIn W c ∧ ConfLe maxLen c) := by
    obtain ⟨fuel, hf⟩ := h0
    exact conf_shape _ hf
  clear hA0 hval0
  refine (walk c0 W w0).mono fun e W' ⟨he, bel⟩ => ?_
  subst he
  exact ⟨_, rfl, _, _, _, [], _, [], hW', trodAll_mk1 (shut_bool Tryz.underlying4 _), (trodAll_cons_mk (Below.trod laidOut (by kernel_rfl) (of_decide_eq_true (by kernel_rfl)) k0 bel lt0) trodAll_mk0), rfl, bel.frame _, fun h => by cases h⟩

theorem over : Rows.fnExactConfigTextRow.holds Tryz.pinned (OpenSpec.ofChange Rows.fnExactConfigTextSpec) :=
  OpenClaim.holds_of_wide 4 Tryz.f4 rfl rfl rfl rfl rfl rfl rfl ⟨rfl, rfl, rfl, rfl, rfl⟩ rfl rfl rfl rfl rfl (by kernel_rfl) Tryz.func4 (by kernel_rfl)
    (of_decide_eq_true (by kernel_rfl)) (by unfold Func.isWrapper; first | (rw [if_pos (by decide +kernel)]; kernel_rfl) | (rw [if_neg (by decide +kernel)]; exact ⟨rfl, rfl⟩))
    (fun os started H enc _ => lifted os started H enc)

end Go.Proofs.YtnfolmjdicfobaaGreatDoor.fnExactConfigText
namespace Go.Proofs.YtnfolmjdicfobaaGreatDoor
theorem fnExactConfigText_holds : Rows.FnExactConfigTextSaid := fnExactConfigText.over
#print axioms fnExactConfigText_holds
theorem fnExactConfigText_card : Rows.FnExactConfigTextCardSaid :=
  Claim7.holds_tied_plain_at .later [] [.data, .data, .data] true (true, "2ad12b9f1f9980d2ddac2c110607b3640739850cabffc83610e0411e42ef831f") true
    fnExactConfigText_holds (fun _ h => by cases h) (by kernel_rfl) (fun _ h => by cases h) fnExactConfigText_row_tie rfl ⟨rfl, rfl⟩ (by kernel_rfl) rfl
    (fun f fn hf hfn => by
      obtain rfl : f = 4 := Option.some.inj ((show Tryz.prog.funcNamed "loop.example/g00338/laws.FnExactConfigText" = some 4 by kernel_rfl).symm.trans hf) |>.symm
      obtain rfl : fn = Tryz.f4 := (Option.some.inj (Tryz.func4.symm.trans hfn)).symm
      exact ⟨by kernel_rfl, fun j t ht => by
        rw [Tryz.params4] at ht
        have hm : t ∈ [47] := by simpa using Array.mem_of_getElem? ht
        have hall : ([47].all fun u => !Tryz.prog.wantsStandIn u) = true := by kernel_rfl
        exact (show Tryz.prog.wantsStandIn t = false by simpa using List.all_eq_true.1 hall t hm)⟩)
    (by kernel_rfl)
#print axioms fnExactConfigText_card
end Go.Proofs.YtnfolmjdicfobaaGreatDoor
