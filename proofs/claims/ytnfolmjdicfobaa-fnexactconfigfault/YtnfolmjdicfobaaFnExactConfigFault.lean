/-
  PROVED: for every configuration the law laws.FnExactConfigFault returns true, that is impl.ConfigFault answers as spec.ConfigFault there (up to 1<<20 elements in all, as the law itself says) and writes nothing into its argument; the argument reads as it did.
  Conditions: none beside those that the given row itself bears. The frame is the shell written by program, turned for a configuration; the walk is ours.
-/
import Derived.Test.YtnfolmjdicfobaaRows
import Derived.WalkKit
import Derived.ProofKit
import Derived.OpenShut
import Derived.ShutString
import Derived.ChangeOld
import Derived.Below
import Derived.Test.YtnfolmjdicfobaaCf2
import Derived.Test.YtnfolmjdicfobaaCfA
import Derived.Deep.CutBlock
namespace Go.Proofs.Ytnfolmjdicfobaa.fnExactConfigFault
open Go.ChangeShapes Go.WideShapes Go.ChangeAt Go.RowKit
open Go.ChangeMaps (open_string shut_string)
set_option linter.unusedVariables false

theorem own : ownKnob Try.prog.godebug = none := by kernel_rfl
theorem laidOut : laidOutB Try.prog = true := by kernel_rfl

theorem same_code {c d : ConfI} (h : ConfSame c d) : cfCode d.e d.f d.zs (partsL d.fs) d.cs = cfCode c.e c.f c.zs (partsL c.fs) c.cs := by rw [h.e, h.f, h.zs, h.ps, h.cs]

abbrev KC (W W' : World) : Prop := (∀ b o, b < W.heap.size → W'.cell? ⟨b, o, none⟩ = W.cell? ⟨b, o, none⟩) ∧ Below W.heap.size W W'

set_option maxRecDepth 100000 in
set_option maxHeartbeats 4000000 in
theorem inner (c : ConfI) (w : World) (hle : ConfLe maxLen c) (h : ConfIn w c) :
    Calls Try.prog 3 #[.agg #[.int .i64 c.e, .int .i64 c.f, .slice c.ra c.rn c.rc, .slice c.fa c.fn c.fc, .slice c.ca c.cn c.cc]] w fun e w' => e = .returned (.bool true) ∧ Below w.heap.size w w' := by
  have H : Hid (ConfIn w c) := h
  have HLE : Hid (ConfLe maxLen c) := hle
  obtain ⟨v, hv⟩ : ∃ v, cfCode c.e c.f c.zs (partsL c.fs) c.cs = v := ⟨_, rfl⟩
  have HV : Hid (∀ d : ConfI, ConfSame c d → cfCode d.e d.f d.zs (partsL d.fs) d.cs = v) := fun d q => (same_code q).trans hv
  clear h hle hv
  obtain ⟨W, hW⟩ : ∃ W, W = w.alloc (.cells #[.int .i64 c.e, .int .i64 c.f, .slice c.ra c.rn c.rc, .slice c.fa c.fn c.fc, .slice c.ca c.cn c.cc] 26) := ⟨_, rfl⟩
  have B0 : Below w.heap.size w W := by rw [hW]; exact (Below.refl _ _).alloc (Nat.le_refl _) _
  have K0 : Hid (ConfAt W w.heap.size c) := by rw [hW]; exact ConfAt.new w c _
  go_enter Try.func3, Try.ntmps3
  go_wp2_with fail
  rw [← hW]
  clear hW
  refine (szConfig_c c 1048576 W HLE.out (by omega) (by omega) (H.out.below B0)).mono ?_
  rintro e w1 ⟨⟨r, rfl, hr1, hr2⟩, hb1⟩
  have B1 : Below w.heap.size w w1 := B0.trans (hb1.mono B0.size)
  have K1 : Hid (ConfAt w1 w.heap.size c) := K0.out.below hb1
  clear hb1 B0 K0
  by_cases hr : r < 0
  · clear hr2
    go_wp2
    go_ret
    exact ⟨rfl, B1⟩
  · have HL : Hid (ConfLe 1048576 c) := hr2 (by omega)
    have hr' : 0 ≤ r := by omega
    obtain ⟨k0, k1, k2, k3, k4⟩ := K1.out
    have hg1 := K1.out.lt
    clear hr2
    go_wp2_with fail
    refine (toConfig_c c w1 HL.out (H.out.below B1)).mono ?_
    rintro e w2 ⟨d, rfl, hsm, hin, hnw, hb2⟩
    have HI2 : Hid (ConfIn w2 d ∧ ConfSame c d) := ⟨hin, hsm⟩
    have hz2 := hb2.size
    clear hin hnw
    go_wp2_with fail
    refine (specConfigFault_c d w2 (hsm.le H.out HI2.out.1 HL.out) HI2.out.1).mono ?_
    rintro e w3 ⟨rfl, hb3⟩
    rw [HV.out d hsm]
    have B3 : Below w.heap.size w w3 := (B1.trans (hb2.mono B1.size)).trans (hb3.mono (by have := B1.size; omega))
    have K3 : Hid (ConfAt w3 w.heap.size c) := (K1.out.below hb2).below hb3
    clear k0 k1 k2 k3 k4 hsm HI2 hb2 hb3 hz2 B1 K1 hg1
    obtain ⟨k0, k1, k2, k3, k4⟩ := K3.out
    have hg3 := K3.out.lt
    go_wp2_with fail
    refine (toConfig_c c w3 HL.out (H.out.below B3)).mono ?_
    rintro e w4 ⟨f, rfl, hsm, hin, hnw, hb4⟩
    have B4 : Below w.heap.size w w4 := B3.trans (hb4.mono B3.size)
    have hz4 := hb4.size
    have hrc := hnw.cap
    have hrm : f.rc ≤ maxLen := by rw [hnw.rules.1, hsm.rn]; have := HL.out.rules; unfold maxLen; omega
    obtain ⟨V, hV⟩ : ∃ V, V = w4.alloc (.cells #[.int .i64 f.e, .int .i64 f.f, .slice f.ra f.rn f.rc, .slice f.fa f.fn f.fc, .slice f.ca f.cn f.cc] 32) := ⟨_, rfl⟩
    have bV : Below w4.heap.size w4 V := by rw [hV]; exact (Below.refl _ _).alloc (Nat.le_refl _) _
    have KV : Hid (ConfAt V w.heap.size c ∧ ConfAt V w4.heap.size f ∧ ConfIn V f ∧ ConfSame c f ∧ ConfLe 1048576 f) := by
      refine ⟨(K3.out.below hb4).below bV, ?_, hin.below bV, hsm, hsm.le H.out hin HL.out⟩
      rw [hV]; exact ConfAt.new w4 f _
    have BV : Below w.heap.size w V := B4.trans (bV.mono B4.size)
    clear k0 k1 k2 k3 k4 hsm hin hnw hb4 bV B3 K3 hg3
    go_wp2_with fail
    rw [← hV]
    clear hV
    refine (implConfigFault_c f V KV.out.2.2.2.2 hrc hrm KV.out.2.2.1).mono ?_
    rintro e w5 ⟨rfl, hb5⟩
    rw [HV.out f KV.out.2.2.2.1]
    have K5 : Hid (ConfAt w5 w.heap.size c ∧ ConfAt w5 w4.heap.size f ∧ ConfIn w5 f ∧ ConfSame c f ∧ ConfLe 1048576 f) := ⟨KV.out.1.below hb5, KV.out.2.1.below hb5, KV.out.2.2.1.below hb5, KV.out.2.2.2⟩
    have B5 : Below w.heap.size w w5 := BV.trans (hb5.mono BV.size)
    clear KV hb5 BV B4 hz4
    go_upto_region 10 with fail
    obtain ⟨k0, k1, k2, k3, k4⟩ := K5.out.1
    obtain ⟨m0, m1, m2, m3, m4⟩ := K5.out.2.1
    have hg := K5.out.1.lt
    have hf := K5.out.2.1.lt
    have HT : Hid (∀ w' : World, KC w5 w' → Calls Try.prog 10 #[.agg #[.int .i64 c.e, .int .i64 c.f, .slice c.ra c.rn c.rc, .slice c.fa c.fn c.fc, .slice c.ca c.cn c.cc]] w' fun e w'' => ∃ d : ConfI, e = .returned (.agg #[.int .i64 d.e, .int .i64 d.f, .slice d.ra d.rn d.rc, .slice d.fa d.fn d.fc, .slice d.ca d.cn d.cc]) ∧ CopyOf c w' d w'') := fun w' q => toConfig_c c w' HL.out ((H.out.below B5).below q.2)
    have HQ : Hid (∀ (w' w'' : World) (d : ConfI), KC w5 w' → CopyOf c w' d w'' → Calls Try.prog 12 #[.agg #[.int .i64 f.e, .int .i64 f.f, .slice f.ra f.rn f.rc, .slice f.fa f.fn f.fc, .slice f.ca f.cn f.cc], .agg #[.int .i64 d.e, .int .i64 d.f, .slice d.ra d.rn d.rc, .slice d.fa d.fn d.fc, .slice d.ca d.cn d.cc]] w'' fun e w3 => e = .returned (.bool true) ∧ Below w''.heap.size w'' w3) := fun w' w'' d q r => eqConfig_same f d w'' K5.out.2.2.2.2 (K5.out.2.2.2.1.trans r.1) ((K5.out.2.2.1.below q.2).below r.2.2.2) r.2.1
    clear K5
    go_region_with (first | (go_at_call 10; refine (HT.out _ (by first | exact hS | exact kp_drew _)).mono ?_; rintro e wA ⟨d, rfl, hcp⟩; have hq := HQ.out _ _ _ (by first | exact hS | exact kp_drew _) hcp; have hS : KC w5 wA := kp_step (by first | exact hS | exact kp_drew _) hcp.2.2.2; have n0 := (hS.1 _ 0 hf).trans m0; have n1 := (hS.1 _ 1 hf).trans m1; have n2 := (hS.1 _ 2 hf).trans m2; have n3 := (hS.1 _ 3 hf).trans m3; have n4 := (hS.1 _ 4 hf).trans m4) | (go_at_call 12; refine hq.mono ?_; rintro e wB ⟨rfl, hbB⟩; have hS := kp_step hS hbB))
    all_goals go_wp2
    all_goals go_ret
    all_goals exact ⟨rfl, B5.trans (hS.2.mono B5.size)⟩

/-! The walk: the Go text returns true. -/
theorem walk (c0 : ConfI) (w : World) (w0 : ConfIn w c0 ∧ ConfLe maxLen c0) :
    Calls Try.prog 3 #[.agg #[.int .i64 c0.e, .int .i64 c0.f, .slice c0.ra c0.rn c0.rc, .slice c0.fa c0.fn c0.fc, .slice c0.ca c0.cn c0.cc]] w fun e w' => e = .returned (.bool true) ∧ Below w.heap.size w w' := by
  exact inner c0 w w0.2 w0.1

/-! The row's step. -/
set_option maxRecDepth 100000 in
theorem lifted (os : Os) (started : os.Started) (H : Type) (enc : TypeId × Value → H) :
    ReturnsInHanded {} Try.checked os 3 .any (Rows.fnExactConfigFaultSpec.pre6 enc Try.prog Try.f3 Rows.fnExactConfigFaultRow.domain false) (Rows.fnExactConfigFaultSpec.post enc Try.prog Try.f3 false true false false) := by
  refine returnsInHanded_of_change (C := Try.checked) own started (by kernel_rfl) Try.func3
    (ChangeSpec.witness6 (enc := enc) (C := Try.checked) false ⟨#[], #[.agg #[.int .i64 0, .int .i64 0, .slice none 0 0, .slice none 0 0, .slice none 0 0]], []⟩ 8 (by kernel_rfl) (by kernel_rfl) (by kernel_rfl) (by kernel_rfl)) ?_
  intro W base args ds gs before hval0 hW hcnd _
  have hval : ∀ (j : Nat) t v, Try.f3.params[j]? = some t → args[j]? = some v → Value.okWide Try.prog W .any base t v := hval0
  have hW' := hW
  obtain ⟨p, q, hA0, hV, rfl, hfz, hnd⟩ := hW
  have hA : DataW.TrodAll enc Try.prog W 0 (fun _ => true) true Try.f3.params.toList args.toList ds p := hA0
  rw [Try.params3] at hA hval
  obtain ⟨v0, vs0, d0, ds0, p0, q0, hargs, rfl, rfl, h0, r0⟩ := trodAll_cons hA
  obtain ⟨rfl, rfl, rfl⟩ := trodAll_nil r0
  obtain rfl : args = #[v0] := by cases args; simp_all
  obtain ⟨rfl, rfl⟩ := trodVars_none hV
  obtain ⟨cs0, rfl, hs0⟩ := okWide_struct Try.underlying26 (hval 0 26 v0 rfl rfl)
  have k0 := h0
  have lt0 : ∀ x ∈ p0, x.block < W.heap.size := by obtain ⟨m, hm⟩ := k0; exact DataW.trod_lt m _ _ _ hm
  obtain ⟨c0, rfl, w0⟩ : ∃ c : ConfI, cs0 = #[.int .i64 c.e, .int .i64 c.f, .slice c.ra c.rn c.rc, .slice c.fa c.fn c.fc, .slice c.ca c.cn c.cc] ∧ (ConfIn W c ∧ ConfLe maxLen c) := by
    obtain ⟨fuel, hf⟩ := h0
    exact conf_shape _ hf
  clear hA0 hval0
  refine (walk c0 W w0).mono fun e W' ⟨he, bel⟩ => ?_
  subst he
  exact ⟨_, rfl, _, _, _, [], _, [], hW', trodAll_mk1 (shut_bool Try.underlying4 _), (trodAll_cons_mk (Below.trod laidOut (by kernel_rfl) (of_decide_eq_true (by kernel_rfl)) k0 bel lt0) trodAll_mk0), rfl, bel.frame _, fun h => by cases h⟩

theorem over : Rows.fnExactConfigFaultRow.holds Try.pinned (OpenSpec.ofChange Rows.fnExactConfigFaultSpec) :=
  OpenClaim.holds_of_wide 3 Try.f3 rfl rfl rfl rfl rfl rfl rfl ⟨rfl, rfl, rfl, rfl, rfl⟩ rfl rfl rfl rfl rfl (by kernel_rfl) Try.func3 (by kernel_rfl)
    (of_decide_eq_true (by kernel_rfl)) (by unfold Func.isWrapper; first | (rw [if_pos (by decide +kernel)]; kernel_rfl) | (rw [if_neg (by decide +kernel)]; exact ⟨rfl, rfl⟩))
    (fun os started H enc _ => lifted os started H enc)

end Go.Proofs.Ytnfolmjdicfobaa.fnExactConfigFault
namespace Go.Proofs.Ytnfolmjdicfobaa
theorem fnExactConfigFault_holds : Rows.FnExactConfigFaultSaid := fnExactConfigFault.over
#print axioms fnExactConfigFault_holds
end Go.Proofs.Ytnfolmjdicfobaa
