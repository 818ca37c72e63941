/-
  PROVED: for every configuration and every two int64 the law laws.FnExactAllowsIn returns true, that is impl.AllowsIn answers as spec.AllowsIn there (up to 1<<20 elements in all, as the law itself says) and writes nothing into its arguments; the arguments read as they did.
  Conditions: none beside those that the given row itself bears. The frame is the shell written by program, turned for a configuration; the walk is ours.
-/
import Derived.Test.YtnfolmjdicfobaaRows
import Derived.WalkKit
import Derived.ProofKit
import Derived.OpenShut
import Derived.ShutString
import Derived.ChangeOld
import Derived.Below
import Derived.Test.YtnfolmjdicfobaaPk28
import Derived.Test.YtnfolmjdicfobaaPk24
import Derived.Test.YtnfolmjdicfobaaPk29
import Derived.Deep.CutBlock
namespace Go.Proofs.Ytnfolmjdicfobaa.fnExactAllowsIn
open Go.ChangeShapes Go.WideShapes Go.ChangeAt Go.RowKit
open Go.ChangeMaps (open_string shut_string)
set_option linter.unusedVariables false

theorem own : ownKnob Try.prog.godebug = none := by kernel_rfl
theorem laidOut : laidOutB Try.prog = true := by kernel_rfl

abbrev KC (W W' : World) : Prop := (∀ b o, b < W.heap.size → W'.cell? ⟨b, o, none⟩ = W.cell? ⟨b, o, none⟩) ∧ Below W.heap.size W W'

set_option maxRecDepth 100000 in
set_option maxHeartbeats 4000000 in
theorem inner (c : ConfI) (f s : Int) (v : Bool) (w : World) (hle : ConfLe maxLen c) (h : ConfIn w c)
    (HSP : Hid (∀ (d : ConfI) (w : World), ConfSame c d → ConfLe 1048576 d → ConfIn w d → GivesWC 18 d f s v w))
    (HIM : Hid (∀ (d : ConfI) (w : World), ConfSame c d → ConfLe 1048576 d → d.rn ≤ d.rc → d.rc ≤ maxLen → ConfIn w d → GivesWC 19 d f s v w)) :
    Calls Try.prog 6 #[.agg #[.int .i64 c.e, .int .i64 c.f, .slice c.ra c.rn c.rc, .slice c.fa c.fn c.fc, .slice c.ca c.cn c.cc], .int .i64 f, .int .i64 s] w fun e w' => e = .returned (.bool true) ∧ Below w.heap.size w w' := by
  have H : Hid (ConfIn w c) := h
  have HLE : Hid (ConfLe maxLen c) := hle
  have hvv : (v != v) = false := by cases v <;> rfl
  clear h hle
  obtain ⟨W, hW⟩ : ∃ W, W = w.alloc (.cells #[.int .i64 c.e, .int .i64 c.f, .slice c.ra c.rn c.rc, .slice c.fa c.fn c.fc, .slice c.ca c.cn c.cc] 26) := ⟨_, rfl⟩
  have B0 : Below w.heap.size w W := by rw [hW]; exact (Below.refl _ _).alloc (Nat.le_refl _) _
  have K0 : Hid (ConfAt W w.heap.size c) := by rw [hW]; exact ConfAt.new w c _
  go_enter Try.func6, Try.ntmps6
  go_wp2_with fail
  rw [← hW]
  clear hW
  refine (szConfig_c c 1048576 W HLE.out (by omega) (by omega) (H.out.below B0)).mono ?_
  rintro e w1 ⟨⟨r, rfl, hr1, hr2⟩, hb1⟩
  have B1 : Below w.heap.size w w1 := B0.trans (hb1.mono B0.size)
  have K1 : Hid (ConfAt w1 w.heap.size c) := K0.out.below hb1
  clear hb1 B0 K0
  by_cases hr : r < 0
  · clear hr2
    go_wp2
    go_ret
    exact ⟨rfl, B1⟩
  · have HL : Hid (ConfLe 1048576 c) := hr2 (by omega)
    have hr' : 0 ≤ r := by omega
    obtain ⟨k0, k1, k2, k3, k4⟩ := K1.out
    have hg1 := K1.out.lt
    clear hr2
    go_wp2_with fail
    refine (toConfig_c c w1 HL.out (H.out.below B1)).mono ?_
    rintro e w2 ⟨d, rfl, hsm, hin, hnw, hb2⟩
    have HI2 : Hid (ConfIn w2 d ∧ ConfSame c d) := ⟨hin, hsm⟩
    have hz2 := hb2.size
    clear hin hnw
    go_wp2_with fail
    refine (HSP.out d w2 hsm (hsm.le H.out HI2.out.1 HL.out) HI2.out.1).mono ?_
    rintro e w3 ⟨rfl, hb3⟩
    have B3 : Below w.heap.size w w3 := (B1.trans (hb2.mono B1.size)).trans (hb3.mono (by have := B1.size; omega))
    have K3 : Hid (ConfAt w3 w.heap.size c) := (K1.out.below hb2).below hb3
    clear k0 k1 k2 k3 k4 hsm HI2 hb2 hb3 hz2 B1 K1 hg1
    obtain ⟨k0, k1, k2, k3, k4⟩ := K3.out
    have hg3 := K3.out.lt
    go_wp2_with fail
    refine (toConfig_c c w3 HL.out (H.out.below B3)).mono ?_
    rintro e w4 ⟨fx, rfl, hsm, hin, hnw, hb4⟩
    have B4 : Below w.heap.size w w4 := B3.trans (hb4.mono B3.size)
    have hz4 := hb4.size
    have hrc := hnw.cap
    have hrm : fx.rc ≤ maxLen := by rw [hnw.rules.1, hsm.rn]; have := HL.out.rules; unfold maxLen; omega
    obtain ⟨V, hV⟩ : ∃ V, V = w4.alloc (.cells #[.int .i64 fx.e, .int .i64 fx.f, .slice fx.ra fx.rn fx.rc, .slice fx.fa fx.fn fx.fc, .slice fx.ca fx.cn fx.cc] 32) := ⟨_, rfl⟩
    have bV : Below w4.heap.size w4 V := by rw [hV]; exact (Below.refl _ _).alloc (Nat.le_refl _) _
    have KV : Hid (ConfAt V w.heap.size c ∧ ConfAt V w4.heap.size fx ∧ ConfIn V fx ∧ ConfSame c fx ∧ ConfLe 1048576 fx) := by
      refine ⟨(K3.out.below hb4).below bV, ?_, hin.below bV, hsm, hsm.le H.out hin HL.out⟩
      rw [hV]; exact ConfAt.new w4 fx _
    have BV : Below w.heap.size w V := B4.trans (bV.mono B4.size)
    clear k0 k1 k2 k3 k4 hsm hin hnw hb4 bV B3 K3 hg3
    go_wp2_with fail
    rw [← hV]
    clear hV
    refine (HIM.out fx V KV.out.2.2.2.1 KV.out.2.2.2.2 hrc hrm KV.out.2.2.1).mono ?_
    rintro e w5 ⟨rfl, hb5⟩
    have K5 : Hid (ConfAt w5 w.heap.size c ∧ ConfAt w5 w4.heap.size fx ∧ ConfIn w5 fx ∧ ConfSame c fx ∧ ConfLe 1048576 fx) := ⟨KV.out.1.below hb5, KV.out.2.1.below hb5, KV.out.2.2.1.below hb5, KV.out.2.2.2⟩
    have B5 : Below w.heap.size w w5 := BV.trans (hb5.mono BV.size)
    clear KV hb5 BV B4 hz4
    go_upto_region 10 with fail
    obtain ⟨k0, k1, k2, k3, k4⟩ := K5.out.1
    obtain ⟨m0, m1, m2, m3, m4⟩ := K5.out.2.1
    have hg := K5.out.1.lt
    have hf := K5.out.2.1.lt
    have HT : Hid (∀ w' : World, KC w5 w' → Calls Try.prog 10 #[.agg #[.int .i64 c.e, .int .i64 c.f, .slice c.ra c.rn c.rc, .slice c.fa c.fn c.fc, .slice c.ca c.cn c.cc]] w' fun e w'' => ∃ d : ConfI, e = .returned (.agg #[.int .i64 d.e, .int .i64 d.f, .slice d.ra d.rn d.rc, .slice d.fa d.fn d.fc, .slice d.ca d.cn d.cc]) ∧ CopyOf c w' d w'') := fun w' q => toConfig_c c w' HL.out ((H.out.below B5).below q.2)
    have HQ : Hid (∀ (w' w'' : World) (d : ConfI), KC w5 w' → CopyOf c w' d w'' → Calls Try.prog 12 #[.agg #[.int .i64 fx.e, .int .i64 fx.f, .slice fx.ra fx.rn fx.rc, .slice fx.fa fx.fn fx.fc, .slice fx.ca fx.cn fx.cc], .agg #[.int .i64 d.e, .int .i64 d.f, .slice d.ra d.rn d.rc, .slice d.fa d.fn d.fc, .slice d.ca d.cn d.cc]] w'' fun e w3 => e = .returned (.bool true) ∧ Below w''.heap.size w'' w3) := fun w' w'' d q r => eqConfig_same fx d w'' K5.out.2.2.2.2 (K5.out.2.2.2.1.trans r.1) ((K5.out.2.2.1.below q.2).below r.2.2.2) r.2.1
    clear K5
    go_region_with (first | (go_at_call 10; refine (HT.out _ (by first | exact hS | exact kp_drew _)).mono ?_; rintro e wA ⟨d, rfl, hcp⟩; have hq := HQ.out _ _ _ (by first | exact hS | exact kp_drew _) hcp; have hS : KC w5 wA := kp_step (by first | exact hS | exact kp_drew _) hcp.2.2.2; have n0 := (hS.1 _ 0 hf).trans m0; have n1 := (hS.1 _ 1 hf).trans m1; have n2 := (hS.1 _ 2 hf).trans m2; have n3 := (hS.1 _ 3 hf).trans m3; have n4 := (hS.1 _ 4 hf).trans m4) | (go_at_call 12; refine hq.mono ?_; rintro e wB ⟨rfl, hbB⟩; have hS := kp_step hS hbB))
    all_goals go_wp2
    all_goals go_ret
    all_goals exact ⟨rfl, B5.trans (hS.2.mono B5.size)⟩

/-! The walk: the Go text returns true. -/
theorem walk (c0 : ConfI) (a1 : Int) (a2 : Int) (w : World) (w0 : ConfIn w c0 ∧ ConfLe maxLen c0) (w1 : (Lit.int .i64 a1).wf = true) (w2 : (Lit.int .i64 a2).wf = true) :
    Calls Try.prog 6 #[.agg #[.int .i64 c0.e, .int .i64 c0.f, .slice c0.ra c0.rn c0.rc, .slice c0.fa c0.fn c0.fc, .slice c0.ca c0.cn c0.cc], .int .i64 a1, .int .i64 a2] w fun e w' => e = .returned (.bool true) ∧ Below w.heap.size w w' := by
  obtain ⟨gs, hgs⟩ : ∃ gs, polCode c0.zs = 0 → AllG c0.zs gs := by
    by_cases hp : polCode c0.zs = 0
    · obtain ⟨gs, hg⟩ := all_some c0.zs hp
      exact ⟨gs, fun _ => hg⟩
    · exact ⟨[], fun q => absurd q hp⟩
  refine inner c0 a1 a2 (alB (cfCode c0.e c0.f c0.zs (partsL c0.fs) c0.cs) (partsL c0.fs) gs a1 a2) w w0.2 w0.1 (fun d w hs hl hi => ?_) (fun d w hs hl hr hm hi => ?_)
  · have := specAllows_c d gs a1 a2 w hl hi (by rw [hs.zs]; exact hgs)
    rw [hs.e, hs.f, hs.zs, hs.ps, hs.cs] at this
    exact this
  · have := implAllows_c d gs a1 a2 w hl hr hm hi (by rw [hs.zs]; exact hgs)
    rw [hs.e, hs.f, hs.zs, hs.ps, hs.cs] at this
    exact this

/-! The row's step. -/
set_option maxRecDepth 100000 in
theorem lifted (os : Os) (started : os.Started) (H : Type) (enc : TypeId × Value → H) :
    ReturnsInHanded {} Try.checked os 6 .any (Rows.fnExactAllowsInSpec.pre6 enc Try.prog Try.f6 Rows.fnExactAllowsInRow.domain false) (Rows.fnExactAllowsInSpec.post enc Try.prog Try.f6 false true false false) := by
  refine returnsInHanded_of_change (C := Try.checked) own started (by kernel_rfl) Try.func6
    (ChangeSpec.witness6 (enc := enc) (C := Try.checked) false ⟨#[], #[.agg #[.int .i64 0, .int .i64 0, .slice none 0 0, .slice none 0 0, .slice none 0 0], .int .i64 0, .int .i64 0], []⟩ 8 (by kernel_rfl) (by kernel_rfl) (by kernel_rfl) (by kernel_rfl)) ?_
  intro W base args ds gs before hval0 hW hcnd _
  have hval : ∀ (j : Nat) t v, Try.f6.params[j]? = some t → args[j]? = some v → Value.okWide Try.prog W .any base t v := hval0
  have hW' := hW
  obtain ⟨p, q, hA0, hV, rfl, hfz, hnd⟩ := hW
  have hA : DataW.TrodAll enc Try.prog W 0 (fun _ => true) true Try.f6.params.toList args.toList ds p := hA0
  rw [Try.params6] at hA hval
  obtain ⟨v0, vs0, d0, ds0, p0, q0, hargs, rfl, rfl, h0, r0⟩ := trodAll_cons hA
  obtain ⟨v1, vs1, d1, ds1, p1, q1, rfl, rfl, rfl, h1, r1⟩ := trodAll_cons r0
  obtain ⟨v2, vs2, d2, ds2, p2, q2, rfl, rfl, rfl, h2, r2⟩ := trodAll_cons r1
  obtain ⟨rfl, rfl, rfl⟩ := trodAll_nil r2
  obtain rfl : args = #[v0, v1, v2] := by cases args; simp_all
  obtain ⟨rfl, rfl⟩ := trodVars_none hV
  obtain ⟨cs0, rfl, hs0⟩ := okWide_struct Try.underlying26 (hval 0 26 v0 rfl rfl)
  have k0 := h0
  have lt0 : ∀ x ∈ p0, x.block < W.heap.size := by obtain ⟨m, hm⟩ := k0; exact DataW.trod_lt m _ _ _ hm
  obtain ⟨c0, rfl, w0⟩ : ∃ c : ConfI, cs0 = #[.int .i64 c.e, .int .i64 c.f, .slice c.ra c.rn c.rc, .slice c.fa c.fn c.fc, .slice c.ca c.cn c.cc] ∧ (ConfIn W c ∧ ConfLe maxLen c) := by
    obtain ⟨fuel, hf⟩ := h0
    exact conf_shape _ hf
  obtain ⟨a1, rfl, rfl, rfl, w1⟩ := open_int Try.underlying2 (hval 1 2 v1 rfl rfl) h1
  obtain ⟨a2, rfl, rfl, rfl, w2⟩ := open_int Try.underlying2 (hval 2 2 v2 rfl rfl) h2
  clear hA0 hval0
  refine (walk c0 a1 a2 W w0 w1 w2).mono fun e W' ⟨he, bel⟩ => ?_
  subst he
  exact ⟨_, rfl, _, _, _, [], _, [], hW', trodAll_mk1 (shut_bool Try.underlying4 _), (trodAll_cons_mk (Below.trod laidOut (by kernel_rfl) (of_decide_eq_true (by kernel_rfl)) k0 bel lt0) (trodAll_cons_mk (shut_int Try.underlying2 w1) (trodAll_cons_mk (shut_int Try.underlying2 w2) trodAll_mk0))), rfl, bel.frame _, fun h => by cases h⟩

theorem over : Rows.fnExactAllowsInRow.holds Try.pinned (OpenSpec.ofChange Rows.fnExactAllowsInSpec) :=
  OpenClaim.holds_of_wide 6 Try.f6 rfl rfl rfl rfl rfl rfl rfl ⟨rfl, rfl, rfl, rfl, rfl⟩ rfl rfl rfl rfl rfl (by kernel_rfl) Try.func6 (by kernel_rfl)
    (of_decide_eq_true (by kernel_rfl)) (by unfold Func.isWrapper; first | (rw [if_pos (by decide +kernel)]; kernel_rfl) | (rw [if_neg (by decide +kernel)]; exact ⟨rfl, rfl⟩))
    (fun os started H enc _ => lifted os started H enc)

end Go.Proofs.Ytnfolmjdicfobaa.fnExactAllowsIn
namespace Go.Proofs.Ytnfolmjdicfobaa
theorem fnExactAllowsIn_holds : Rows.FnExactAllowsInSaid := fnExactAllowsIn.over
#print axioms fnExactAllowsIn_holds
end Go.Proofs.Ytnfolmjdicfobaa
