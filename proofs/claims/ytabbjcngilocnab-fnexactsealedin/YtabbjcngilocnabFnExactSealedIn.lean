/-
  PROVED: for every Replica and every int64 the law laws.FnExactSealedIn returns true, that is impl.SealedIn answers as spec.SealedIn there (up to 1<<20 statements and locks, as the law itself says), writes nothing into its arguments; the arguments read as they did.
  Conditions: none beside those that the given row itself bears. The frame is the shell written by program, turned for a struct; the walk is ours.
-/
import Derived.Test.YtabbjcngilocnabRows
import Derived.WalkKit
import Derived.ProofKit
import Derived.OpenShut
import Derived.ShutString
import Derived.ChangeOld
import Derived.Below
import Derived.Deep.CutBlock
import Derived.Deep.RegionHeld3
import Derived.Test.YtabbjcngilocnabRt0
import Derived.Test.YtabbjcngilocnabRe1
import Derived.Test.YtabbjcngilocnabReA
namespace Go.Proofs.Ytabbjcngilocnab.fnExactSealedIn
open Go.ChangeShapes Go.WideShapes Go.ChangeAt Go.RowKit
open Go.ChangeMaps (open_string shut_string)
set_option linter.unusedVariables false

theorem own : ownKnob Try.prog.godebug = none := by kernel_rfl
theorem laidOut : laidOutB Try.prog = true := by kernel_rfl

set_option linter.unusedSimpArgs false

abbrev KR (W W' : World) : Prop := (∀ b o, b < W.heap.size → W'.cell? ⟨b, o, none⟩ = W.cell? ⟨b, o, none⟩) ∧ Below W.heap.size W W'

set_option maxRecDepth 20000 in
set_option maxHeartbeats 2000000 in
theorem inner (r : RepI) (e : Int) (w : World) (hm : RepLe maxLen r) (h : RepIn w r) :
    Calls Try.prog 3 #[.agg #[.int .i64 r.i, .int .i64 r.u, .slice r.sa r.sn r.sc, .slice r.la r.ln r.lc], .int .i64 e] w fun d w' => d = .returned (.bool true) ∧ Below w.heap.size w w' := by
  have HLN : Hid (r.ss.length = r.sn ∧ r.ls.length = r.ln) := ⟨h.said.1, h.locks.1⟩
  obtain ⟨t, ht⟩ : ∃ t, sealB r.ss e = t := ⟨_, rfl⟩
  obtain ⟨V, hV⟩ : ∃ V, V = w.alloc (.cells #[.int .i64 r.i, .int .i64 r.u, .slice r.sa r.sn r.sc, .slice r.la r.ln r.lc] 25) := ⟨_, rfl⟩
  have B0 : Hid (Below w.heap.size w V) := by rw [hV]; exact (Below.refl _ _).alloc (Nat.le_refl _) _
  have X0 : Hid (RepBox V w.heap.size r) := by rw [hV]; exact RepBox.new w r _
  have HM : Hid (RepLe maxLen r) := hm
  have HTO : Hid (RepLe 1048576 r → ∀ w2, Below w.heap.size w w2 → Calls Try.prog 6 #[.agg #[.int .i64 r.i, .int .i64 r.u, .slice r.sa r.sn r.sc, .slice r.la r.ln r.lc]] w2 fun e w' => ∃ (y : RepI) (L : Nat), e = .returned (.agg #[.int .i64 y.i, .int .i64 y.u, .slice y.sa y.sn y.sc, .slice y.la y.ln y.lc]) ∧ w2.heap.size ≤ L ∧ RepNew w' L r y ∧ Below w2.heap.size w2 w') := fun hle w2 hb => toReplica_c r w2 hle (h.below hb)
  have HSP : Hid (RepLe 1048576 r → ∀ (y : RepI) (L : Nat) (w2 : World), RepNew w2 L r y → Calls Try.prog 5 #[.agg #[.int .i64 y.i, .int .i64 y.u, .slice y.sa y.sn y.sc, .slice y.la y.ln y.lc], .int .i64 e] w2 fun d w' => d = .returned (.bool t) ∧ Below w2.heap.size w2 w') := fun hle y L w2 hy => by
    have q := hy.isIn HLN.out.1 HLN.out.2
    have := specSealed_c y e w2 (by rw [hy.sn]; exact hle.said) q.said
    rw [hy.ss, ht] at this
    exact this
  have HIM : Hid (RepLe 1048576 r → ∀ (y : RepI) (L : Nat) (w2 : World), RepNew w2 L r y → Calls Try.prog 7 #[.agg #[.int .i64 y.i, .int .i64 y.u, .slice y.sa y.sn y.sc, .slice y.la y.ln y.lc], .int .i64 e] w2 fun d w' => d = .returned (.bool t) ∧ Below w2.heap.size w2 w') := fun hle y L w2 hy => by
    have q := hy.isIn HLN.out.1 HLN.out.2
    have := implSealed_c y e w2 (by rw [hy.sn]; exact hle.said) q.said
    rw [hy.ss, ht] at this
    exact this
  clear h ht hm
  go_enter Try.func3, Try.ntmps3
  go_wp2_with fail
  rw [← hV]
  clear hV
  refine (szReplica_c r 1048576 _ HM.out (by omega) (by omega)).mono ?_
  rintro d w1 ⟨⟨v, rfl, hv1, hv2⟩, hb1⟩
  have B1 : Hid (Below w.heap.size w w1) := B0.out.trans (hb1.mono B0.out.size)
  have X1 : Hid (RepBox w1 w.heap.size r) := X0.out.below hb1
  clear hb1 X0 B0
  by_cases hneg : v < 0
  · go_wp2
    go_ret
    exact ⟨rfl, B1.out⟩
  · have hv3 := hv2 (by omega)
    have HLE : Hid (RepLe 1048576 r) := ⟨by omega, by omega⟩
    have hneg' : ¬ v < 0 := hneg
    clear hv2 hv3
    have hx := X1.out.lt
    obtain ⟨x0, x1, x2, x3⟩ := X1.out
    go_wp2_with fail
    refine (HTO.out HLE.out _ B1.out).mono ?_
    rintro d w2 ⟨y, L, rfl, hL, hy, hb2⟩
    have B2 : Hid (Below w.heap.size w w2) := B1.out.trans (hb2.mono B1.out.size)
    have X2 : Hid (RepBox w2 w.heap.size r) := X1.out.below hb2
    have Y2 : Hid (RepNew w2 L r y) := hy
    clear hb2 hy x0 x1 x2 x3 hx hL
    go_wp2_with fail
    refine (HSP.out HLE.out y L _ Y2.out).mono ?_
    rintro d w3 ⟨rfl, hb3⟩
    have B3 : Hid (Below w.heap.size w w3) := B2.out.trans (hb3.mono B2.out.size)
    have X3 : Hid (RepBox w3 w.heap.size r) := X2.out.below hb3
    clear hb3 B2 X2 Y2
    have hx := X3.out.lt
    obtain ⟨x0, x1, x2, x3⟩ := X3.out
    go_wp2_with fail
    refine (HTO.out HLE.out _ B3.out).mono ?_
    rintro d w4 ⟨z, L4, rfl, hL4, hz, hb4⟩
    obtain ⟨U, hU⟩ : ∃ U, U = w4.alloc (.cells #[.int .i64 z.i, .int .i64 z.u, .slice z.sa z.sn z.sc, .slice z.la z.ln z.lc] 31) := ⟨_, rfl⟩
    have A4 : Below w4.heap.size w4 U := by rw [hU]; exact (Below.refl _ _).alloc (Nat.le_refl _) _
    have hb4' : Below w3.heap.size w3 U := hb4.trans (A4.mono hb4.size)
    have B4 : Hid (Below w.heap.size w U) := B3.out.trans (hb4'.mono B3.out.size)
    have X4 : Hid (RepBox U w.heap.size r) := X3.out.below hb4'
    have Z4 : Hid (RepNew U L4 r z) := hz.below A4
    have Q4 : Hid (RepBox U w4.heap.size z) := by rw [hU]; exact RepBox.new w4 z _
    clear hb4 hb4' A4 hz x0 x1 x2 x3 hx hL4 B3 X3
    go_upto_region 7 with fail
    rw [← hU]
    clear hU
    have hq := Q4.out.lt
    obtain ⟨q0, q1, q2, q3⟩ := Q4.out
    go_wp2_with fail
    refine (HIM.out HLE.out z L4 _ Z4.out).mono ?_
    rintro d w5 ⟨rfl, hb5⟩
    have B5 : Hid (Below w.heap.size w w5) := B4.out.trans (hb5.mono B4.out.size)
    have X5 : Hid (RepBox w5 w.heap.size r) := X4.out.below hb5
    have Z5 : Hid (RepNew w5 L4 r z) := Z4.out.below hb5
    have Q5 : Hid (RepBox w5 w4.heap.size z) := Q4.out.below hb5
    clear hb5 q0 q1 q2 q3 hq B4 X4 Z4 Q4
    have htt : (t != t) = false := by simp
    have hx := X5.out.lt
    obtain ⟨x0, x1, x2, x3⟩ := X5.out
    have hq := Q5.out.lt
    obtain ⟨q0, q1, q2, q3⟩ := Q5.out
    have HT2 : Hid (∀ w2, KR w5 w2 → Calls Try.prog 6 #[.agg #[.int .i64 r.i, .int .i64 r.u, .slice r.sa r.sn r.sc, .slice r.la r.ln r.lc]] w2 fun e w' => ∃ (y : RepI) (L : Nat), e = .returned (.agg #[.int .i64 y.i, .int .i64 y.u, .slice y.sa y.sn y.sc, .slice y.la y.ln y.lc]) ∧ w2.heap.size ≤ L ∧ RepNew w' L r y ∧ Below w2.heap.size w2 w') := fun w2 hk => HTO.out HLE.out w2 (B5.out.trans (hk.2.mono B5.out.size))
    have HEQ : Hid (∀ (y : RepI) (L : Nat) (w2 : World), KR w5 w2 → RepNew w2 L r y → Calls Try.prog 8 #[.agg #[.int .i64 z.i, .int .i64 z.u, .slice z.sa z.sn z.sc, .slice z.la z.ln z.lc], .agg #[.int .i64 y.i, .int .i64 y.u, .slice y.sa y.sn y.sc, .slice y.la y.ln y.lc]] w2 fun e w' => e = .returned (.bool true) ∧ Below w2.heap.size w2 w') := fun y L w2 hk hy => by
      have i1 := (Z5.out.below hk.2).isIn HLN.out.1 HLN.out.2
      have i2 := hy.isIn HLN.out.1 HLN.out.2
      have e1 := Z5.out
      rw [hy.i, hy.u, hy.sn, hy.ln, e1.i, e1.u, e1.sn, e1.ln]
      refine eqReplica_same r.i r.u z.sa y.sa r.sn z.sc y.sc r.ss z.la y.la r.ln z.lc y.lc r.ls w2 HLE.out.said HLE.out.locks ?_ ?_ ?_ ?_
      · have := i1.said; rw [e1.sn, e1.ss] at this; exact this
      · have := i2.said; rw [hy.sn, hy.ss] at this; exact this
      · have := i1.locks; rw [e1.ln, e1.ls] at this; exact this
      · have := i2.locks; rw [hy.ln, hy.ls] at this; exact this
    clear HTO HSP HIM X5 Q5 Z5
    go_upto_region 10 with fail
    refine wp_region_held_drew (S := fun w' => KR w5 w') (by kernel_rfl) (kp_drew _) (fun hHeld => ?_)
    refine wpAnyH_take (i := 0) (v := ?_) rfl (by kernel_rfl) (by kernel_rfl) (by kernel_rfl) (fun _ _ _ h => h) (Or.inl ⟨by kernel_rfl, ?_⟩) (by assumption) ?_
    rotate_left 1
    · intro w hSw; (try dsimp only at hSw); go_simp; try (with_reducible rfl)
    try simp only [Act.put, List.getElem_toArray, List.getElem_cons_succ, List.getElem_cons_zero, List.setIfInBounds_toArray, List.set_cons_zero, List.set_cons_succ]
    refine wpAnyH_take (i := 1) (v := ?_) rfl (by kernel_rfl) (by kernel_rfl) (by kernel_rfl) (fun _ _ _ h => h) (Or.inl ⟨by kernel_rfl, ?_⟩) (by assumption) ?_
    rotate_left 1
    · intro w hSw; (try dsimp only at hSw); go_simp; try (with_reducible rfl)
    try simp only [Act.put, List.getElem_toArray, List.getElem_cons_succ, List.getElem_cons_zero, List.setIfInBounds_toArray, List.set_cons_zero, List.set_cons_succ]
    refine wpAnyH_ready (rs := [2]) (by kernel_rfl) (by simp) ?_
    refine AllReadyH.cons rfl (fun K hK => ?_) AllReadyH.nil
    go_simp
    refine (HT2.out _ hHeld).mono ?_
    rintro d wA ⟨y, LA, rfl, hLA, hyA, hbA⟩
    have hS := kp_step hHeld hbA
    refine hK.out _ _ hS (fun hHeld => ?_)
    clear hK K
    try simp only [Act.put, List.getElem_toArray, List.getElem_cons_succ, List.getElem_cons_zero, List.setIfInBounds_toArray, List.set_cons_zero, List.set_cons_succ]
    refine wpAnyH_ready (rs := [3]) (by kernel_rfl) (by simp) ?_
    refine AllReadyH.cons rfl (fun K hK => ?_) AllReadyH.nil
    go_simp
    refine (HEQ.out y LA _ hHeld hyA).mono ?_
    rintro d wB ⟨rfl, hbB⟩
    have hS := kp_step hHeld hbB
    refine hK.out _ _ hS (fun hHeld => ?_)
    clear hK K
    try simp only [Act.put, List.getElem_toArray, List.getElem_cons_succ, List.getElem_cons_zero, List.setIfInBounds_toArray, List.set_cons_zero, List.set_cons_succ]
    refine wpAnyH_take (i := 4) (v := ?_) rfl (by kernel_rfl) (by kernel_rfl) (by kernel_rfl) (fun _ _ _ h => h) (Or.inl ⟨by kernel_rfl, ?_⟩) (by assumption) ?_
    rotate_left 1
    · intro w hSw; (try dsimp only at hSw); go_simp; try (with_reducible rfl)
    try simp only [Act.put, List.getElem_toArray, List.getElem_cons_succ, List.getElem_cons_zero, List.setIfInBounds_toArray, List.set_cons_zero, List.set_cons_succ]
    refine wpAnyH_done (by kernel_rfl) ?_ _
    go_wp2
    go_ret
    exact ⟨rfl, B5.out.trans (hHeld.2.mono B5.out.size)⟩

/-! The walk: the Go text returns true. -/
theorem walk (rr0 : RepI) (a1 : Int) (w : World) (w0 : RepIn w rr0 ∧ RepLe maxLen rr0) (w1 : (Lit.int .i64 a1).wf = true) :
    Calls Try.prog 3 #[.agg #[.int .i64 rr0.i, .int .i64 rr0.u, .slice rr0.sa rr0.sn rr0.sc, .slice rr0.la rr0.ln rr0.lc], .int .i64 a1] w fun e w' => e = .returned (.bool true) ∧ Below w.heap.size w w' := by
  exact inner rr0 a1 w w0.2 w0.1

/-! The row's step. -/
set_option maxRecDepth 100000 in
theorem lifted (os : Os) (started : os.Started) (H : Type) (enc : TypeId × Value → H) :
    ReturnsInHanded {} Try.checked os 3 .any (Rows.fnExactSealedInSpec.pre6 enc Try.prog Try.f3 Rows.fnExactSealedInRow.domain false) (Rows.fnExactSealedInSpec.post enc Try.prog Try.f3 false true false false) := by
  refine returnsInHanded_of_change (C := Try.checked) own started (by kernel_rfl) Try.func3
    (ChangeSpec.witness6 (enc := enc) (C := Try.checked) false ⟨#[], #[.agg #[.int .i64 0, .int .i64 0, .slice none 0 0, .slice none 0 0], .int .i64 0], []⟩ 8 (by kernel_rfl) (by kernel_rfl) (by kernel_rfl) (by kernel_rfl)) ?_
  intro W base args ds gs before hval0 hW hcnd _
  have hval : ∀ (j : Nat) t v, Try.f3.params[j]? = some t → args[j]? = some v → Value.okWide Try.prog W .any base t v := hval0
  have hW' := hW
  obtain ⟨p, q, hA0, hV, rfl, hfz, hnd⟩ := hW
  have hA : DataW.TrodAll enc Try.prog W 0 (fun _ => true) true Try.f3.params.toList args.toList ds p := hA0
  rw [Try.params3] at hA hval
  obtain ⟨v0, vs0, d0, ds0, p0, q0, hargs, rfl, rfl, h0, r0⟩ := trodAll_cons hA
  obtain ⟨v1, vs1, d1, ds1, p1, q1, rfl, rfl, rfl, h1, r1⟩ := trodAll_cons r0
  obtain ⟨rfl, rfl, rfl⟩ := trodAll_nil r1
  obtain rfl : args = #[v0, v1] := by cases args; simp_all
  obtain ⟨rfl, rfl⟩ := trodVars_none hV
  obtain ⟨cs0, rfl, hs0⟩ := okWide_struct Try.underlying25 (hval 0 25 v0 rfl rfl)
  have k0 := h0
  have lt0 : ∀ x ∈ p0, x.block < W.heap.size := by obtain ⟨m, hm⟩ := k0; exact DataW.trod_lt m _ _ _ hm
  obtain ⟨rr0, rfl, w0⟩ : ∃ r : RepI, cs0 = #[.int .i64 r.i, .int .i64 r.u, .slice r.sa r.sn r.sc, .slice r.la r.ln r.lc] ∧ (RepIn W r ∧ RepLe maxLen r) := by
    obtain ⟨fuel, hf⟩ := h0
    exact rep_shape _ hf
  obtain ⟨a1, rfl, rfl, rfl, w1⟩ := open_int Try.underlying2 (hval 1 2 v1 rfl rfl) h1
  clear hA0 hval0
  refine (walk rr0 a1 W w0 w1).mono fun e W' ⟨he, bel⟩ => ?_
  subst he
  exact ⟨_, rfl, _, _, _, [], _, [], hW', trodAll_mk1 (shut_bool Try.underlying4 _), (trodAll_cons_mk (Below.trod laidOut (by kernel_rfl) (of_decide_eq_true (by kernel_rfl)) k0 bel lt0) (trodAll_cons_mk (shut_int Try.underlying2 w1) trodAll_mk0)), rfl, bel.frame _, fun h => by cases h⟩

theorem over : Rows.fnExactSealedInRow.holds Try.pinned (OpenSpec.ofChange Rows.fnExactSealedInSpec) :=
  OpenClaim.holds_of_wide 3 Try.f3 rfl rfl rfl rfl rfl rfl rfl ⟨rfl, rfl, rfl, rfl, rfl⟩ rfl rfl rfl rfl rfl (by kernel_rfl) Try.func3 (by kernel_rfl)
    (of_decide_eq_true (by kernel_rfl)) (by unfold Func.isWrapper; first | (rw [if_pos (by decide +kernel)]; kernel_rfl) | (rw [if_neg (by decide +kernel)]; exact ⟨rfl, rfl⟩))
    (fun os started H enc _ => lifted os started H enc)

end Go.Proofs.Ytabbjcngilocnab.fnExactSealedIn
namespace Go.Proofs.Ytabbjcngilocnab
theorem fnExactSealedIn_holds : Rows.FnExactSealedInSaid := fnExactSealedIn.over
#print axioms fnExactSealedIn_holds
end Go.Proofs.Ytabbjcngilocnab
