/-
  PROVED: for every slice of shares, every int64 and every Statement the law laws.FnExactIsSigned returns true, that is impl.IsSigned answers as spec.IsSigned there (up to 1<<20 shares, as the law itself says) and writes nothing into its arguments; the arguments read as they did.
  Conditions: none beside those that the given row itself bears. The frame is the shell written by program, turned for structs and slices of structs; the walk is ours.
-/
import Derived.Test.YtdfhebmecbcegaaRows
import Derived.WalkKit
import Derived.ProofKit
import Derived.OpenShut
import Derived.ShutString
import Derived.ChangeOld
import Derived.Below
import Derived.Test.YtdfhebmecbcegaaCea
import Derived.Test.YtdfhebmecbcegaaCr0
import Derived.Test.YtdfhebmecbcegaaShM
import Derived.Test.YtdfhebmecbcegaaShA
import Derived.Test.YtdfhebmecbcegaaStA
import Derived.Test.YtdfhebmecbcegaaList2
import Derived.Deep.CutBlock
import Derived.Deep.RegionHeld3
namespace Go.Proofs.Ytdfhebmecbcegaa.fnExactIsSigned
open Go.ChangeShapes Go.WideShapes Go.ChangeAt Go.RowKit
open Go.ChangeMaps (open_string shut_string)
set_option linter.unusedVariables false

theorem own : ownKnob Try.prog.godebug = none := by kernel_rfl
theorem laidOut : laidOutB Try.prog = true := by kernel_rfl

set_option linter.unusedSimpArgs false

abbrev KR0 (W W' : World) : Prop := (∀ b o, b < W.heap.size → W'.cell? ⟨b, o, none⟩ = W.cell? ⟨b, o, none⟩) ∧ Below W.heap.size W W'

set_option maxRecDepth 100000 in
set_option maxHeartbeats 8000000 in
theorem inner (a0 : Option Addr) (len0 cap0 : Nat) (z0 : List ShI) (a1 : Int) (x2 : StI) (c : Bool) (w : World) (hm0 : len0 ≤ maxLen) (h0 : ShIn w a0 len0 z0)
    (HS : Hid (len0 ≤ 1048576 → ∀ (g0 : Nat) (W : World), ShCp g0 len0 z0 W → Calls Try.prog 42 #[.slice (some ⟨g0, 0, none⟩) len0 len0, .int .i64 a1, .agg #[.int .i64 x2.k, .int .i64 x2.e, .int .i64 x2.f, .int .i64 x2.s, .int .i64 x2.n]] W fun e W' => e = .returned (.bool c) ∧ Below W.heap.size W W'))
    (HI : Hid (len0 ≤ 1048576 → ∀ (g0 : Nat) (W : World), ShCp g0 len0 z0 W → Calls Try.prog 16 #[.slice (some ⟨g0, 0, none⟩) len0 len0, .int .i64 a1, .agg #[.int .i64 x2.k, .int .i64 x2.e, .int .i64 x2.f, .int .i64 x2.s, .int .i64 x2.n]] W fun e W' => e = .returned (.bool c) ∧ Below W.heap.size W W')) :
    Calls Try.prog 11 #[.slice a0 len0 cap0, .int .i64 a1, .agg #[.int .i64 x2.k, .int .i64 x2.e, .int .i64 x2.f, .int .i64 x2.s, .int .i64 x2.n]] w fun e w' => e = .returned (.bool true) ∧ Below w.heap.size w w' := by
  have H0 : Hid (ShIn w a0 len0 z0) := h0
  have HZ0 : Hid (z0.length = len0) := h0.1
  clear h0
  obtain ⟨V, hV⟩ : ∃ V, V = (w.alloc (.cells #[.int .i64 x2.k, .int .i64 x2.e, .int .i64 x2.f, .int .i64 x2.s, .int .i64 x2.n] 52)) := ⟨_, rfl⟩
  have B0 : Hid (Below w.heap.size w V) := by rw [hV]; exact (Below.refl _ _).alloc (Nat.le_refl _) _
  have F1 : Hid (Hold (w.heap.size) (w.heap.size + 1) (BoxV (w.heap.size) [.int .i64 x2.k, .int .i64 x2.e, .int .i64 x2.f, .int .i64 x2.s, .int .i64 x2.n]) V) := by rw [hV]; have q := boxV_new w #[.int .i64 x2.k, .int .i64 x2.e, .int .i64 x2.f, .int .i64 x2.s, .int .i64 x2.n] 52; exact q
  have hl2 := F1.out.le
  have hz0 := B0.out.size
  go_enter Try.func11, Try.ntmps11
  go_wp2_with fail
  rw [← hV]
  clear hV
  refine (szShares_c a0 len0 cap0 1048576 _ hm0 (by omega) (by omega)).mono ?_
  rintro e w4 ⟨⟨v3, rfl, hv, hv2⟩, hb⟩
  have B5 : Hid (Below w.heap.size w w4) := B0.out.trans (hb.mono B0.out.size)
  have hz6 := hb.size
  have F7 : Hid (Hold (w.heap.size) (w.heap.size + 1) (BoxV (w.heap.size) [.int .i64 x2.k, .int .i64 x2.e, .int .i64 x2.f, .int .i64 x2.s, .int .i64 x2.n]) w4) := F1.out.below hb
  clear B0 F1
  clear hb
  by_cases hneg : v3 < 0
  · go_wp2
    go_ret
    exact ⟨rfl, B5.out⟩
  have hs0 : len0 ≤ 1048576 := hv2 (by omega)
  have hiv3 : 0 ≤ v3 ∧ v3 ≤ 1048576 := ⟨by omega, by omega⟩
  clear hv2 hneg
  have HS' := HS.out hs0
  have HI' := HI.out hs0
  have HSP : Hid _ := HS'
  have HIM : Hid _ := HI'
  clear HS' HI' HS HI
  have b20 := F7.out.out 0 _ rfl
  have b21 := F7.out.out 1 _ rfl
  have b22 := F7.out.out 2 _ rfl
  have b23 := F7.out.out 3 _ rfl
  have b24 := F7.out.out 4 _ rfl
  have hbl2 : w.heap.size < w4.heap.size := by omega
  go_upto_region 5 with fail
  have HTO0 : Hid (∀ w2, KR0 w4 w2 → Below w.heap.size w w2) := fun w2 q => B5.out.trans (q.2.mono B5.out.size)
  go_cut [8] from 16 to 21 (fun s wx => s = .bool c ∧ Below w4.heap.size w4 wx)
  case first =>
    refine wp_region_held_drew (S := fun w' => KR0 w4 w') (by kernel_rfl) (kp_drew _) (fun hHeld => ?_)
    refine wpAnyH_take (i := 0) (v := ?_) rfl (by kernel_rfl) (by kernel_rfl) (by kernel_rfl) (fun _ _ _ h => h) (Or.inl ⟨by kernel_rfl, ?_⟩) (by assumption) ?_
    rotate_left 1
    · intro w hSw; (try dsimp only at hSw); go_simp; try (with_reducible rfl)
    try simp only [Act.put, List.getElem_toArray, List.getElem_cons_succ, List.getElem_cons_zero, List.setIfInBounds_toArray, List.set_cons_zero, List.set_cons_succ]
    refine wpAnyH_take (i := 2) (v := ?_) rfl (by kernel_rfl) (by kernel_rfl) (by kernel_rfl) (fun _ _ _ h => h) (Or.inl ⟨by kernel_rfl, ?_⟩) (by assumption) ?_
    rotate_left 1
    · intro w hSw; (try dsimp only at hSw); go_simp; try (with_reducible rfl)
    try simp only [Act.put, List.getElem_toArray, List.getElem_cons_succ, List.getElem_cons_zero, List.setIfInBounds_toArray, List.set_cons_zero, List.set_cons_succ]
    refine wpAnyH_take (i := 3) (v := ?_) rfl (by kernel_rfl) (by kernel_rfl) (by kernel_rfl) (fun _ _ _ h => h) (Or.inl ⟨by kernel_rfl, ?_⟩) (by assumption) ?_
    rotate_left 1
    · intro w hSw; (try dsimp only at hSw); go_simp; try (with_reducible rfl)
    try simp only [Act.put, List.getElem_toArray, List.getElem_cons_succ, List.getElem_cons_zero, List.setIfInBounds_toArray, List.set_cons_zero, List.set_cons_succ]
    refine wpAnyH_ready (rs := [1]) (by kernel_rfl) (by simp) ?_
    refine AllReadyH.cons rfl (fun K hK => ?_) AllReadyH.nil
    go_simp
    refine (toShares_room a0 len0 cap0 z0 _ hs0 (H0.out.below (HTO0.out _ (by assumption)))).mono ?_
    rintro d y00 ⟨rfl, hat, hlt, hby00, hroom⟩
    have hS := kp_step (by assumption) hby00
    have hzy00 := hby00.size
    have E00 := ShCp.cast (g' := w4.heap.size) (ShCp.hold ⟨hat, hroom⟩ hlt) (by first | rfl | simp [go_sem] | (simp [go_sem]; done))
    have hSy00 := hS
    refine hK.out _ _ hS (fun hHeld => ?_)
    clear hK K
    try simp only [Act.put, List.getElem_toArray, List.getElem_cons_succ, List.getElem_cons_zero, List.setIfInBounds_toArray, List.set_cons_zero, List.set_cons_succ]
    refine wpAnyH_ready (rs := [4]) (by kernel_rfl) (by simp) ?_
    refine AllReadyH.cons rfl (fun K hK => ?_) AllReadyH.nil
    go_simp
    refine (toStatement_c x2 _).mono ?_
    rintro d y01 ⟨rfl, hby01⟩
    have hS := kp_step (by assumption) hby01
    have hzy01 := hby01.size
    replace E00 := (by first | exact E00 | exact E00.alloc _ : Hold _ _ _ _).below hby01
    have hSy01 := hS
    refine hK.out _ _ hS (fun hHeld => ?_)
    clear hK K
    try simp only [Act.put, List.getElem_toArray, List.getElem_cons_succ, List.getElem_cons_zero, List.setIfInBounds_toArray, List.set_cons_zero, List.set_cons_succ]
    refine wpAnyH_ready (rs := [5]) (by kernel_rfl) (by simp) ?_
    refine AllReadyH.cons rfl (fun K hK => ?_) AllReadyH.nil
    go_simp
    refine (HSP.out _ _ (by first | exact E00.out | exact (E00.alloc _).out)).mono ?_
    rintro d y02 ⟨rfl, hby02⟩
    have hS := kp_step (by assumption) hby02
    have hzy02 := hby02.size
    replace E00 := (by first | exact E00 | exact E00.alloc _ : Hold _ _ _ _).below hby02
    have hSy02 := hS
    refine hK.out _ _ hS (fun hHeld => ?_)
    clear hK K
    try simp only [Act.put, List.getElem_toArray, List.getElem_cons_succ, List.getElem_cons_zero, List.setIfInBounds_toArray, List.set_cons_zero, List.set_cons_succ]
    refine wpAnyH_ready (rs := [6]) (by kernel_rfl) (by simp) ?_
    refine AllReadyH.cons rfl (fun K hK => ?_) AllReadyH.nil
    go_simp
    refine hK.out _ _ (by assumption) (fun hHeld => ?_)
    clear hK K
    try simp only [Act.put, List.getElem_toArray, List.getElem_cons_succ, List.getElem_cons_zero, List.setIfInBounds_toArray, List.set_cons_zero, List.set_cons_succ]
    refine wpAnyH_done (by kernel_rfl) ?_ _
    go_wp2_with fail
    go_meet
    exact ⟨rfl, hS.2⟩
  case rest =>
    obtain ⟨U8, rfl⟩ : ∃ U, U = wc := ⟨_, rfl⟩
    obtain ⟨rfl, hb⟩ := hcut
    have B9 : Hid (Below w.heap.size w U8) := B5.out.trans (hb.mono B5.out.size)
    have hz10 := hb.size
    have F11 : Hid (Hold (w.heap.size) (w.heap.size + 1) (BoxV (w.heap.size) [.int .i64 x2.k, .int .i64 x2.e, .int .i64 x2.f, .int .i64 x2.s, .int .i64 x2.n]) U8) := F7.out.below hb
    clear B5 F7
    clear hb
    clear b20 b21 b22 b23 b24
    clear hbl2
    clear HTO0
    have hNB : w.heap.size ≤ U8.heap.size := B9.out.size
    go_wp2_with fail
    refine (toShares_room a0 len0 cap0 z0 _ hs0 (H0.out.below B9.out)).mono ?_
    rintro e w12 ⟨rfl, hat, hlt, hb, hroom⟩
    have B13 : Hid (Below w.heap.size w w12) := B9.out.trans (hb.mono B9.out.size)
    have hz14 := hb.size
    have F15 : Hid (Hold (w.heap.size) (w.heap.size + 1) (BoxV (w.heap.size) [.int .i64 x2.k, .int .i64 x2.e, .int .i64 x2.f, .int .i64 x2.s, .int .i64 x2.n]) w12) := F11.out.below hb
    clear B9 F11
    obtain ⟨xg0, hxg0⟩ : ∃ g, g = U8.heap.size := ⟨_, rfl⟩
    have hgexg0 : U8.heap.size ≤ xg0 := by omega
    rw [← hxg0] at hat hroom hlt ⊢
    have F16 : Hid (Hold (xg0) (xg0 + 1) (ShCp xg0 len0 z0) w12) := ShCp.hold ⟨hat, hroom⟩ hlt
    have hl17 := F16.out.le
    clear hxg0 hat hroom hlt hb
    have b20 := F15.out.out 0 _ rfl
    have b21 := F15.out.out 1 _ rfl
    have b22 := F15.out.out 2 _ rfl
    have b23 := F15.out.out 3 _ rfl
    have b24 := F15.out.out 4 _ rfl
    go_wp2_with fail
    refine (toStatement_c x2 _).mono ?_
    rintro e w18 ⟨rfl, hb⟩
    clear b20 b21 b22 b23 b24
    have B19 : Hid (Below w.heap.size w w18) := B13.out.trans (hb.mono B13.out.size)
    have hz20 := hb.size
    have F21 : Hid (Hold (w.heap.size) (w.heap.size + 1) (BoxV (w.heap.size) [.int .i64 x2.k, .int .i64 x2.e, .int .i64 x2.f, .int .i64 x2.s, .int .i64 x2.n]) w18) := F15.out.below hb
    have F22 : Hid (Hold (xg0) (xg0 + 1) (ShCp xg0 len0 z0) w18) := F16.out.below hb
    clear B13 F15 F16
    clear hb
    go_wp2_with fail
    refine (HIM.out _ _ F22.out.out).mono ?_
    rintro e w23 ⟨rfl, hb⟩
    have B24 : Hid (Below w.heap.size w w23) := B19.out.trans (hb.mono B19.out.size)
    have hz25 := hb.size
    have F26 : Hid (Hold (w.heap.size) (w.heap.size + 1) (BoxV (w.heap.size) [.int .i64 x2.k, .int .i64 x2.e, .int .i64 x2.f, .int .i64 x2.s, .int .i64 x2.n]) w23) := F21.out.below hb
    have F27 : Hid (Hold (xg0) (xg0 + 1) (ShCp xg0 len0 z0) w23) := F22.out.below hb
    clear B19 F21 F22
    clear hb
    go_wp2_with fail
    refine (toShares_room a0 len0 cap0 z0 _ hs0 (H0.out.below B24.out)).mono ?_
    rintro e w28 ⟨rfl, hat, hlt, hb, hroom⟩
    have B29 : Hid (Below w.heap.size w w28) := B24.out.trans (hb.mono B24.out.size)
    have hz30 := hb.size
    have F31 : Hid (Hold (w.heap.size) (w.heap.size + 1) (BoxV (w.heap.size) [.int .i64 x2.k, .int .i64 x2.e, .int .i64 x2.f, .int .i64 x2.s, .int .i64 x2.n]) w28) := F26.out.below hb
    have F32 : Hid (Hold (xg0) (xg0 + 1) (ShCp xg0 len0 z0) w28) := F27.out.below hb
    clear B24 F26 F27
    have F33 : Hid (Hold (w23.heap.size) (w23.heap.size + 1) (ShCp w23.heap.size len0 z0) w28) := ShCp.hold ⟨hat, hroom⟩ hlt
    have hl34 := F33.out.le
    clear hat hroom hlt hb
    go_wp2_with fail
    refine (eqShares_same _ _ len0 _ _ z0 _ hs0 (ShIn.of HZ0.out F32.out.out.1) (ShIn.of HZ0.out F33.out.out.1)).mono ?_
    rintro e w35 ⟨rfl, hb⟩
    clear F33
    have B36 : Hid (Below w.heap.size w w35) := B29.out.trans (hb.mono B29.out.size)
    have hz37 := hb.size
    have F38 : Hid (Hold (w.heap.size) (w.heap.size + 1) (BoxV (w.heap.size) [.int .i64 x2.k, .int .i64 x2.e, .int .i64 x2.f, .int .i64 x2.s, .int .i64 x2.n]) w35) := F31.out.below hb
    have F39 : Hid (Hold (xg0) (xg0 + 1) (ShCp xg0 len0 z0) w35) := F32.out.below hb
    clear B29 F31 F32
    clear hb
    go_wp2
    go_ret
    exact ⟨rfl, B36.out⟩

/-! The walk: the Go text returns true. -/
theorem walk (a0 : Option Addr) (len0 cap0 : Nat) (z0 : List ShI) (a1 : Int) (x2 : StI) (w : World) (w0 : ShArg w a0 len0 z0) (w1 : (Lit.int .i64 a1).wf = true) :
    Calls Try.prog 11 #[.slice a0 len0 cap0, .int .i64 a1, .agg #[.int .i64 x2.k, .int .i64 x2.e, .int .i64 x2.f, .int .i64 x2.s, .int .i64 x2.n]] w fun e w' => e = .returned (.bool true) ∧ Below w.heap.size w w' := by
  have hmx : ∀ n : Nat, n ≤ 1048576 → n ≤ maxLen := fun n h => by unfold maxLen; omega
  exact inner a0 len0 cap0 z0 a1 x2 (isB a1 z0 x2) w w0.2.1 w0.1
    (fun h1 g0 W q0 => specSigned_c _ len0 len0 z0 a1 x2 W h1 (Nat.le_refl _) (hmx _ h1) (ShIn.of w0.1.1 q0.1))
    (fun h1 g0 W q0 => implSigned_c _ len0 len0 z0 a1 x2 W h1 (Nat.le_refl _) (hmx _ h1) (ShIn.of w0.1.1 q0.1))

/-! The row's step. -/
set_option maxRecDepth 100000 in
theorem lifted (os : Os) (started : os.Started) (H : Type) (enc : TypeId × Value → H) :
    ReturnsInHanded {} Try.checked os 11 .any (Rows.fnExactIsSignedSpec.pre6 enc Try.prog Try.f11 Rows.fnExactIsSignedRow.domain false) (Rows.fnExactIsSignedSpec.post enc Try.prog Try.f11 false true false false) := by
  refine returnsInHanded_of_change (C := Try.checked) own started (by kernel_rfl) Try.func11
    (ChangeSpec.witness6 (enc := enc) (C := Try.checked) false ⟨#[], #[.slice none 0 0, .int .i64 0, .agg #[.int .i64 0, .int .i64 0, .int .i64 0, .int .i64 0, .int .i64 0]], []⟩ 8 (by kernel_rfl) (by kernel_rfl) (by kernel_rfl) (by kernel_rfl)) ?_
  intro W base args ds gs before hval0 hW hcnd _
  have hval : ∀ (j : Nat) t v, Try.f11.params[j]? = some t → args[j]? = some v → Value.okWide Try.prog W .any base t v := hval0
  have hW' := hW
  obtain ⟨p, q, hA0, hV, rfl, hfz, hnd⟩ := hW
  have hA : DataW.TrodAll enc Try.prog W 0 (fun _ => true) true Try.f11.params.toList args.toList ds p := hA0
  rw [Try.params11] at hA hval
  obtain ⟨v0, vs0, d0, ds0, p0, q0, hargs, rfl, rfl, h0, r0⟩ := trodAll_cons hA
  obtain ⟨v1, vs1, d1, ds1, p1, q1, rfl, rfl, rfl, h1, r1⟩ := trodAll_cons r0
  obtain ⟨v2, vs2, d2, ds2, p2, q2, rfl, rfl, rfl, h2, r2⟩ := trodAll_cons r1
  obtain ⟨rfl, rfl, rfl⟩ := trodAll_nil r2
  obtain rfl : args = #[v0, v1, v2] := by cases args; simp_all
  obtain ⟨rfl, rfl⟩ := trodVars_none hV
  obtain ⟨a0, len0, cap0, rfl⟩ := okWide_slice Try.underlying47 (hval 0 47 v0 rfl rfl)
  have k0 := h0
  have lt0 : ∀ x ∈ p0, x.block < W.heap.size := by obtain ⟨m, hm⟩ := k0; exact DataW.trod_lt m _ _ _ hm
  obtain ⟨z0, w0⟩ : ∃ zs : List ShI, ShArg W a0 len0 zs := by
    obtain ⟨fuel, hf⟩ := h0
    exact shares_shape hf
  obtain ⟨a1, rfl, rfl, rfl, w1⟩ := open_int Try.underlying2 (hval 1 2 v1 rfl rfl) h1
  obtain ⟨cs2, rfl, hs2⟩ := okWide_struct Try.underlying52 (hval 2 52 v2 rfl rfl)
  have k2 := h2
  have lt2 : ∀ x ∈ p2, x.block < W.heap.size := by obtain ⟨m, hm⟩ := k2; exact DataW.trod_lt m _ _ _ hm
  obtain ⟨x2, rfl⟩ : ∃ x : StI, cs2 = #[.int .i64 x.k, .int .i64 x.e, .int .i64 x.f, .int .i64 x.s, .int .i64 x.n] := by
    obtain ⟨fuel, hf⟩ := h2
    exact statement_shape _ hf
  clear hA0 hval0
  refine (walk a0 len0 cap0 z0 a1 x2 W w0 w1).mono fun e W' ⟨he, bel⟩ => ?_
  subst he
  exact ⟨_, rfl, _, _, _, [], _, [], hW', trodAll_mk1 (shut_bool Try.underlying4 _), (trodAll_cons_mk (Below.trod laidOut (by kernel_rfl) (of_decide_eq_true (by kernel_rfl)) k0 bel lt0) (trodAll_cons_mk (shut_int Try.underlying2 w1) (trodAll_cons_mk (Below.trod laidOut (by kernel_rfl) (of_decide_eq_true (by kernel_rfl)) k2 bel lt2) trodAll_mk0))), rfl, bel.frame _, fun h => by cases h⟩

theorem over : Rows.fnExactIsSignedRow.holds Try.pinned (OpenSpec.ofChange Rows.fnExactIsSignedSpec) :=
  OpenClaim.holds_of_wide 11 Try.f11 rfl rfl rfl rfl rfl rfl rfl ⟨rfl, rfl, rfl, rfl, rfl⟩ rfl rfl rfl rfl rfl (by kernel_rfl) Try.func11 (by kernel_rfl)
    (of_decide_eq_true (by kernel_rfl)) (by unfold Func.isWrapper; first | (rw [if_pos (by decide +kernel)]; kernel_rfl) | (rw [if_neg (by decide +kernel)]; exact ⟨rfl, rfl⟩))
    (fun os started H enc _ => lifted os started H enc)

end Go.Proofs.Ytdfhebmecbcegaa.fnExactIsSigned
namespace Go.Proofs.Ytdfhebmecbcegaa
theorem fnExactIsSigned_holds : Rows.FnExactIsSignedSaid := fnExactIsSigned.over
#print axioms fnExactIsSigned_holds
end Go.Proofs.Ytdfhebmecbcegaa
