/-
  PROVED: for every two slices of int64 the law laws.FnExactIsPrefix returns true, that is impl.IsPrefix answers as spec.IsPrefix there (up to 1<<20 elements, as the law itself says) and writes nothing into its arguments; the arguments read as they did.
  Conditions: none beside those that the given row itself bears. The frame is the shell written by program, turned for structs and slices of structs; the walk is ours.
-/
import Derived.Test.YteknjkifgnfjgaaRows
import Derived.WalkKit
import Derived.ProofKit
import Derived.OpenShut
import Derived.ShutString
import Derived.ChangeOld
import Derived.Below
import Derived.Test.YteknjkifgnfjgaaIp0
import Derived.Test.YteknjkifgnfjgaaEx0
import Derived.Test.YteknjkifgnfjgaaList2
import Derived.Deep.CutBlock
import Derived.Deep.RegionHeld3
namespace Go.Proofs.Yteknjkifgnfjgaa.fnExactIsPrefix
open Go.ChangeShapes Go.WideShapes Go.ChangeAt Go.RowKit
open Go.ChangeMaps (open_string shut_string)
set_option linter.unusedVariables false

theorem own : ownKnob Try.prog.godebug = none := by kernel_rfl
theorem laidOut : laidOutB Try.prog = true := by kernel_rfl

/-- WHAT THE WALK IS TOLD OF A SLICE OF INTEGERS THAT CAME IN: it is nil; or it leads to a row of 'cap' cells, the numbers 'zs' (the first 'len' are its elements, the rest its spare room), each fitting its kind. -/
def IsRow (k : IntKind) (w : World) (a : Option Addr) (len cap : Nat) (zs : List Int) : Prop :=
  (a = none ∧ len = 0 ∧ cap = 0 ∧ zs = []) ∨
  ∃ x, a = some x ∧ len ≤ cap ∧ cap ≤ maxLen ∧ zs.length = cap ∧ (∀ i, i < zs.length → w.cell? (x.add i) = some (.int k (zs.getD i 0))) ∧ ∀ n ∈ zs, (Lit.int k n).wf = true

theorem rowIn_of {w : World} {a0 : Option Addr} {len cap : Nat} {zs : List Int} (h : IsRow .i64 w a0 len cap zs) : RowIn w a0 len zs := by
  rcases h with ⟨rfl, rfl, rfl, rfl⟩ | ⟨x, rfl, hl, hm, hz, hc, hw⟩
  · exact ⟨Nat.zero_le _, fun k hk => by omega⟩
  · refine ⟨by omega, fun k hk => ?_⟩
    obtain ⟨b, off, rfl, hcc⟩ := ints_at hc (by omega)
    refine ⟨b, off, rfl, ?_⟩
    have := hcc k (by omega)
    simpa using this

theorem len_of {w : World} {a0 : Option Addr} {len cap : Nat} {zs : List Int} (h : IsRow .i64 w a0 len cap zs) : len ≤ maxLen := by
  rcases h with ⟨rfl, rfl, rfl, rfl⟩ | ⟨x, rfl, hl, hm, _⟩
  · exact Nat.zero_le _
  · omega

set_option linter.unusedSimpArgs false

abbrev KR0 (W W' : World) : Prop := (∀ b o, b < W.heap.size → W'.cell? ⟨b, o, none⟩ = W.cell? ⟨b, o, none⟩) ∧ Below W.heap.size W W'

set_option maxRecDepth 100000 in
set_option maxHeartbeats 8000000 in
theorem inner (a0 : Option Addr) (len0 cap0 : Nat) (z0 : List Int) (a1 : Option Addr) (len1 cap1 : Nat) (z1 : List Int) (c : Bool) (w : World) (hm0 : len0 ≤ maxLen) (h0 : IntIn w a0 len0 z0) (hm1 : len1 ≤ maxLen) (h1 : IntIn w a1 len1 z1)
    (HS : Hid (len0 ≤ 1048576 → len1 ≤ 1048576 → ∀ (g0 : Nat) (g1 : Nat) (W : World), IntCp g0 len0 z0 W → IntCp g1 len1 z1 W → Calls Try.prog 6 #[.slice (some ⟨g0, 0, none⟩) len0 len0, .slice (some ⟨g1, 0, none⟩) len1 len1] W fun e W' => e = .returned (.bool c) ∧ Below W.heap.size W W'))
    (HI : Hid (len0 ≤ 1048576 → len1 ≤ 1048576 → ∀ (g0 : Nat) (g1 : Nat) (W : World), IntCp g0 len0 z0 W → IntCp g1 len1 z1 W → Calls Try.prog 8 #[.slice (some ⟨g0, 0, none⟩) len0 len0, .slice (some ⟨g1, 0, none⟩) len1 len1] W fun e W' => e = .returned (.bool c) ∧ Below W.heap.size W W')) :
    Calls Try.prog 3 #[.slice a0 len0 cap0, .slice a1 len1 cap1] w fun e w' => e = .returned (.bool true) ∧ Below w.heap.size w w' := by
  have H0 : Hid (IntIn w a0 len0 z0) := h0
  have HZ0 : Hid (z0.length = len0) := h0.1
  clear h0
  have H1 : Hid (IntIn w a1 len1 z1) := h1
  have HZ1 : Hid (z1.length = len1) := h1.1
  clear h1
  obtain ⟨V, hV⟩ : ∃ V, V = w := ⟨_, rfl⟩
  have B0 : Hid (Below w.heap.size w V) := by rw [hV]; exact Below.refl _ _
  have hz0 := B0.out.size
  go_enter Try.func3, Try.ntmps3
  have hmI0 : (len0 : Int) ≤ 9223372036854775807 := by unfold maxLen at hm0; omega
  by_cases hbig : (1048576 : Int) < (len0 : Int)
  · go_wp2
    try (rw [← hV])
    go_ret
    exact ⟨rfl, by first | exact Below.refl _ _ | exact B0.out⟩
  have hs0 : len0 ≤ 1048576 := by omega
  have hsi0 : (len0 : Int) ≤ 1048576 := by omega
  try subst V
  have hmI1 : (len1 : Int) ≤ 9223372036854775807 := by unfold maxLen at hm1; omega
  by_cases hbig : (1048576 : Int) < (len1 : Int)
  · go_wp2
    try (rw [← hV])
    go_ret
    exact ⟨rfl, by first | exact Below.refl _ _ | exact B0.out⟩
  have hs1 : len1 ≤ 1048576 := by omega
  have hsi1 : (len1 : Int) ≤ 1048576 := by omega
  try subst V
  have HS' := HS.out hs0 hs1
  have HI' := HI.out hs0 hs1
  have HSP : Hid _ := HS'
  have HIM : Hid _ := HI'
  clear HS' HI' HS HI
  go_wp2_with fail
  refine (toInts_room a0 len0 cap0 z0 _ hs0 (H0.out.below B0.out)).mono ?_
  rintro e w1 ⟨rfl, hat, hlt, hb, hroom⟩
  have B2 : Hid (Below w.heap.size w w1) := B0.out.trans (hb.mono B0.out.size)
  have hz3 := hb.size
  clear B0
  have F4 : Hid (Hold (w.heap.size) (w.heap.size + 1) (IntCp w.heap.size len0 z0) w1) := IntCp.hold ⟨hat, hroom⟩ hlt
  have hl5 := F4.out.le
  clear hat hroom hlt hb
  go_wp2_with fail
  refine (toInts_room a1 len1 cap1 z1 _ hs1 (H1.out.below B2.out)).mono ?_
  rintro e w6 ⟨rfl, hat, hlt, hb, hroom⟩
  have B7 : Hid (Below w.heap.size w w6) := B2.out.trans (hb.mono B2.out.size)
  have hz8 := hb.size
  have F9 : Hid (Hold (w.heap.size) (w.heap.size + 1) (IntCp w.heap.size len0 z0) w6) := F4.out.below hb
  clear B2 F4
  have F10 : Hid (Hold (w1.heap.size) (w1.heap.size + 1) (IntCp w1.heap.size len1 z1) w6) := IntCp.hold ⟨hat, hroom⟩ hlt
  have hl11 := F10.out.le
  clear hat hroom hlt hb
  go_wp2_with fail
  refine (HSP.out _ _ _ F9.out.out F10.out.out).mono ?_
  rintro e w12 ⟨rfl, hb⟩
  have B13 : Hid (Below w.heap.size w w12) := B7.out.trans (hb.mono B7.out.size)
  have hz14 := hb.size
  have F15 : Hid (Hold (w.heap.size) (w.heap.size + 1) (IntCp w.heap.size len0 z0) w12) := F9.out.below hb
  have F16 : Hid (Hold (w1.heap.size) (w1.heap.size + 1) (IntCp w1.heap.size len1 z1) w12) := F10.out.below hb
  clear B7 F9 F10
  clear F15
  clear F16
  clear hb
  have hNB : w.heap.size ≤ w12.heap.size := B13.out.size
  go_wp2_with fail
  refine (toInts_room a0 len0 cap0 z0 _ hs0 (H0.out.below B13.out)).mono ?_
  rintro e w17 ⟨rfl, hat, hlt, hb, hroom⟩
  have B18 : Hid (Below w.heap.size w w17) := B13.out.trans (hb.mono B13.out.size)
  have hz19 := hb.size
  clear B13
  obtain ⟨xg0, hxg0⟩ : ∃ g, g = w12.heap.size := ⟨_, rfl⟩
  have hgexg0 : w12.heap.size ≤ xg0 := by omega
  rw [← hxg0] at hat hroom hlt ⊢
  have F20 : Hid (Hold (xg0) (xg0 + 1) (IntCp xg0 len0 z0) w17) := IntCp.hold ⟨hat, hroom⟩ hlt
  have hl21 := F20.out.le
  clear hxg0 hat hroom hlt hb
  go_wp2_with fail
  refine (toInts_room a1 len1 cap1 z1 _ hs1 (H1.out.below B18.out)).mono ?_
  rintro e w22 ⟨rfl, hat, hlt, hb, hroom⟩
  have B23 : Hid (Below w.heap.size w w22) := B18.out.trans (hb.mono B18.out.size)
  have hz24 := hb.size
  have F25 : Hid (Hold (xg0) (xg0 + 1) (IntCp xg0 len0 z0) w22) := F20.out.below hb
  clear B18 F20
  obtain ⟨xg1, hxg1⟩ : ∃ g, g = w17.heap.size := ⟨_, rfl⟩
  have hgexg1 : w17.heap.size ≤ xg1 := by omega
  rw [← hxg1] at hat hroom hlt ⊢
  have F26 : Hid (Hold (xg1) (xg1 + 1) (IntCp xg1 len1 z1) w22) := IntCp.hold ⟨hat, hroom⟩ hlt
  have hl27 := F26.out.le
  clear hxg1 hat hroom hlt hb
  go_wp2_with fail
  refine (HIM.out _ _ _ F25.out.out F26.out.out).mono ?_
  rintro e w28 ⟨rfl, hb⟩
  have B29 : Hid (Below w.heap.size w w28) := B23.out.trans (hb.mono B23.out.size)
  have hz30 := hb.size
  have F31 : Hid (Hold (xg0) (xg0 + 1) (IntCp xg0 len0 z0) w28) := F25.out.below hb
  have F32 : Hid (Hold (xg1) (xg1 + 1) (IntCp xg1 len1 z1) w28) := F26.out.below hb
  clear B23 F25 F26
  clear hb
  go_wp2_with fail
  refine (toInts_room a0 len0 cap0 z0 _ hs0 (H0.out.below B29.out)).mono ?_
  rintro e w33 ⟨rfl, hat, hlt, hb, hroom⟩
  have B34 : Hid (Below w.heap.size w w33) := B29.out.trans (hb.mono B29.out.size)
  have hz35 := hb.size
  have F36 : Hid (Hold (xg0) (xg0 + 1) (IntCp xg0 len0 z0) w33) := F31.out.below hb
  have F37 : Hid (Hold (xg1) (xg1 + 1) (IntCp xg1 len1 z1) w33) := F32.out.below hb
  clear B29 F31 F32
  have F38 : Hid (Hold (w28.heap.size) (w28.heap.size + 1) (IntCp w28.heap.size len0 z0) w33) := IntCp.hold ⟨hat, hroom⟩ hlt
  have hl39 := F38.out.le
  clear hat hroom hlt hb
  go_wp2_with fail
  refine (eqIntsS_same _ _ len0 _ _ z0 _ hs0 (IntIn.of HZ0.out F36.out.out.1) (IntIn.of HZ0.out F38.out.out.1)).mono ?_
  rintro e w40 ⟨rfl, hb⟩
  clear F38
  have B41 : Hid (Below w.heap.size w w40) := B34.out.trans (hb.mono B34.out.size)
  have hz42 := hb.size
  have F43 : Hid (Hold (xg0) (xg0 + 1) (IntCp xg0 len0 z0) w40) := F36.out.below hb
  have F44 : Hid (Hold (xg1) (xg1 + 1) (IntCp xg1 len1 z1) w40) := F37.out.below hb
  clear B34 F36 F37
  clear hb
  go_wp2_with fail
  refine (toInts_room a1 len1 cap1 z1 _ hs1 (H1.out.below B41.out)).mono ?_
  rintro e w45 ⟨rfl, hat, hlt, hb, hroom⟩
  have B46 : Hid (Below w.heap.size w w45) := B41.out.trans (hb.mono B41.out.size)
  have hz47 := hb.size
  have F48 : Hid (Hold (xg0) (xg0 + 1) (IntCp xg0 len0 z0) w45) := F43.out.below hb
  have F49 : Hid (Hold (xg1) (xg1 + 1) (IntCp xg1 len1 z1) w45) := F44.out.below hb
  clear B41 F43 F44
  have F50 : Hid (Hold (w40.heap.size) (w40.heap.size + 1) (IntCp w40.heap.size len1 z1) w45) := IntCp.hold ⟨hat, hroom⟩ hlt
  have hl51 := F50.out.le
  clear hat hroom hlt hb
  go_wp2_with fail
  refine (eqIntsS_same _ _ len1 _ _ z1 _ hs1 (IntIn.of HZ1.out F49.out.out.1) (IntIn.of HZ1.out F50.out.out.1)).mono ?_
  rintro e w52 ⟨rfl, hb⟩
  clear F50
  have B53 : Hid (Below w.heap.size w w52) := B46.out.trans (hb.mono B46.out.size)
  have hz54 := hb.size
  have F55 : Hid (Hold (xg0) (xg0 + 1) (IntCp xg0 len0 z0) w52) := F48.out.below hb
  have F56 : Hid (Hold (xg1) (xg1 + 1) (IntCp xg1 len1 z1) w52) := F49.out.below hb
  clear B46 F48 F49
  clear hb
  go_wp2
  go_ret
  exact ⟨rfl, B53.out⟩

/-! The walk: the Go text returns true. -/
theorem walk (a0 : Option Addr) (len0 cap0 : Nat) (z0 : List Int) (a1 : Option Addr) (len1 cap1 : Nat) (z1 : List Int) (w : World) (w0 : IsRow .i64 w a0 len0 cap0 z0) (w1 : IsRow .i64 w a1 len1 cap1 z1) :
    Calls Try.prog 3 #[.slice a0 len0 cap0, .slice a1 len1 cap1] w fun e w' => e = .returned (.bool true) ∧ Below w.heap.size w w' := by
  exact inner a0 len0 cap0 (z0.take len0) a1 len1 cap1 (z1.take len1) (pfB (z0.take len0) (z1.take len1)) w (len_of w0) (rowIn_of w0).ints (len_of w1) (rowIn_of w1).ints
    (fun h0 h1 g0 g1 W q0 q1 => specIsPrefix_c _ _ len0 len1 len0 len1 _ _ W h0 h1 (IntIn.of (rowIn_of w0).ints.1 q0.1) (IntIn.of (rowIn_of w1).ints.1 q1.1))
    (fun h0 h1 g0 g1 W q0 q1 => implIsPrefix_c _ _ len0 len1 len0 len1 _ _ W h0 h1 (Nat.le_refl _) (IntIn.of (rowIn_of w0).ints.1 q0.1) (IntIn.of (rowIn_of w1).ints.1 q1.1))

/-! The row's step. -/
set_option maxRecDepth 100000 in
theorem lifted (os : Os) (started : os.Started) (H : Type) (enc : TypeId × Value → H) :
    ReturnsInHanded {} Try.checked os 3 .any (Rows.fnExactIsPrefixSpec.pre6 enc Try.prog Try.f3 Rows.fnExactIsPrefixRow.domain false) (Rows.fnExactIsPrefixSpec.post enc Try.prog Try.f3 false true false false) := by
  refine returnsInHanded_of_change (C := Try.checked) own started (by kernel_rfl) Try.func3
    (ChangeSpec.witness6 (enc := enc) (C := Try.checked) false ⟨#[], #[.slice none 0 0, .slice none 0 0], []⟩ 8 (by kernel_rfl) (by kernel_rfl) (by kernel_rfl) (by kernel_rfl)) ?_
  intro W base args ds gs before hval0 hW hcnd _
  have hval : ∀ (j : Nat) t v, Try.f3.params[j]? = some t → args[j]? = some v → Value.okWide Try.prog W .any base t v := hval0
  have hW' := hW
  obtain ⟨p, q, hA0, hV, rfl, hfz, hnd⟩ := hW
  have hA : DataW.TrodAll enc Try.prog W 0 (fun _ => true) true Try.f3.params.toList args.toList ds p := hA0
  rw [Try.params3] at hA hval
  obtain ⟨v0, vs0, d0, ds0, p0, q0, hargs, rfl, rfl, h0, r0⟩ := trodAll_cons hA
  obtain ⟨v1, vs1, d1, ds1, p1, q1, rfl, rfl, rfl, h1, r1⟩ := trodAll_cons r0
  obtain ⟨rfl, rfl, rfl⟩ := trodAll_nil r1
  obtain rfl : args = #[v0, v1] := by cases args; simp_all
  obtain ⟨rfl, rfl⟩ := trodVars_none hV
  obtain ⟨a0, len0, cap0, rfl⟩ := okWide_slice Try.underlying22 (hval 0 22 v0 rfl rfl)
  have k0 := h0
  have lt0 : ∀ x ∈ p0, x.block < W.heap.size := by obtain ⟨m, hm⟩ := k0; exact DataW.trod_lt m _ _ _ hm
  obtain ⟨z0, w0⟩ : ∃ zs, IsRow .i64 W a0 len0 cap0 zs := by
    obtain ⟨fuel, hf⟩ := h0
    rcases open_ints Try.underlying22 Try.underlying2 (by kernel_rfl) hf with ⟨hcs, _⟩ | ⟨x, l, c, zs, hcs, _, hl, hm, hz, _, hcell, hwz⟩
    · simp [Value.cells] at hcs
      obtain ⟨rfl, rfl, rfl⟩ := hcs
      exact ⟨[], .inl ⟨rfl, rfl, rfl, rfl⟩⟩
    · simp [Value.cells] at hcs
      obtain ⟨rfl, rfl, rfl⟩ := hcs
      exact ⟨zs, .inr ⟨_, rfl, hl, hm, by simpa using hz, hcell, hwz⟩⟩
  obtain ⟨a1, len1, cap1, rfl⟩ := okWide_slice Try.underlying22 (hval 1 22 v1 rfl rfl)
  have k1 := h1
  have lt1 : ∀ x ∈ p1, x.block < W.heap.size := by obtain ⟨m, hm⟩ := k1; exact DataW.trod_lt m _ _ _ hm
  obtain ⟨z1, w1⟩ : ∃ zs, IsRow .i64 W a1 len1 cap1 zs := by
    obtain ⟨fuel, hf⟩ := h1
    rcases open_ints Try.underlying22 Try.underlying2 (by kernel_rfl) hf with ⟨hcs, _⟩ | ⟨x, l, c, zs, hcs, _, hl, hm, hz, _, hcell, hwz⟩
    · simp [Value.cells] at hcs
      obtain ⟨rfl, rfl, rfl⟩ := hcs
      exact ⟨[], .inl ⟨rfl, rfl, rfl, rfl⟩⟩
    · simp [Value.cells] at hcs
      obtain ⟨rfl, rfl, rfl⟩ := hcs
      exact ⟨zs, .inr ⟨_, rfl, hl, hm, by simpa using hz, hcell, hwz⟩⟩
  clear hA0 hval0
  refine (walk a0 len0 cap0 z0 a1 len1 cap1 z1 W w0 w1).mono fun e W' ⟨he, bel⟩ => ?_
  subst he
  exact ⟨_, rfl, _, _, _, [], _, [], hW', trodAll_mk1 (shut_bool Try.underlying4 _), (trodAll_cons_mk (Below.trod laidOut (by kernel_rfl) (of_decide_eq_true (by kernel_rfl)) k0 bel lt0) (trodAll_cons_mk (Below.trod laidOut (by kernel_rfl) (of_decide_eq_true (by kernel_rfl)) k1 bel lt1) trodAll_mk0)), rfl, bel.frame _, fun h => by cases h⟩

theorem over : Rows.fnExactIsPrefixRow.holds Try.pinned (OpenSpec.ofChange Rows.fnExactIsPrefixSpec) :=
  OpenClaim.holds_of_wide 3 Try.f3 rfl rfl rfl rfl rfl rfl rfl ⟨rfl, rfl, rfl, rfl, rfl⟩ rfl rfl rfl rfl rfl (by kernel_rfl) Try.func3 (by kernel_rfl)
    (of_decide_eq_true (by kernel_rfl)) (by unfold Func.isWrapper; first | (rw [if_pos (by decide +kernel)]; kernel_rfl) | (rw [if_neg (by decide +kernel)]; exact ⟨rfl, rfl⟩))
    (fun os started H enc _ => lifted os started H enc)

end Go.Proofs.Yteknjkifgnfjgaa.fnExactIsPrefix
namespace Go.Proofs.Yteknjkifgnfjgaa
theorem fnExactIsPrefix_holds : Rows.FnExactIsPrefixSaid := fnExactIsPrefix.over
#print axioms fnExactIsPrefix_holds
end Go.Proofs.Yteknjkifgnfjgaa
