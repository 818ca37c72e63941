/-
  PROVED: for every slice of int64 and every two int64 the law laws.FnExactClashForms returns true, that is impl.ClashForms answers as spec.ClashForms there (up to 1<<20 elements, as the law itself says) and writes nothing into its arguments; the arguments read as they did.
  Conditions: none beside those that the given row itself bears. The frame is the shell written by program; the walk is ours.
-/
import Derived.Test.YtdooocjjohdpjaaRows
import Derived.WalkKit
import Derived.ProofKit
import Derived.OpenShut
import Derived.ShutString
import Derived.ChangeOld
import Derived.Below
import Derived.Test.YtdooocjjohdpjaaCl1
namespace Go.Proofs.Ytdooocjjohdpjaa.fnExactClashForms
open Go.ChangeShapes Go.WideShapes Go.ChangeAt Go.RowKit
open Go.ChangeMaps (open_string shut_string)
set_option linter.unusedVariables false

theorem own : ownKnob Try.prog.godebug = none := by kernel_rfl
theorem laidOut : laidOutB Try.prog = true := by kernel_rfl

/-- WHAT THE WALK IS TOLD OF A SLICE OF INTEGERS THAT CAME IN: it is nil; or it leads to a row of 'cap' cells, the numbers 'zs' (the first 'len' are its elements, the rest its spare room), each fitting its kind. -/
def IsRow (k : IntKind) (w : World) (a : Option Addr) (len cap : Nat) (zs : List Int) : Prop :=
  (a = none ∧ len = 0 ∧ cap = 0 ∧ zs = []) ∨
  ∃ x, a = some x ∧ len ≤ cap ∧ cap ≤ maxLen ∧ zs.length = cap ∧ (∀ i, i < zs.length → w.cell? (x.add i) = some (.int k (zs.getD i 0))) ∧ ∀ n ∈ zs, (Lit.int k n).wf = true

theorem rowIn_of {w : World} {a0 : Option Addr} {len cap : Nat} {zs : List Int} (h : IsRow .i64 w a0 len cap zs) : RowIn w a0 len zs := by
  rcases h with ⟨rfl, rfl, rfl, rfl⟩ | ⟨x, rfl, hl, hm, hz, hc, hw⟩
  · exact ⟨Nat.zero_le _, fun k hk => by omega⟩
  · refine ⟨by omega, fun k hk => ?_⟩
    obtain ⟨b, off, rfl, hcc⟩ := ints_at hc (by omega)
    refine ⟨b, off, rfl, ?_⟩
    have := hcc k (by omega)
    simpa using this

theorem len_of {w : World} {a0 : Option Addr} {len cap : Nat} {zs : List Int} (h : IsRow .i64 w a0 len cap zs) : len ≤ maxLen := by
  rcases h with ⟨rfl, rfl, rfl, rfl⟩ | ⟨x, rfl, hl, hm, _⟩
  · exact Nat.zero_le _
  · omega

set_option maxHeartbeats 1000000 in
theorem inner (a0 : Option Addr) (len cap : Nat) (zs : List Int) (x y : Int) (w : World) (hl : len ≤ 1048576) (hr : IntIn w a0 len zs) :
    Calls Try.prog 7 #[.slice a0 len cap, .int .i64 x, .int .i64 y] w fun e w' => e = .returned (.bool true) ∧ Below w.heap.size w w' := by
  have hl' : (len : Int) ≤ 1048576 := by omega
  have HR : Hid (IntIn w a0 len zs) := hr
  have HZ : Hid (zs.length = len) := hr.1
  clear hr
  obtain ⟨c, hc⟩ : ∃ c, c = clashV zs x y := ⟨_, rfl⟩
  have HC : Hid (c = clashV zs x y) := hc
  clear hc
  go_enter Try.func7, Try.ntmps7
  go_wp2_with fail
  refine (toInts_c a0 len cap zs _ hl HR.out).mono ?_
  rintro e w1 ⟨rfl, hat1, hlt1, hb1⟩
  have HA1 : Hid (IntsAt w1 w.heap.size zs) := hat1
  clear hat1
  go_wp2_with fail
  refine (specClash_c _ _ _ zs _ _ _ (IntIn.of HZ.out HA1.out)).mono ?_
  rintro e w2 ⟨rfl, rfl⟩
  rw [← HC.out]
  have hz1 := hb1.size
  have HR2 : Hid (IntIn w1 a0 len zs) := HR.out.below hb1
  go_wp2_with fail
  refine (toInts_c a0 len cap zs _ hl HR2.out).mono ?_
  rintro e w3 ⟨rfl, hat3, hlt3, hb3⟩
  have HA3 : Hid (IntsAt w3 w1.heap.size zs) := hat3
  clear hat3
  go_wp2_with fail
  refine (implClash_c _ _ _ zs _ _ _ (IntIn.of HZ.out HA3.out)).mono ?_
  rintro e w4 ⟨rfl, rfl⟩
  rw [← HC.out]
  have hz3 := hb3.size
  have HR4 : Hid (IntIn w3 a0 len zs) := HR2.out.below hb3
  go_wp2_with fail
  refine (toInts_c a0 len cap zs _ hl HR4.out).mono ?_
  rintro e w5 ⟨rfl, hat5, hlt5, hb5⟩
  have HA5 : Hid (IntsAt w5 w3.heap.size zs) := hat5
  have HA5' : Hid (IntsAt w5 w1.heap.size zs) := HA3.out.below hb5
  clear hat5
  go_wp2_with fail
  refine (eqIntsS_same _ _ len _ _ zs _ hl (IntIn.of HZ.out HA5'.out) (IntIn.of HZ.out HA5.out)).mono ?_
  rintro e w6 ⟨rfl, hb6⟩
  have hz5 := hb5.size
  go_wp2
  go_ret
  exact ⟨rfl, ((hb1.trans (hb3.mono (by omega))).trans (hb5.mono (by omega))).trans (hb6.mono (by omega))⟩

set_option maxRecDepth 20000 in
set_option maxHeartbeats 400000 in
theorem long (a0 : Option Addr) (len cap : Nat) (x y : Int) (w : World) (hl : 1048576 < len) (hm : len ≤ maxLen) :
    Calls Try.prog 7 #[.slice a0 len cap, .int .i64 x, .int .i64 y] w fun e w' => e = .returned (.bool true) ∧ Below w.heap.size w w' := by
  unfold maxLen at hm
  have hl' : (1048576 : Int) < (len : Int) := by omega
  have hm' : (len : Int) ≤ 9223372036854775807 := by omega
  clear hm
  go_enter Try.func7, Try.ntmps7
  go_wp2
  go_ret
  exact ⟨rfl, Below.refl _ _⟩

/-! The walk: the Go text returns true. -/
theorem walk (a0 : Option Addr) (len0 cap0 : Nat) (z0 : List Int) (a1 : Int) (a2 : Int) (w : World) (w0 : IsRow .i64 w a0 len0 cap0 z0) (w1 : (Lit.int .i64 a1).wf = true) (w2 : (Lit.int .i64 a2).wf = true) :
    Calls Try.prog 7 #[.slice a0 len0 cap0, .int .i64 a1, .int .i64 a2] w fun e w' => e = .returned (.bool true) ∧ Below w.heap.size w w' := by
  by_cases hl : len0 ≤ 1048576
  · exact inner a0 len0 cap0 (z0.take len0) a1 a2 w hl (rowIn_of w0).ints
  · exact long a0 len0 cap0 a1 a2 w (by omega) (len_of w0)

/-! The row's step. -/
set_option maxRecDepth 100000 in
theorem lifted (os : Os) (started : os.Started) (H : Type) (enc : TypeId × Value → H) :
    ReturnsInHanded {} Try.checked os 7 .any (Rows.fnExactClashFormsSpec.pre6 enc Try.prog Try.f7 Rows.fnExactClashFormsRow.domain false) (Rows.fnExactClashFormsSpec.post enc Try.prog Try.f7 false true false false) := by
  refine returnsInHanded_of_change (C := Try.checked) own started (by kernel_rfl) Try.func7
    (ChangeSpec.witness6 (enc := enc) (C := Try.checked) false ⟨#[], #[.slice none 0 0, .int .i64 0, .int .i64 0], []⟩ 8 (by kernel_rfl) (by kernel_rfl) (by kernel_rfl) (by kernel_rfl)) ?_
  intro W base args ds gs before hval0 hW hcnd _
  have hval : ∀ (j : Nat) t v, Try.f7.params[j]? = some t → args[j]? = some v → Value.okWide Try.prog W .any base t v := hval0
  have hW' := hW
  obtain ⟨p, q, hA0, hV, rfl, hfz, hnd⟩ := hW
  have hA : DataW.TrodAll enc Try.prog W 0 (fun _ => true) true Try.f7.params.toList args.toList ds p := hA0
  rw [Try.params7] at hA hval
  obtain ⟨v0, vs0, d0, ds0, p0, q0, hargs, rfl, rfl, h0, r0⟩ := trodAll_cons hA
  obtain ⟨v1, vs1, d1, ds1, p1, q1, rfl, rfl, rfl, h1, r1⟩ := trodAll_cons r0
  obtain ⟨v2, vs2, d2, ds2, p2, q2, rfl, rfl, rfl, h2, r2⟩ := trodAll_cons r1
  obtain ⟨rfl, rfl, rfl⟩ := trodAll_nil r2
  obtain rfl : args = #[v0, v1, v2] := by cases args; simp_all
  obtain ⟨rfl, rfl⟩ := trodVars_none hV
  obtain ⟨a0, len0, cap0, rfl⟩ := okWide_slice Try.underlying52 (hval 0 52 v0 rfl rfl)
  have k0 := h0
  have lt0 : ∀ x ∈ p0, x.block < W.heap.size := by obtain ⟨m, hm⟩ := k0; exact DataW.trod_lt m _ _ _ hm
  obtain ⟨z0, w0⟩ : ∃ zs, IsRow .i64 W a0 len0 cap0 zs := by
    obtain ⟨fuel, hf⟩ := h0
    rcases open_ints Try.underlying52 Try.underlying2 (by kernel_rfl) hf with ⟨hcs, _⟩ | ⟨x, l, c, zs, hcs, _, hl, hm, hz, _, hcell, hwz⟩
    · simp [Value.cells] at hcs
      obtain ⟨rfl, rfl, rfl⟩ := hcs
      exact ⟨[], .inl ⟨rfl, rfl, rfl, rfl⟩⟩
    · simp [Value.cells] at hcs
      obtain ⟨rfl, rfl, rfl⟩ := hcs
      exact ⟨zs, .inr ⟨_, rfl, hl, hm, by simpa using hz, hcell, hwz⟩⟩
  obtain ⟨a1, rfl, rfl, rfl, w1⟩ := open_int Try.underlying2 (hval 1 2 v1 rfl rfl) h1
  obtain ⟨a2, rfl, rfl, rfl, w2⟩ := open_int Try.underlying2 (hval 2 2 v2 rfl rfl) h2
  clear hA0 hval0
  refine (walk a0 len0 cap0 z0 a1 a2 W w0 w1 w2).mono fun e W' ⟨he, bel⟩ => ?_
  subst he
  exact ⟨_, rfl, _, _, _, [], _, [], hW', trodAll_mk1 (shut_bool Try.underlying4 _), (trodAll_cons_mk (Below.trod laidOut (by kernel_rfl) (of_decide_eq_true (by kernel_rfl)) k0 bel lt0) (trodAll_cons_mk (shut_int Try.underlying2 w1) (trodAll_cons_mk (shut_int Try.underlying2 w2) trodAll_mk0))), rfl, bel.frame _, fun h => by cases h⟩

theorem over : Rows.fnExactClashFormsRow.holds Try.pinned (OpenSpec.ofChange Rows.fnExactClashFormsSpec) :=
  OpenClaim.holds_of_wide 7 Try.f7 rfl rfl rfl rfl rfl rfl rfl ⟨rfl, rfl, rfl, rfl, rfl⟩ rfl rfl rfl rfl rfl (by kernel_rfl) Try.func7 (by kernel_rfl)
    (of_decide_eq_true (by kernel_rfl)) (by unfold Func.isWrapper; first | (rw [if_pos (by decide +kernel)]; kernel_rfl) | (rw [if_neg (by decide +kernel)]; exact ⟨rfl, rfl⟩))
    (fun os started H enc _ => lifted os started H enc)

end Go.Proofs.Ytdooocjjohdpjaa.fnExactClashForms
namespace Go.Proofs.Ytdooocjjohdpjaa
theorem fnExactClashForms_holds : Rows.FnExactClashFormsSaid := fnExactClashForms.over
#print axioms fnExactClashForms_holds
end Go.Proofs.Ytdooocjjohdpjaa
