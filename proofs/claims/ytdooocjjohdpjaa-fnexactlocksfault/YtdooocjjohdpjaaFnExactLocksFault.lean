/-
  PROVED: for every slice of locks the law laws.FnExactLocksFault returns true, that is impl.LocksFault answers as spec.LocksFault there (up to 1<<20 locks, as the law itself says) and writes nothing into its argument; the argument reads as it did.
  Conditions: none beside those that the given row itself bears. The frame is the shell written by program, turned for a slice of structs; the walk is ours.
-/
import Derived.Test.YtdooocjjohdpjaaRows
import Derived.WalkKit
import Derived.ProofKit
import Derived.OpenShut
import Derived.ShutString
import Derived.ChangeOld
import Derived.Below
import Derived.Test.YtdooocjjohdpjaaLk3
import Derived.Test.YtdooocjjohdpjaaLkA
namespace Go.Proofs.Ytdooocjjohdpjaa.fnExactLocksFault
open Go.ChangeShapes Go.WideShapes Go.ChangeAt Go.RowKit
open Go.ChangeMaps (open_string shut_string)
set_option linter.unusedVariables false

theorem own : ownKnob Try.prog.godebug = none := by kernel_rfl
theorem laidOut : laidOutB Try.prog = true := by kernel_rfl

set_option maxHeartbeats 1000000 in
theorem inner (a0 : Option Addr) (len cap : Nat) (zs : List LkI) (w : World) (hl : len ≤ 1048576) (hr : LkIn w a0 len zs) :
    Calls Try.prog 8 #[.slice a0 len cap] w fun e w' => e = .returned (.bool true) ∧ Below w.heap.size w w' := by
  have hl' : (len : Int) ≤ 1048576 := by omega
  have HR : Hid (LkIn w a0 len zs) := hr
  have HZ : Hid (zs.length = len) := hr.1
  clear hr
  obtain ⟨c, hc⟩ : ∃ c, c = lkCode zs := ⟨_, rfl⟩
  have HC : Hid (c = lkCode zs) := hc
  clear hc
  go_enter Try.func8, Try.ntmps8
  go_wp2_with (first | (go_at_call 37; go_in) | fail)
  refine (toLocks_c a0 len cap zs _ hl HR.out).mono ?_
  rintro e w1 ⟨rfl, hat1, hlt1, hb1⟩
  have HA1 : Hid (LksAt w1 w.heap.size zs) := hat1
  clear hat1
  go_wp2_with fail
  refine (specLocksFault_c _ _ _ zs _ (LkIn.of HZ.out HA1.out)).mono ?_
  rintro e w2 ⟨rfl, hb2⟩
  rw [← HC.out]
  have hz1 := hb1.size
  have hb12 : Below w.heap.size w w2 := hb1.trans (hb2.mono hz1)
  have HR2 : Hid (LkIn w2 a0 len zs) := HR.out.below hb12
  go_wp2_with fail
  refine (toLocks_c a0 len cap zs _ hl HR2.out).mono ?_
  rintro e w3 ⟨rfl, hat3, hlt3, hb3⟩
  have HA3 : Hid (LksAt w3 w2.heap.size zs) := hat3
  clear hat3
  go_wp2_with fail
  refine (implLocksFault_c _ _ _ zs _ (LkIn.of HZ.out HA3.out)).mono ?_
  rintro e w4 ⟨rfl, hb4⟩
  rw [← HC.out]
  have hz2 := hb2.size
  have hz3 := hb3.size
  have hz4 := hb4.size
  have HA4 : Hid (LksAt w4 w2.heap.size zs) := HA3.out.below hb4
  have hb24 : Below w2.heap.size w2 w4 := hb3.trans (hb4.mono hz3)
  have HR4 : Hid (LkIn w4 a0 len zs) := HR2.out.below hb24
  go_wp2_with fail
  refine (toLocks_c a0 len cap zs _ hl HR4.out).mono ?_
  rintro e w5 ⟨rfl, hat5, hlt5, hb5⟩
  have HA5 : Hid (LksAt w5 w4.heap.size zs) := hat5
  have HA5' : Hid (LksAt w5 w2.heap.size zs) := HA4.out.below hb5
  clear hat5
  go_wp2_with fail
  refine (eqLocks_same _ _ len _ _ zs _ hl (LkIn.of HZ.out HA5'.out) (LkIn.of HZ.out HA5.out)).mono ?_
  rintro e w6 ⟨rfl, hb6⟩
  have hz5 := hb5.size
  go_wp2
  go_ret
  exact ⟨rfl, ((hb12.trans (hb24.mono (by omega))).trans (hb5.mono (by omega))).trans (hb6.mono (by omega))⟩

set_option maxRecDepth 20000 in
set_option maxHeartbeats 400000 in
theorem long (a0 : Option Addr) (len cap : Nat) (w : World) (hl : 1048576 < len) (hm : len ≤ maxLen) :
    Calls Try.prog 8 #[.slice a0 len cap] w fun e w' => e = .returned (.bool true) ∧ Below w.heap.size w w' := by
  unfold maxLen at hm
  have hl' : (1048576 : Int) < (len : Int) := by omega
  have hm' : (len : Int) ≤ 9223372036854775807 := by omega
  clear hm
  go_enter Try.func8, Try.ntmps8
  go_wp2
  go_ret
  exact ⟨rfl, Below.refl _ _⟩

/-! The walk: the Go text returns true. -/
theorem walk (a0 : Option Addr) (len0 cap0 : Nat) (z0 : List LkI) (w : World) (w0 : LkArg w a0 len0 z0) :
    Calls Try.prog 8 #[.slice a0 len0 cap0] w fun e w' => e = .returned (.bool true) ∧ Below w.heap.size w w' := by
  by_cases hl : len0 ≤ 1048576
  · exact inner a0 len0 cap0 z0 w hl w0.1
  · exact long a0 len0 cap0 w (by omega) w0.2

/-! The row's step. -/
set_option maxRecDepth 100000 in
theorem lifted (os : Os) (started : os.Started) (H : Type) (enc : TypeId × Value → H) :
    ReturnsInHanded {} Try.checked os 8 .any (Rows.fnExactLocksFaultSpec.pre6 enc Try.prog Try.f8 Rows.fnExactLocksFaultRow.domain false) (Rows.fnExactLocksFaultSpec.post enc Try.prog Try.f8 false true false false) := by
  refine returnsInHanded_of_change (C := Try.checked) own started (by kernel_rfl) Try.func8
    (ChangeSpec.witness6 (enc := enc) (C := Try.checked) false ⟨#[], #[.slice none 0 0], []⟩ 8 (by kernel_rfl) (by kernel_rfl) (by kernel_rfl) (by kernel_rfl)) ?_
  intro W base args ds gs before hval0 hW hcnd _
  have hval : ∀ (j : Nat) t v, Try.f8.params[j]? = some t → args[j]? = some v → Value.okWide Try.prog W .any base t v := hval0
  have hW' := hW
  obtain ⟨p, q, hA0, hV, rfl, hfz, hnd⟩ := hW
  have hA : DataW.TrodAll enc Try.prog W 0 (fun _ => true) true Try.f8.params.toList args.toList ds p := hA0
  rw [Try.params8] at hA hval
  obtain ⟨v0, vs0, d0, ds0, p0, q0, hargs, rfl, rfl, h0, r0⟩ := trodAll_cons hA
  obtain ⟨rfl, rfl, rfl⟩ := trodAll_nil r0
  obtain rfl : args = #[v0] := by cases args; simp_all
  obtain ⟨rfl, rfl⟩ := trodVars_none hV
  obtain ⟨a0, len0, cap0, rfl⟩ := okWide_slice Try.underlying65 (hval 0 65 v0 rfl rfl)
  have k0 := h0
  have lt0 : ∀ x ∈ p0, x.block < W.heap.size := by obtain ⟨m, hm⟩ := k0; exact DataW.trod_lt m _ _ _ hm
  obtain ⟨z0, w0⟩ : ∃ zs : List LkI, LkArg W a0 len0 zs := by
    obtain ⟨fuel, hf⟩ := h0
    exact locks_shape hf
  clear hA0 hval0
  refine (walk a0 len0 cap0 z0 W w0).mono fun e W' ⟨he, bel⟩ => ?_
  subst he
  exact ⟨_, rfl, _, _, _, [], _, [], hW', trodAll_mk1 (shut_bool Try.underlying4 _), (trodAll_cons_mk (Below.trod laidOut (by kernel_rfl) (of_decide_eq_true (by kernel_rfl)) k0 bel lt0) trodAll_mk0), rfl, bel.frame _, fun h => by cases h⟩

theorem over : Rows.fnExactLocksFaultRow.holds Try.pinned (OpenSpec.ofChange Rows.fnExactLocksFaultSpec) :=
  OpenClaim.holds_of_wide 8 Try.f8 rfl rfl rfl rfl rfl rfl rfl ⟨rfl, rfl, rfl, rfl, rfl⟩ rfl rfl rfl rfl rfl (by kernel_rfl) Try.func8 (by kernel_rfl)
    (of_decide_eq_true (by kernel_rfl)) (by unfold Func.isWrapper; first | (rw [if_pos (by decide +kernel)]; kernel_rfl) | (rw [if_neg (by decide +kernel)]; exact ⟨rfl, rfl⟩))
    (fun os started H enc _ => lifted os started H enc)

end Go.Proofs.Ytdooocjjohdpjaa.fnExactLocksFault
namespace Go.Proofs.Ytdooocjjohdpjaa
theorem fnExactLocksFault_holds : Rows.FnExactLocksFaultSaid := fnExactLocksFault.over
#print axioms fnExactLocksFault_holds
end Go.Proofs.Ytdooocjjohdpjaa
