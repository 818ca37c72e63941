/-
  CONTRACTS of math/bits.OnesCount8, spec.SizeOf, impl.SizeOf and laws.eqIntResult (two that are alike).
  Conditions: each contract bears its own.
-/
import Derived.Test.YtnmidppiakdanaaSpec1
import Derived.Lib.BitFns
namespace Go.Proofs.Ytnmidppiakdanaa
open Go.RowKit
set_option linter.unusedVariables false

theorem ones_eq : ∀ n : Fin 256, Lib.onesCount n.val = (listTo (n.val : Int) 8).length := by decide +kernel

set_option maxRecDepth 100000 in
set_option maxHeartbeats 400000 in
theorem ones_c (s : Int) (h0 : 0 ≤ s) (h1 : s ≤ 255) (w : World) :
    Calls Try.prog 85 #[.int .u8 s] w fun e w' => e = .returned (.int .i64 ((listTo s 8).length : Int)) ∧ w = w' := by
  have e1 := ones_eq ⟨s.toNat, by omega⟩
  have e2 : ((listTo s 8).length : Int) = (Lib.onesCount s.toNat : Int) := by rw [e1]; simp [Int.toNat_of_nonneg h0]
  have e3 := Lib.pop8_int s h0 h1
  have HE : Hid (wrap64 (Lib.pop8 s) = ((listTo s 8).length : Int)) := by unfold wrap64; exact e3.trans e2.symm
  clear e1 e2 e3
  go_enter Try.func85, Try.ntmps85
  go_wp2
  go_ret
  exact ⟨by rw [← HE.out]; rfl, rfl⟩

set_option maxHeartbeats 400000 in
theorem implSize_out (s : Int) (h : s < 0 ∨ 255 < s) (w : World) :
    Calls Try.prog 31 #[.int .i64 s] w fun e w' => e = .returned (.agg #[.int .i64 3, .int .i64 0]) ∧ Below w.heap.size w w' := by
  rcases h with h | h
  · go_enter Try.func31, Try.ntmps31
    go_wp2
    exact bodyPost_ret (v := .agg #[.int .i64 3, .int .i64 0]) (by simp [results, Try.results31, go_sem]) rfl ⟨rfl, (Below.refl _ _).alloc (Nat.le_refl _) _⟩
  · have e1 : (256 : Int) ≤ s := by omega
    have e2 : (0 : Int) ≤ s := by omega
    go_enter Try.func31, Try.ntmps31
    go_wp2
    exact bodyPost_ret (v := .agg #[.int .i64 3, .int .i64 0]) (by simp [results, Try.results31, go_sem]) rfl ⟨rfl, (Below.refl _ _).alloc (Nat.le_refl _) _⟩

set_option maxHeartbeats 400000 in
theorem implSize_in (s : Int) (h0 : 0 ≤ s) (h1 : s ≤ 255) (w : World) :
    Calls Try.prog 31 #[.int .i64 s] w fun e w' => e = .returned (.agg #[.int .i64 0, .int .i64 ((listTo s 8).length : Int)]) ∧ Below w.heap.size w w' := by
  have h2 : s < (256 : Int) := by omega
  have e0 : (decide (s < 0) || decide (256 ≤ s)) = false := by simp; omega
  go_enter Try.func31, Try.ntmps31
  go_wp2_with (first | (go_at_call 85; refine (ones_c s h0 h1 _).mono ?_; rintro e w1 ⟨rfl, rfl⟩) | go_in)
  refine bodyPost_ret (v := .agg #[.int .i64 0, .int .i64 ((listTo s 8).length : Int)]) (by simp [results, Try.results31, go_sem]) rfl ⟨rfl, ?_⟩
  exact (Below.refl _ _).alloc (Nat.le_refl _) _

set_option maxHeartbeats 400000 in
theorem eqInt_same (a b : Int) (w : World) :
    Calls Try.prog 55 #[.agg #[.int .i64 a, .int .i64 b], .agg #[.int .i64 a, .int .i64 b]] w fun e w' => e = .returned (.bool true) ∧ Below w.heap.size w w' := by
  go_enter Try.func55, Try.ntmps55
  go_wp2
  go_ret
  exact ⟨rfl, ((Below.refl _ _).alloc (Nat.le_refl _) _).alloc (by simp) _⟩

end Go.Proofs.Ytnmidppiakdanaa
