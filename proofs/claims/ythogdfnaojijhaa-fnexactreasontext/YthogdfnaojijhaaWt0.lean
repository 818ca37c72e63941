/-
  CONTRACTS: ReasonText of both programs: a code's word.
  Conditions: each contract bears its own.
-/
import Derived.Test.YthogdfnaojijhaaSpec1
namespace Go.Proofs.Ythogdfnaojijhaa
open Go.RowKit
set_option linter.unusedVariables false
set_option linter.unusedSimpArgs false

/-- The words of codes, in their order. -/
def rsWord (k : Nat) : ByteArray :=
  ([⟨#[97, 99, 99, 101, 112, 116, 101, 100]⟩, ⟨#[109, 97, 108, 102, 111, 114, 109, 101, 100]⟩, ⟨#[116, 111, 111, 32, 109, 97, 110, 121]⟩, ⟨#[111, 117, 116, 32, 111, 102, 32, 114, 97, 110, 103, 101]⟩, ⟨#[110, 111, 110, 101]⟩, ⟨#[117, 110, 114, 101, 97, 100, 97, 98, 108, 101]⟩, ⟨#[116, 97, 107, 101, 110]⟩, ⟨#[110, 111, 116, 32, 115, 105, 103, 110, 101, 100]⟩, ⟨#[110, 111, 116, 32, 97, 108, 108, 111, 119, 101, 100]⟩, ⟨#[114, 101, 118, 111, 107, 101, 100]⟩, ⟨#[119, 114, 111, 110, 103, 32, 101, 112, 111, 99, 104]⟩] : List ByteArray).getD k ⟨#[]⟩

def rsC (c : Int) : Int := if 0 ≤ c ∧ c ≤ 10 then 0 else 3

def rsT (c : Int) : ByteArray := if 0 ≤ c ∧ c ≤ 10 then rsWord c.toNat else ⟨#[]⟩

theorem rs_cases (c : Int) : (c = 0 ∨ c = 1 ∨ c = 2 ∨ c = 3 ∨ c = 4 ∨ c = 5 ∨ c = 6 ∨ c = 7 ∨ c = 8 ∨ c = 9 ∨ c = 10) ∨ (rsC c = 3 ∧ rsT c = ⟨#[]⟩ ∧ (c < 0 ∨ 10 < c)) := by
  by_cases h : 0 ≤ c ∧ c ≤ 10
  · exact .inl (by omega)
  · exact .inr ⟨by unfold rsC; rw [if_neg h], by unfold rsT; rw [if_neg h], by omega⟩

abbrev GivesTx (f : FuncId) (c : Int) (w : World) : Prop := Calls Try.prog f #[.int .i64 c] w fun e w' => e = .returned (.agg #[.int .i64 (rsC c), .string (rsT c)]) ∧ Below w.heap.size w w'

set_option maxRecDepth 100000 in
set_option maxHeartbeats 4000000 in
theorem implReason_in (k : Nat) (hk : k ≤ 10) (w : World) : GivesTx 7 (k : Int) w := by
  unfold GivesTx
  have hc : k = 0 ∨ k = 1 ∨ k = 2 ∨ k = 3 ∨ k = 4 ∨ k = 5 ∨ k = 6 ∨ k = 7 ∨ k = 8 ∨ k = 9 ∨ k = 10 := by omega
  rcases hc with rfl | rfl | rfl | rfl | rfl | rfl | rfl | rfl | rfl | rfl | rfl
  · go_enter Try.func7, Try.ntmps7
    go_wp2
    exact bodyPost_ret (v := .agg #[.int .i64 0, .string (rsWord 0)]) (by simp [results, Try.results7, go_sem, rsWord]) rfl ⟨rfl, ((Below.refl _ _).alloc (Nat.le_refl _) _).alloc (by simp) _⟩
  · go_enter Try.func7, Try.ntmps7
    go_wp2
    exact bodyPost_ret (v := .agg #[.int .i64 0, .string (rsWord 1)]) (by simp [results, Try.results7, go_sem, rsWord]) rfl ⟨rfl, ((Below.refl _ _).alloc (Nat.le_refl _) _).alloc (by simp) _⟩
  · go_enter Try.func7, Try.ntmps7
    go_wp2
    exact bodyPost_ret (v := .agg #[.int .i64 0, .string (rsWord 2)]) (by simp [results, Try.results7, go_sem, rsWord]) rfl ⟨rfl, ((Below.refl _ _).alloc (Nat.le_refl _) _).alloc (by simp) _⟩
  · go_enter Try.func7, Try.ntmps7
    go_wp2
    exact bodyPost_ret (v := .agg #[.int .i64 0, .string (rsWord 3)]) (by simp [results, Try.results7, go_sem, rsWord]) rfl ⟨rfl, ((Below.refl _ _).alloc (Nat.le_refl _) _).alloc (by simp) _⟩
  · go_enter Try.func7, Try.ntmps7
    go_wp2
    exact bodyPost_ret (v := .agg #[.int .i64 0, .string (rsWord 4)]) (by simp [results, Try.results7, go_sem, rsWord]) rfl ⟨rfl, ((Below.refl _ _).alloc (Nat.le_refl _) _).alloc (by simp) _⟩
  · go_enter Try.func7, Try.ntmps7
    go_wp2
    exact bodyPost_ret (v := .agg #[.int .i64 0, .string (rsWord 5)]) (by simp [results, Try.results7, go_sem, rsWord]) rfl ⟨rfl, ((Below.refl _ _).alloc (Nat.le_refl _) _).alloc (by simp) _⟩
  · go_enter Try.func7, Try.ntmps7
    go_wp2
    exact bodyPost_ret (v := .agg #[.int .i64 0, .string (rsWord 6)]) (by simp [results, Try.results7, go_sem, rsWord]) rfl ⟨rfl, ((Below.refl _ _).alloc (Nat.le_refl _) _).alloc (by simp) _⟩
  · go_enter Try.func7, Try.ntmps7
    go_wp2
    exact bodyPost_ret (v := .agg #[.int .i64 0, .string (rsWord 7)]) (by simp [results, Try.results7, go_sem, rsWord]) rfl ⟨rfl, ((Below.refl _ _).alloc (Nat.le_refl _) _).alloc (by simp) _⟩
  · go_enter Try.func7, Try.ntmps7
    go_wp2
    exact bodyPost_ret (v := .agg #[.int .i64 0, .string (rsWord 8)]) (by simp [results, Try.results7, go_sem, rsWord]) rfl ⟨rfl, ((Below.refl _ _).alloc (Nat.le_refl _) _).alloc (by simp) _⟩
  · go_enter Try.func7, Try.ntmps7
    go_wp2
    exact bodyPost_ret (v := .agg #[.int .i64 0, .string (rsWord 9)]) (by simp [results, Try.results7, go_sem, rsWord]) rfl ⟨rfl, ((Below.refl _ _).alloc (Nat.le_refl _) _).alloc (by simp) _⟩
  · go_enter Try.func7, Try.ntmps7
    go_wp2
    exact bodyPost_ret (v := .agg #[.int .i64 0, .string (rsWord 10)]) (by simp [results, Try.results7, go_sem, rsWord]) rfl ⟨rfl, ((Below.refl _ _).alloc (Nat.le_refl _) _).alloc (by simp) _⟩

set_option maxRecDepth 100000 in
set_option maxHeartbeats 4000000 in
theorem implReason_c (c : Int) (w : World) : GivesTx 7 c w := by
  rcases rs_cases c with h | ⟨h1, h2, h3⟩
  · obtain ⟨k, rfl⟩ : ∃ k : Nat, c = (k : Int) := ⟨c.toNat, by omega⟩
    exact implReason_in k (by omega) w
  · unfold GivesTx
    rw [h1, h2]
    rcases h3 with h3 | h3
    · have h4 : decide (c < 0) = true := by simp; omega
      go_enter Try.func7, Try.ntmps7
      go_wp2
      exact bodyPost_ret (v := .agg #[.int .i64 3, .string ⟨#[]⟩]) (by simp [results, Try.results7, go_sem]) rfl ⟨rfl, (Below.refl _ _).alloc (Nat.le_refl _) _⟩
    · have h4 : decide (c < 0) = false := by simp; omega
      have h5 : decide (c > 10) = true := by simp; omega
      go_enter Try.func7, Try.ntmps7
      go_wp2
      exact bodyPost_ret (v := .agg #[.int .i64 3, .string ⟨#[]⟩]) (by simp [results, Try.results7, go_sem]) rfl ⟨rfl, (Below.refl _ _).alloc (Nat.le_refl _) _⟩

set_option maxRecDepth 100000 in
set_option maxHeartbeats 4000000 in
theorem specReason_in (k : Nat) (hk : k ≤ 10) (w : World) : GivesTx 6 (k : Int) w := by
  unfold GivesTx
  have hc : k = 0 ∨ k = 1 ∨ k = 2 ∨ k = 3 ∨ k = 4 ∨ k = 5 ∨ k = 6 ∨ k = 7 ∨ k = 8 ∨ k = 9 ∨ k = 10 := by omega
  rcases hc with rfl | rfl | rfl | rfl | rfl | rfl | rfl | rfl | rfl | rfl | rfl
  · go_enter Try.func6, Try.ntmps6
    go_wp2_with (first | (go_at_call 27; go_in) | fail)
    exact bodyPost_ret (v := .agg #[.int .i64 0, .string (rsWord 0)]) (by simp [results, Try.results6, go_sem, rsWord]) rfl ⟨rfl, ((Below.refl _ _).alloc (Nat.le_refl _) _).alloc (by simp) _⟩
  · go_enter Try.func6, Try.ntmps6
    go_wp2_with (first | (go_at_call 27; go_in) | fail)
    exact bodyPost_ret (v := .agg #[.int .i64 0, .string (rsWord 1)]) (by simp [results, Try.results6, go_sem, rsWord]) rfl ⟨rfl, ((Below.refl _ _).alloc (Nat.le_refl _) _).alloc (by simp) _⟩
  · go_enter Try.func6, Try.ntmps6
    go_wp2_with (first | (go_at_call 27; go_in) | fail)
    exact bodyPost_ret (v := .agg #[.int .i64 0, .string (rsWord 2)]) (by simp [results, Try.results6, go_sem, rsWord]) rfl ⟨rfl, ((Below.refl _ _).alloc (Nat.le_refl _) _).alloc (by simp) _⟩
  · go_enter Try.func6, Try.ntmps6
    go_wp2_with (first | (go_at_call 27; go_in) | fail)
    exact bodyPost_ret (v := .agg #[.int .i64 0, .string (rsWord 3)]) (by simp [results, Try.results6, go_sem, rsWord]) rfl ⟨rfl, ((Below.refl _ _).alloc (Nat.le_refl _) _).alloc (by simp) _⟩
  · go_enter Try.func6, Try.ntmps6
    go_wp2_with (first | (go_at_call 27; go_in) | fail)
    exact bodyPost_ret (v := .agg #[.int .i64 0, .string (rsWord 4)]) (by simp [results, Try.results6, go_sem, rsWord]) rfl ⟨rfl, ((Below.refl _ _).alloc (Nat.le_refl _) _).alloc (by simp) _⟩
  · go_enter Try.func6, Try.ntmps6
    go_wp2_with (first | (go_at_call 27; go_in) | fail)
    exact bodyPost_ret (v := .agg #[.int .i64 0, .string (rsWord 5)]) (by simp [results, Try.results6, go_sem, rsWord]) rfl ⟨rfl, ((Below.refl _ _).alloc (Nat.le_refl _) _).alloc (by simp) _⟩
  · go_enter Try.func6, Try.ntmps6
    go_wp2_with (first | (go_at_call 27; go_in) | fail)
    exact bodyPost_ret (v := .agg #[.int .i64 0, .string (rsWord 6)]) (by simp [results, Try.results6, go_sem, rsWord]) rfl ⟨rfl, ((Below.refl _ _).alloc (Nat.le_refl _) _).alloc (by simp) _⟩
  · go_enter Try.func6, Try.ntmps6
    go_wp2_with (first | (go_at_call 27; go_in) | fail)
    exact bodyPost_ret (v := .agg #[.int .i64 0, .string (rsWord 7)]) (by simp [results, Try.results6, go_sem, rsWord]) rfl ⟨rfl, ((Below.refl _ _).alloc (Nat.le_refl _) _).alloc (by simp) _⟩
  · go_enter Try.func6, Try.ntmps6
    go_wp2_with (first | (go_at_call 27; go_in) | fail)
    exact bodyPost_ret (v := .agg #[.int .i64 0, .string (rsWord 8)]) (by simp [results, Try.results6, go_sem, rsWord]) rfl ⟨rfl, ((Below.refl _ _).alloc (Nat.le_refl _) _).alloc (by simp) _⟩
  · go_enter Try.func6, Try.ntmps6
    go_wp2_with (first | (go_at_call 27; go_in) | fail)
    exact bodyPost_ret (v := .agg #[.int .i64 0, .string (rsWord 9)]) (by simp [results, Try.results6, go_sem, rsWord]) rfl ⟨rfl, ((Below.refl _ _).alloc (Nat.le_refl _) _).alloc (by simp) _⟩
  · go_enter Try.func6, Try.ntmps6
    go_wp2_with (first | (go_at_call 27; go_in) | fail)
    exact bodyPost_ret (v := .agg #[.int .i64 0, .string (rsWord 10)]) (by simp [results, Try.results6, go_sem, rsWord]) rfl ⟨rfl, ((Below.refl _ _).alloc (Nat.le_refl _) _).alloc (by simp) _⟩

set_option maxRecDepth 100000 in
set_option maxHeartbeats 4000000 in
theorem specReason_c (c : Int) (w : World) : GivesTx 6 c w := by
  rcases rs_cases c with h | ⟨h1, h2, h3⟩
  · obtain ⟨k, rfl⟩ : ∃ k : Nat, c = (k : Int) := ⟨c.toNat, by omega⟩
    exact specReason_in k (by omega) w
  · unfold GivesTx
    rw [h1, h2]
    have hb : (decide (c ≥ 0) && decide (c ≤ 10)) = false := by rcases h3 with h | h <;> simp <;> omega
    rcases h3 with h3 | h3
    · have h4 : decide (c ≥ 0) = false := by simp; omega
      go_enter Try.func6, Try.ntmps6
      go_wp2_with (first | (go_at_call 27; go_in) | fail)
      exact bodyPost_ret (v := .agg #[.int .i64 3, .string ⟨#[]⟩]) (by simp [results, Try.results6, go_sem]) rfl ⟨rfl, (Below.refl _ _).alloc (Nat.le_refl _) _⟩
    · have h4 : decide (c ≥ 0) = true := by simp; omega
      have h5 : decide (c ≤ 10) = false := by simp; omega
      go_enter Try.func6, Try.ntmps6
      go_wp2_with (first | (go_at_call 27; go_in) | fail)
      exact bodyPost_ret (v := .agg #[.int .i64 3, .string ⟨#[]⟩]) (by simp [results, Try.results6, go_sem]) rfl ⟨rfl, (Below.refl _ _).alloc (Nat.le_refl _) _⟩

set_option maxHeartbeats 400000 in
theorem eqTextR_same (a : Int) (b : ByteArray) (w : World) :
    Calls Try.prog 8 #[.agg #[.int .i64 a, .string b], .agg #[.int .i64 a, .string b]] w fun e w' => e = .returned (.bool true) ∧ Below w.heap.size w w' := by
  go_enter Try.func8, Try.ntmps8
  go_wp2
  go_ret
  exact ⟨rfl, ((Below.refl _ _).alloc (Nat.le_refl _) _).alloc (by simp) _⟩

end Go.Proofs.Ythogdfnaojijhaa
