/-
  CONTRACTS of spec.SetText, impl.SetText and laws.eqTextResult (two that are alike).
  Conditions: each contract bears its own.
-/
import Derived.Test.YtjnljmembnlebaaDoorText2
namespace Go.Proofs.YtjnljmembnlebaaDoor
open Go.RowKit
set_option linter.unusedVariables false

set_option maxHeartbeats 400000 in
theorem implText_in (s : Int) (h0 : 0 ≤ s) (h1 : s ≤ 255) (w : World) :
    Calls Tryd.prog 7 #[.int .i64 s] w fun e w' => e = .returned (.agg #[.int .i64 0, .string (textI s)]) ∧ Below w.heap.size w w' := by
  have h2 : s < (256 : Int) := by omega
  go_enter Tryd.func7, Tryd.ntmps7
  go_wp2_with (first | (go_at_call 24; refine (text_c s h0 h1 _).mono ?_; rintro e w1 ⟨rfl, hb⟩; obtain ⟨hc, hf⟩ := bcell hb; have hz := hb.size; simp only [World.size_alloc] at hc hf hz) | go_in)
  refine bodyPost_ret (v := .agg #[.int .i64 0, .string (textI s)]) (by simp [results, Tryd.results7, go_sem, hc]) rfl ⟨rfl, ?_⟩
  exact ((((Below.refl _ _).alloc (Nat.le_refl _) _).trans (hb.mono (by simp))).setCell (Nat.le_refl _) _).setCell (Nat.le_refl _) _

set_option maxHeartbeats 400000 in
theorem implText_out (s : Int) (h : s < 0 ∨ 255 < s) (w : World) :
    Calls Tryd.prog 7 #[.int .i64 s] w fun e w' => e = .returned (.agg #[.int .i64 3, .string ⟨#[]⟩]) ∧ Below w.heap.size w w' := by
  rcases h with h | h
  · go_enter Tryd.func7, Tryd.ntmps7
    go_wp2
    exact bodyPost_ret (v := .agg #[.int .i64 3, .string ⟨#[]⟩]) (by simp [results, Tryd.results7, go_sem]) rfl ⟨rfl, (Below.refl _ _).alloc (Nat.le_refl _) _⟩
  · have e1 : (256 : Int) ≤ s := by omega
    have e2 : (0 : Int) ≤ s := by omega
    go_enter Tryd.func7, Tryd.ntmps7
    go_wp2
    exact bodyPost_ret (v := .agg #[.int .i64 3, .string ⟨#[]⟩]) (by simp [results, Tryd.results7, go_sem]) rfl ⟨rfl, (Below.refl _ _).alloc (Nat.le_refl _) _⟩

end Go.Proofs.YtjnljmembnlebaaDoor
