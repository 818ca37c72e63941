/-
  CONTRACTS of spec.SetText, impl.SetText and laws.eqTextResult (two that are alike).
  Conditions: each contract bears its own.
-/
import Derived.Test.YtajdgbdpmmdlfaaDoorText2
namespace Go.Proofs.YtajdgbdpmmdlfaaDoor
open Go.RowKit
set_option linter.unusedVariables false

set_option maxHeartbeats 400000 in
theorem specText_in (s : Int) (h0 : 0 ≤ s) (h1 : s ≤ 255) (w : World) :
    Calls Tryd.prog 32 #[.int .i64 s] w fun e w' => e = .returned (.agg #[.int .i64 0, .string (textI s)]) ∧ Below w.heap.size w w' := by
  go_enter Tryd.func32, Tryd.ntmps32
  go_wp2_with (first | (go_at_call 40; refine (l1Text_c s h0 h1 _).mono ?_; rintro e w1 ⟨rfl, hb⟩; obtain ⟨hc, hf⟩ := bcell hb; have hz := hb.size; simp only [World.size_alloc] at hc hf hz) | go_in)
  refine bodyPost_ret (v := .agg #[.int .i64 0, .string (textI s)]) (by simp [results, Tryd.results32, go_sem, hc]) rfl ⟨rfl, ?_⟩
  exact ((((Below.refl _ _).alloc (Nat.le_refl _) _).trans (hb.mono (by simp))).setCell (Nat.le_refl _) _).setCell (Nat.le_refl _) _

set_option maxHeartbeats 400000 in
theorem implText_in (s : Int) (h0 : 0 ≤ s) (h1 : s ≤ 255) (w : World) :
    Calls Tryd.prog 13 #[.int .i64 s] w fun e w' => e = .returned (.agg #[.int .i64 0, .string (textI s)]) ∧ Below w.heap.size w w' := by
  have h2 : s < (256 : Int) := by omega
  go_enter Tryd.func13, Tryd.ntmps13
  go_wp2_with (first | (go_at_call 46; refine (text_c s h0 h1 _).mono ?_; rintro e w1 ⟨rfl, hb⟩; obtain ⟨hc, hf⟩ := bcell hb; have hz := hb.size; simp only [World.size_alloc] at hc hf hz) | go_in)
  refine bodyPost_ret (v := .agg #[.int .i64 0, .string (textI s)]) (by simp [results, Tryd.results13, go_sem, hc]) rfl ⟨rfl, ?_⟩
  exact ((((Below.refl _ _).alloc (Nat.le_refl _) _).trans (hb.mono (by simp))).setCell (Nat.le_refl _) _).setCell (Nat.le_refl _) _

set_option maxHeartbeats 400000 in
theorem specText_out (s : Int) (h : s < 0 ∨ 255 < s) (w : World) :
    Calls Tryd.prog 32 #[.int .i64 s] w fun e w' => e = .returned (.agg #[.int .i64 3, .string ⟨#[]⟩]) ∧ Below w.heap.size w w' := by
  rcases h with h | h
  · have e1 : decide (0 ≤ s) = false := by simp; omega
    go_enter Tryd.func32, Tryd.ntmps32
    go_wp2
    exact bodyPost_ret (v := .agg #[.int .i64 3, .string ⟨#[]⟩]) (by simp [results, Tryd.results32, go_sem]) rfl ⟨rfl, (Below.refl _ _).alloc (Nat.le_refl _) _⟩
  · have e1 : decide (s ≤ 255) = false := by simp; omega
    have e2 : (0 : Int) ≤ s := by omega
    go_enter Tryd.func32, Tryd.ntmps32
    go_wp2
    exact bodyPost_ret (v := .agg #[.int .i64 3, .string ⟨#[]⟩]) (by simp [results, Tryd.results32, go_sem]) rfl ⟨rfl, (Below.refl _ _).alloc (Nat.le_refl _) _⟩

set_option maxHeartbeats 400000 in
theorem implText_out (s : Int) (h : s < 0 ∨ 255 < s) (w : World) :
    Calls Tryd.prog 13 #[.int .i64 s] w fun e w' => e = .returned (.agg #[.int .i64 3, .string ⟨#[]⟩]) ∧ Below w.heap.size w w' := by
  rcases h with h | h
  · go_enter Tryd.func13, Tryd.ntmps13
    go_wp2
    exact bodyPost_ret (v := .agg #[.int .i64 3, .string ⟨#[]⟩]) (by simp [results, Tryd.results13, go_sem]) rfl ⟨rfl, (Below.refl _ _).alloc (Nat.le_refl _) _⟩
  · have e1 : (256 : Int) ≤ s := by omega
    have e2 : (0 : Int) ≤ s := by omega
    go_enter Tryd.func13, Tryd.ntmps13
    go_wp2
    exact bodyPost_ret (v := .agg #[.int .i64 3, .string ⟨#[]⟩]) (by simp [results, Tryd.results13, go_sem]) rfl ⟨rfl, (Below.refl _ _).alloc (Nat.le_refl _) _⟩

set_option maxHeartbeats 400000 in
theorem eqText_same (a : Int) (b : ByteArray) (w : World) :
    Calls Tryd.prog 33 #[.agg #[.int .i64 a, .string b], .agg #[.int .i64 a, .string b]] w fun e w' => e = .returned (.bool true) ∧ Below w.heap.size w w' := by
  go_enter Tryd.func33, Tryd.ntmps33
  go_wp2
  go_ret
  exact ⟨rfl, ((Below.refl _ _).alloc (Nat.le_refl _) _).alloc (by simp) _⟩

end Go.Proofs.YtajdgbdpmmdlfaaDoor
