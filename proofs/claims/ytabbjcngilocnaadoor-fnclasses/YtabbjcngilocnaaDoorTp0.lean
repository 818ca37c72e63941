/-
  PLAIN WORDS: taking locks keeps them in order.
-/
import Derived.Test.YtabbjcngilocnaaDoorTk2
namespace Go.Proofs.YtabbjcngilocnaaDoor
set_option linter.unusedVariables false

/-- Taking keeps the order. -/
theorem tk_steps {locks needs : List LkI} (hs : SL locks) (ho : ∀ x ∈ locks, okL x = true) (hn : SL needs) (hno : ∀ x ∈ needs, okL x = true) : ∀ k, k ≤ needs.length → takeTo locks needs k = none ∨ ∃ all, TkS locks needs k all
  | 0, _ => .inr ⟨locks, TkS.zero needs hs ho⟩
  | k + 1, hk => by
    rcases tk_steps hs ho hn hno k (by omega) with h | ⟨all, h⟩
    · exact .inl (takeTo_stuck h (by omega))
    · have hx := List.getElem?_eq_getElem (l := needs) (i := k) (by omega)
      have hok := hno _ (List.mem_of_getElem? hx)
      rcases takeOne_cases locks all needs[k] with ⟨h0, _⟩ | ⟨h0, h1, _⟩ | ⟨h0, h1, h2⟩
      · exact .inr ⟨_, h.put hn hx hok h0⟩
      · exact .inr ⟨_, h.stay hx h0 h1⟩
      · exact .inl (by rw [takeTo_next h.tk hx]; exact h2)

theorem tk_keeps {locks needs : List LkI} (hs : SL locks) (ho : ∀ x ∈ locks, okL x = true) (hn : SL needs) (hno : ∀ x ∈ needs, okL x = true) : SL (tkL locks needs) ∧ (∀ x ∈ tkL locks needs, okL x = true) ∧ (tkL locks needs).length ≤ 200 := by
  refine ⟨?_, ?_, tkL_len⟩
  all_goals
    rcases tk_steps hs ho hn hno needs.length (Nat.le_refl _) with h | ⟨all, h⟩
    · rw [(tk_taken h (Nat.le_refl _)).2]
      first | exact List.Pairwise.nil | simp
    · by_cases q : 200 < all.length
      · rw [(tk_many h.tk q).2]
        first | exact List.Pairwise.nil | simp
      · rw [(tk_fine h.tk q).2]
        first | exact h.sl | exact h.ok

end Go.Proofs.YtabbjcngilocnaaDoor
