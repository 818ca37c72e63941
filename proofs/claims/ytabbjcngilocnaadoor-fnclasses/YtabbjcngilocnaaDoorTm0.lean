/-
  PLAIN WORDS: what a taking without fault leaves.
-/
import Derived.Test.YtabbjcngilocnaaDoorTp0
namespace Go.Proofs.YtabbjcngilocnaaDoor
set_option linter.unusedVariables false

/-- In a list in order a lock's own form is found. -/
theorem formL_own : ∀ {gs : List LkI} {x : LkI}, SL gs → x ∈ gs → formL gs x.e x.c x.p = x.f
  | y :: r, x, hs, hx => by
    have hs' := List.pairwise_cons.1 hs
    rw [formL_cons]
    by_cases q : y.e = x.e ∧ y.c = x.c ∧ y.p = x.p
    · rw [if_pos q]
      rcases List.mem_cons.1 hx with rfl | h
      · rfl
      · have hlt := hs'.1 x h
        simp only [ltL, decide_eq_true_eq] at hlt
        omega
    · rw [if_neg q]
      rcases List.mem_cons.1 hx with rfl | h
      · exact absurd ⟨rfl, rfl, rfl⟩ q
      · exact formL_own hs'.2 h

/-- A form that is found is that of a lock that is there. -/
theorem mem_of_form : ∀ {gs : List LkI} {x : LkI}, formL gs x.e x.c x.p = x.f → x.f ≠ 0 → x ∈ gs
  | [], x, h, h0 => absurd h.symm h0
  | y :: r, x, h, h0 => by
    rw [formL_cons] at h
    by_cases q : y.e = x.e ∧ y.c = x.c ∧ y.p = x.p
    · rw [if_pos q] at h
      have : y = x := by
        cases x; cases y
        simp_all
      rw [this]
      exact List.mem_cons_self
    · rw [if_neg q] at h
      exact List.mem_cons_of_mem _ (mem_of_form h h0)

theorem okL_form {x : LkI} (h : okL x = true) : x.f ≠ 0 := by
  simp [okL, inR] at h
  omega

/-- Each need is there behind the taking. -/
theorem tk_needs {locks needs : List LkI} (hs : SL locks) (ho : ∀ x ∈ locks, okL x = true) (hn : SL needs) (hno : ∀ x ∈ needs, okL x = true) : ∀ k, k ≤ needs.length → ∀ all, takeTo locks needs k = some all → TkS locks needs k all ∧ ∀ j x, j < k → needs[j]? = some x → x ∈ all
  | 0, _, all, h => by
    have : locks = all := Option.some.inj h
    subst this
    exact ⟨TkS.zero needs hs ho, fun j x hj _ => by omega⟩
  | k + 1, hk, all, h => by
    have hx := List.getElem?_eq_getElem (l := needs) (i := k) (by omega)
    have hok := hno _ (List.mem_of_getElem? hx)
    rcases tk_steps hs ho hn hno k (by omega) with q | ⟨all0, q⟩
    · rw [takeTo_stuck q (by omega)] at h; cases h
    · have ih := (tk_needs hs ho hn hno k (by omega) all0 q.tk).2
      rw [takeTo_next q.tk hx] at h
      rcases takeOne_cases locks all0 needs[k] with ⟨h0, h1⟩ | ⟨h0, h1, h2⟩ | ⟨h0, h1, h2⟩
      · rw [h1] at h
        have e : putL all0 needs[k] = all := Option.some.inj h
        subst e
        refine ⟨q.put hn hx hok h0, fun j x hj hjx => ?_⟩
        by_cases e : j = k
        · subst e
          rw [hx] at hjx
          cases hjx
          exact mem_putL.2 (.inl rfl)
        · exact mem_putL.2 (.inr (ih j x (by omega) hjx))
      · rw [h2] at h
        have e : all0 = all := Option.some.inj h
        subst e
        refine ⟨q.stay hx h0 h1, fun j x hj hjx => ?_⟩
        by_cases e : j = k
        · subst e
          rw [hx] at hjx
          cases hjx
          exact q.old _ (mem_of_form h1 (okL_form hok))
        · exact ih j x (by omega) hjx
      · rw [h2] at h; cases h

/-- Taking the same again adds nothing. -/
theorem tk_again {all needs : List LkI} (hs : SL all) (hno : ∀ x ∈ needs, okL x = true) (hm : ∀ x ∈ needs, x ∈ all) : ∀ k, k ≤ needs.length → takeTo all needs k = some all
  | 0, _ => rfl
  | k + 1, hk => by
    have hx := List.getElem?_eq_getElem (l := needs) (i := k) (by omega)
    have hmem := List.mem_of_getElem? hx
    have hf := formL_own hs (hm _ hmem)
    have h0 := okL_form (hno _ hmem)
    rw [takeTo_next (tk_again hs hno hm k (by omega)) hx, takeOne, if_neg (by rw [hf]; exact h0), if_pos hf]

/-- A need whose place is another form's is refused. -/
theorem tk_refused {locks needs : List LkI} {j : Nat} {x : LkI} (hx : needs[j]? = some x) (h0 : formL locks x.e x.c x.p ≠ 0) (h1 : formL locks x.e x.c x.p ≠ x.f) : tkCode locks needs = 6 := by
  have hj : j < needs.length := by
    by_cases q : j < needs.length
    · exact q
    · rw [List.getElem?_eq_none (by omega)] at hx; cases hx
  have hn : takeTo locks needs (j + 1) = none := by
    cases h : takeTo locks needs j with
    | none => exact takeTo_stuck h (by omega)
    | some all => rw [takeTo_next h hx, takeOne, if_neg h0, if_neg h1]
  exact (tk_taken hn (by omega)).1

end Go.Proofs.YtabbjcngilocnaaDoor
