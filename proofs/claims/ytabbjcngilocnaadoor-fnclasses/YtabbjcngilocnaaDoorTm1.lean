/-
  PLAIN WORDS: what FnClasses asks of a taking without fault.
-/
import Derived.Test.YtabbjcngilocnaaDoorTm0
import Derived.Test.YtabbjcngilocnaaDoorCl1
import Derived.Test.YtabbjcngilocnaaDoorFo1
namespace Go.Proofs.YtabbjcngilocnaaDoor
set_option linter.unusedVariables false

/-- Locks in order, each right, at most 200, have no fault. -/
theorem lk_of {gs : List LkI} (hl : gs.length ≤ 200) (hs : SL gs) (ho : ∀ x ∈ gs, okL x = true) : lkCode gs = 0 := by
  have key : ∀ k, k ≤ gs.length → lkTo gs k = 0 := by
    intro k
    induction k with
    | zero => intro _; rfl
    | succ k ih =>
      intro hk
      have hx := List.getElem?_eq_getElem (l := gs) (i := k) (by omega)
      rw [lkTo_next hx (ih (by omega)), lkOne_zero]
      refine ⟨ho _ (List.mem_of_getElem? hx), ?_⟩
      cases k with
      | zero => rfl
      | succ j =>
        have hy := List.getElem?_eq_getElem (l := gs) (i := j) (by omega)
        rw [prevL_of hy]
        exact List.pairwise_iff_getElem.1 hs j (j + 1) (by omega) (by omega) (by omega)
  unfold lkCode
  rw [if_neg (by omega)]
  exact key _ (Nat.le_refl _)

theorem mem_listTo {s p : Int} : ∀ {k : Nat}, 1 ≤ p → p ≤ (k : Int) → hasI s p = true → p ∈ listTo s k
  | 0, h1, h2, _ => by omega
  | k + 1, h1, h2, h => by
    by_cases e : p = (k : Int) + 1
    · subst e
      rw [listTo_hit s k h]
      simp
    · have ih := mem_listTo (s := s) (p := p) (k := k) h1 (by omega) h
      unfold listTo
      split
      · exact List.mem_append.2 (.inl ih)
      · exact ih

theorem mem_needTo {zs : List Int} {e f s p z : Int} {k : Nat} (hz : zs[k]? = some z) (hf : hasI z f = true) (h1 : 1 ≤ p) (h2 : p ≤ 8) (hp : hasI s p = true) : ∀ n, k < n → (⟨e, (k : Int), p, f⟩ : LkI) ∈ needTo zs e f s n
  | 0, h => by omega
  | n + 1, h => by
    unfold needTo
    by_cases e' : k = n
    · subst e'
      refine List.mem_append.2 (.inr ?_)
      unfold needOne
      rw [hz, if_pos (by simpa using hf)]
      unfold needAt
      exact List.mem_map.2 ⟨p, mem_listTo h1 (by simpa using h2) hp, rfl⟩
    · exact List.mem_append.2 (.inl (mem_needTo hz hf h1 h2 hp n (by omega)))

theorem some_bit : ∀ n : Fin 256, n.val = 0 ∨ ∃ k : Fin 8, n.val.testBit k.val = true := by decide +kernel

theorem some_in {s : Int} (h0 : 0 ≤ s) (h1 : s ≤ 255) (hs : s ≠ 0) : ∃ p : Int, 1 ≤ p ∧ p ≤ 8 ∧ hasI s p = true := by
  obtain ⟨n, rfl⟩ := Int.eq_ofNat_of_zero_le h0
  rcases some_bit ⟨n, by omega⟩ with h | ⟨k, h⟩
  · simp only at h; omega
  · refine ⟨(k.val : Int) + 1, by omega, by have := k.isLt; omega, ?_⟩
    simpa [hasI] using h

/-- What a taking without fault leaves. -/
theorem classes_law {L : List LkI} {zs : List Int} {e f s : Int} (h : takeCode L zs e f s = 0) :
    needCode zs e f s = 0 ∧ lkCode (takeL L zs e f s) = 0 ∧ (takeL L zs e f s).length ≤ 200 ∧ (∀ x ∈ needTo zs e f s zs.length, formL (takeL L zs e f s) e x.c x.p = f) ∧ (∀ x ∈ L, formL (takeL L zs e f s) x.e x.c x.p = x.f) ∧ L.length ≤ 200
      ∧ takeCode (takeL L zs e f s) zs e f s = 0 ∧ takeL (takeL L zs e f s) zs e f s = takeL L zs e f s ∧ (∀ o, clashV zs f o = true → s ≠ 0 → takeCode (takeL L zs e f s) zs e o s = 6) := by
  have hk : lkCode L = 0 := by
    by_cases q : lkCode L = 0
    · exact q
    · unfold takeCode at h; rw [if_neg q] at h; exact absurd h q
  have hn : needCode zs e f s = 0 := by
    by_cases q : needCode zs e f s = 0
    · exact q
    · unfold takeCode at h; rw [if_pos hk, if_neg q] at h; exact absurd h q
  have ht : tkCode L (needTo zs e f s zs.length) = 0 := by unfold takeCode at h; rw [if_pos hk, if_pos hn] at h; exact h
  have hR : takeL L zs e f s = tkL L (needTo zs e f s zs.length) := by unfold takeL; rw [if_pos ⟨hk, hn⟩]
  obtain ⟨l1, l2, l3⟩ := lk_ok hk
  obtain ⟨n1, n2⟩ := need_okL hn
  obtain ⟨n0, ne, nf, ns⟩ := need_ok hn
  cases ha : takeTo L (needTo zs e f s zs.length) (needTo zs e f s zs.length).length with
  | none => rw [(tk_taken ha (Nat.le_refl _)).1] at ht; cases ht
  | some all =>
    have hm : ¬ 200 < all.length := fun q => by rw [(tk_many ha q).1] at ht; cases ht
    have hRa : takeL L zs e f s = all := by rw [hR]; exact (tk_fine ha hm).2
    obtain ⟨T, hin⟩ := tk_needs l2 l3 n1 n2 _ (Nat.le_refl _) all ha
    have hmem : ∀ x ∈ needTo zs e f s zs.length, x ∈ all := fun x hx => by
      obtain ⟨j, hj, e'⟩ := List.getElem_of_mem hx
      exact hin j x hj (by rw [List.getElem?_eq_getElem hj, e'])
    have hlk : lkCode all = 0 := lk_of (by omega) T.sl T.ok
    have hag := tk_again T.sl n2 hmem (needTo zs e f s zs.length).length (Nat.le_refl _)
    rw [hRa]
    refine ⟨hn, hlk, by omega, fun x hx => ?_, fun x hx => formL_own T.sl (T.old x hx), l1, ?_, ?_, fun o hc hs0 => ?_⟩
    · have q := (needTo_up zs e f s zs.length).2 x hx
      have := formL_own T.sl (hmem x hx)
      rw [q.1, q.2.2.2] at this
      exact this
    · unfold takeCode; rw [if_pos hlk, if_pos hn]; exact (tk_fine hag hm).1
    · unfold takeL; rw [if_pos ⟨hlk, hn⟩]; exact (tk_fine hag hm).2
    · simp only [clashV, clashB, bothB, Bool.and_eq_true, List.any_eq_true, beq_iff_eq, bne_iff_ne] at hc
      obtain ⟨_, _, ho, hne, z, hz, hzf, hzo⟩ := hc
      obtain ⟨k, hkl, hzk⟩ := List.getElem_of_mem hz
      have hzk' : zs[k]? = some z := by rw [List.getElem?_eq_getElem hkl, hzk]
      rw [inR_iff] at ns
      obtain ⟨p, p1, p2, hp⟩ := some_in ns.1 ns.2 hs0
      have m1 := hmem _ (mem_needTo (e := e) hzk' hzf p1 p2 hp zs.length hkl)
      have m2 := mem_needTo (e := e) hzk' hzo p1 p2 hp zs.length hkl
      have f1 : formL all e (k : Int) p = f := formL_own T.sl m1
      obtain ⟨j, hj, ej⟩ := List.getElem_of_mem m2
      have hno : needCode zs e o s = 0 := need_of n0 ne ho (by rw [inR_iff]; exact ns)
      unfold takeCode
      rw [if_pos hlk, if_pos hno]
      rw [inR_iff] at nf
      exact tk_refused (j := j) (x := ⟨e, (k : Int), p, o⟩) (by rw [List.getElem?_eq_getElem hj, ej]) (by show formL all e (k : Int) p ≠ 0; rw [f1]; omega) (by show formL all e (k : Int) p ≠ o; rw [f1]; exact hne)

end Go.Proofs.YtabbjcngilocnaaDoor
