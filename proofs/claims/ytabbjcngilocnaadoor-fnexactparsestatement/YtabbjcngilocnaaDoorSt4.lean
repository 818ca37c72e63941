/-
  CONTRACTS: PackStatement of both programs: the words of a statement.
  Conditions: each contract bears its own.
-/
import Derived.Test.YtabbjcngilocnaaDoorSt3
import Derived.Test.YtabbjcngilocnaaDoorSlices1
namespace Go.Proofs.YtabbjcngilocnaaDoor
open Go.RowKit
set_option linter.unusedVariables false
set_option linter.unusedSimpArgs false

/-- The last word. -/
def lastW (x : StI) : Int := (x.k + 3 * x.e + 7 * x.f + 11 * x.s + 13 * x.n) % 251

def packL (x : StI) : List Int := [x.k, x.e, x.f, x.s, x.n, lastW x]

theorem st_bounds {x : StI} (h : stCode x = 0) : (1 ≤ x.k ∧ x.k ≤ 4) ∧ (1 ≤ x.e ∧ x.e ≤ 9) ∧ (0 ≤ x.f ∧ x.f ≤ 4) ∧ (0 ≤ x.s ∧ x.s ≤ 255) ∧ (0 ≤ x.n ∧ x.n ≤ 7) := by
  cases hk : inR x.k 1 4
  · unfold stCode at h; rw [if_pos hk] at h; cases h
  · have hk' := (inR_iff _ _ _).1 hk
    by_cases h3 : 3 ≤ x.k
    · rw [st_next hk h3] at h
      split at h
      · rename_i q
        split at h
        · cases h
        · rename_i q1
          split at h
          · cases h
          · rename_i q2
            have e1 := (inR_iff x.e 1 9).1 (by simpa using q1)
            have e2 := (inR_iff x.n 0 7).1 (by simpa using q2)
            omega
      · cases h
    · rw [st_form hk (by omega)] at h
      split at h
      · rename_i q
        split at h
        · cases h
        · rename_i q1
          split at h
          · cases h
          · rename_i q2
            split at h
            · cases h
            · rename_i q3
              have e1 := (inR_iff x.e 1 9).1 (by simpa using q1)
              have e2 := (inR_iff x.f 1 4).1 (by simpa using q2)
              have e3 := (inR_iff x.s 1 255).1 (by simpa using q3)
              omega
      · cases h

/-- What a call of PackStatement gives. -/
def GivesW (f : Nat) (x : StI) (c : Int) (zs : List Int) (w : World) : Prop := Calls Tryd.prog f #[.agg #[.int .i64 x.k, .int .i64 x.e, .int .i64 x.f, .int .i64 x.s, .int .i64 x.n]] w fun e w' => ∃ a cap, e = .returned (.agg #[.int .i64 c, .slice a zs.length cap]) ∧ w'.ownsRow w.heap.size 2 1 (.slice a zs.length cap) zs.length (zs.map (Value.int .i64)) ∧ Below w.heap.size w w'

theorem grown_box2 (w : World) (q : Nat) (u v : Value) : w.grownBy ((w.setCell ⟨q, 0, none⟩ u).setCell ⟨q, 1, none⟩ v) (some q) := by
  refine ⟨rfl, rfl, rfl, by simp, fun i hi hne => ?_⟩
  have hq : i ≠ q := fun e => hne (by rw [e])
  rw [Below.heap_setCell _ _ _ _ hq, Below.heap_setCell _ _ _ _ hq]

theorem owns_low {w : World} {B B' : Nat} {t : TypeId} {v : Value} {n : Nat} {xs : List Value} (h : w.ownsRow B t 1 v n xs) (hb : B' ≤ B) : w.ownsRow B' t 1 v n xs := by
  refine ⟨h.1, ?_⟩
  rcases h.2 with h' | ⟨g, cap, cur, e, hg, rest⟩
  · exact .inl h'
  · exact .inr ⟨g, cap, cur, e, Nat.le_trans hb hg, rest⟩

end Go.Proofs.YtabbjcngilocnaaDoor
