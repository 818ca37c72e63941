/-
  CONTRACTS: spec.l2Roles, spec.RolesIn.
  Conditions: each contract bears its own.
-/
import Derived.Test.YtipmkdacnpkgjaaRol2
import Derived.Test.YtipmkdacnpkgjaaPol4
namespace Go.Proofs.Ytipmkdacnpkgjaa
open Go.RowKit
set_option linter.unusedVariables false
set_option linter.unusedSimpArgs false

/-- The same members. -/
def SameM (ys : List RoI) (xs : List RoI) : Prop := ∀ x, x ∈ ys ↔ x ∈ xs

theorem SameM.put {ys zs xs : List RoI} {r : RoI} (h : SameM zs xs) (k : ∀ x, x ∈ ys ↔ x = r ∨ x ∈ zs) : SameM ys (xs ++ [r]) := fun x => by
  rw [k x, h x, List.mem_append]
  simp
  constructor
  · rintro (h | h)
    · exact .inr h
    · exact .inl h
  · rintro (h | h)
    · exact .inr h
    · exact .inl h

/-- What stands while the roles are gathered. -/
structure PutS (w wr : World) (v : Value) (xs : List RoI) : Prop where
  ex : ∃ (g m cap : Nat) (ys : List RoI), v = .slice (some ⟨g, 0, none⟩) m cap ∧ m = ys.length ∧ m ≤ xs.length ∧ Owns2 wr w.heap.size (.slice (some ⟨g, 0, none⟩) m cap) ys ∧ SS ys ∧ SameM ys xs
  bel : Below w.heap.size w wr

/-- What a call of RolesIn gives: a code, or the roles, strictly rising, in memory of their own. -/
def GivesR (f : Nat) (a : Option Addr) (n cap : Nat) (c : Int) (ys : List RoI) (w : World) : Prop := Calls Try.prog f #[.slice a n cap] w fun e w' => ∃ (a' : Option Addr) (cap' : Nat), e = .returned (.agg #[.int .i64 c, .slice a' ys.length cap']) ∧ Owns2 w' w.heap.size (.slice a' ys.length cap') ys ∧ Below w.heap.size w w'

end Go.Proofs.Ytipmkdacnpkgjaa
