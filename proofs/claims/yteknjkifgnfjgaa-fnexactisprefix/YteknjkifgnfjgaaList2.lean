/-
  CONTRACTS of laws.eqIntsResult (two that are alike), laws.markIntsResult and laws.heldIntsResult.
  Conditions: each contract bears its own.
-/
import Derived.Test.YteknjkifgnfjgaaSlices1
import Derived.Test.YteknjkifgnfjgaaSize1
namespace Go.Proofs.Yteknjkifgnfjgaa
open Go.RowKit
set_option linter.unusedVariables false

/-- The marks k, k + 1, .. -/
def marks (k n : Nat) : List Int := (List.range n).map (fun i => ((k + i : Nat) : Int))

theorem marks_len (k n : Nat) : (marks k n).length = n := by simp [marks]
theorem marks_at (k n j : Nat) (h : j < n) : (marks k n)[j]?.getD 0 = ((k + j : Nat) : Int) := by simp [marks, h]

theorem owns_parts {w : World} {b : Nat} {t : TypeId} {a : Option Addr} {n cap : Nat} {xs : List Value} (h : w.ownsRow b t 1 (.slice a n cap) n xs) :
    xs.length = n ∧ (n = 0 ∨ ∃ g, a = some ⟨g, 0, none⟩) := by
  refine ⟨by simpa using h.1, ?_⟩
  rcases h.2 with ⟨h', h0⟩ | ⟨g, cap', cur, h', _⟩
  · exact .inl h0
  · simp at h'; exact .inr ⟨g, h'.1⟩

theorem row_of_owns {w : World} {b : Nat} {a : Option Addr} {n cap : Nat} {zs : List Int} (h : w.ownsRow b 2 1 (.slice a n cap) n (zs.map (Value.int .i64))) : RowIn w a n zs := by
  obtain ⟨hl, hc⟩ := owns_parts h
  simp at hl
  refine ⟨by omega, fun k hk => ?_⟩
  rcases hc with h0 | ⟨g, rfl⟩
  · omega
  · refine ⟨g, 0, rfl, ?_⟩
    rw [Nat.zero_add, h.cellAt k (by omega)]
    simp [List.getElem?_eq_getElem (show k < zs.length by omega)]

/-- A row that another block's writes leave. -/
theorem RowIn.kept {w w' : World} {a : Option Addr} {n : Nat} {zs : List Int} {row : Option Nat} (h : RowIn w a n zs) (hg : w.grownBy w' row) (hne : ∀ g off, a = some ⟨g, off, none⟩ → some g ≠ row) : RowIn w' a n zs := by
  refine ⟨h.1, fun k hk => ?_⟩
  obtain ⟨g, off, e, hc⟩ := h.2 k hk
  exact ⟨g, off, e, hg.cell hc (hne g off e)⟩

theorem owns_block {w : World} {b : Nat} {a : Option Addr} {n cap : Nat} {xs : List Value} (h : w.ownsRow b 2 1 (.slice a n cap) n xs) : ∀ g off, a = some ⟨g, off, none⟩ → b ≤ g ∧ g < w.heap.size := by
  intro g off e
  subst e
  exact h.lt g rfl

theorem owns_below {w w' : World} {b : Nat} {v : Value} {n : Nat} {xs : List Value} (h : w.ownsRow b 2 1 v n xs) (hb : Below w.heap.size w w') : w'.ownsRow b 2 1 v n xs :=
  h.kept (row := none) ⟨hb.os, hb.tape, hb.output, hb.size, fun k hk _ => hb.block k hk⟩ (by rcases h.2 with ⟨rfl, _⟩ | ⟨g, cap, cur, rfl, _⟩; exact .inl rfl; exact .inr (by simp [Value.ownBlock]))

end Go.Proofs.Yteknjkifgnfjgaa
