/-
  CONTRACTS of laws.toInt64S (a copy of a slice) and of laws.eqInt64S (two that are alike).
  Conditions: each contract bears its own.
-/
import Derived.Test.YtdmejfhojdkfbaaGreatDoorSpec1
import Derived.WalkSmall
import Derived.BigQuiet
import Derived.Deep.QuietTactic
namespace Go.Proofs.YtdmejfhojdkfbaaGreatDoor
open Go.RowKit
set_option linter.unusedVariables false

/-- What laws.toInt64S needs of the slice that it copies. -/
def RowIn (w : World) (a : Option Addr) (len : Nat) (zs : List Int) : Prop :=
  len ≤ zs.length ∧ ∀ k, k < len → ∃ b off, a = some ⟨b, off, none⟩ ∧ w.cell? ⟨b, off + k, none⟩ = some (.int .i64 (zs[k]?.getD 0))

theorem made_len (n : Nat) : ((madeCells (Value.int .i64 0).cells (n * 1)).toList).length = n := by simp [madeCells, Value.cells]

theorem rows_done {n : Nat} {ys : List Value} {zs : List Int} (hz : n ≤ zs.length) (hl : ys.length = n) (h : ∀ j, j < n → ys[j]? = some (.int .i64 (zs[j]?.getD 0))) : ys = (zs.take n).map (Value.int .i64) := by
  apply List.ext_getElem?
  intro i
  by_cases hi : i < n
  · rw [h i hi]; simp [hi, List.getElem?_eq_getElem (show i < zs.length by omega)]
  · rw [List.getElem?_eq_none (by omega), List.getElem?_eq_none (by simp; omega)]

theorem RowIn.below {w w' : World} {a : Option Addr} {len : Nat} {zs : List Int} (h : RowIn w a len zs) (hb : Below w.heap.size w w') : RowIn w' a len zs := by
  refine ⟨h.1, fun k hk => ?_⟩
  obtain ⟨b, off, e, hc⟩ := h.2 k hk
  exact ⟨b, off, e, (hb.cell (p := ⟨b, off + k, none⟩) (World.block_lt_of_cell? w ⟨b, off + k, none⟩ hc)).trans hc⟩

theorem owned_cells {w : World} {base g len cap : Nat} {zs : List Int} (h : w.ownsRow base 2 1 (.slice (some ⟨g, 0, none⟩) len cap) len ((zs.take len).map (Value.int .i64))) (hz : len ≤ zs.length) :
    ∀ k, k < len → w.cell? ⟨g, k, none⟩ = some (.int .i64 (zs[k]?.getD 0)) := by
  intro k hk
  rw [h.cellAt k (by omega)]
  simp [hk, List.getElem?_eq_getElem (show k < zs.length by omega)]

theorem owned_lt {w : World} {base g len cap : Nat} {xs : List Value} (h : w.ownsRow base 2 1 (.slice (some ⟨g, 0, none⟩) len cap) len xs) : g < w.heap.size := (h.lt g rfl).2

end Go.Proofs.YtdmejfhojdkfbaaGreatDoor
