/-
  CONTRACTS: laws.eqRoleS, laws.markRoleS, laws.heldRoleS, of results too; laws.markRuleS.
  Conditions: each contract bears its own.
-/
import Derived.Test.YthogdfnaojijhaaRol0
import Derived.Test.YthogdfnaojijhaaPol3
import Derived.WalkSmall
namespace Go.Proofs.Ythogdfnaojijhaa
open Go.RowKit
set_option linter.unusedVariables false
set_option linter.unusedSimpArgs false

/-- A slice of roles, read. -/
def RolesV (w : World) (a : Option Addr) (zs : List RoI) : Prop := ∀ k p, zs[k]? = some p → ∃ g, a = some ⟨g, 0, none⟩ ∧ w.cell? ⟨g, k * 2, none⟩ = some (.int .i64 p.1) ∧ w.cell? ⟨g, k * 2 + 1, none⟩ = some (.int .i64 p.2)

theorem RolesV.below {w w' : World} {a : Option Addr} {zs : List RoI} (h : RolesV w a zs) (hb : Below w.heap.size w w') : RolesV w' a zs := fun k p e => by
  obtain ⟨g, ha, h1, h2⟩ := h k p e
  exact ⟨g, ha, (hb.cell (p := ⟨g, k * 2, none⟩) (World.block_lt_of_cell? w ⟨g, k * 2, none⟩ h1)).trans h1, (hb.cell (p := ⟨g, k * 2 + 1, none⟩) (World.block_lt_of_cell? w ⟨g, k * 2 + 1, none⟩ h2)).trans h2⟩

theorem RolesV.kept {w w' : World} {a : Option Addr} {zs : List RoI} {row : Option Nat} (h : RolesV w a zs) (hg : w.grownBy w' row) (hne : ∀ g, a = some ⟨g, 0, none⟩ → some g ≠ row) : RolesV w' a zs := fun k p e => by
  obtain ⟨g, ha, h1, h2⟩ := h k p e
  exact ⟨g, ha, hg.cell h1 (hne g ha), hg.cell h2 (hne g ha)⟩

/-- The marks of n roles. -/
def mk2 (n : Nat) : List RoI := (List.range n).map fun j => (((1 + 2 * j : Nat) : Int), ((2 + 2 * j : Nat) : Int))
theorem mk2_len (n : Nat) : (mk2 n).length = n := by simp [mk2]
theorem mk2_at (n j : Nat) (h : j < n) : (mk2 n)[j]? = some (((1 + 2 * j : Nat) : Int), ((2 + 2 * j : Nat) : Int)) := by simp [mk2, h]

theorem grown_refl (w : World) (row : Option Nat) : w.grownBy w row := ⟨rfl, rfl, rfl, Nat.le_refl _, fun _ _ _ => rfl⟩
theorem grown_tr {a b c : World} {row : Option Nat} (h : a.grownBy b row) (k : b.grownBy c row) : a.grownBy c row :=
  ⟨k.os.trans h.os, k.tape.trans h.tape, k.output.trans h.output, Nat.le_trans h.size k.size, fun q hq hne => (k.block q (Nat.lt_of_lt_of_le hq h.size) hne).trans (h.block q hq hne)⟩

theorem RoomAt.set {w : World} {g n : Nat} (h : RoomAt w g n) (j : Nat) (v : Value) : RoomAt (w.setCell ⟨g, j, none⟩ v) g n := by
  refine ⟨fun i hi => ?_, fun i => by simp only [World.frozen?_setCell]; exact h.2 i⟩
  obtain ⟨u, hu⟩ := h.1 i hi
  by_cases e : i = j
  · subst e
    exact ⟨v, World.cell?_setCell_same' _ _ _ (by rw [hu]; rfl)⟩
  · exact ⟨u, (World.cell?_setCell_other w ⟨g, j, none⟩ ⟨g, i, none⟩ v (fun q => e (congrArg Addr.off q).symm)).trans hu⟩

theorem grown_set (w : World) (g j : Nat) (v : Value) : w.grownBy (w.setCell ⟨g, j, none⟩ v) (some g) :=
  ⟨rfl, rfl, rfl, by simp [World.setCell], fun k _ hk => Below.heap_setCell _ _ _ _ (fun e => hk (by rw [e]))⟩

end Go.Proofs.Ythogdfnaojijhaa
