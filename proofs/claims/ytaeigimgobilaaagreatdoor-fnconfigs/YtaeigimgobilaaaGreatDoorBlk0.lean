/-
  PLAIN WORDS on a block of eight numbers (a rule). No Go text is walked here.
  Conditions: each fact bears its own.
-/
import Derived.Test.YtaeigimgobilaaaGreatDoorSpec1
import Derived.Test.YtaeigimgobilaaaGreatDoorRole0
namespace Go.Proofs.YtaeigimgobilaaaGreatDoor
open Go.RowKit
set_option linter.unusedVariables false
set_option linter.unusedSimpArgs false

/-- The result's eight cells, as they were made. -/
def ResAt (w : World) (R : Nat) : Prop := w.cell? ⟨R, 0, none⟩ = some (.int .i64 0) ∧ w.cell? ⟨R, 1, none⟩ = some (.int .i64 0) ∧ w.cell? ⟨R, 2, none⟩ = some (.int .i64 0) ∧ w.cell? ⟨R, 3, none⟩ = some (.int .i64 0) ∧ w.cell? ⟨R, 4, none⟩ = some (.int .i64 0) ∧ w.cell? ⟨R, 5, none⟩ = some (.int .i64 0) ∧ w.cell? ⟨R, 6, none⟩ = some (.int .i64 0) ∧ w.cell? ⟨R, 7, none⟩ = some (.int .i64 0) ∧ w.frozen? ⟨R, 0, none⟩ = false ∧ w.frozen? ⟨R, 1, none⟩ = false ∧ w.frozen? ⟨R, 2, none⟩ = false ∧ w.frozen? ⟨R, 3, none⟩ = false ∧ w.frozen? ⟨R, 4, none⟩ = false ∧ w.frozen? ⟨R, 5, none⟩ = false ∧ w.frozen? ⟨R, 6, none⟩ = false ∧ w.frozen? ⟨R, 7, none⟩ = false

theorem ResAt.below {w w' : World} {R : Nat} (h : ResAt w R) (hb : Below w.heap.size w w') : ResAt w' R := by
  have key : ∀ (g o : Nat) (v : Value), w.cell? ⟨g, o, none⟩ = some v → w'.cell? ⟨g, o, none⟩ = some v := fun g o v e => (hb.cell (p := ⟨g, o, none⟩) (World.block_lt_of_cell? w ⟨g, o, none⟩ e)).trans e
  obtain ⟨c0, c1, c2, c3, c4, c5, c6, c7, f0, f1, f2, f3, f4, f5, f6, f7⟩ := h
  have hR := World.block_lt_of_cell? w ⟨R, 0, none⟩ c0
  have kf : ∀ o, w.frozen? ⟨R, o, none⟩ = false → w'.frozen? ⟨R, o, none⟩ = false := fun o e => (hb.frozen (p := ⟨R, o, none⟩) hR).trans e
  exact ⟨key _ _ _ c0, key _ _ _ c1, key _ _ _ c2, key _ _ _ c3, key _ _ _ c4, key _ _ _ c5, key _ _ _ c6, key _ _ _ c7, kf _ f0, kf _ f1, kf _ f2, kf _ f3, kf _ f4, kf _ f5, kf _ f6, kf _ f7⟩

theorem ResAt.new (w : World) (t : TypeId) : ResAt (w.alloc (.cells #[.int .i64 0, .int .i64 0, .int .i64 0, .int .i64 0, .int .i64 0, .int .i64 0, .int .i64 0, .int .i64 0] t)) w.heap.size := by
  simp [ResAt, go_sem]

/-- A block of eight numbers that may be written. -/
def BlkAt (w : World) (q : Nat) (x0 x1 x2 x3 x4 x5 x6 x7 : Int) : Prop := w.cell? ⟨q, 0, none⟩ = some (.int .i64 x0) ∧ w.cell? ⟨q, 1, none⟩ = some (.int .i64 x1) ∧ w.cell? ⟨q, 2, none⟩ = some (.int .i64 x2) ∧ w.cell? ⟨q, 3, none⟩ = some (.int .i64 x3) ∧ w.cell? ⟨q, 4, none⟩ = some (.int .i64 x4) ∧ w.cell? ⟨q, 5, none⟩ = some (.int .i64 x5) ∧ w.cell? ⟨q, 6, none⟩ = some (.int .i64 x6) ∧ w.cell? ⟨q, 7, none⟩ = some (.int .i64 x7) ∧ w.frozen? ⟨q, 0, none⟩ = false ∧ w.frozen? ⟨q, 1, none⟩ = false ∧ w.frozen? ⟨q, 2, none⟩ = false ∧ w.frozen? ⟨q, 3, none⟩ = false ∧ w.frozen? ⟨q, 4, none⟩ = false ∧ w.frozen? ⟨q, 5, none⟩ = false ∧ w.frozen? ⟨q, 6, none⟩ = false ∧ w.frozen? ⟨q, 7, none⟩ = false

theorem BlkAt.below {w w' : World} {q : Nat} {x0 x1 x2 x3 x4 x5 x6 x7 : Int} (h : BlkAt w q x0 x1 x2 x3 x4 x5 x6 x7) (hb : Below w.heap.size w w') : BlkAt w' q x0 x1 x2 x3 x4 x5 x6 x7 := by
  have key : ∀ (g o : Nat) (v : Value), w.cell? ⟨g, o, none⟩ = some v → w'.cell? ⟨g, o, none⟩ = some v := fun g o v e => (hb.cell (p := ⟨g, o, none⟩) (World.block_lt_of_cell? w ⟨g, o, none⟩ e)).trans e
  obtain ⟨c0, c1, c2, c3, c4, c5, c6, c7, f0, f1, f2, f3, f4, f5, f6, f7⟩ := h
  have hR := World.block_lt_of_cell? w ⟨q, 0, none⟩ c0
  have kf : ∀ o, w.frozen? ⟨q, o, none⟩ = false → w'.frozen? ⟨q, o, none⟩ = false := fun o e => (hb.frozen (p := ⟨q, o, none⟩) hR).trans e
  exact ⟨key _ _ _ c0, key _ _ _ c1, key _ _ _ c2, key _ _ _ c3, key _ _ _ c4, key _ _ _ c5, key _ _ _ c6, key _ _ _ c7, kf _ f0, kf _ f1, kf _ f2, kf _ f3, kf _ f4, kf _ f5, kf _ f6, kf _ f7⟩

theorem BlkAt.new (w : World) (x0 x1 x2 x3 x4 x5 x6 x7 : Int) (t : TypeId) : BlkAt (w.alloc (.cells #[.int .i64 x0, .int .i64 x1, .int .i64 x2, .int .i64 x3, .int .i64 x4, .int .i64 x5, .int .i64 x6, .int .i64 x7] t)) w.heap.size x0 x1 x2 x3 x4 x5 x6 x7 := by
  simp [BlkAt, go_sem]

theorem BlkAt.rule {w : World} {q : Nat} {x : RuleI} (h : BlkAt w q x.k x.ho x.hn x.w x.oo x.on x.to x.tn) : RuleAt w q 0 x := by
  obtain ⟨h0, h1, h2, h3, h4, h5, h6, h7, _⟩ := h
  exact ⟨h0, h1, h2, h3, h4, h5, h6, h7⟩

end Go.Proofs.YtaeigimgobilaaaGreatDoor
