/-
  CONTRACTS on grants in results: read, marked, held against their marks, compared.
  Conditions: each contract bears its own.
-/
import Derived.Test.YtpeddanicenohaaGreatGs0
import Derived.Test.YtpeddanicenohaaGreatRol1
namespace Go.Proofs.YtpeddanicenohaaGreat
open Go.RowKit
set_option linter.unusedVariables false
set_option linter.unusedSimpArgs false

/-- A slice of grants, read. -/
def GrV (w : World) (a : Option Addr) (zs : List GrI) : Prop := ∀ k p, zs[k]? = some p → ∃ g, a = some ⟨g, 0, none⟩ ∧ GrAt w g (k * 3) p

theorem GrV.below {w w' : World} {a : Option Addr} {zs : List GrI} (h : GrV w a zs) (hb : Below w.heap.size w w') : GrV w' a zs := fun k p e => by
  obtain ⟨g, ha, h1⟩ := h k p e
  exact ⟨g, ha, h1.below hb (World.block_lt_of_cell? w ⟨g, k * 3, none⟩ h1.1)⟩

theorem GrV.kept {w w' : World} {a : Option Addr} {zs : List GrI} {row : Option Nat} (h : GrV w a zs) (hg : w.grownBy w' row) (hne : ∀ g, a = some ⟨g, 0, none⟩ → some g ≠ row) : GrV w' a zs := fun k p e => by
  obtain ⟨g, ha, h1, h2, h3⟩ := h k p e
  exact ⟨g, ha, hg.cell h1 (hne g ha), hg.cell h2 (hne g ha), hg.cell h3 (hne g ha)⟩

theorem GrV.grIn {w : World} {a : Option Addr} {n : Nat} {zs : List GrI} (hn : zs.length = n) (h : GrV w a zs) : GrIn w a n zs := by
  refine ⟨hn, fun hp => ?_⟩
  obtain ⟨g, ha, _⟩ := h 0 _ (List.getElem?_eq_getElem (by omega))
  refine ⟨g, 0, ha, fun k x e => ?_⟩
  obtain ⟨g', ha', hx⟩ := h k x e
  rw [ha] at ha'
  cases ha'
  rw [Nat.zero_add]
  exact hx

theorem Own3.view {w : World} {B : Nat} {a : Option Addr} {n cap : Nat} {zs : List GrI} (h : Own3 w B (.slice a n cap) zs) : GrV w a zs := by
  intro k p e
  have hk : k < zs.length := by
    by_cases q : k < zs.length
    · exact q
    · rw [List.getElem?_eq_none (by omega)] at e; cases e
  have h0 : w.ownsRow B 38 3 (.slice a n cap) zs.length (flat3 zs) := h
  rcases h0.2 with ⟨h', h''⟩ | ⟨g, cap', cur, h', _⟩
  · omega
  · simp at h'
    obtain ⟨rfl, rfl, rfl⟩ := h'
    obtain ⟨f1, f2, f3⟩ := flat3_at zs k p e
    refine ⟨g, rfl, ?_, ?_, ?_⟩
    · rw [h0.cellAt (k * 3) (by omega)]; exact f1
    · rw [h0.cellAt (k * 3 + 1) (by omega)]; exact f2
    · rw [h0.cellAt (k * 3 + 2) (by omega)]; exact f3

theorem Own3.form {w : World} {B : Nat} {v : Value} {zs : List GrI} (h : Own3 w B v zs) : (v = .slice none 0 0 ∧ zs = []) ∨ ∃ g cap, v = .slice (some ⟨g, 0, none⟩) zs.length cap ∧ B ≤ g ∧ g < w.heap.size ∧ zs.length ≤ cap ∧ cap ≤ maxLen := by
  have h0 : w.ownsRow B 38 3 v zs.length (flat3 zs) := h
  rcases h0.2 with ⟨h', h''⟩ | ⟨g, cap', cur, h', hb, hg, hc, hm, _⟩
  · exact .inl ⟨h', List.length_eq_zero_iff.1 h''⟩
  · exact .inr ⟨g, cap', h', hb, (Array.getElem?_eq_some_iff.1 hg).1, hc, hm⟩

theorem Own3.slice {w : World} {B : Nat} {v : Value} {zs : List GrI} (h : Own3 w B v zs) : ∃ a cap, v = .slice a zs.length cap := by
  rcases h.form with ⟨rfl, rfl⟩ | ⟨g, cap, rfl, _⟩
  · exact ⟨none, 0, rfl⟩
  · exact ⟨_, _, rfl⟩

theorem Own3.alloc {w : World} {B : Nat} {v : Value} {zs : List GrI} (h : Own3 w B v zs) (o : Obj) : Own3 (w.alloc o) B v zs := World.ownsRow.alloc h o

/-- The marks of n grants. -/
def mk3 (n : Nat) : List GrI := (List.range n).map fun j => ((((1 + 3 * j : Nat) : Int), ((2 + 3 * j : Nat) : Int)), ((3 + 3 * j : Nat) : Int))
theorem mk3_len (n : Nat) : (mk3 n).length = n := by simp [mk3]
theorem mk3_at (n j : Nat) (h : j < n) : (mk3 n)[j]? = some ((((1 + 3 * j : Nat) : Int), ((2 + 3 * j : Nat) : Int)), ((3 + 3 * j : Nat) : Int)) := by simp [mk3, h]

theorem flat3_set (a : List GrI) (k : Nat) (p : GrI) : flat3 (a.set k p) = (((flat3 a).set (k * 3) (.int .i64 p.1.1)).set (k * 3 + 1) (.int .i64 p.1.2)).set (k * 3 + 2) (.int .i64 p.2) := by
  induction a generalizing k with
  | nil => simp [flat3]
  | cons q qs ih =>
    cases k with
    | zero => simp [flat3]
    | succ k =>
      rw [show (k + 1) * 3 = k * 3 + 1 + 1 + 1 by omega]
      simp [flat3, ih]

theorem Own3.put {w : World} {B g cap : Nat} {zs : List GrI} {n : Nat} (hn : n = zs.length) (h : Own3 w B (.slice (some ⟨g, 0, none⟩) n cap) zs) (j : Nat) (p : GrI) :
    Own3 (((w.setCell ⟨g, j * 3, none⟩ (.int .i64 p.1.1)).setCell ⟨g, j * 3 + 1, none⟩ (.int .i64 p.1.2)).setCell ⟨g, j * 3 + 2, none⟩ (.int .i64 p.2)) B (.slice (some ⟨g, 0, none⟩) n cap) (zs.set j p) ∧ w.grownBy (((w.setCell ⟨g, j * 3, none⟩ (.int .i64 p.1.1)).setCell ⟨g, j * 3 + 1, none⟩ (.int .i64 p.1.2)).setCell ⟨g, j * 3 + 2, none⟩ (.int .i64 p.2)) (some g) := by
  subst hn
  have h0 : w.ownsRow B 38 3 (.slice (some ⟨g, 0, none⟩) zs.length cap) zs.length (flat3 zs) := h
  have h1 := h0.stored (j * 3) (.int .i64 p.1.1)
  have h2 := h1.1.stored (j * 3 + 1) (.int .i64 p.1.2)
  have h3 := h2.1.stored (j * 3 + 2) (.int .i64 p.2)
  refine ⟨?_, grown_tr (grown_tr h1.2 h2.2) h3.2⟩
  show World.ownsRow _ B 38 3 _ (zs.set j p).length (flat3 (zs.set j p))
  rw [flat3_set, List.length_set]
  exact h3.1

theorem Own3.cell {w : World} {B g cap : Nat} {zs : List GrI} {n : Nat} (hn : n = zs.length) (h : Own3 w B (.slice (some ⟨g, 0, none⟩) n cap) zs) (j : Nat) (hj : j < n * 3) : (∃ v, w.cell? ⟨g, j, none⟩ = some v) ∧ w.frozen? ⟨g, j, none⟩ = false := by
  subst hn
  have h0 : w.ownsRow B 38 3 (.slice (some ⟨g, 0, none⟩) zs.length cap) zs.length (flat3 zs) := h
  exact ⟨⟨_, (h0.cellAt j hj).trans (List.getElem?_eq_getElem (by rw [flat3_len]; exact hj))⟩, h0.frozenAt j⟩

end Go.Proofs.YtpeddanicenohaaGreat
