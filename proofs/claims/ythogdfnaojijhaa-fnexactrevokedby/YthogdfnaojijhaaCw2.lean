/-
  A COPY OF CERTIFICATES, as a law keeps it.
  Conditions: each fact bears its own.
-/
import Derived.Test.YthogdfnaojijhaaCw1
import Derived.Test.YthogdfnaojijhaaVo0
namespace Go.Proofs.Ythogdfnaojijhaa
open Go.RowKit
set_option linter.unusedVariables false
set_option linter.unusedSimpArgs false

theorem CpR1.kept {lo hi n : Nat} {cs ds : List CrI} {X X' : World} (h : CpR1 lo hi n cs ds X) (hk : ∀ b, lo ≤ b → b < hi → X'.heap[b]? = X.heap[b]?) : CpR1 lo hi n cs ds X' := by
  have h0 := hk lo (Nat.le_refl _) h.lh.1
  have hc : ∀ o, X'.cell? ⟨lo, o, none⟩ = X.cell? ⟨lo, o, none⟩ := fun o => World.cell?_of_block (a := ⟨lo, o, none⟩) h0
  refine ⟨h.ln, h.lc, h.zl, fun j d e => ?_, fun j c d e1 e2 => ?_, fun j => (World.frozen?_of_block (a := ⟨lo, j, none⟩) h0).trans (h.fr j), h.lh.1, ?_⟩
  · obtain ⟨⟨a0, a1, a2, a3, a4⟩, a5⟩ := h.ca j d e
    exact ⟨⟨(hc _).trans a0, (hc _).trans a1, (hc _).trans a2, (hc _).trans a3, (hc _).trans a4⟩, (hc _).trans a5⟩
  · obtain ⟨g, q, h1, h2, h3⟩ := h.nw j c d e1 e2
    exact ⟨g, q, h1, h2, (IntCp.hold h3 (by have := h.lh.2; omega)).kept X X' h3 (fun b b1 b2 => hk b (by omega) (by omega))⟩
  · have hl := h.lh
    have h1 := hk (hi - 1) (by omega) (by omega)
    rw [Array.getElem?_eq_getElem (show hi - 1 < X.heap.size by omega)] at h1
    have := (Array.getElem?_eq_some_iff.1 h1).1
    omega

theorem CrsTo.cpH {w0 w wA : World} {a : Option Addr} {n : Nat} {cs ds : List CrI} (h : CrsTo w0 w n cs ds n) (hi : CrsIn wA a n cs) (hl : ∀ (k : Nat) c, cs[k]? = some c → c.gn ≤ 1048576) : Hold w0.heap.size w.heap.size (CpR w0.heap.size w.heap.size n cs) w :=
  ⟨(h.cpR hi hl).out, Nat.le_refl _, fun X X' hX hk => by
    obtain ⟨es, h1⟩ := hX
    exact ⟨es, h1.kept hk⟩⟩

/-- A copy's chain is the chain. -/
theorem CpR1.chL {lo hi n : Nat} {cs ds : List CrI} {X : World} (h : CpR1 lo hi n cs ds X) : chL ds = chL cs := by
  unfold Go.Proofs.Ythogdfnaojijhaa.chL
  apply List.ext_getElem?
  intro i
  rw [List.getElem?_map, List.getElem?_map]
  cases e : ds[i]? with
  | none =>
    have : ds.length ≤ i := by simpa using e
    have e2 : cs[i]? = none := List.getElem?_eq_none (by rw [h.lc, ← h.ln]; exact this)
    rw [e2]
  | some d =>
    obtain ⟨c, g, hc, rfl, _⟩ := h.get e
    rw [hc]
    rfl

theorem CpR1.le {lo hi n : Nat} {cs ds : List CrI} {X : World} (h : CpR1 lo hi n cs ds X) : ∀ (k : Nat) c, ds[k]? = some c → c.gn ≤ 1048576 ∧ c.gn ≤ c.gc ∧ c.gc ≤ maxLen := fun k d e => by
  obtain ⟨c, g, hc, rfl, _⟩ := h.get e
  have := (h.zl k c hc).2
  exact ⟨this, Nat.le_refl _, by show c.gn ≤ maxLen; unfold maxLen; omega⟩

end Go.Proofs.Ythogdfnaojijhaa
