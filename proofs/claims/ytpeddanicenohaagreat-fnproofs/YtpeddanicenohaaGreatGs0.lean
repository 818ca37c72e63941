/-
  CONTRACTS: laws.toGrantS (a copy of a slice of grants) and laws.eqGrantS (two that are alike).
  Conditions: each contract bears its own.
-/
import Derived.Test.YtpeddanicenohaaGreatGr4
import Derived.Test.YtpeddanicenohaaGreatPol3
import Derived.Deep.RegionHeld3
namespace Go.Proofs.YtpeddanicenohaaGreat
open Go.RowKit
set_option linter.unusedVariables false
set_option linter.unusedSimpArgs false

/-- Grants in a block, three cells each. -/
def GrsAt (w : World) (g : Nat) (gs : List GrI) : Prop := ∀ k x, gs[k]? = some x → GrAt w g (k * 3) x

theorem GrsAt.below {w w' : World} {g : Nat} {gs : List GrI} (h : GrsAt w g gs) (hb : Below w.heap.size w w') : GrsAt w' g gs := fun k x e =>
  (h k x e).below hb (World.block_lt_of_cell? w ⟨g, k * 3, none⟩ (h k x e).1)

theorem GrIn.of {w : World} {g n : Nat} {gs : List GrI} (hl : gs.length = n) (h : GrsAt w g gs) : GrIn w (some ⟨g, 0, none⟩) n gs :=
  ⟨hl, fun _ => ⟨g, 0, rfl, fun k x e => by rw [Nat.zero_add]; exact h k x e⟩⟩

/-- A block of n grants that may be written. -/
def Room3 (w : World) (g n : Nat) : Prop := (∀ j, j < n * 3 → ∃ v, w.cell? ⟨g, j, none⟩ = some v) ∧ ∀ j, w.frozen? ⟨g, j, none⟩ = false

abbrev put3 (w : World) (g o : Nat) (s : GrI) : World := (((w.setCell ⟨g, o, none⟩ (.int .i64 s.1.1)).setCell ⟨g, o + 1, none⟩ (.int .i64 s.1.2)).setCell ⟨g, o + 2, none⟩ (.int .i64 s.2))

theorem put3_other (w : World) (g o : Nat) (s : GrI) (a : Addr) (h : ∀ j, j < 3 → a ≠ ⟨g, o + j, none⟩) : (put3 w g o s).cell? a = w.cell? a := by
  rw [World.cell?_setCell_other (h := Ne.symm (h 2 (by omega))), World.cell?_setCell_other (h := Ne.symm (h 1 (by omega))), World.cell?_setCell_other (h := Ne.symm (a := a) (b := ⟨g, o, none⟩) (by simpa using h 0 (by omega)))]

theorem put3_gr (w : World) (g o : Nat) (s : GrI) (h : ∀ j, j < 3 → ∃ v, w.cell? ⟨g, o + j, none⟩ = some v) : GrAt (put3 w g o s) g o s := by
  obtain ⟨v0, h0⟩ := h 0 (by omega)
  obtain ⟨v1, h1⟩ := h 1 (by omega)
  obtain ⟨v2, h2⟩ := h 2 (by omega)
  rw [Nat.add_zero] at h0
  refine ⟨?_, ?_, ?_⟩ <;> simp [go_sem, h0, h1, h2]

theorem put3_room {w : World} {g n k : Nat} {zs : List GrI} {s : GrI} (hroom : Room3 w g n) (hd : GrsAt w g (zs.take k)) (hs : zs[k]? = some s) (hk : k < n) :
    Room3 (put3 w g (k * 3) s) g n ∧ GrsAt (put3 w g (k * 3) s) g (zs.take (k + 1)) := by
  have hr := put3_gr w g (k * 3) s (fun j hj => hroom.1 (k * 3 + j) (by omega))
  refine ⟨⟨fun j hj => ?_, fun j => ?_⟩, fun i r e => ?_⟩
  · by_cases h : k * 3 ≤ j ∧ j < k * 3 + 3
    · have hj' : j = k * 3 ∨ j = k * 3 + 1 ∨ j = k * 3 + 2 := by omega
      obtain ⟨h0, h1, h2⟩ := hr
      rcases hj' with rfl | rfl | rfl
      · exact ⟨_, h0⟩
      · exact ⟨_, h1⟩
      · exact ⟨_, h2⟩
    · rw [put3_other w g (k * 3) s ⟨g, j, none⟩ (fun i hi e => by have e2 := congrArg Addr.off e; simp only at e2; omega)]
      exact hroom.1 j hj
  · simp only [World.frozen?_setCell]
    exact hroom.2 j
  · rw [List.getElem?_take] at e
    split at e
    · by_cases hik : i = k
      · subst hik
        rw [hs] at e
        cases e
        exact hr
      · have hi : i < k := by omega
        have h1 := hd i r (by rw [List.getElem?_take, if_pos hi]; exact e)
        obtain ⟨h0, h1, h2⟩ := h1
        refine ⟨?_, ?_, ?_⟩
        · rw [put3_other w g (k * 3) s ⟨g, i * 3, none⟩ (fun j hj e => by have e2 := congrArg Addr.off e; simp only at e2; omega)]; exact h0
        · rw [put3_other w g (k * 3) s ⟨g, i * 3 + 1, none⟩ (fun j hj e => by have e2 := congrArg Addr.off e; simp only at e2; omega)]; exact h1
        · rw [put3_other w g (k * 3) s ⟨g, i * 3 + 2, none⟩ (fun j hj e => by have e2 := congrArg Addr.off e; simp only at e2; omega)]; exact h2
    · cases e

theorem put3_below {w0 w : World} {B g o : Nat} (h : Below B w0 w) (hg : B ≤ g) (s : GrI) : Below B w0 (put3 w g o s) :=
  h.setCell hg _ |>.setCell hg _ |>.setCell hg _

end Go.Proofs.YtpeddanicenohaaGreat
