/-
  CONTRACTS: laws.toRuleS (a copy of a slice of rules) and laws.eqRuleS (two that are alike).
  Conditions: each contract bears its own.
-/
import Derived.Test.YthogdfnaojijhaaPol1
import Derived.Deep.RegionHeld3
namespace Go.Proofs.Ythogdfnaojijhaa
open Go.RowKit
set_option linter.unusedVariables false
set_option linter.unusedSimpArgs false

/-- A block of n rules that may be written. -/
def RoomAt (w : World) (g n : Nat) : Prop := (∀ j, j < n * 8 → ∃ v, w.cell? ⟨g, j, none⟩ = some v) ∧ ∀ j, w.frozen? ⟨g, j, none⟩ = false

/-- A rule stored into a block, cell by cell. -/
abbrev put8 (w : World) (g o : Nat) (s : RuleI) : World := ((((((((w.setCell ⟨g, o, none⟩ (.int .i64 s.k)).setCell ⟨g, o + 1, none⟩ (.int .i64 s.ho)).setCell ⟨g, o + 2, none⟩ (.int .i64 s.hn)).setCell ⟨g, o + 3, none⟩ (.int .i64 s.w)).setCell ⟨g, o + 4, none⟩ (.int .i64 s.oo)).setCell ⟨g, o + 5, none⟩ (.int .i64 s.on)).setCell ⟨g, o + 6, none⟩ (.int .i64 s.to)).setCell ⟨g, o + 7, none⟩ (.int .i64 s.tn))

theorem put8_other (w : World) (g o : Nat) (s : RuleI) (a : Addr) (h : ∀ j, j < 8 → a ≠ ⟨g, o + j, none⟩) : (put8 w g o s).cell? a = w.cell? a := by
  rw [World.cell?_setCell_other (h := Ne.symm (h 7 (by omega))), World.cell?_setCell_other (h := Ne.symm (h 6 (by omega))), World.cell?_setCell_other (h := Ne.symm (h 5 (by omega))), World.cell?_setCell_other (h := Ne.symm (h 4 (by omega))), World.cell?_setCell_other (h := Ne.symm (h 3 (by omega))), World.cell?_setCell_other (h := Ne.symm (h 2 (by omega))), World.cell?_setCell_other (h := Ne.symm (h 1 (by omega))), World.cell?_setCell_other (h := Ne.symm (a := a) (b := ⟨g, o, none⟩) (by simpa using h 0 (by omega)))]

theorem put8_rule (w : World) (g o : Nat) (s : RuleI) (h : ∀ j, j < 8 → ∃ v, w.cell? ⟨g, o + j, none⟩ = some v) : RuleAt (put8 w g o s) g o s := by
  obtain ⟨v0, h0⟩ := h 0 (by omega)
  obtain ⟨v1, h1⟩ := h 1 (by omega)
  obtain ⟨v2, h2⟩ := h 2 (by omega)
  obtain ⟨v3, h3⟩ := h 3 (by omega)
  obtain ⟨v4, h4⟩ := h 4 (by omega)
  obtain ⟨v5, h5⟩ := h 5 (by omega)
  obtain ⟨v6, h6⟩ := h 6 (by omega)
  obtain ⟨v7, h7⟩ := h 7 (by omega)
  rw [Nat.add_zero] at h0
  refine ⟨?_, ?_, ?_, ?_, ?_, ?_, ?_, ?_⟩ <;> simp [go_sem, h0, h1, h2, h3, h4, h5, h6, h7]

theorem put8_room {w : World} {g n k : Nat} {zs : List RuleI} {s : RuleI} (hroom : RoomAt w g n) (hd : RulesAt w g 0 (zs.take k)) (hs : zs[k]? = some s) (hk : k < n) :
    RoomAt (put8 w g (k * 8) s) g n ∧ RulesAt (put8 w g (k * 8) s) g 0 (zs.take (k + 1)) := by
  have hr := put8_rule w g (k * 8) s (fun j hj => hroom.1 (k * 8 + j) (by omega))
  refine ⟨⟨fun j hj => ?_, fun j => ?_⟩, fun i r e => ?_⟩
  · by_cases h : k * 8 ≤ j ∧ j < k * 8 + 8
    · have hj' : j = k * 8 ∨ j = k * 8 + 1 ∨ j = k * 8 + 2 ∨ j = k * 8 + 3 ∨ j = k * 8 + 4 ∨ j = k * 8 + 5 ∨ j = k * 8 + 6 ∨ j = k * 8 + 7 := by omega
      obtain ⟨h0, h1, h2, h3, h4, h5, h6, h7⟩ := hr
      rcases hj' with rfl | rfl | rfl | rfl | rfl | rfl | rfl | rfl
      · exact ⟨_, h0⟩
      · exact ⟨_, h1⟩
      · exact ⟨_, h2⟩
      · exact ⟨_, h3⟩
      · exact ⟨_, h4⟩
      · exact ⟨_, h5⟩
      · exact ⟨_, h6⟩
      · exact ⟨_, h7⟩
    · rw [put8_other w g (k * 8) s ⟨g, j, none⟩ (fun i hi e => by have e2 := congrArg Addr.off e; simp only at e2; omega)]
      exact hroom.1 j hj
  · simp only [World.frozen?_setCell]
    exact hroom.2 j
  · rw [List.getElem?_take] at e
    split at e
    · by_cases hik : i = k
      · subst hik
        rw [hs] at e
        cases e
        rw [Nat.zero_add]
        exact hr
      · have hi : i < k := by omega
        have h1 := hd i r (by rw [List.getElem?_take, if_pos hi]; exact e)
        obtain ⟨h0, h1, h2, h3, h4, h5, h6, h7⟩ := h1
        refine ⟨?_, ?_, ?_, ?_, ?_, ?_, ?_, ?_⟩
        · rw [put8_other w g (k * 8) s ⟨g, 0 + i * 8, none⟩ (fun j hj e => by have e2 := congrArg Addr.off e; simp only at e2; omega)]; exact h0
        · rw [put8_other w g (k * 8) s ⟨g, 0 + i * 8 + 1, none⟩ (fun j hj e => by have e2 := congrArg Addr.off e; simp only at e2; omega)]; exact h1
        · rw [put8_other w g (k * 8) s ⟨g, 0 + i * 8 + 2, none⟩ (fun j hj e => by have e2 := congrArg Addr.off e; simp only at e2; omega)]; exact h2
        · rw [put8_other w g (k * 8) s ⟨g, 0 + i * 8 + 3, none⟩ (fun j hj e => by have e2 := congrArg Addr.off e; simp only at e2; omega)]; exact h3
        · rw [put8_other w g (k * 8) s ⟨g, 0 + i * 8 + 4, none⟩ (fun j hj e => by have e2 := congrArg Addr.off e; simp only at e2; omega)]; exact h4
        · rw [put8_other w g (k * 8) s ⟨g, 0 + i * 8 + 5, none⟩ (fun j hj e => by have e2 := congrArg Addr.off e; simp only at e2; omega)]; exact h5
        · rw [put8_other w g (k * 8) s ⟨g, 0 + i * 8 + 6, none⟩ (fun j hj e => by have e2 := congrArg Addr.off e; simp only at e2; omega)]; exact h6
        · rw [put8_other w g (k * 8) s ⟨g, 0 + i * 8 + 7, none⟩ (fun j hj e => by have e2 := congrArg Addr.off e; simp only at e2; omega)]; exact h7
    · cases e

theorem put8_below {w0 w : World} {B g o : Nat} (h : Below B w0 w) (hg : B ≤ g) (s : RuleI) : Below B w0 (put8 w g o s) :=
  h.setCell hg _ |>.setCell hg _ |>.setCell hg _ |>.setCell hg _ |>.setCell hg _ |>.setCell hg _ |>.setCell hg _ |>.setCell hg _

end Go.Proofs.Ythogdfnaojijhaa
