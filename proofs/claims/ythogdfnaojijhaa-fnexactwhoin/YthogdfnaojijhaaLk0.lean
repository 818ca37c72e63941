/-
  CONTRACTS: Lock in memory; laws.toLockS (a copy of a slice) and laws.eqLockS (two that are alike).
  Conditions: each contract bears its own.
-/
import Derived.Test.YthogdfnaojijhaaPol0
import Derived.Test.YthogdfnaojijhaaSpec1
import Derived.Handy
import Derived.WalkSmall
import Derived.BigQuiet
import Derived.Deep.QuietTactic
import Derived.Deep.RegionHeld3
namespace Go.Proofs.Ythogdfnaojijhaa
open Go.RowKit
set_option linter.unusedVariables false
set_option linter.unusedSimpArgs false

/-- Lock, as numbers. -/
structure LkI where
  e : Int
  c : Int
  p : Int
  f : Int
deriving DecidableEq, Inhabited

/-- One of them in memory. -/
def LkAt (w : World) (b o : Nat) (x : LkI) : Prop := w.cell? ⟨b, o, none⟩ = some (.int .i64 x.e) ∧ w.cell? ⟨b, o + 1, none⟩ = some (.int .i64 x.c) ∧ w.cell? ⟨b, o + 2, none⟩ = some (.int .i64 x.p) ∧ w.cell? ⟨b, o + 3, none⟩ = some (.int .i64 x.f)

theorem LkAt.below {w w' : World} {B b o : Nat} {x : LkI} (h : LkAt w b o x) (hb : Below B w w') (hB : b < B) : LkAt w' b o x :=
  ⟨(hb.cell (p := ⟨b, o, none⟩) hB).trans h.1, (hb.cell (p := ⟨b, o + 1, none⟩) hB).trans h.2.1, (hb.cell (p := ⟨b, o + 2, none⟩) hB).trans h.2.2.1, (hb.cell (p := ⟨b, o + 3, none⟩) hB).trans h.2.2.2⟩

/-- Several in memory. -/
def LkIn (w : World) (a : Option Addr) (n : Nat) (gs : List LkI) : Prop := gs.length = n ∧ (0 < n → ∃ b off, a = some ⟨b, off, none⟩ ∧ ∀ k x, gs[k]? = some x → LkAt w b (off + k * 4) x)

theorem LkIn.below {w w' : World} {a : Option Addr} {n : Nat} {gs : List LkI} (h : LkIn w a n gs) (hb : Below w.heap.size w w') : LkIn w' a n gs := by
  refine ⟨h.1, fun hn => ?_⟩
  obtain ⟨b, off, e, k⟩ := h.2 hn
  exact ⟨b, off, e, fun j x hx => (k j x hx).below hb (World.block_lt_of_cell? w ⟨b, off + j * 4, none⟩ (k j x hx).1)⟩

theorem LkIn.at {w : World} {a : Option Addr} {n : Nat} {gs : List LkI} (h : LkIn w a n gs) {k : Nat} (hk : k < n) : ∃ b off x, a = some ⟨b, off, none⟩ ∧ gs[k]? = some x ∧ LkAt w b (off + k * 4) x ∧ b < w.heap.size := by
  obtain ⟨b, off, e, q⟩ := h.2 (by omega)
  have hx := List.getElem?_eq_getElem (l := gs) (i := k) (by rw [h.1]; exact hk)
  exact ⟨b, off, _, e, hx, q k _ hx, World.block_lt_of_cell? w ⟨b, off + k * 4, none⟩ (q k _ hx).1⟩

/-- In a block, from its beginning. -/
def LksAt (w : World) (g : Nat) (gs : List LkI) : Prop := ∀ k x, gs[k]? = some x → LkAt w g (k * 4) x

theorem LksAt.below {w w' : World} {g : Nat} {gs : List LkI} (h : LksAt w g gs) (hb : Below w.heap.size w w') : LksAt w' g gs := fun k x e =>
  (h k x e).below hb (World.block_lt_of_cell? w ⟨g, k * 4, none⟩ (h k x e).1)

theorem LkIn.of {w : World} {g n : Nat} {gs : List LkI} (hl : gs.length = n) (h : LksAt w g gs) : LkIn w (some ⟨g, 0, none⟩) n gs :=
  ⟨hl, fun _ => ⟨g, 0, rfl, fun k x e => by rw [Nat.zero_add]; exact h k x e⟩⟩

/-- A block of n of them that may be written. -/
def LkRoom (w : World) (g n : Nat) : Prop := (∀ j, j < n * 4 → ∃ v, w.cell? ⟨g, j, none⟩ = some v) ∧ ∀ j, w.frozen? ⟨g, j, none⟩ = false

abbrev LkPut (w : World) (g o : Nat) (s : LkI) : World := ((((w.setCell ⟨g, o, none⟩ (.int .i64 s.e)).setCell ⟨g, o + 1, none⟩ (.int .i64 s.c)).setCell ⟨g, o + 2, none⟩ (.int .i64 s.p)).setCell ⟨g, o + 3, none⟩ (.int .i64 s.f))

theorem LkPut_other (w : World) (g o : Nat) (s : LkI) (a : Addr) (h : ∀ j, j < 4 → a ≠ ⟨g, o + j, none⟩) : (LkPut w g o s).cell? a = w.cell? a := by
  rw [World.cell?_setCell_other (h := Ne.symm (h 3 (by omega))), World.cell?_setCell_other (h := Ne.symm (h 2 (by omega))), World.cell?_setCell_other (h := Ne.symm (h 1 (by omega))), World.cell?_setCell_other (h := Ne.symm (a := a) (b := ⟨g, o, none⟩) (by simpa using h 0 (by omega)))]

theorem LkPut_at (w : World) (g o : Nat) (s : LkI) (h : ∀ j, j < 4 → ∃ v, w.cell? ⟨g, o + j, none⟩ = some v) : LkAt (LkPut w g o s) g o s := by
  obtain ⟨v0, h0⟩ := h 0 (by omega)
  obtain ⟨v1, h1⟩ := h 1 (by omega)
  obtain ⟨v2, h2⟩ := h 2 (by omega)
  obtain ⟨v3, h3⟩ := h 3 (by omega)
  rw [Nat.add_zero] at h0
  refine ⟨?_, ?_, ?_, ?_⟩ <;> simp [go_sem, h0, h1, h2, h3]

theorem LkPut_room {w : World} {g n k : Nat} {zs : List LkI} {s : LkI} (hroom : LkRoom w g n) (hd : LksAt w g (zs.take k)) (hs : zs[k]? = some s) (hk : k < n) :
    LkRoom (LkPut w g (k * 4) s) g n ∧ LksAt (LkPut w g (k * 4) s) g (zs.take (k + 1)) := by
  have hr := LkPut_at w g (k * 4) s (fun j hj => hroom.1 (k * 4 + j) (by omega))
  refine ⟨⟨fun j hj => ?_, fun j => ?_⟩, fun i r e => ?_⟩
  · by_cases h : k * 4 ≤ j ∧ j < k * 4 + 4
    · have hj' : j = k * 4 ∨ j = k * 4 + 1 ∨ j = k * 4 + 2 ∨ j = k * 4 + 3 := by omega
      obtain ⟨h0, h1, h2, h3⟩ := hr
      rcases hj' with rfl | rfl | rfl | rfl
      · exact ⟨_, h0⟩
      · exact ⟨_, h1⟩
      · exact ⟨_, h2⟩
      · exact ⟨_, h3⟩
    · rw [LkPut_other w g (k * 4) s ⟨g, j, none⟩ (fun i hi e => by have e2 := congrArg Addr.off e; simp only at e2; omega)]
      exact hroom.1 j hj
  · simp only [World.frozen?_setCell]
    exact hroom.2 j
  · rw [List.getElem?_take] at e
    split at e
    · by_cases hik : i = k
      · subst hik
        rw [hs] at e
        cases e
        exact hr
      · have hi : i < k := by omega
        have h1 := hd i r (by rw [List.getElem?_take, if_pos hi]; exact e)
        obtain ⟨h0, h1, h2, h3⟩ := h1
        refine ⟨?_, ?_, ?_, ?_⟩
        · rw [LkPut_other w g (k * 4) s ⟨g, i * 4, none⟩ (fun j hj e => by have e2 := congrArg Addr.off e; simp only at e2; omega)]; exact h0
        · rw [LkPut_other w g (k * 4) s ⟨g, i * 4 + 1, none⟩ (fun j hj e => by have e2 := congrArg Addr.off e; simp only at e2; omega)]; exact h1
        · rw [LkPut_other w g (k * 4) s ⟨g, i * 4 + 2, none⟩ (fun j hj e => by have e2 := congrArg Addr.off e; simp only at e2; omega)]; exact h2
        · rw [LkPut_other w g (k * 4) s ⟨g, i * 4 + 3, none⟩ (fun j hj e => by have e2 := congrArg Addr.off e; simp only at e2; omega)]; exact h3
    · cases e

theorem LkPut_below {w0 w : World} {B g o : Nat} (h : Below B w0 w) (hg : B ≤ g) (s : LkI) : Below B w0 (LkPut w g o s) :=
  h.setCell hg _ |>.setCell hg _ |>.setCell hg _ |>.setCell hg _

end Go.Proofs.Ythogdfnaojijhaa
