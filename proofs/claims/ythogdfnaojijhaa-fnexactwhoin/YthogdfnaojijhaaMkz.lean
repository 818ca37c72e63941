/-
  MARKS: what they leave; rows of numbers marked; facts that hold of each world that only adds.
  Conditions: each fact bears its own.
-/
import Derived.Test.YthogdfnaojijhaaEx0
import Derived.Test.YthogdfnaojijhaaRol1
namespace Go.Proofs.Ythogdfnaojijhaa
open Go.RowKit
set_option linter.unusedVariables false
set_option linter.unusedSimpArgs false

/-- What marks leave: numbers stay numbers, slices stay as they are, nothing is frozen that was not. -/
structure Mrk (w w' : World) : Prop where
  it : ∀ (a : Addr) (x : Int), w.cell? a = some (.int .i64 x) → ∃ y, w'.cell? a = some (.int .i64 y)
  sl : ∀ (a : Addr) (b : Option Addr) (n c : Nat), w.cell? a = some (.slice b n c) → w'.cell? a = some (.slice b n c)
  fr : ∀ a, w'.frozen? a = w.frozen? a

theorem Mrk.refl (w : World) : Mrk w w := ⟨fun _ x h => ⟨x, h⟩, fun _ _ _ _ h => h, fun _ => rfl⟩

theorem Mrk.trans {a b c : World} (h : Mrk a b) (k : Mrk b c) : Mrk a c :=
  ⟨fun q x e => by obtain ⟨y, e'⟩ := h.it q x e; exact k.it q y e', fun q b n c e => k.sl q b n c (h.sl q b n c e), fun q => (k.fr q).trans (h.fr q)⟩

theorem Mrk.set {w : World} {a : Addr} {x : Int} (h : w.cell? a = some (.int .i64 x)) (y : Int) : Mrk w (w.setCell a (.int .i64 y)) := by
  refine ⟨fun q z e => ?_, fun q b n c e => ?_, fun q => World.frozen?_setCell ..⟩
  · by_cases hq : q = a
    · subst hq
      exact ⟨y, by simp [go_sem, h]⟩
    · exact ⟨z, by rw [World.cell?_setCell_other (h := fun e => hq e.symm)]; exact e⟩
  · have hq : q ≠ a := fun e' => by subst e'; rw [h] at e; cases e
    rw [World.cell?_setCell_other (h := fun e => hq e.symm)]
    exact e

/-- A row of numbers that may be written. -/
def IntRow (w : World) (g m : Nat) : Prop := (∀ j, j < m → ∃ x, w.cell? ⟨g, j, none⟩ = some (.int .i64 x)) ∧ ∀ j, w.frozen? ⟨g, j, none⟩ = false

theorem IntRow.mrk {w w' : World} {g m : Nat} (h : IntRow w g m) (k : Mrk w w') : IntRow w' g m :=
  ⟨fun j hj => by obtain ⟨x, e⟩ := h.1 j hj; exact k.it _ x e, fun j => (k.fr _).trans (h.2 j)⟩

theorem Chg.refl {lo hi : Nat} (w : World) : Chg lo hi w w := Chg.calls (Below.refl _ _)

/-- A row under the marks. -/
structure MI (lo hi : Nat) (w0 w : World) (g m : Nat) : Prop where
  mr : Mrk w0 w
  ch : Chg lo hi w0 w
  rw : IntRow w g m

theorem MI.set {lo hi : Nat} {w0 w : World} {g m j : Nat} (h : MI lo hi w0 w g m) (hg : lo ≤ g ∧ g < hi) (hj : j < m) (y : Int) : MI lo hi w0 (w.setCell ⟨g, j, none⟩ (.int .i64 y)) g m := by
  obtain ⟨x, e⟩ := h.rw.1 j hj
  have hm := Mrk.set e y
  exact ⟨h.mr.trans hm, h.ch.trans (Chg.grown (grown_set w g j _) (fun q e => by cases e; exact hg)), h.rw.mrk hm⟩

set_option maxRecDepth 20000 in
set_option maxHeartbeats 1000000 in
theorem markIntsK_c (lo hi g n cap : Nat) (k0 : Int) (w : World) (hn : n ≤ 1048576) (h0 : 0 ≤ k0) (h1 : k0 ≤ 9000000000000000000) (hg : lo ≤ g ∧ g < hi) (h : IntRow w g (n)) :
    Calls Try.prog 50 #[.slice (some ⟨g, 0, none⟩) n cap, .int .i64 k0] w fun e w' => e = .returned (.int .i64 (k0 + 1 * (n : Int))) ∧ Mrk w w' ∧ Chg lo hi w w' := by
  have HO : Hid (MI lo hi w w g (n)) := ⟨Mrk.refl w, Chg.refl w, h⟩
  clear h
  have hn' : (n : Int) ≤ 1048576 := by omega
  go_enter Try.func50, Try.ntmps50
  go_wp2
  go_loopw [1, 5] (fun q i wr => ∃ (j : Nat), j ≤ n ∧ i = .int .i64 (j : Int) ∧ q = .int .i64 (k0 + 1 * (j : Int)) ∧ MI lo hi w wr g (n))
    (fun _ i _ => n - (intOf i).toNat)
  case atStart => exact ⟨0, Nat.zero_le _, rfl, by simp, HO.out⟩
  case round =>
    obtain ⟨j, hj, rfl, rfl, hmi⟩ := hrel
    have HG : Hid (MI lo hi w wr g (n)) := hmi
    have hroom := hmi.rw
    clear hmi
    by_cases hlt : j < n
    · have hlt' : (j : Int) < (n : Int) := by omega
      obtain ⟨v0, c0⟩ := hroom.1 (j) (by omega)
      have f0 := hroom.2 (j)
      clear hroom
      go_wp2
      refine ⟨⟨j + 1, by omega, by go_num, ?_, ?_⟩, by simp [intOf]; omega⟩
      · congr 1; omega
      · exact (HG.out.set hg (show j < n by omega) _)
    · have hjn : j = n := by omega
      subst hjn
      clear hroom
      go_wp2
      go_ret
      exact ⟨rfl, HG.out.mr, HG.out.ch⟩

theorem IntRow.below {w w' : World} {g m : Nat} (h : IntRow w g m) (hg : g < w.heap.size) (hb : Below w.heap.size w w') : IntRow w' g m :=
  ⟨fun j hj => by obtain ⟨x, e⟩ := h.1 j hj; exact ⟨x, (hb.cell (p := ⟨g, j, none⟩) hg).trans e⟩, fun j => (hb.frozen (p := ⟨g, j, none⟩) hg).trans (h.2 j)⟩

/-- P holds of W, and of each world that only adds to it. -/
structure HoldB (P : World → Prop) (W : World) : Prop where
  out : P W
  kept : ∀ X X' : World, P X → Below X.heap.size X X' → P X'

theorem HoldB.below {P : World → Prop} {W W' : World} (h : HoldB P W) (hb : Below W.heap.size W W') : HoldB P W' := ⟨h.kept _ _ h.out hb, h.kept⟩

end Go.Proofs.Ythogdfnaojijhaa
