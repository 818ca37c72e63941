/-
  CONTRACTS: slices of statements, as an exact law carries them: measured, a copy kept.
  Conditions: each contract bears its own.
-/
import Derived.Test.YtnlmoapopdchkaaDoorStM
import Derived.Test.YtnlmoapopdchkaaDoorEx0
namespace Go.Proofs.YtnlmoapopdchkaaDoor
open Go.RowKit
set_option linter.unusedVariables false
set_option linter.unusedSimpArgs false

def StCp (g n : Nat) (zs : List StI) (X : World) : Prop := StsAt X g zs ∧ StRoom X g n

theorem StCp.hold {g n : Nat} {zs : List StI} {W : World} (h : StCp g n zs W) (hg : g < W.heap.size) : Hold g (g + 1) (StCp g n zs) W :=
  ⟨h, hg, fun X X' hX hk => by
    have hb := hk g (Nat.le_refl _) (by omega)
    have hc : ∀ o, X'.cell? ⟨g, o, none⟩ = X.cell? ⟨g, o, none⟩ := fun o => World.cell?_of_block (a := ⟨g, o, none⟩) hb
    refine ⟨fun k x e => ?_, fun j hj => ?_, fun j => (World.frozen?_of_block (a := ⟨g, j, none⟩) hb).trans (hX.2.2 j)⟩
    · obtain ⟨h0, h1, h2, h3, h4⟩ := hX.1 k x e
      exact ⟨(hc _).trans h0, (hc _).trans h1, (hc _).trans h2, (hc _).trans h3, (hc _).trans h4⟩
    · obtain ⟨v, e⟩ := hX.2.1 j hj
      exact ⟨v, (hc _).trans e⟩⟩

theorem StCp.cast {g g' n : Nat} {zs : List StI} {W : World} (h : Hold g (g + 1) (StCp g n zs) W) (e : g = g') : Hold g' (g' + 1) (StCp g' n zs) W := e ▸ h

end Go.Proofs.YtnlmoapopdchkaaDoor
