/- Contracts. -/
import Derived.Test.YtfkajnenniapaaaGreatPr35
namespace Go.Proofs.YtfkajnenniapaaaGreat
set_option maxRecDepth 100000
set_option maxHeartbeats 8000000
open Go.RowKit
set_option linter.unusedVariables false
set_option linter.unusedSimpArgs false

section
open Go.RowKit Go.ChangeShapes Go.WideShapes
def ShCp (g n : Nat) (zs : List ShI) (X : World) : Prop := ShsAt X g zs ∧ ShRoom X g n
theorem ShCp.hold {g n : Nat} {zs : List ShI} {W : World} (h : ShCp g n zs W) (hg : g < W.heap.size) : Hold g (g + 1) (ShCp g n zs) W :=
 ⟨h, hg, fun X X' hX hk => by
  have hb := hk g (Nat.le_refl _) (by omega)
  have hc : ∀ o, X'.cell? ⟨g, o, none⟩ = X.cell? ⟨g, o, none⟩ := fun o => World.cell?_of_block (a := ⟨g, o, none⟩) hb
  refine ⟨fun k x e => ?_, fun j hj => ?_, fun j => (World.frozen?_of_block (a := ⟨g, j, none⟩) hb).trans (hX.2.2 j)⟩
  ·obtain ⟨h0, h1, h2, h3, h4, h5⟩ := hX.1 k x e
   exact ⟨(hc _).trans h0, (hc _).trans h1, (hc _).trans h2, (hc _).trans h3, (hc _).trans h4, (hc _).trans h5⟩
  ·obtain ⟨v, e⟩ := hX.2.1 j hj
   exact ⟨v, (hc _).trans e⟩⟩
theorem szShares_c (a : Option Addr) (n cap : Nat) (left : Int) (w : World) (hm : n ≤ maxLen) (h0 : 0 ≤ left) (h1 : left ≤ 1048576) :
  Calls Tryz.prog 7 #[.slice a n cap, .int .i64 left] w fun e w' => (∃ v : Int, e = .returned (.int .i64 v) ∧ v ≤ left ∧ (0 ≤ v → n ≤ 1048576)) ∧ Below w.heap.size w w' := by
 unfold maxLen at hm
 have hm' : (n : Int) ≤ 9223372036854775807 := by omega
 by_cases hl : left - (n : Int) < 0
 ·go_enter Tryz.func7, Tryz.ntmps7
  go_wp2
  go_ret
  exact ⟨⟨-1, rfl, by omega, fun h => by omega⟩, Below.refl _ _⟩
 ·have hl' : ¬ (left - (n : Int) < 0) := hl
  go_enter Tryz.func7, Tryz.ntmps7
  go_wp2
  go_ret
  exact ⟨⟨left - n, rfl, by omega, fun h => by omega⟩, Below.refl _ _⟩
end

end Go.Proofs.YtfkajnenniapaaaGreat
