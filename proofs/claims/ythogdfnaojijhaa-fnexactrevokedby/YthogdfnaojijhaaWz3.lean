/-
  CONTRACTS: chapter 14: RevokedBy of both programs over copies.
  Conditions: each contract bears its own.
-/
import Derived.Test.YthogdfnaojijhaaWz2
import Derived.Test.YthogdfnaojijhaaCw2
namespace Go.Proofs.Ythogdfnaojijhaa
open Go.RowKit
set_option linter.unusedVariables false
set_option linter.unusedSimpArgs false

theorem specRevoked_same (f : Int) (x : StI) {b : Option Addr} {m : Nat} {zs : List ShI} {lr hr N : Nat} {cr : List CrI} {W : World} (hm : m ≤ 1048576) (hN : N ≤ 1048576) (h' : ShIn W b m zs) (h2 : CpR lr hr N cr W) : GivesRV 11 b m m f x (some ⟨lr, 0, none⟩) N N (rvB f zs x (chL cr)) W := by
  obtain ⟨es, k1⟩ := h2
  have := specRevoked_c b m m zs f x (some ⟨lr, 0, none⟩) N N es W hm (Nat.le_refl _) (by unfold maxLen; omega) h' hN k1.isIn (fun k c e => (k1.le k c e).1)
  rw [k1.chL] at this
  exact this

theorem implRevoked_same (f : Int) (x : StI) {b : Option Addr} {m : Nat} {zs : List ShI} {lr hr N : Nat} {cr : List CrI} {W : World} (hm : m ≤ 1048576) (hN : N ≤ 1048576) (h' : ShIn W b m zs) (h2 : CpR lr hr N cr W) : GivesRV 15 b m m f x (some ⟨lr, 0, none⟩) N N (rvB f zs x (chL cr)) W := by
  obtain ⟨es, k1⟩ := h2
  have := implRevoked_c b m m zs f x (some ⟨lr, 0, none⟩) N N es W hm (Nat.le_refl _) (by unfold maxLen; omega) h' hN k1.isIn (fun k c e => (k1.le k c e).1)
  rw [k1.chL] at this
  exact this

end Go.Proofs.Ythogdfnaojijhaa
