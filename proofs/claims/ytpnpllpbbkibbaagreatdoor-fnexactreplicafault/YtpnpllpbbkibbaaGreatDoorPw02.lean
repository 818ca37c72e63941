/- Contracts. -/
import Derived.Laws.BitsAllLaws
import Derived.Test.YtpnpllpbbkibbaaGreatDoorPw01
namespace Go.Proofs.YtpnpllpbbkibbaaGreatDoor
set_option maxRecDepth 100000
set_option maxHeartbeats 8000000
open Go.RowKit
set_option linter.unusedVariables false
set_option linter.unusedSimpArgs false

def hasI (s p : Int) : Bool := s.toNat.testBit (p - 1).toNat
def listTo (s : Int) : Nat → List Int
 | 0 => []
 | k + 1 => if hasI s ((k : Int) + 1) then listTo s k ++ [(k : Int) + 1] else listTo s k
theorem and_dec : ∀ n : Fin 256, ∀ k : Fin 8, (bits .and .u8 ((n.val : Nat) : Int) ((2 ^ k.val : Nat) : Int) = bits .and .i64 ((n.val : Nat) : Int) ((2 ^ k.val : Nat) : Int)) ∧ (bits .and .i64 ((n.val : Nat) : Int) ((2 ^ k.val : Nat) : Int) != 0) = n.val.testBit k.val := by
 decide +kernel
theorem and_i64 (s p : Int) (h0 : 0 ≤ s) (h1 : s ≤ 255) (p0 : 1 ≤ p) (p1 : p ≤ 8) :
  (bits .and .i64 s ((2 ^ (p - 1).toNat : Nat) : Int) != 0) = hasI s p := by
 obtain ⟨n, rfl⟩ := Int.eq_ofNat_of_zero_le h0
 have := (and_dec ⟨n, by omega⟩ ⟨(p - 1).toNat, by omega⟩).2
 simpa [hasI] using this
theorem and_u8 (s p : Int) (h0 : 0 ≤ s) (h1 : s ≤ 255) (p0 : 1 ≤ p) (p1 : p ≤ 8) :
  (bits .and .u8 s ((2 ^ (p - 1).toNat : Nat) : Int) != 0) = hasI s p := by
 obtain ⟨n, rfl⟩ := Int.eq_ofNat_of_zero_le h0
 have h := and_dec ⟨n, by omega⟩ ⟨(p - 1).toNat, by omega⟩
 have h2 := h.2
 rw [← h.1] at h2
 simpa [hasI] using h2

def Box2 (w : World) (B : Nat) (x y : Value) : Prop := w.cell? ⟨B, 0, none⟩ = some x ∧ w.cell? ⟨B, 1, none⟩ = some y
theorem Box2.lt {w : World} {B : Nat} {x y : Value} (h : Box2 w B x y) : B < w.heap.size := zL w ⟨B, 0, none⟩ h.1
theorem Box2.below {w w' : World} {B : Nat} {x y : Value} (h : Box2 w B x y) (hb : Below w.heap.size w w') : Box2 w' B x y :=
 ⟨(hb.cell (p := ⟨B, 0, none⟩) h.lt).trans h.1, (hb.cell (p := ⟨B, 1, none⟩) h.lt).trans h.2⟩
theorem Box2.grown {w w' : World} {B : Nat} {x y : Value} {row : Option Nat} (h : Box2 w B x y) (hg : w.grownBy w' row) (hne : some B ≠ row) : Box2 w' B x y :=
 ⟨hg.cell h.1 hne, hg.cell h.2 hne⟩
theorem Box2.new (w : World) (x y : Value) (t : TypeId) : Box2 (w.alloc (.cells #[x, y] t)) w.heap.size x y := ⟨by simp, by simp⟩

def bitI (p : Int) : Int := ((2 ^ (p - 1).toNat : Nat) : Int)

end Go.Proofs.YtpnpllpbbkibbaaGreatDoor
