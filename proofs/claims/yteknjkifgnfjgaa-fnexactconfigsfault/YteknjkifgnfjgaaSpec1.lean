/-
  CONTRACTS of small functions of the model of chapter 1 (spec.l1Has, spec.l1List) and of impl's, for sets of 0 to 255.
  Conditions: each contract bears its own.
-/
import Derived.Test.YteknjkifgnfjgaaChecked
import Derived.Test.YteknjkifgnfjgaaPlain
import Derived.WalkKit
import Derived.ProofKit
import Derived.Outline
namespace Go.Proofs.Yteknjkifgnfjgaa
open Go.RowKit
set_option linter.unusedVariables false

theorem Try.info2 : (Try.prog.info? 2).map (fun i => (i.zero, i.size, i.bytes)) = some (some (.int .i64 0), 1, 8) := by kernel_rfl

theorem listTo_le (s : Int) (k : Nat) : (listTo s k).length ≤ k := by
  induction k with
  | zero => simp [listTo]
  | succ k ih =>
    simp only [listTo]
    split
    · simp; omega
    · omega

theorem listTo_hit (s : Int) (k : Nat) (h : hasI s ((k : Int) + 1) = true) : listTo s (k + 1) = listTo s k ++ [(k : Int) + 1] := by simp [listTo, h]
theorem listTo_miss (s : Int) (k : Nat) (h : hasI s ((k : Int) + 1) = false) : listTo s (k + 1) = listTo s k := by simp [listTo, h]

/-- An append of one more principal, behind the law of append. -/
theorem list_keep {B k : Nat} {s : Int} {w wr w1 : World} {u v' : Value} {o : Obj} (hB : B ≤ wr.heap.size) (hh : hasI s ((k : Int) + 1) = true)
    (hown : wr.ownsRow B 2 1 u (listTo s k).length ((listTo s k).map (Value.int .i64))) (hnx : Below B w wr)
    (hown' : w1.ownsRow B 2 1 v' ((listTo s k).length + 1) ((listTo s k).map (Value.int .i64) ++ [.int .i64 ((k : Int) + 1)])) (hgrow : (wr.alloc o).grownBy w1 u.ownBlock) :
    w1.ownsRow B 2 1 v' (listTo s (k + 1)).length ((listTo s (k + 1)).map (Value.int .i64)) ∧ Below B w w1 := by
  refine ⟨by rw [listTo_hit s k hh]; simpa using hown', (hnx.alloc (by omega) o).grown hgrow (by simp; omega) (fun j hj => by have := (hown.lt j hj).1; omega)⟩

theorem bcell {W w1 : World} (hb : Below W.heap.size W w1) : (∀ b o, b < W.heap.size → w1.cell? ⟨b, o, none⟩ = W.cell? ⟨b, o, none⟩) ∧ (∀ b o, b < W.heap.size → w1.frozen? ⟨b, o, none⟩ = W.frozen? ⟨b, o, none⟩) :=
  ⟨fun b o h => hb.cell (p := ⟨b, o, none⟩) h, fun b o h => hb.frozen (p := ⟨b, o, none⟩) h⟩

theorem owns_slice {w : World} {b : Nat} {t : TypeId} {v : Value} {n : Nat} {xs : List Value} (h : w.ownsRow b t 1 v n xs) : ∃ a cap, v = .slice a n cap := by
  rcases h.2 with ⟨h', h0⟩ | ⟨g, cap, cur, h', _⟩
  · exact ⟨none, 0, by rw [h0]; exact h'⟩
  · exact ⟨_, cap, h'⟩

theorem owns_shape {w : World} {b : Nat} {t : TypeId} {v : Value} {n : Nat} {xs : List Value} (h : w.ownsRow b t 1 v n xs) (hv : v ≠ .slice none 0 0) : ∃ g cap, v = .slice (some ⟨g, 0, none⟩) n cap := by
  rcases h.2 with ⟨h', _⟩ | ⟨g, cap, cur, h', _⟩
  · exact absurd h' hv
  · exact ⟨g, cap, h'⟩

end Go.Proofs.Yteknjkifgnfjgaa
