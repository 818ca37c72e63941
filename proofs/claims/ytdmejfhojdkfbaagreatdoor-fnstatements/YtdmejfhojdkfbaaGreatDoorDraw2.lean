/-
  CONTRACT of the draw spec.DrawParseSet: it answers some short text.
  Conditions: the code can be read, and has at most 1<<20 bytes.
-/
import Derived.Test.YtdmejfhojdkfbaaGreatDoorDraw1
import Derived.Test.YtdmejfhojdkfbaaGreatDoorParse1
import Derived.Laws.BytesArg
namespace Go.Proofs.YtdmejfhojdkfbaaGreatDoor
open Go.RowKit
set_option linter.unusedVariables false

theorem conv_block (w : World) (t : ByteArray) : ∃ cap wB C, (convert 9 22 (.string t)).run Tryz.prog w = .ok (.slice (some ⟨w.heap.size, 0, none⟩) t.size cap) wB ∧
    wB.heap[w.heap.size]? = some (.cells C 5 (C.size, C.size + 1)) ∧ t.size ≤ C.size ∧ (∀ j, j < t.size → C[j]? = some (.int .u8 ((t.data.toList[j]?.getD 0).toNat : Int))) ∧ Below w.heap.size w wB ∧ t.size ≤ cap := by
  refine ⟨_, _, Lib.bytesCells w 5 t, Lib.run_convert_string_bytes (P := Tryz.prog) w 9 22 5 t Tryz.underlying9 Tryz.underlying22 Tryz.underlying5, Lib.bytesWorld_at_new w _ t, ?_, fun j hj => ?_, ⟨rfl, rfl, rfl, by rw [Lib.bytesWorld_size]; omega, fun k hk => Lib.bytesWorld_at_old w _ t k hk⟩, ?_⟩
  · unfold Lib.bytesCells
    rw [Array.size_append, Array.size_map]
    exact Nat.le_add_right t.data.size _
  · have hj' : j < t.data.size := hj
    unfold Lib.bytesCells
    rw [Array.getElem?_append_left (by rw [Array.size_map]; exact hj')]
    simp [Array.getElem?_eq_getElem hj']
  · exact grownCap_ge _ _ _ _

theorem set_block {w : World} {g k : Nat} {C : Array Value} {t : TypeId} {fr : Nat × Nat} {v : Value} (h : w.heap[g]? = some (.cells C t fr)) : (w.setCell ⟨g, k, none⟩ v).heap[g]? = some (.cells (C.setIfInBounds k v) t fr) := by
  obtain ⟨hlt, hk⟩ := Array.getElem?_eq_some_iff.1 h
  show (w.heap.modify g _)[g]? = _
  rw [Array.getElem?_eq_getElem (by rw [Array.size_modify]; exact hlt), Array.getElem_modify_self, hk]
  rfl

/-- The bytes of a block, read back as a text. -/
theorem conv_back {w : World} {g m : Nat} {C : Array Value} {fr : Nat × Nat} {f : Nat → Int} (h : w.heap[g]? = some (.cells C 5 fr)) (hm : m ≤ C.size) (hC : ∀ j, j < m → C[j]? = some (.int .u8 (f j))) (k c : Nat) (hk : k ≤ m) :
    ∃ R : ByteArray, R.size = k ∧ (convert 22 9 (.slice (some ⟨g, 0, none⟩) k c)).run Tryz.prog w = .ok (.string R) w := by
  refine ⟨strOfNums ((List.range k).map f), by rw [strOfNums_size]; simp, ?_⟩
  refine run_convert_bytes_arg (P := Tryz.prog) w 22 5 Tryz.underlying22 Tryz.underlying5 g 0 k c ((List.range k).map f) (by simp) (fun i hi => ?_) 9 Tryz.underlying9
  have hc : w.cell? ⟨g, 0 + i, none⟩ = C[0 + i]? := by simp [World.cell?, h]
  rw [hc, Nat.zero_add, hC i (by omega)]
  simp [hi]

end Go.Proofs.YtdmejfhojdkfbaaGreatDoor
