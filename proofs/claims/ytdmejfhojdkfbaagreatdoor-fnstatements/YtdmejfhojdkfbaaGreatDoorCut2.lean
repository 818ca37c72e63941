/-
  PLAIN WORDS: a text cut at a byte, as a list of bytes.
-/
import Derived.Test.YtdmejfhojdkfbaaGreatDoorCut1
namespace Go.Proofs.YtdmejfhojdkfbaaGreatDoor
open Go.RowKit
set_option linter.unusedVariables false

/-- Bytes cut at a byte, what is gathered already ahead. -/
def cutA (c : UInt8) : List UInt8 → List UInt8 → List (List UInt8)
  | acc, [] => [acc]
  | acc, x :: xs => if x = c then acc :: cutA c [] xs else cutA c (acc ++ [x]) xs

theorem cut_step (bs : List UInt8) (c : UInt8) (k : Nat) (h : k ≤ bs.length) :
    (cutSt bs c k).1.map (fun p => (bs.take p.2).drop p.1) ++ cutA c ((bs.take k).drop (cutSt bs c k).2) (bs.drop k) = cutA c [] bs := by
  induction k with
  | zero => simp [cutSt]
  | succ k ih =>
    have hk : k < bs.length := by omega
    have hfr := (cutSt_le bs c k).1
    have e := ih (by omega)
    rw [List.drop_eq_getElem_cons hk] at e
    simp only [cutSt, List.getElem?_eq_getElem hk, Option.getD_some]
    by_cases hc : bs[k] = c
    · rw [if_pos hc]
      simp only [cutA, if_pos hc] at e
      rw [← e]
      simp
    · rw [if_neg hc]
      simp only [cutA, if_neg hc] at e
      rw [← e]
      congr 2
      rw [List.take_succ_eq_append_getElem hk, List.drop_append_of_le_length (by simp; omega)]

theorem extract_list (t : ByteArray) (a b : Nat) : t.extract a b = ⟨((t.data.toList.take b).drop a).toArray⟩ := by
  apply ByteArray.ext
  apply Array.ext'
  simp [ByteArray.data_extract, Array.toList_extract, List.drop_take]

theorem cutB_eq (t : ByteArray) (c : UInt8) : cutB t c = (cutA c [] t.data.toList).map (fun l => (⟨l.toArray⟩ : ByteArray)) := by
  have e := cut_step t.data.toList c t.size (by rw [Array.length_toList]; exact Nat.le_refl _)
  have e2 : t.data.toList.drop t.size = [] := by
    apply List.drop_eq_nil_of_le
    rw [Array.length_toList]
    exact Nat.le_refl _
  rw [e2] at e
  simp only [cutA] at e
  rw [← e]
  simp [cutB, extract_list, Function.comp_def]

end Go.Proofs.YtdmejfhojdkfbaaGreatDoor
