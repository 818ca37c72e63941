/-
  CONTRACTS: slices.AppendSeq, Collect, SortFunc, SortedFunc over the map of signers; (impl.signerMap).list: the signers, rising.
  Conditions: each contract bears its own.
-/
import Derived.Test.YthogdfnaojijhaaSn1
import Derived.Test.YthogdfnaojijhaaRi0
import Derived.Test.YthogdfnaojijhaaSortOne
import Derived.Test.YthogdfnaojijhaaCe0
import Derived.Sort.OwnSorted
namespace Go.Proofs.Ythogdfnaojijhaa
open Go.RowKit Go.Shelf Go.Maps Go.Sort Go.Proofs Go.Lib
attribute [local go_sem] Oper.semAt_some
attribute [local go_sem] wide_fnS
attribute [local simp] wide_fnS
set_option linter.unusedVariables false
set_option linter.unusedSimpArgs false

theorem Try.infoI2 : (Try.prog.info? 2).map (fun i => (i.zero, i.size, i.bytes)) = some (some (.int .i64 0), 1, 8) := by kernel_rfl

/-- Numbers in a row of their own. -/
abbrev OwnI (w : World) (B : Nat) (v : Value) (ys : List Int) : Prop := w.ownsRow B 2 1 v ys.length (ys.map (Value.int .i64))

theorem owns_lowI {w : World} {B B' : Nat} {v : Value} {ys : List Int} (h : OwnI w B v ys) (hB : B' ≤ B) : OwnI w B' v ys := by
  refine ⟨h.1, ?_⟩
  rcases h.2 with q | ⟨g, cap, cur, e, hg, rest⟩
  · exact .inl q
  · exact .inr ⟨g, cap, cur, e, Nat.le_trans hB hg, rest⟩

theorem nodup_lenI (xs ys : List Int) (hn : xs.Nodup) (h : ∀ x ∈ xs, x ∈ ys) : xs.length ≤ ys.length := by
  induction xs generalizing ys with
  | nil => simp
  | cons x xs ih =>
    obtain ⟨h1, h2⟩ := List.nodup_cons.1 hn
    have hx := h x (by simp)
    have := ih (ys.erase x) h2 (fun y hy => (List.mem_erase_of_ne (fun e => h1 (by rw [← e]; exact hy))).2 (h y (List.mem_cons_of_mem _ hy)))
    rw [List.length_erase_of_mem hx] at this
    have : 0 < ys.length := List.length_pos_of_mem hx
    simp; omega

/-! the sort -/

theorem ltOf_cmpS (x y : Int) : ltOf cmpS x y = decide (x < y) := by
  unfold ltOf cmpS
  rw [Bool.eq_iff_iff]
  simp only [decide_eq_true_eq]
  split <;> (repeat' split) <;> omega

theorem swo_cmpS : SWO (ltOf cmpS) where
  irrefl x := by rw [ltOf_cmpS]; simp
  trans x y z h1 h2 := by rw [ltOf_cmpS] at *; simp at *; omega
  ntrans x y z h1 h2 := by rw [ltOf_cmpS] at *; simp at *; omega

theorem cmpLaysS (blk off size : Nat) (w : World) : CmpLays1 Try.prog 86 #[] (Value.int .i64) cmpS blk off size w := fun m os dk _ x y =>
  (compareSigners_c x y _).mono fun e w' h => ⟨h.1, 0, #[], by rw [← h.2, grow_empty]; rfl⟩

theorem owns_sortedI {w : World} {B g cap q : Nat} {os : Array Obj} {xs ys : List Int} (h : OwnI w B (.slice (some ⟨g, 0, none⟩) xs.length cap) xs) (hl : ys.length = xs.length) :
    OwnI (sortWorld (Value.int .i64) w g 0 q ys.toArray os) B (.slice (some ⟨g, 0, none⟩) ys.length cap) ys ∧ w.grownBy (sortWorld (Value.int .i64) w g 0 q ys.toArray os) (some g) := by
  have h0 : w.ownsRow B 2 1 (.slice (some ⟨g, 0, none⟩) xs.length cap) xs.length (xs.map (Value.int .i64)) := h
  rcases h0.2 with ⟨e0, _⟩ | ⟨g', cap', cur, e0, hb, hg, hn, hm, hs, ht⟩
  · cases e0
  · injection e0 with e1 _ e3
    injection e1 with e1
    injection e1 with e1
    subst e1; subst e3
    have hgl : g < w.heap.size := (Array.getElem?_eq_some_iff.1 hg).1
    unfold sortWorld
    refine ⟨⟨by simp, .inr ⟨g, cap, putCells (Value.int .i64) 0 ys.toArray cur, rfl, hb, ?_, by omega, hm, by simpa [putCells] using hs, ?_⟩⟩, ⟨rfl, rfl, rfl, by simp, fun k hk hne => ?_⟩⟩
    · rw [heap_grow_old _ _ (by simpa using hgl)]
      simp [putRow, mapBlock, Sort.ahead, Array.getElem?_modify, hg, onCells]
    · apply List.ext_getElem?
      intro j
      by_cases hj : j < ys.length
      · rw [List.getElem?_take_of_lt (by omega), Array.getElem?_toList]
        have hjc : j < cur.size := by rw [hs]; omega
        simp [putCells, hjc, hj]
      · rw [List.getElem?_take_eq_none (by omega), List.getElem?_eq_none (by simp; omega)]
    · rw [heap_grow_old _ _ (by simpa using hk)]
      have : g ≠ k := fun e => hne (by rw [e])
      simp [putRow, mapBlock, Sort.ahead, Array.getElem?_modify, this]

theorem up_of_sorted {xs ys : List Int} (hl : ys.length = xs.length) (hm : ∀ x, x ∈ ys ↔ x ∈ xs) (hs : ys.Pairwise (fun a b => ¬ b < a)) (hn : xs.Nodup) : Up ys := by
  have hnd : ys.Nodup := by
    refine List.nodup_iff_count.2 (fun a => ?_)
    exact Classical.byContradiction fun q => by
      have h2 : 2 ≤ ys.count a := by omega
      have hsub := nodup_lenI xs (ys.erase a) hn (fun x hx => by
        by_cases e : x = a
        · subst e
          exact List.count_pos_iff.1 (by rw [List.count_erase_self]; omega)
        · exact (List.mem_erase_of_ne e).2 ((hm x).2 hx))
      have ha : a ∈ ys := List.count_pos_iff.1 (by omega)
      rw [List.length_erase_of_mem ha] at hsub
      have : 0 < ys.length := List.length_pos_of_mem ha
      omega
  refine List.pairwise_iff_getElem.2 (fun i j hi hj hij => ?_)
  have h1 := List.pairwise_iff_getElem.1 hs i j hi hj hij
  have h2 : ys[i] ≠ ys[j] := fun e => by
    have := List.pairwise_iff_getElem.1 hnd i j hi hj hij
    exact this e
  omega

end Go.Proofs.Ythogdfnaojijhaa
