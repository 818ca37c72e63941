/-
  CONTRACT: slices.SortFunc over roles, by impl.compareRoles.
  Conditions: each contract bears its own.
  CONTRACTS: slices.AppendSeq, slices.Collect, slices.SortedFunc over the keys of the map of grants: the roles that somebody has, rising.
  Conditions: each contract bears its own.
  CONTRACTS: slices.SortedFunc over the keys of the map of grants; (impl.grantMap).list: the grants, rising.
  Conditions: each contract bears its own.
-/
import Derived.Test.YtnfolmjdicfobaaPk19
import Derived.Test.YtnfolmjdicfobaaPk21
import Derived.Sort.OwnSorted
import Derived.Deep.AppendLies
import Derived.Test.YtnfolmjdicfobaaPk16
import Derived.Shelf.SlSortCmp.NoneTotal
import Derived.Deep.RegionLaw
namespace Go.Proofs.Ytnfolmjdicfobaa
open Go.RowKit Go.Sort Go.Proofs Go.Lib
set_option linter.unusedVariables false
set_option linter.unusedSimpArgs false

def cmpI (x y : Int) : Int := if x < y then -1 else if y < x then 1 else 0
def orC (c d : Int) : Int := if c = 0 then d else c
def cfR (p q : RoI) : Int := orC (cmpI p.1 q.1) (cmpI p.2 q.2)

theorem ltOf_cfR (p q : RoI) : ltOf cfR p q = ltR p q := by
  unfold ltOf cfR orC ltR cmpI
  rw [Bool.eq_iff_iff]
  simp only [decide_eq_true_eq]
  split <;> (repeat' split) <;> first | omega | (simp_all; try omega)

theorem swo_cfR : SWO (ltOf cfR) where
  irrefl x := by rw [ltOf_cfR]; exact ltR_irrefl x
  trans x y z h1 h2 := by rw [ltOf_cfR] at *; exact ltR_trans h1 h2
  ntrans x y z h1 h2 := by rw [ltOf_cfR] at *; simp [ltR] at *; omega

def enc2 (x : RoI) : List Value := [.int .i64 x.1, .int .i64 x.2]

theorem flatK_eq (xs : List RoI) : flatK enc2 2 xs.toArray = (flat2 xs).toArray := by
  apply Array.ext
  · simp [flat2_len]
  · intro t h1 h2
    have ht : t < xs.length * 2 := by simpa using h1
    have hk : t / 2 < xs.length := by omega
    have e0 := get_flatK enc2 2 xs.toArray t (by simpa using ht)
    rw [getElem!_pos _ t h1] at e0
    rw [e0]
    have hx : xs[t / 2]? = some (xs[t / 2]) := List.getElem?_eq_getElem hk
    have hd : xs.toArray[t / 2]! = xs[t / 2] := by rw [getElem!_pos _ _ (by simpa using hk)]; simp
    rw [hd]
    rcases Nat.mod_two_eq_zero_or_one t with hm | hm
    · have h3 := flat2_fst xs (t / 2) _ hx
      rw [show t / 2 * 2 = t by omega, List.getElem?_eq_getElem (by simpa using h2)] at h3
      rw [hm]
      simp only [enc2, List.getElem_toArray]
      exact (Option.some.inj h3).symm
    · have h3 := flat2_snd xs (t / 2) _ hx
      rw [show t / 2 * 2 + 1 = t by omega, List.getElem?_eq_getElem (by simpa using h2)] at h3
      rw [hm]
      simp only [enc2, List.getElem_toArray]
      exact (Option.some.inj h3).symm

theorem owns_sorted2 {w : World} {B g cap q : Nat} {os : Array Obj} {xs ys : List RoI} (h : Owns2 w B (.slice (some ⟨g, 0, none⟩) xs.length cap) xs) (hl : ys.length = xs.length) :
    Owns2 (grow (putRow id (Sort.ahead w q) g 0 (flat2 ys).toArray) os) B (.slice (some ⟨g, 0, none⟩) xs.length cap) ys ∧ w.grownBy (grow (putRow id (Sort.ahead w q) g 0 (flat2 ys).toArray) os) (some g) := by
  have h0 : w.ownsRow B 76 2 (.slice (some ⟨g, 0, none⟩) xs.length cap) xs.length (flat2 xs) := h
  rcases h0.2 with ⟨e0, _⟩ | ⟨g', cap', cur, e0, hb, hg, hn, hm, hs, ht⟩
  · cases e0
  · injection e0 with e1 _ e3
    injection e1 with e1
    injection e1 with e1
    subst e1; subst e3
    have hgl : g < w.heap.size := (Array.getElem?_eq_some_iff.1 hg).1
    refine ⟨⟨by rw [flat2_len], .inr ⟨g, cap, putCells id 0 (flat2 ys).toArray cur, by rw [hl], hb, ?_, by omega, hm, by simpa [putCells] using hs, ?_⟩⟩, ⟨rfl, rfl, rfl, by simp, fun k hk hne => ?_⟩⟩
    · rw [heap_grow_old _ _ (by simpa using hgl)]
      simp [putRow, mapBlock, Sort.ahead, Array.getElem?_modify, hg, onCells]
    · apply List.ext_getElem?
      intro j
      by_cases hj : j < ys.length * 2
      · rw [List.getElem?_take_of_lt hj, Array.getElem?_toList]
        have hjc : j < cur.size := by rw [hs]; omega
        have hjf : j < (flat2 ys).length := by rw [flat2_len]; exact hj
        simp [putCells, hjc, hjf, flat2_len, hj, List.getElem?_eq_getElem hjf]
      · rw [List.getElem?_take_eq_none (by omega), List.getElem?_eq_none (by rw [flat2_len]; omega)]
    · rw [heap_grow_old _ _ (by simpa using hk)]
      have : g ≠ k := fun e => hne (by rw [e])
      simp [putRow, mapBlock, Sort.ahead, Array.getElem?_modify, this]

theorem Try.aggRole (w : World) : (isAgg 76).run Try.prog w = .ok true w := by kernel_rfl
theorem Try.sizeRole (w : World) : (Go.sizeOf 76).run Try.prog w = .ok 2 w := by kernel_rfl

end Go.Proofs.Ytnfolmjdicfobaa

namespace Go.Proofs.Ytnfolmjdicfobaa
open Go.RowKit Go.Shelf Go.Maps
attribute [local go_sem] Oper.semAt_some
attribute [local go_sem] wide_fn
attribute [local simp] wide_fn
set_option linter.unusedVariables false
set_option linter.unusedSimpArgs false

theorem flat2_snoc (a : List RoI) (x : RoI) : flat2 (a ++ [x]) = flat2 a ++ [.int .i64 x.1, .int .i64 x.2] := by rw [flat2_append]; rfl

/-- A block of cells is kept while others are turned that hold no cells. -/
theorem block_own (B : Nat) (cs : Array Value) (t : TypeId) : Own (fun (_ : Unit) W => W.heap[B]? = some (.cells cs t (0, 0))) := fun s X Y row hs hg hrow => by
  refine (hg.block B (Array.getElem?_eq_some_iff.1 hs).1 (fun e => ?_)).trans hs
  obtain ⟨o, ho, hc⟩ := hrow B e.symm
  rw [hs] at ho
  cases ho
  cases hc

end Go.Proofs.Ytnfolmjdicfobaa

namespace Go.Proofs.Ytnfolmjdicfobaa
open Go.RowKit Go.Maps Go.Proofs
set_option linter.unusedVariables false
set_option linter.unusedSimpArgs false

theorem ss_of_sorted {xs ys : List RoI} (hl : ys.length = xs.length) (hm : ∀ x, x ∈ ys ↔ x ∈ xs) (hs : ys.Pairwise (fun a b => ltR b a = false)) (hn : xs.Nodup) : SS ys := by
  refine List.pairwise_iff_getElem.2 (fun i j hi hj hij => ?_)
  cases e : ltR ys[i] ys[j]
  · have h2 := List.pairwise_iff_getElem.1 hs i j hi hj hij
    have eq : ys[i] = ys[j] := Classical.byContradiction fun q => by
      have := ltR_total e q
      rw [h2] at this; cases this
    have := nodup_len xs (ys.eraseIdx j) hn (fun x hx => by
      obtain ⟨k, hk, ek⟩ := List.mem_iff_getElem.1 ((hm x).2 hx)
      refine List.mem_eraseIdx_iff_getElem.2 ?_
      by_cases q : k = j
      · subst q
        exact ⟨i, hi, by omega, by rw [eq, ek]⟩
      · exact ⟨k, hk, q, ek⟩)
    rw [List.length_eraseIdx] at this
    split at this <;> omega
  · rfl

theorem owns_at2 {w : World} {B : Nat} {v : Value} {ys : List RoI} (h : Owns2 w B v ys) : ∃ a cap, v = .slice a ys.length cap ∧ ∀ k r, ys[k]? = some r → ∃ g, a = some ⟨g, 0, none⟩ ∧ B ≤ g ∧ w.cell? ⟨g, k * 2, none⟩ = some (.int .i64 r.1) ∧ w.cell? ⟨g, k * 2 + 1, none⟩ = some (.int .i64 r.2) := by
  rcases h.2 with ⟨rfl, h0⟩ | ⟨g, cap, cur, rfl, hg, _⟩
  · have hy : ys = [] := List.eq_nil_of_length_eq_zero h0
    subst hy
    exact ⟨none, 0, rfl, fun k r e => by simp at e⟩
  · refine ⟨_, cap, rfl, fun k r e => ⟨g, rfl, hg, ?_, ?_⟩⟩
    · have hk : k < ys.length := by
        by_cases q : k < ys.length
        · exact q
        · rw [List.getElem?_eq_none (by omega)] at e; cases e
      exact (World.ownsRow.cellAt h (k * 2) (by omega)).trans (flat2_fst ys k r e)
    · have hk : k < ys.length := by
        by_cases q : k < ys.length
        · exact q
        · rw [List.getElem?_eq_none (by omega)] at e; cases e
      exact (World.ownsRow.cellAt h (k * 2 + 1) (by omega)).trans (flat2_snd ys k r e)

theorem flat3_snoc (a : List GrI) (x : GrI) : flat3 (a ++ [x]) = flat3 a ++ [.int .i64 x.1.1, .int .i64 x.1.2, .int .i64 x.2] := by rw [flat3_append]; rfl

theorem owns_lower3 {w : World} {B B' : Nat} {v : Value} {gs : List GrI} (h : Own3 w B v gs) (hB : B' ≤ B) : Own3 w B' v gs := by
  refine ⟨h.1, ?_⟩
  rcases h.2 with q | ⟨g, cap, cur, e, hg, rest⟩
  · exact .inl q
  · exact .inr ⟨g, cap, cur, e, Nat.le_trans hB hg, rest⟩

end Go.Proofs.Ytnfolmjdicfobaa
