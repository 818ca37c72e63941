/-
  CONTRACTS: chapter 11, the program: PackLog.
  Conditions: each contract bears its own.
-/
import Derived.Test.YtnlmoapopdchkaaDoorPg1
import Derived.Deep.WholeRow
namespace Go.Proofs.YtnlmoapopdchkaaDoor
open Go.RowKit
set_option linter.unusedVariables false
set_option linter.unusedSimpArgs false

/-- A page with the words of the first statements. -/
def pgTo (xs : List StI) (k : Nat) : List Int := packTo xs k ++ List.replicate (240 - k * 6) 0

theorem pgTo_len {xs : List StI} {k : Nat} (h : k ≤ xs.length) (hk : k ≤ 40) : (pgTo xs k).length = 240 := by
  unfold pgTo
  rw [List.length_append, packTo_len h, List.length_replicate]
  omega

theorem pgTo_next {xs : List StI} {k : Nat} {x : StI} (h : xs[k]? = some x) (hk : k < 40) : putZ (pgTo xs k) (k * 6) (packL x) = pgTo xs (k + 1) := by
  have hl : (packTo xs k).length = k * 6 := packTo_len (by have := (List.getElem?_eq_some_iff.1 h).1; omega)
  unfold putZ pgTo
  rw [packTo_next h, packL_len, List.take_left' hl, List.drop_append, List.drop_of_length_le (by omega), List.nil_append, List.drop_replicate, hl]
  congr 2
  omega

theorem pgTo_take {xs : List StI} {k : Nat} (h : k ≤ xs.length) : (pgTo xs k).take (k * 6) = packTo xs k := by
  unfold pgTo
  exact List.take_left' (packTo_len h)

theorem packTo_at {xs : List StI} {k j : Nat} {y : StI} (hk : k ≤ xs.length) (hj : j < k) (hy : xs[j]? = some y) : (packTo xs k)[j * 6]? = some y.k := by
  induction k with
  | zero => omega
  | succ k ih =>
    obtain ⟨x, hx⟩ : ∃ x, xs[k]? = some x := ⟨_, List.getElem?_eq_getElem (by omega)⟩
    have hl : (packTo xs k).length = k * 6 := packTo_len (by omega)
    rw [packTo_next hx]
    by_cases e : j = k
    · subst e
      rw [hx] at hy
      cases hy
      rw [List.getElem?_append_right (by omega), hl, Nat.sub_self]
      rfl
    · rw [List.getElem?_append_left (by omega)]
      exact ih (by omega) (by omega)

theorem fc_all {xs : List StI} {k j : Nat} {y : StI} (h : fcTo xs k = 0) (hj : j < k) (hy : xs[j]? = some y) : stCode y = 0 := by
  induction k with
  | zero => omega
  | succ k ih =>
    by_cases q : fcTo xs k = 0
    · by_cases e : j = k
      · subst e
        rw [fc_next q hy] at h
        exact h
      · exact ih q (by omega)
    · simp only [fcTo] at h
      rw [if_neg q] at h
      exact absurd h q

theorem pg_end {xs : List StI} {k : Nat} (hk : k ≤ xs.length) (h40 : k ≤ 40) (h : fcTo xs k = 0) : EndAt (pgTo xs k) k := by
  have hl : (packTo xs k).length = k * 6 := packTo_len hk
  refine ⟨h40, fun j x hj hx => ?_, fun q => ?_⟩
  · obtain ⟨y, hy⟩ : ∃ y, xs[j]? = some y := ⟨_, List.getElem?_eq_getElem (by omega)⟩
    unfold pgTo at hx
    rw [List.getElem?_append_left (by omega), packTo_at hk hj hy] at hx
    cases hx
    have := (st_bounds (fc_all h hj hy)).1
    omega
  · unfold pgTo
    rw [List.getElem?_append_right (by omega), hl, Nat.sub_self, List.getElem?_replicate, if_pos (by omega)]

theorem owns_some {w : World} {B : Nat} {e : TypeId} {size : Nat} {a : Option Addr} {n cap : Nat} {xs : List Value} (h : w.ownsRow B e size (.slice a n cap) n xs) (hn : 0 < n) : ∃ g, a = some ⟨g, 0, none⟩ := by
  rcases h.2 with ⟨h', h0⟩ | ⟨g, cap', cur, h', _⟩
  · omega
  · simp at h'
    exact ⟨g, h'.1⟩

def zeroPg : List Int := List.replicate 240 0

theorem Tryd.infoZ39 : (Tryd.prog.info? 39).map (fun i => (i.zero, i.size)) = some (some (.agg (vI zeroPg).toArray), 240) := by kernel_rfl
theorem pg_zero (w : World) : (zeroValue 39).run Tryd.prog w = .ok (.agg (vI zeroPg).toArray) w := (zero_of_info Tryd.infoZ39).1 w

theorem pg_new (w : World) (zs : List Int) (h : zs.length = 240) : PgAt (w.alloc (.cells (vI zs).toArray 39)) w.heap.size zs := by
  refine ⟨?_, h⟩
  show (w.heap.push _)[w.heap.size]? = _
  simp

/-- What stands in the loop of the program's PackLog. -/
structure IPL (w : World) (xs : List StI) (k : Nat) (wr : World) : Prop where
  rs : BoxW w.heap.size [.int .i64 0, .slice none 0 0] wr
  pg : PgAt wr (w.heap.size + 1) (pgTo xs k)
  bl : Below w.heap.size w wr

theorem IPL.below {w : World} {xs : List StI} {k : Nat} {wr W : World} (h : IPL w xs k wr) (hb : Below wr.heap.size wr W) : IPL w xs k W :=
  ⟨h.rs.below (by have := h.pg.lt; omega) hb, h.pg.below hb, h.bl.trans (hb.mono h.bl.size)⟩

end Go.Proofs.YtnlmoapopdchkaaDoor
