/-
  PLAIN WORDS AND CONTRACTS: chapter 11: what a log tells; pageOf (the program).
  Conditions: each contract bears its own (the variable errUnreadable holds an error).
-/
import Derived.Test.YtnlmoapopdchkaaDoorPg2
import Derived.Test.YtnlmoapopdchkaaDoorSt9
namespace Go.Proofs.YtnlmoapopdchkaaDoor
open Go.RowKit
set_option linter.unusedVariables false
set_option linter.unusedSimpArgs false

/-- The words at the place of a statement. -/
def pieceZ (zs : List Int) (k : Nat) : List Int := (zs.drop (k * 6)).take 6

def rdF (zs : List Int) : Nat → Nat → List StI
  | _, 0 => []
  | k, f + 1 => match unpB (pieceZ zs k) with
    | none => []
    | some x => x :: rdF zs (k + 1) f

/-- The statements at the beginning of words, as many as are whole. -/
def rdL (zs : List Int) : List StI := rdF zs 0 zs.length

theorem piece_short {zs : List Int} {k : Nat} (h : zs.length < k * 6 + 6) : unpB (pieceZ zs k) = none := by
  refine unp_len ?_
  unfold pieceZ
  rw [List.length_take, List.length_drop]
  omega

theorem rdF_is (zs : List Int) : ∀ (f k : Nat), zs.length < (k + f) * 6 + 6 → (∀ j x, (rdF zs k f)[j]? = some x → unpB (pieceZ zs (k + j)) = some x) ∧ unpB (pieceZ zs (k + (rdF zs k f).length)) = none := by
  intro f
  induction f with
  | zero => intro k h; exact ⟨fun j x e => by simp [rdF] at e, by simp only [rdF, List.length_nil]; exact piece_short (by omega)⟩
  | succ f ih =>
    intro k h
    cases q : unpB (pieceZ zs k) with
    | none =>
      have e : rdF zs k (f + 1) = [] := by simp only [rdF, q]
      rw [e]
      exact ⟨fun j x e => by simp at e, q⟩
    | some y =>
      have e : rdF zs k (f + 1) = y :: rdF zs (k + 1) f := by simp only [rdF, q]
      rw [e]
      obtain ⟨h1, h2⟩ := ih (k + 1) (by omega)
      refine ⟨fun j x ej => ?_, ?_⟩
      · cases j with
        | zero => simp at ej; subst ej; exact q
        | succ j =>
          rw [List.getElem?_cons_succ] at ej
          have := h1 j x ej
          rw [show k + 1 + j = k + (j + 1) by omega] at this
          exact this
      · rw [List.length_cons, show k + ((rdF zs (k + 1) f).length + 1) = k + 1 + (rdF zs (k + 1) f).length by omega]
        exact h2

theorem rd_some {zs : List Int} {k : Nat} {x : StI} (h : (rdL zs)[k]? = some x) : unpB (pieceZ zs k) = some x := by
  have := (rdF_is zs zs.length 0 (by omega)).1 k x h
  rwa [Nat.zero_add] at this

theorem rd_none (zs : List Int) : unpB (pieceZ zs (rdL zs).length) = none := by
  have := (rdF_is zs zs.length 0 (by omega)).2
  rwa [Nat.zero_add] at this

theorem rd_long {zs : List Int} {k : Nat} (h : k < (rdL zs).length) : k * 6 + 6 ≤ zs.length := by
  have q := rd_some (List.getElem?_eq_getElem h)
  by_cases e : k * 6 + 6 ≤ zs.length
  · exact e
  · rw [piece_short (by omega)] at q; cases q

theorem rd_end {zs : List Int} : (rdL zs).length * 6 ≤ zs.length := by
  cases q : (rdL zs).length with
  | zero => omega
  | succ n => have := rd_long (zs := zs) (k := n) (by omega); omega

/-- What is read out of six words: a statement without fault, these words its own. -/
theorem unp_pack {zs : List Int} {x : StI} (h : unpB zs = some x) : stCode x = 0 ∧ packL x = zs := by
  by_cases hl : zs.length = 6
  · obtain ⟨z0, z1, z2, z3, z4, z5, rfl⟩ := six_list hl
    unfold unpB at h
    simp only at h
    by_cases q : packV ⟨z0, z1, z2, z3, z4⟩ = [z0, z1, z2, z3, z4, z5]
    · rw [if_pos q] at h
      cases h
      unfold packV at q
      by_cases c : stCode ⟨z0, z1, z2, z3, z4⟩ = 0
      · rw [if_pos c] at q
        exact ⟨c, q⟩
      · rw [if_neg c] at q
        cases q
    · rw [if_neg q] at h
      cases h
  · rw [unp_len hl] at h; cases h

theorem piece_len {zs : List Int} {k : Nat} (h : k * 6 + 6 ≤ zs.length) : (pieceZ zs k).length = 6 := by
  unfold pieceZ
  rw [List.length_take, List.length_drop]
  omega

theorem piece_at {zs : List Int} {k j : Nat} (hj : j < 6) : (pieceZ zs k)[j]? = zs[k * 6 + j]? := by
  unfold pieceZ
  rw [List.getElem?_take_of_lt hj, List.getElem?_drop]

/-- Words on a page, the rest 0. -/
def pgOn (zs : List Int) (n : Nat) : List Int := zs.take n ++ List.replicate (240 - n) 0

/-- A page with what is whole of the words. -/
def pgOf (zs : List Int) : List Int := pgOn zs ((rdL zs).length * 6)

theorem pgOn_len {zs : List Int} {n : Nat} (h : n ≤ zs.length) (h2 : n ≤ 240) : (pgOn zs n).length = 240 := by
  unfold pgOn
  rw [List.length_append, List.length_take, List.length_replicate]
  omega

theorem pgOn_low {zs : List Int} {n k : Nat} (h : n ≤ zs.length) (hk : k < n) : (pgOn zs n)[k]? = zs[k]? := by
  unfold pgOn
  rw [List.getElem?_append_left (by rw [List.length_take]; omega), List.getElem?_take_of_lt hk]

theorem pgOn_high {zs : List Int} {n k : Nat} (h : n ≤ zs.length) (hk : n ≤ k) (h2 : k < 240) : (pgOn zs n)[k]? = some 0 := by
  unfold pgOn
  have hl : (zs.take n).length = n := by rw [List.length_take]; omega
  rw [List.getElem?_append_right (by omega), hl, List.getElem?_replicate, if_pos (by omega)]

theorem pgOn_piece {zs : List Int} {n k : Nat} (h : n ≤ zs.length) (hk : k * 6 + 6 ≤ n) : pieceZ (pgOn zs n) k = pieceZ zs k := by
  refine List.ext_getElem? (fun j => ?_)
  by_cases hj : j < 6
  · rw [piece_at hj, piece_at hj, pgOn_low h (by omega)]
  · rw [List.getElem?_eq_none (by unfold pieceZ; rw [List.length_take]; omega), List.getElem?_eq_none (by unfold pieceZ; rw [List.length_take]; omega)]

theorem pgOf_end (zs : List Int) (h : zs.length ≤ 240) : EndAt (pgOf zs) (rdL zs).length := by
  have he := rd_end (zs := zs)
  refine ⟨by omega, fun k x hk hx => ?_, fun q => ?_⟩
  · unfold pgOf at hx
    rw [pgOn_low he (by omega)] at hx
    obtain ⟨h1, h2⟩ := unp_pack (rd_some (List.getElem?_eq_getElem hk))
    have e : (pieceZ zs k)[0]? = zs[k * 6 + 0]? := piece_at (by omega)
    rw [← h2, Nat.add_zero, hx] at e
    have := (st_bounds h1).1
    simp [packL] at e
    omega
  · unfold pgOf
    exact pgOn_high he (Nat.le_refl _) (by omega)

theorem pgOf_take (zs : List Int) : (pgOf zs).take ((rdL zs).length * 6) = zs.take ((rdL zs).length * 6) := by
  unfold pgOf pgOn
  exact List.take_left' (by rw [List.length_take]; have := rd_end (zs := zs); omega)

/-- What is cleared behind what is whole. -/
theorem pgOn_clear {zs : List Int} {n m : Nat} (hn : n ≤ zs.length) (h2 : n ≤ 240) (hm : m ≤ n) : putZ (pgOn zs n) m (List.replicate (240 - m) 0) = pgOn zs m := by
  have hl : (zs.take n).length = n := by rw [List.length_take]; omega
  unfold putZ
  rw [List.length_replicate, List.drop_of_length_le (by rw [pgOn_len hn h2]; omega), List.append_nil]
  unfold pgOn
  rw [List.take_append_of_le_length (by omega), List.take_take, Nat.min_eq_left hm]

theorem pg_under : Tryd.prog.underlying 39 = some (.array 240 2) := by kernel_rfl
theorem pg_size : (Tryd.prog.info? 39).map (·.size) = some 240 := (zero_of_info Tryd.infoZ39).2

theorem vI_asize {zs : List Int} (h : zs.length = 240) : (vI zs).toArray.size = 240 := by simp [vI_len, h]

theorem pgLoadVar {w : World} {g : Nat} {zs : List Int} (h : PgAt w g zs) : (loadVar 39 ⟨g, 0, none⟩).run Tryd.prog w = .ok (.agg (vI zs).toArray) w :=
  run_loadVar_row _ _ _ _ _ _ _ h.bk pg_under rfl (by rw [vI_asize h.ln]; exact pg_size)

theorem pgLoadAt {w : World} {g : Nat} {zs : List Int} (h : PgAt w g zs) : (Instr.loadAt 39 (.pointer (some ⟨g, 0, none⟩))).run Tryd.prog w = .ok (.agg (vI zs).toArray) w := by
  simp only [Instr.loadAt, Instr.sureAddr, Sem.run_bind, Sem.run_pure, Result.andThen]
  exact pgLoadVar h

theorem pgStoreCells {w : World} {g : Nat} {zs ys : List Int} (h : PgAt w g zs) (hy : ys.length = 240) : (storeCells ⟨g, 0, none⟩ (vI ys).toArray.toList).run Tryd.prog w = .ok () (w.setRow g (vI ys).toArray) := by
  have := run_storeCells_from (P := Tryd.prog) g 39 (vI ys).toArray.toList 0 (vI zs).toArray w h.bk (by rw [Nat.zero_add, vI_asize h.ln, Array.length_toList, vI_asize hy]) (fun v hv => vI_one ys v (by simpa using hv))
  simpa using this

theorem PgAt.over {w : World} {g : Nat} {zs ys : List Int} (h : PgAt w g zs) (hy : ys.length = 240) : PgAt (w.setRow g (vI ys).toArray) g ys := ⟨setRow_heap _ _ _ _ _ _ h.bk, hy⟩

theorem PgAt.other {w : World} {g q : Nat} {zs : List Int} (h : PgAt w g zs) (hq : g ≠ q) (r : Array Value) : PgAt (w.setRow q r) g zs := ⟨(setRow_other w q g r hq).trans h.bk, h.ln⟩

theorem zero_cells (n : Nat) : (Builtin.zeroCells (Value.int .i64 0).cells n).toList = vI (List.replicate n 0) := by
  apply List.ext_getElem?
  intro i
  simp [Builtin.zeroCells, Value.cells, vI]
  by_cases h : i < n
  · simp [h, Nat.mod_one]
  · simp [h]

theorem run_clearP (w : World) (g o n c : Nat) (zs : List Int) (hn : 0 < n) (h : PgAt w g zs) (ho : o + n ≤ 240) (ty : TypeId) :
    (Builtin.clear_ #[22] ty #[.slice (some ⟨g, o, none⟩) n c]).run Tryd.prog w = .ok (.tuple #[]) (w.setRow g ((vI zs).toArray.toList.take o ++ vI (List.replicate n 0) ++ (vI zs).toArray.toList.drop (o + (vI (List.replicate n 0)).length)).toArray) := by
  have hst := run_storeCells_at Tryd.prog g o 39 (vI (List.replicate n 0)) 0 (vI zs).toArray w h.bk (by rw [vI_len, List.length_replicate, vI_asize h.ln]; omega) (vI_one _)
  have hv : ∀ w, (zeroValue 2).run Tryd.prog w = .ok (.int .i64 0) w := fun w => by kernel_rfl
  simp only [Nat.add_zero] at hst
  rw [← zero_cells] at hst ⊢
  obtain ⟨m, rfl⟩ : ∃ m, n = m + 1 := ⟨n - 1, by omega⟩
  simp [Builtin.clear_, run_underlying Tryd.underlying22, hv, hst]

theorem run_clear0 (w : World) (a : Option Addr) (c : Nat) (ty : TypeId) :
    (Builtin.clear_ #[22] ty #[.slice a 0 c]).run Tryd.prog w = .ok (.tuple #[]) w := by
  cases a <;> simp [Builtin.clear_, run_underlying Tryd.underlying22, storeCells, Builtin.zeroCells]

end Go.Proofs.YtnlmoapopdchkaaDoor
