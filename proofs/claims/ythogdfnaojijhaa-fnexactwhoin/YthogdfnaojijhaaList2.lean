/-
  CONTRACTS of laws.eqIntsResult (two that are alike), laws.markIntsResult and laws.heldIntsResult.
  Conditions: each contract bears its own.
-/
import Derived.Test.YthogdfnaojijhaaSlices1
import Derived.Test.YthogdfnaojijhaaSize1
namespace Go.Proofs.Ythogdfnaojijhaa
open Go.RowKit
set_option linter.unusedVariables false

set_option maxHeartbeats 400000 in
theorem eqInts_same (c : Int) (a b : Option Addr) (n ca cb : Nat) (zs : List Int) (w : World) (hn : n ≤ 1048576) (ha : RowIn w a n zs) (hb : RowIn w b n zs) :
    Calls Try.prog 22 #[.agg #[.int .i64 c, .slice a n ca], .agg #[.int .i64 c, .slice b n cb]] w fun e w' => e = .returned (.bool true) ∧ Below w.heap.size w w' := by
  have B0 : Below w.heap.size w ((w.alloc (.cells #[.int .i64 c, .slice a n ca] 50)).alloc (.cells #[.int .i64 c, .slice b n cb] 50)) := ((Below.refl _ _).alloc (Nat.le_refl _) _).alloc (by simp) _
  have HA : Hid (RowIn ((w.alloc (.cells #[.int .i64 c, .slice a n ca] 50)).alloc (.cells #[.int .i64 c, .slice b n cb] 50)) a n zs) := ha.below B0
  have HB : Hid (RowIn ((w.alloc (.cells #[.int .i64 c, .slice a n ca] 50)).alloc (.cells #[.int .i64 c, .slice b n cb] 50)) b n zs) := hb.below B0
  have HB0 : Hid (Below w.heap.size w ((w.alloc (.cells #[.int .i64 c, .slice a n ca] 50)).alloc (.cells #[.int .i64 c, .slice b n cb] 50))) := B0
  clear ha hb B0
  go_enter Try.func22, Try.ntmps22
  go_wp2_with (go_at_call 47; refine (eqS_same _ _ n _ _ zs _ hn HA.out.2 HB.out.2).mono ?_; rintro e w1 ⟨rfl, hb1⟩)
  go_ret
  exact ⟨rfl, HB0.out.trans (hb1.mono (by simp; omega))⟩

/-- The marks k, k + 1, .. -/
def marks (k n : Nat) : List Int := (List.range n).map (fun i => ((k + i : Nat) : Int))

theorem marks_len (k n : Nat) : (marks k n).length = n := by simp [marks]
theorem marks_at (k n j : Nat) (h : j < n) : (marks k n)[j]?.getD 0 = ((k + j : Nat) : Int) := by simp [marks, h]

theorem owns_parts {w : World} {b : Nat} {t : TypeId} {a : Option Addr} {n cap : Nat} {xs : List Value} (h : w.ownsRow b t 1 (.slice a n cap) n xs) :
    xs.length = n ∧ (n = 0 ∨ ∃ g, a = some ⟨g, 0, none⟩) := by
  refine ⟨by simpa using h.1, ?_⟩
  rcases h.2 with ⟨h', h0⟩ | ⟨g, cap', cur, h', _⟩
  · exact .inl h0
  · simp at h'; exact .inr ⟨g, h'.1⟩

set_option maxHeartbeats 400000 in
theorem mark_c (k b : Nat) (a : Option Addr) (n cap : Nat) (xs : List Value) (w : World) (hk : k ≤ 1048576) (hn : n ≤ 1048576) (hown : w.ownsRow b 2 1 (.slice a n cap) n xs) :
    Calls Try.prog 50 #[.slice a n cap, .int .i64 (k : Int)] w fun e w' => e = .returned (.int .i64 ((k + n : Nat) : Int)) ∧ w'.ownsRow b 2 1 (.slice a n cap) n ((marks k n).map (Value.int .i64)) ∧ w.grownBy w' (Value.slice a n cap).ownBlock := by
  obtain ⟨hxl, hcase⟩ := owns_parts hown
  have HO : Hid (w.ownsRow b 2 1 (.slice a n cap) n xs) := hown
  have HC : Hid (n = 0 ∨ ∃ g, a = some ⟨g, 0, none⟩) := hcase
  have HX : Hid (xs.length = n) := hxl
  clear hown hcase hxl
  have hn' : (n : Int) ≤ 1048576 := by omega
  have hk' : (k : Int) ≤ 1048576 := by omega
  go_enter Try.func50, Try.ntmps50
  go_wp2
  go_loopw [1, 5] (fun q i wr => ∃ (j : Nat) (ys : List Value), j ≤ n ∧ i = .int .i64 (j : Int) ∧ q = .int .i64 ((k + j : Nat) : Int) ∧ wr.ownsRow b 2 1 (.slice a n cap) n ys ∧ (∀ m, m < j → ys[m]? = some (.int .i64 ((k + m : Nat) : Int))) ∧ w.grownBy wr (Value.slice a n cap).ownBlock)
    (fun _ i _ => n - (intOf i).toNat)
  case atStart => exact ⟨0, xs, Nat.zero_le _, rfl, rfl, HO.out, fun m hm => by omega, ⟨rfl, rfl, rfl, Nat.le_refl _, fun _ _ _ => rfl⟩⟩
  case round =>
    obtain ⟨j, ys, hj, rfl, rfl, hown, hys, hgr⟩ := hrel
    by_cases hlt : j < n
    · obtain ⟨g, ha⟩ : ∃ g, a = some ⟨g, 0, none⟩ := by
        rcases HC.out with h | h
        · omega
        · exact h
      subst ha
      have hyl := (owns_parts hown).1
      obtain ⟨v0, hco⟩ : ∃ v0, wr.cell? ⟨g, j, none⟩ = some v0 := ⟨_, (hown.cellAt j (by omega)).trans (List.getElem?_eq_getElem (show j < ys.length by omega))⟩
      have hfo := hown.frozenAt j
      have hst := hown.stored j (.int .i64 ((k + j : Nat) : Int))
      have R : Hid ((wr.setCell ⟨g, j, none⟩ (.int .i64 ((k + j : Nat) : Int))).ownsRow b 2 1 (.slice (some ⟨g, 0, none⟩) n cap) n (ys.set j (.int .i64 ((k + j : Nat) : Int))) ∧ (∀ m, m < j + 1 → (ys.set j (.int .i64 ((k + j : Nat) : Int)))[m]? = some (.int .i64 ((k + m : Nat) : Int))) ∧ w.grownBy (wr.setCell ⟨g, j, none⟩ (.int .i64 ((k + j : Nat) : Int))) (some g)) := by
        refine ⟨hst.1, fun m hm => ?_, ⟨hst.2.os.trans hgr.os, hst.2.tape.trans hgr.tape, hst.2.output.trans hgr.output, Nat.le_trans hgr.size hst.2.size, fun q hq hne => (hst.2.block q (Nat.lt_of_lt_of_le hq hgr.size) hne).trans (hgr.block q hq hne)⟩⟩
        by_cases e : m = j
        · subst e; rw [List.getElem?_set_self (by omega)]
        · rw [List.getElem?_set_ne (by omega)]; exact hys m (by omega)
      clear hst hown hys hgr hyl
      have hlt' : (j : Int) < (n : Int) := by omega
      go_wp2
      rw [show ((k : Int) + (j : Int)) = ((k + j : Nat) : Int) from by omega]
      exact ⟨⟨j + 1, _, by omega, by go_num, by go_num, R.out.1, R.out.2.1, R.out.2.2⟩, by simp [intOf]; omega⟩
    · have hjn : j = n := by omega
      subst hjn
      have E : ys = (marks k j).map (Value.int .i64) := by
        apply List.ext_getElem?
        intro i
        have hyl := (owns_parts hown).1
        by_cases hi : i < j
        · rw [hys i hi]; simp [marks, hi]
        · rw [List.getElem?_eq_none (by omega), List.getElem?_eq_none (by simp [marks]; omega)]
      rw [E] at hown
      go_wp2
      go_ret
      exact ⟨rfl, hown, hgr⟩

set_option maxHeartbeats 400000 in
theorem held_c (k : Nat) (a : Option Addr) (n cap : Nat) (w : World) (hk : k ≤ 1048576) (hn : n ≤ 1048576) (hr : RowIn w a n (marks k n)) :
    Calls Try.prog 51 #[.slice a n cap, .int .i64 (k : Int)] w fun e w' => e = .returned (.int .i64 ((k + n : Nat) : Int)) ∧ w = w' := by
  have HR : Hid (RowIn w a n (marks k n)) := hr
  clear hr
  have hn' : (n : Int) ≤ 1048576 := by omega
  have hk' : (k : Int) ≤ 1048576 := by omega
  go_enter Try.func51, Try.ntmps51
  go_wp2
  go_loop [1, 5] (fun q i => ∃ (j : Nat), j ≤ n ∧ i = .int .i64 (j : Int) ∧ q = .int .i64 ((k + j : Nat) : Int)) (fun _ i => n - (intOf i).toNat)
  case atStart => exact ⟨0, Nat.zero_le _, rfl, rfl⟩
  case round =>
    obtain ⟨j, hj, rfl, rfl⟩ := hrel
    by_cases hlt : j < n
    · obtain ⟨g, off, ha, hc⟩ := HR.out.2 j hlt
      subst ha
      rw [marks_at k n j hlt, show ((k + j : Nat) : Int) = (k : Int) + (j : Int) from by omega] at hc
      have hlt' : (j : Int) < (n : Int) := by omega
      go_wp2
      exact ⟨⟨j + 1, by omega, by go_num, by go_num⟩, by simp [intOf]; omega⟩
    · have hjn : j = n := by omega
      subst hjn
      go_wp2
      go_ret
      exact ⟨rfl, rfl⟩

set_option maxHeartbeats 400000 in
theorem markInts_c (c : Int) (k b : Nat) (a : Option Addr) (n cap : Nat) (xs : List Value) (w : World) (hk : k ≤ 1048576) (hn : n ≤ 1048576) (hown : w.ownsRow b 2 1 (.slice a n cap) n xs) :
    Calls Try.prog 25 #[.agg #[.int .i64 c, .slice a n cap], .int .i64 (k : Int)] w fun e w' => e = .returned (.int .i64 ((k + n : Nat) : Int)) ∧ w'.ownsRow b 2 1 (.slice a n cap) n ((marks k n).map (Value.int .i64)) ∧ w.grownBy w' (Value.slice a n cap).ownBlock := by
  have HO : Hid ((w.alloc (.cells #[.int .i64 c, .slice a n cap] 50)).ownsRow b 2 1 (.slice a n cap) n xs) := hown.alloc _
  clear hown
  go_enter Try.func25, Try.ntmps25
  go_wp2_with (go_at_call 50; refine (mark_c k b a n cap xs _ hk hn HO.out).mono ?_; rintro e w1 ⟨rfl, hown1, hg1⟩)
  go_ret
  refine ⟨rfl, hown1, ⟨hg1.os, hg1.tape, hg1.output, ?_, fun q hq hne => ?_⟩⟩
  · have := hg1.size; simp at this; omega
  · exact (hg1.block q (by simp; omega) hne).trans (Below.heap_alloc _ _ _ hq)

set_option maxHeartbeats 400000 in
theorem heldInts_c (c : Int) (k : Nat) (a : Option Addr) (n cap : Nat) (w : World) (hk : k ≤ 1048576) (hn : n ≤ 1048576) (hr : RowIn w a n (marks k n)) :
    Calls Try.prog 26 #[.agg #[.int .i64 c, .slice a n cap], .int .i64 (k : Int)] w fun e w' => e = .returned (.int .i64 ((k + n : Nat) : Int)) ∧ Below w.heap.size w w' := by
  have HR : Hid (RowIn (w.alloc (.cells #[.int .i64 c, .slice a n cap] 50)) a n (marks k n)) := hr.below ((Below.refl _ _).alloc (Nat.le_refl _) _)
  clear hr
  have hkn : decide (((k + n : Nat) : Int) < 0) = false := by simp; omega
  go_enter Try.func26, Try.ntmps26
  go_wp2_with (go_at_call 51; refine (held_c k a n cap _ hk hn HR.out).mono ?_; rintro e w1 ⟨rfl, rfl⟩)
  go_ret
  exact ⟨by rw [show ((k + n : Nat) : Int) = (k : Int) + (n : Int) from by omega]; rfl, (Below.refl _ _).alloc (Nat.le_refl _) _⟩

theorem mark1 (c : Int) (b : Nat) (a : Option Addr) (n cap : Nat) (xs : List Value) (w : World) (hn : n ≤ 1048576) (hown : w.ownsRow b 2 1 (.slice a n cap) n xs) :
    Calls Try.prog 25 #[.agg #[.int .i64 c, .slice a n cap], .int .i64 1] w fun e w' => e = .returned (.int .i64 (1 + (n : Int))) ∧ w'.ownsRow b 2 1 (.slice a n cap) n ((marks 1 n).map (Value.int .i64)) ∧ w.grownBy w' (Value.slice a n cap).ownBlock :=
  (markInts_c c 1 b a n cap xs w (by omega) hn hown).mono fun e w' h => ⟨h.1.trans (by rw [show ((1 + n : Nat) : Int) = 1 + (n : Int) from by omega]), h.2⟩

theorem held1 (c : Int) (a : Option Addr) (n cap : Nat) (w : World) (hn : n ≤ 1048576) (hr : RowIn w a n (marks 1 n)) :
    Calls Try.prog 26 #[.agg #[.int .i64 c, .slice a n cap], .int .i64 1] w fun e w' => e = .returned (.int .i64 (1 + (n : Int))) ∧ Below w.heap.size w w' :=
  (heldInts_c c 1 a n cap w (by omega) hn hr).mono fun e w' h => ⟨h.1.trans (by rw [show ((1 + n : Nat) : Int) = 1 + (n : Int) from by omega]), h.2⟩

theorem row_of_owns {w : World} {b : Nat} {a : Option Addr} {n cap : Nat} {zs : List Int} (h : w.ownsRow b 2 1 (.slice a n cap) n (zs.map (Value.int .i64))) : RowIn w a n zs := by
  obtain ⟨hl, hc⟩ := owns_parts h
  simp at hl
  refine ⟨by omega, fun k hk => ?_⟩
  rcases hc with h0 | ⟨g, rfl⟩
  · omega
  · refine ⟨g, 0, rfl, ?_⟩
    rw [Nat.zero_add, h.cellAt k (by omega)]
    simp [List.getElem?_eq_getElem (show k < zs.length by omega)]

/-- A row that another block's writes leave. -/
theorem RowIn.kept {w w' : World} {a : Option Addr} {n : Nat} {zs : List Int} {row : Option Nat} (h : RowIn w a n zs) (hg : w.grownBy w' row) (hne : ∀ g off, a = some ⟨g, off, none⟩ → some g ≠ row) : RowIn w' a n zs := by
  refine ⟨h.1, fun k hk => ?_⟩
  obtain ⟨g, off, e, hc⟩ := h.2 k hk
  exact ⟨g, off, e, hg.cell hc (hne g off e)⟩

theorem owns_block {w : World} {b : Nat} {a : Option Addr} {n cap : Nat} {xs : List Value} (h : w.ownsRow b 2 1 (.slice a n cap) n xs) : ∀ g off, a = some ⟨g, off, none⟩ → b ≤ g ∧ g < w.heap.size := by
  intro g off e
  subst e
  exact h.lt g rfl

theorem owns_below {w w' : World} {b : Nat} {v : Value} {n : Nat} {xs : List Value} (h : w.ownsRow b 2 1 v n xs) (hb : Below w.heap.size w w') : w'.ownsRow b 2 1 v n xs :=
  h.kept (row := none) ⟨hb.os, hb.tape, hb.output, hb.size, fun k hk _ => hb.block k hk⟩ (by rcases h.2 with ⟨rfl, _⟩ | ⟨g, cap, cur, rfl, _⟩; exact .inl rfl; exact .inr (by simp [Value.ownBlock]))

end Go.Proofs.Ythogdfnaojijhaa
