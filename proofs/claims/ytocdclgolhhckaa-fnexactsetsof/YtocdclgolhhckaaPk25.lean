/-
  CONTRACTS of laws.eqIntsResult (two that are alike), laws.markIntsResult and laws.heldIntsResult.
  Conditions: each contract bears its own.
  CONTRACTS: impl.ProofOf; what both programs' ProofOf answers.
  Conditions: each contract bears its own.
  FACTS for laws whose result is a list of numbers: its box, its row, what a law keeps.
  Conditions: each fact bears its own.
-/
import Derived.Test.YtocdclgolhhckaaPk24
import Derived.Test.YtocdclgolhhckaaPk23
import Derived.Test.YtocdclgolhhckaaPk19
import Derived.Test.YtocdclgolhhckaaPk06
namespace Go.Proofs.Ytocdclgolhhckaa
open Go.RowKit
set_option linter.unusedVariables false

set_option maxHeartbeats 400000 in
theorem eqInts_same (c : Int) (a b : Option Addr) (n ca cb : Nat) (zs : List Int) (w : World) (hn : n ≤ 1048576) (ha : RowIn w a n zs) (hb : RowIn w b n zs) :
    Calls Try.prog 35 #[.agg #[.int .i64 c, .slice a n ca], .agg #[.int .i64 c, .slice b n cb]] w fun e w' => e = .returned (.bool true) ∧ Below w.heap.size w w' := by
  have B0 : Below w.heap.size w ((w.alloc (.cells #[.int .i64 c, .slice a n ca] 55)).alloc (.cells #[.int .i64 c, .slice b n cb] 55)) := ((Below.refl _ _).alloc (Nat.le_refl _) _).alloc (by simp) _
  have HA : Hid (RowIn ((w.alloc (.cells #[.int .i64 c, .slice a n ca] 55)).alloc (.cells #[.int .i64 c, .slice b n cb] 55)) a n zs) := ha.below B0
  have HB : Hid (RowIn ((w.alloc (.cells #[.int .i64 c, .slice a n ca] 55)).alloc (.cells #[.int .i64 c, .slice b n cb] 55)) b n zs) := hb.below B0
  have HB0 : Hid (Below w.heap.size w ((w.alloc (.cells #[.int .i64 c, .slice a n ca] 55)).alloc (.cells #[.int .i64 c, .slice b n cb] 55))) := B0
  clear ha hb B0
  go_enter Try.func35, Try.ntmps35
  go_wp2_with (go_at_call 80; refine (eqS_same _ _ n _ _ zs _ hn HA.out.2 HB.out.2).mono ?_; rintro e w1 ⟨rfl, hb1⟩)
  go_ret
  exact ⟨rfl, HB0.out.trans (hb1.mono (by simp; omega))⟩

/-- The marks k, k + 1, .. -/
def marks (k n : Nat) : List Int := (List.range n).map (fun i => ((k + i : Nat) : Int))

theorem marks_len (k n : Nat) : (marks k n).length = n := by simp [marks]
theorem marks_at (k n j : Nat) (h : j < n) : (marks k n)[j]?.getD 0 = ((k + j : Nat) : Int) := by simp [marks, h]

theorem owns_parts {w : World} {b : Nat} {t : TypeId} {a : Option Addr} {n cap : Nat} {xs : List Value} (h : w.ownsRow b t 1 (.slice a n cap) n xs) :
    xs.length = n ∧ (n = 0 ∨ ∃ g, a = some ⟨g, 0, none⟩) := by
  refine ⟨by simpa using h.1, ?_⟩
  rcases h.2 with ⟨h', h0⟩ | ⟨g, cap', cur, h', _⟩
  · exact .inl h0
  · simp at h'; exact .inr ⟨g, h'.1⟩

set_option maxHeartbeats 400000 in
theorem mark_c (k b : Nat) (a : Option Addr) (n cap : Nat) (xs : List Value) (w : World) (hk : k ≤ 1048576) (hn : n ≤ 1048576) (hown : w.ownsRow b 2 1 (.slice a n cap) n xs) :
    Calls Try.prog 81 #[.slice a n cap, .int .i64 (k : Int)] w fun e w' => e = .returned (.int .i64 ((k + n : Nat) : Int)) ∧ w'.ownsRow b 2 1 (.slice a n cap) n ((marks k n).map (Value.int .i64)) ∧ w.grownBy w' (Value.slice a n cap).ownBlock := by
  obtain ⟨hxl, hcase⟩ := owns_parts hown
  have HO : Hid (w.ownsRow b 2 1 (.slice a n cap) n xs) := hown
  have HC : Hid (n = 0 ∨ ∃ g, a = some ⟨g, 0, none⟩) := hcase
  have HX : Hid (xs.length = n) := hxl
  clear hown hcase hxl
  have hn' : (n : Int) ≤ 1048576 := by omega
  have hk' : (k : Int) ≤ 1048576 := by omega
  go_enter Try.func81, Try.ntmps81
  go_wp2
  go_loopw [1, 5] (fun q i wr => ∃ (j : Nat) (ys : List Value), j ≤ n ∧ i = .int .i64 (j : Int) ∧ q = .int .i64 ((k + j : Nat) : Int) ∧ wr.ownsRow b 2 1 (.slice a n cap) n ys ∧ (∀ m, m < j → ys[m]? = some (.int .i64 ((k + m : Nat) : Int))) ∧ w.grownBy wr (Value.slice a n cap).ownBlock)
    (fun _ i _ => n - (intOf i).toNat)
  case atStart => exact ⟨0, xs, Nat.zero_le _, rfl, rfl, HO.out, fun m hm => by omega, ⟨rfl, rfl, rfl, Nat.le_refl _, fun _ _ _ => rfl⟩⟩
  case round =>
    obtain ⟨j, ys, hj, rfl, rfl, hown, hys, hgr⟩ := hrel
    by_cases hlt : j < n
    · obtain ⟨g, ha⟩ : ∃ g, a = some ⟨g, 0, none⟩ := by
        rcases HC.out with h | h
        · omega
        · exact h
      subst ha
      have hyl := (owns_parts hown).1
      obtain ⟨v0, hco⟩ : ∃ v0, wr.cell? ⟨g, j, none⟩ = some v0 := ⟨_, (hown.cellAt j (by omega)).trans (List.getElem?_eq_getElem (show j < ys.length by omega))⟩
      have hfo := hown.frozenAt j
      have hst := hown.stored j (.int .i64 ((k + j : Nat) : Int))
      have R : Hid ((wr.setCell ⟨g, j, none⟩ (.int .i64 ((k + j : Nat) : Int))).ownsRow b 2 1 (.slice (some ⟨g, 0, none⟩) n cap) n (ys.set j (.int .i64 ((k + j : Nat) : Int))) ∧ (∀ m, m < j + 1 → (ys.set j (.int .i64 ((k + j : Nat) : Int)))[m]? = some (.int .i64 ((k + m : Nat) : Int))) ∧ w.grownBy (wr.setCell ⟨g, j, none⟩ (.int .i64 ((k + j : Nat) : Int))) (some g)) := by
        refine ⟨hst.1, fun m hm => ?_, ⟨hst.2.os.trans hgr.os, hst.2.tape.trans hgr.tape, hst.2.output.trans hgr.output, Nat.le_trans hgr.size hst.2.size, fun q hq hne => (hst.2.block q (Nat.lt_of_lt_of_le hq hgr.size) hne).trans (hgr.block q hq hne)⟩⟩
        by_cases e : m = j
        · subst e; rw [List.getElem?_set_self (by omega)]
        · rw [List.getElem?_set_ne (by omega)]; exact hys m (by omega)
      clear hst hown hys hgr hyl
      have hlt' : (j : Int) < (n : Int) := by omega
      go_wp2
      rw [show ((k : Int) + (j : Int)) = ((k + j : Nat) : Int) from by omega]
      exact ⟨⟨j + 1, _, by omega, by go_num, by go_num, R.out.1, R.out.2.1, R.out.2.2⟩, by simp [intOf]; omega⟩
    · have hjn : j = n := by omega
      subst hjn
      have E : ys = (marks k j).map (Value.int .i64) := by
        apply List.ext_getElem?
        intro i
        have hyl := (owns_parts hown).1
        by_cases hi : i < j
        · rw [hys i hi]; simp [marks, hi]
        · rw [List.getElem?_eq_none (by omega), List.getElem?_eq_none (by simp [marks]; omega)]
      rw [E] at hown
      go_wp2
      go_ret
      exact ⟨rfl, hown, hgr⟩

set_option maxHeartbeats 400000 in
theorem held_c (k : Nat) (a : Option Addr) (n cap : Nat) (w : World) (hk : k ≤ 1048576) (hn : n ≤ 1048576) (hr : RowIn w a n (marks k n)) :
    Calls Try.prog 82 #[.slice a n cap, .int .i64 (k : Int)] w fun e w' => e = .returned (.int .i64 ((k + n : Nat) : Int)) ∧ w = w' := by
  have HR : Hid (RowIn w a n (marks k n)) := hr
  clear hr
  have hn' : (n : Int) ≤ 1048576 := by omega
  have hk' : (k : Int) ≤ 1048576 := by omega
  go_enter Try.func82, Try.ntmps82
  go_wp2
  go_loop [1, 5] (fun q i => ∃ (j : Nat), j ≤ n ∧ i = .int .i64 (j : Int) ∧ q = .int .i64 ((k + j : Nat) : Int)) (fun _ i => n - (intOf i).toNat)
  case atStart => exact ⟨0, Nat.zero_le _, rfl, rfl⟩
  case round =>
    obtain ⟨j, hj, rfl, rfl⟩ := hrel
    by_cases hlt : j < n
    · obtain ⟨g, off, ha, hc⟩ := HR.out.2 j hlt
      subst ha
      rw [marks_at k n j hlt, show ((k + j : Nat) : Int) = (k : Int) + (j : Int) from by omega] at hc
      have hlt' : (j : Int) < (n : Int) := by omega
      go_wp2
      exact ⟨⟨j + 1, by omega, by go_num, by go_num⟩, by simp [intOf]; omega⟩
    · have hjn : j = n := by omega
      subst hjn
      go_wp2
      go_ret
      exact ⟨rfl, rfl⟩

set_option maxHeartbeats 400000 in
theorem markInts_c (c : Int) (k b : Nat) (a : Option Addr) (n cap : Nat) (xs : List Value) (w : World) (hk : k ≤ 1048576) (hn : n ≤ 1048576) (hown : w.ownsRow b 2 1 (.slice a n cap) n xs) :
    Calls Try.prog 36 #[.agg #[.int .i64 c, .slice a n cap], .int .i64 (k : Int)] w fun e w' => e = .returned (.int .i64 ((k + n : Nat) : Int)) ∧ w'.ownsRow b 2 1 (.slice a n cap) n ((marks k n).map (Value.int .i64)) ∧ w.grownBy w' (Value.slice a n cap).ownBlock := by
  have HO : Hid ((w.alloc (.cells #[.int .i64 c, .slice a n cap] 55)).ownsRow b 2 1 (.slice a n cap) n xs) := hown.alloc _
  clear hown
  go_enter Try.func36, Try.ntmps36
  go_wp2_with (go_at_call 81; refine (mark_c k b a n cap xs _ hk hn HO.out).mono ?_; rintro e w1 ⟨rfl, hown1, hg1⟩)
  go_ret
  refine ⟨rfl, hown1, ⟨hg1.os, hg1.tape, hg1.output, ?_, fun q hq hne => ?_⟩⟩
  · have := hg1.size; simp at this; omega
  · exact (hg1.block q (by simp; omega) hne).trans (Below.heap_alloc _ _ _ hq)

set_option maxHeartbeats 400000 in
theorem heldInts_c (c : Int) (k : Nat) (a : Option Addr) (n cap : Nat) (w : World) (hk : k ≤ 1048576) (hn : n ≤ 1048576) (hr : RowIn w a n (marks k n)) :
    Calls Try.prog 37 #[.agg #[.int .i64 c, .slice a n cap], .int .i64 (k : Int)] w fun e w' => e = .returned (.int .i64 ((k + n : Nat) : Int)) ∧ Below w.heap.size w w' := by
  have HR : Hid (RowIn (w.alloc (.cells #[.int .i64 c, .slice a n cap] 55)) a n (marks k n)) := hr.below ((Below.refl _ _).alloc (Nat.le_refl _) _)
  clear hr
  have hkn : decide (((k + n : Nat) : Int) < 0) = false := by simp; omega
  go_enter Try.func37, Try.ntmps37
  go_wp2_with (go_at_call 82; refine (held_c k a n cap _ hk hn HR.out).mono ?_; rintro e w1 ⟨rfl, rfl⟩)
  go_ret
  exact ⟨by rw [show ((k + n : Nat) : Int) = (k : Int) + (n : Int) from by omega]; rfl, (Below.refl _ _).alloc (Nat.le_refl _) _⟩

theorem mark1 (c : Int) (b : Nat) (a : Option Addr) (n cap : Nat) (xs : List Value) (w : World) (hn : n ≤ 1048576) (hown : w.ownsRow b 2 1 (.slice a n cap) n xs) :
    Calls Try.prog 36 #[.agg #[.int .i64 c, .slice a n cap], .int .i64 1] w fun e w' => e = .returned (.int .i64 (1 + (n : Int))) ∧ w'.ownsRow b 2 1 (.slice a n cap) n ((marks 1 n).map (Value.int .i64)) ∧ w.grownBy w' (Value.slice a n cap).ownBlock :=
  (markInts_c c 1 b a n cap xs w (by omega) hn hown).mono fun e w' h => ⟨h.1.trans (by rw [show ((1 + n : Nat) : Int) = 1 + (n : Int) from by omega]), h.2⟩

theorem held1 (c : Int) (a : Option Addr) (n cap : Nat) (w : World) (hn : n ≤ 1048576) (hr : RowIn w a n (marks 1 n)) :
    Calls Try.prog 37 #[.agg #[.int .i64 c, .slice a n cap], .int .i64 1] w fun e w' => e = .returned (.int .i64 (1 + (n : Int))) ∧ Below w.heap.size w w' :=
  (heldInts_c c 1 a n cap w (by omega) hn hr).mono fun e w' h => ⟨h.1.trans (by rw [show ((1 + n : Nat) : Int) = 1 + (n : Int) from by omega]), h.2⟩

theorem row_of_owns {w : World} {b : Nat} {a : Option Addr} {n cap : Nat} {zs : List Int} (h : w.ownsRow b 2 1 (.slice a n cap) n (zs.map (Value.int .i64))) : RowIn w a n zs := by
  obtain ⟨hl, hc⟩ := owns_parts h
  simp at hl
  refine ⟨by omega, fun k hk => ?_⟩
  rcases hc with h0 | ⟨g, rfl⟩
  · omega
  · refine ⟨g, 0, rfl, ?_⟩
    rw [Nat.zero_add, h.cellAt k (by omega)]
    simp [List.getElem?_eq_getElem (show k < zs.length by omega)]

/-- A row that another block's writes leave. -/
theorem RowIn.kept {w w' : World} {a : Option Addr} {n : Nat} {zs : List Int} {row : Option Nat} (h : RowIn w a n zs) (hg : w.grownBy w' row) (hne : ∀ g off, a = some ⟨g, off, none⟩ → some g ≠ row) : RowIn w' a n zs := by
  refine ⟨h.1, fun k hk => ?_⟩
  obtain ⟨g, off, e, hc⟩ := h.2 k hk
  exact ⟨g, off, e, hg.cell hc (hne g off e)⟩

theorem owns_block {w : World} {b : Nat} {a : Option Addr} {n cap : Nat} {xs : List Value} (h : w.ownsRow b 2 1 (.slice a n cap) n xs) : ∀ g off, a = some ⟨g, off, none⟩ → b ≤ g ∧ g < w.heap.size := by
  intro g off e
  subst e
  exact h.lt g rfl

theorem owns_below {w w' : World} {b : Nat} {v : Value} {n : Nat} {xs : List Value} (h : w.ownsRow b 2 1 v n xs) (hb : Below w.heap.size w w') : w'.ownsRow b 2 1 v n xs :=
  h.kept (row := none) ⟨hb.os, hb.tape, hb.output, hb.size, fun k hk _ => hb.block k hk⟩ (by rcases h.2 with ⟨rfl, _⟩ | ⟨g, cap, cur, rfl, _⟩; exact .inl rfl; exact .inr (by simp [Value.ownBlock]))

end Go.Proofs.Ytocdclgolhhckaa

namespace Go.Proofs.Ytocdclgolhhckaa
open Go.RowKit
set_option linter.unusedVariables false
set_option linter.unusedSimpArgs false

theorem owns_lower1 {w : World} {B B' : Nat} {v : Value} {n : Nat} {xs : List Value} (h : w.ownsRow B 2 1 v n xs) (hb : B' ≤ B) : w.ownsRow B' 2 1 v n xs := by
  refine ⟨h.1, ?_⟩
  rcases h.2 with h' | ⟨g, cap, cur, e, hg, rest⟩
  · exact .inl h'
  · exact .inr ⟨g, cap, cur, e, Nat.le_trans hb hg, rest⟩

theorem owns_box1 {w : World} {B b0 : Nat} {v x y : Value} {n : Nat} {xs : List Value} (h : w.ownsRow B 2 1 v n xs) (hB : b0 < B) : ((w.setCell ⟨b0, 0, none⟩ x).setCell ⟨b0, 1, none⟩ y).ownsRow b0 2 1 v n xs := by
  have h6 := owns_lower1 h (show b0 + 1 ≤ B by omega)
  have h7 := ownsRow_setCell_below (ownsRow_setCell_below h6 (a := ⟨b0, 0, none⟩) (by simp) x) (a := ⟨b0, 1, none⟩) (by simp) y
  exact owns_lower1 h7 (by omega)

set_option maxRecDepth 100000 in
set_option maxHeartbeats 2000000 in
theorem implProof_bad (a : Option Addr) (n cap : Nat) (zs : List RuleI) (r : RoI) (p c d : Int) (w : World) (hn : n ≤ 1048576) (hcap : n ≤ cap) (hcm : cap ≤ maxLen) (h : RulesIn w a n zs) (hc : memCode zs r = c) (hd : (c ≠ 0 ∧ d = c) ∨ (c = 0 ∧ prinB p = false ∧ d = 3)) : GivesP 34 a n cap r p d [] w := by
  obtain ⟨W, hW⟩ : ∃ W, W = (w.alloc (.cells #[.int .i64 r.1, .int .i64 r.2] 31)).alloc (.cells #[.int .i64 0, .slice none 0 0] 55) := ⟨_, rfl⟩
  have hs : W.heap.size = w.heap.size + 2 := by rw [hW]; simp
  have B0 : Below w.heap.size w W := by rw [hW]; exact ((Below.refl _ _).alloc (Nat.le_refl _) _).alloc (by simp) _
  have r0 : W.cell? ⟨w.heap.size, 0, none⟩ = some (.int .i64 r.1) := by rw [hW]; simp
  have r1 : W.cell? ⟨w.heap.size, 1, none⟩ = some (.int .i64 r.2) := by rw [hW]; simp
  have c0 : W.cell? ⟨w.heap.size + 1, 0, none⟩ = some (.int .i64 0) := by rw [hW]; simp
  have c1 : W.cell? ⟨w.heap.size + 1, 1, none⟩ = some (.slice none 0 0) := by rw [hW]; simp
  have f0 : ∀ j, W.frozen? ⟨w.heap.size + 1, j, none⟩ = false := fun j => by rw [hW]; simp [go_sem]
  have HP : Hid (∀ w2 : World, (∀ b o, b < W.heap.size → w2.cell? ⟨b, o, none⟩ = W.cell? ⟨b, o, none⟩) ∧ Below W.heap.size W w2 → Calls Try.prog 59 #[.slice a n cap] w2 fun e w' => e = .returned (.int .i64 (polCode zs)) ∧ Below w2.heap.size w2 w') := fun w2 q => implPolicyFault_c a n cap zs w2 hn hcap hcm (h.below (B0.trans (q.2.mono (by omega))))
  have HC : Hid (orC (polCode zs) (roleCode r.1 r.2) = c) := hc
  clear h hc
  generalize polCode zs = pc at HP HC
  generalize hq : roleCode r.1 r.2 = q at HC
  rcases hd with ⟨h0, rfl⟩ | ⟨rfl, hp, rfl⟩
  · have hcn : (d != 0) = true := by simpa using h0
    unfold GivesP
    go_enter Try.func34, Try.ntmps34
    go_wp2
    rw [← hW]
    clear hW
    go_region_held3 (fun w' => (∀ b o, b < W.heap.size → w'.cell? ⟨b, o, none⟩ = W.cell? ⟨b, o, none⟩) ∧ Below W.heap.size W w') (first | exact hS | exact kp_drew _ | exact kp_new (by assumption) _)
      (first | (go_at_call 59; refine (HP.out _ (by assumption)).mono ?_; rintro e w' ⟨rfl, hb2⟩; have hS := kp_step (by assumption) hb2) | (go_at_call 60; refine (implRoleFault_c _ _ _).mono ?_; rintro e w' ⟨rfl, hb2⟩; rw [hq]; have hS := kp_step (by assumption) hb2) | (go_at_call 58; refine (or64_c _ pc q _ ?_ ?_).mono ?_; (· simp [go_sem]); (· simp [go_sem]); rintro e w' ⟨rfl, rfl⟩))
    all_goals
      have hS3 := kp_new hS (.cells #[.int .i64 pc, .int .i64 q] 2)
      rw [HC.out]
      generalize w'.alloc (.cells #[.int .i64 pc, .int .i64 q] 2) = w3 at hS3 ⊢
      have hz3 := hS3.2.size
      have hw : w.heap.size + 1 < w3.heap.size := by omega
      have d0 := (hS3.1 (w.heap.size + 1) 0 (by omega)).trans c0
      have d1 := (hS3.1 (w.heap.size + 1) 1 (by omega)).trans c1
      have g0 : w3.frozen? ⟨w.heap.size + 1, 0, none⟩ = false := (hS3.2.frozen (p := ⟨w.heap.size + 1, 0, none⟩) (by show w.heap.size + 1 < W.heap.size; omega)).trans (f0 0)
      have g1 : w3.frozen? ⟨w.heap.size + 1, 1, none⟩ = false := (hS3.2.frozen (p := ⟨w.heap.size + 1, 1, none⟩) (by show w.heap.size + 1 < W.heap.size; omega)).trans (f0 1)
      have hBx : Below w.heap.size w w3 := B0.trans (hS3.2.mono (by omega))
      go_wp2
      refine bodyPost_ret (v := .agg #[.int .i64 d, .slice none 0 0]) (by simp [results, Try.results34, go_sem, d0, d1, hw]) rfl ⟨none, 0, rfl, World.ownsRow_nil _ _ _ _, ?_⟩
      exact hBx |>.setCell (by simp) _ |>.setCell (by simp) _
  · unfold GivesP
    go_enter Try.func34, Try.ntmps34
    go_wp2
    rw [← hW]
    clear hW
    go_region_held3 (fun w' => (∀ b o, b < W.heap.size → w'.cell? ⟨b, o, none⟩ = W.cell? ⟨b, o, none⟩) ∧ Below W.heap.size W w') (first | exact hS | exact kp_drew _ | exact kp_new (by assumption) _)
      (first | (go_at_call 59; refine (HP.out _ (by assumption)).mono ?_; rintro e w' ⟨rfl, hb2⟩; have hS := kp_step (by assumption) hb2) | (go_at_call 60; refine (implRoleFault_c _ _ _).mono ?_; rintro e w' ⟨rfl, hb2⟩; rw [hq]; have hS := kp_step (by assumption) hb2) | (go_at_call 58; refine (or64_c _ pc q _ ?_ ?_).mono ?_; (· simp [go_sem]); (· simp [go_sem]); rintro e w' ⟨rfl, rfl⟩))
    all_goals
      have hS3 := kp_new hS (.cells #[.int .i64 pc, .int .i64 q] 2)
      rw [HC.out]
      generalize w'.alloc (.cells #[.int .i64 pc, .int .i64 q] 2) = w3 at hS3 ⊢
      have hz3 := hS3.2.size
      have hw : w.heap.size + 1 < w3.heap.size := by omega
      have d0 := (hS3.1 (w.heap.size + 1) 0 (by omega)).trans c0
      have d1 := (hS3.1 (w.heap.size + 1) 1 (by omega)).trans c1
      have g0 : w3.frozen? ⟨w.heap.size + 1, 0, none⟩ = false := (hS3.2.frozen (p := ⟨w.heap.size + 1, 0, none⟩) (by show w.heap.size + 1 < W.heap.size; omega)).trans (f0 0)
      have g1 : w3.frozen? ⟨w.heap.size + 1, 1, none⟩ = false := (hS3.2.frozen (p := ⟨w.heap.size + 1, 1, none⟩) (by show w.heap.size + 1 < W.heap.size; omega)).trans (f0 1)
      have hBx : Below w.heap.size w w3 := B0.trans (hS3.2.mono (by omega))
      go_wp2_with (first | (go_at_call 77; refine (isPrin_c p _).mono ?_; rintro e w' ⟨rfl, rfl⟩; rw [hp]) | fail)
      refine bodyPost_ret (v := .agg #[.int .i64 3, .slice none 0 0]) (by simp [results, Try.results34, go_sem, d0, d1, hw]) rfl ⟨none, 0, rfl, World.ownsRow_nil _ _ _ _, ?_⟩
      exact hBx |>.setCell (by simp) _ |>.setCell (by simp) _

set_option maxRecDepth 100000 in
set_option maxHeartbeats 2000000 in
theorem implProof_ok (a : Option Addr) (n cap : Nat) (zs : List RuleI) (r : RoI) (p d : Int) (ls : List Int) (w : World) (hcap : n ≤ cap) (hcm : cap ≤ maxLen) (h : RulesIn w a n zs) (hc : polCode zs = 0) (hr : roleB r.1 r.2 = true) (hp : prinB p = true)
    (HA : Hid (∀ k : Nat, (∀ j, j < k → noneHit zs (ofG (itG zs j)) r p) → (∀ x : Int, ¬ noneHit zs (ofG (itG zs k)) r p → hitAt (ofG (itG zs k)) r p zs 0 = x → d = 0 ∧ ls = [(k : Int) + 1, x]) ∧ (noneHit zs (ofG (itG zs k)) r p → stepG zs (itG zs k) = itG zs k → d = 4 ∧ ls = []))) :
    GivesP 34 a n cap r p d ls w := by
  have hn : n ≤ 16 := pol_n16 h.1 hc
  have hp' : 1 ≤ p ∧ p ≤ 8 := by simpa [prinB] using hp
  obtain ⟨W, hW⟩ : ∃ W, W = (w.alloc (.cells #[.int .i64 r.1, .int .i64 r.2] 31)).alloc (.cells #[.int .i64 0, .slice none 0 0] 55) := ⟨_, rfl⟩
  have hs : W.heap.size = w.heap.size + 2 := by rw [hW]; simp
  have B0 : Below w.heap.size w W := by rw [hW]; exact ((Below.refl _ _).alloc (Nat.le_refl _) _).alloc (by simp) _
  have r0 : W.cell? ⟨w.heap.size, 0, none⟩ = some (.int .i64 r.1) := by rw [hW]; simp
  have r1 : W.cell? ⟨w.heap.size, 1, none⟩ = some (.int .i64 r.2) := by rw [hW]; simp
  have c0 : W.cell? ⟨w.heap.size + 1, 0, none⟩ = some (.int .i64 0) := by rw [hW]; simp
  have c1 : W.cell? ⟨w.heap.size + 1, 1, none⟩ = some (.slice none 0 0) := by rw [hW]; simp
  have f0 : ∀ j, W.frozen? ⟨w.heap.size + 1, j, none⟩ = false := fun j => by rw [hW]; simp [go_sem]
  have HP : Hid (∀ w2 : World, (∀ b o, b < W.heap.size → w2.cell? ⟨b, o, none⟩ = W.cell? ⟨b, o, none⟩) ∧ Below W.heap.size W w2 → Calls Try.prog 59 #[.slice a n cap] w2 fun e w' => e = .returned (.int .i64 0) ∧ Below w2.heap.size w2 w') := fun w2 q => by have := implPolicyFault_c a n cap zs w2 (by omega) hcap hcm (h.below (B0.trans (q.2.mono (by omega)))); rwa [hc] at this
  have HT : Hid (∀ w2 : World, Below W.heap.size W w2 → Calls Try.prog 78 #[.slice a n cap, .agg #[.int .i64 r.1, .int .i64 r.2], .int .u8 (bitI p)] w2 fun e w' => ∃ (a' : Option Addr) (cap' : Nat), e = .returned (.agg #[.int .i64 d, .slice a' ls.length cap']) ∧ w'.ownsRow W.heap.size 2 1 (.slice a' ls.length cap') ls.length (ls.map (Value.int .i64)) ∧ Below W.heap.size W w') := fun w2 q => by
    refine (proofOf_c eqMaps_c a n cap zs r p d ls w2 (h.below (B0.trans (q.mono (by omega)))) hn (fun z hz => ?_) hp'.1 hp'.2 HA).mono ?_
    · obtain ⟨j, hj⟩ := List.mem_iff_getElem?.1 hz
      have hc2 := hc
      unfold polCode at hc2
      split at hc2
      · cases hc2
      · have hjl : j < zs.length := by
          by_cases q : j < zs.length
          · exact q
          · rw [List.getElem?_eq_none (by omega)] at hj; cases hj
        exact polTo_all _ hc2 j z hjl hj
    · rintro e w' ⟨a', cap', rfl, ho, hb⟩
      exact ⟨a', cap', rfl, owns_lower1 ho q.size, q.trans (hb.mono q.size)⟩
  have hq : roleCode r.1 r.2 = 0 := by simp [roleCode, hr]
  clear h hc HA
  unfold GivesP
  go_enter Try.func34, Try.ntmps34
  go_wp2
  rw [← hW]
  clear hW
  go_region_held3 (fun w' => (∀ b o, b < W.heap.size → w'.cell? ⟨b, o, none⟩ = W.cell? ⟨b, o, none⟩) ∧ Below W.heap.size W w') (first | exact hS | exact kp_drew _ | exact kp_new (by assumption) _)
    (first | (go_at_call 59; refine (HP.out _ (by assumption)).mono ?_; rintro e w' ⟨rfl, hb2⟩; have hS := kp_step (by assumption) hb2) | (go_at_call 60; refine (implRoleFault_c _ _ _).mono ?_; rintro e w' ⟨rfl, hb2⟩; rw [hq]; have hS := kp_step (by assumption) hb2) | (go_at_call 58; refine (or64_c _ 0 0 _ ?_ ?_).mono ?_; (· simp [go_sem]); (· simp [go_sem]); rintro e w' ⟨rfl, rfl⟩))
  all_goals
    have hS3 := kp_new hS (.cells #[.int .i64 0, .int .i64 0] 2)
    rw [show orC 0 0 = 0 from rfl]
    generalize w'.alloc (.cells #[.int .i64 0, .int .i64 0] 2) = w3 at hS3 ⊢
    have hz3 := hS3.2.size
    have q0 := (hS3.1 w.heap.size 0 (by omega)).trans r0
    have q1 := (hS3.1 w.heap.size 1 (by omega)).trans r1
    have hlz : w.heap.size < w3.heap.size := by omega
    go_wp2_with (first | (go_at_call 77; refine (isPrin_c p _).mono ?_; rintro e w' ⟨rfl, rfl⟩; rw [hp]) | fail)
    go_region_with (first | (go_at_call 79; refine (bitOf_c p hp'.1 hp'.2 _).mono ?_; rintro e wb ⟨rfl, rfl⟩) | (go_at_call 78; refine (HT.out _ (by first | exact hS3.2 | exact hS3.2.drew)).mono ?_; rintro e w4 ⟨a', cap', rfl, hown, hb4⟩; have d0 := (hb4.cell (p := ⟨w.heap.size + 1, 0, none⟩) (by show w.heap.size + 1 < W.heap.size; omega)).trans c0; have d1 := (hb4.cell (p := ⟨w.heap.size + 1, 1, none⟩) (by show w.heap.size + 1 < W.heap.size; omega)).trans c1; have g0 := (hb4.frozen (p := ⟨w.heap.size + 1, 0, none⟩) (by show w.heap.size + 1 < W.heap.size; omega)).trans (f0 0); have g1 := (hb4.frozen (p := ⟨w.heap.size + 1, 1, none⟩) (by show w.heap.size + 1 < W.heap.size; omega)).trans (f0 1); have hz4 := hb4.size))
  all_goals
    have hw : w.heap.size + 1 < w4.heap.size := by omega
    have hBx : Below w.heap.size w w4 := B0.trans (hb4.mono (by omega))
    have HO : Hid (w4.ownsRow (w.heap.size + 2) 2 1 (.slice a' ls.length cap') ls.length (ls.map (Value.int .i64))) := by rw [← hs]; exact hown
    clear hown
    go_wp2
    refine bodyPost_ret (v := .agg #[.int .i64 d, .slice a' ls.length cap']) (by simp [results, Try.results34, go_sem, d0, d1, hw]) rfl ⟨a', cap', rfl, ?_, ?_⟩
    · exact owns_lower1 (owns_box1 HO.out (by omega)) (by omega)
    · exact hBx |>.setCell (by simp) _ |>.setCell (by simp) _

theorem proof_both (zs : List RuleI) (r : RoI) (p : Int) (n : Nat) (hn : n ≤ 1048576) (hz : zs.length = n) : ∃ (c : Int) (ls : List Int), ls.length ≤ 2 ∧
    (∀ (g : Nat) (w : World), RulesAt w g 0 zs → GivesP 33 (some ⟨g, 0, none⟩) n n r p c ls w) ∧
    (∀ (g : Nat) (w : World), RulesAt w g 0 zs → GivesP 34 (some ⟨g, 0, none⟩) n n r p c ls w) := by
  have hm : n ≤ maxLen := by unfold maxLen; omega
  by_cases hc : polCode zs = 0
  · cases hr : roleB r.1 r.2
    · have e : memCode zs r = 3 := by simp [memCode, orC, hc, roleCode, hr]
      exact ⟨3, [], by simp, fun g w h => specProof_bad _ _ _ _ _ 3 0 3 _ (.inl ⟨by decide, rfl⟩) (fun w' hb => specMembersOf_role _ _ _ _ _ _ hn ((RulesIn.of hz h).below hb) hc hr), fun g w h => implProof_bad _ _ _ _ _ _ _ _ _ hn (Nat.le_refl _) hm (RulesIn.of hz h) e (.inl ⟨by decide, rfl⟩)⟩
    · obtain ⟨gs, hg⟩ := all_some zs hc
      have e : memCode zs r = 0 := by simp [memCode, orC, hc, roleCode, hr]
      have hok := (pol_ok hc).2
      have hok1 : ∀ z ∈ zs, okR z := fun z q => (hok z q).1
      have hS : ∀ (g : Nat) (w : World), RulesAt w g 0 zs → ∀ w', Below w.heap.size w w' → GivesI 13 (some ⟨g, 0, none⟩) n n r 0 (ofG gs r) w' := fun g w h w' hb => specMembersOf_ok _ _ _ _ _ _ _ ((RulesIn.of hz h).below hb) hc hr hg
      cases hp : prinB p
      · exact ⟨3, [], by simp, fun g w h => specProof_bad _ _ _ _ _ 0 (ofG gs r) 3 _ (.inr (.inl ⟨rfl, hp, rfl⟩)) (hS g w h), fun g w h => implProof_bad _ _ _ _ _ _ 0 _ _ hn (Nat.le_refl _) hm (RulesIn.of hz h) e (.inr ⟨rfl, hp, rfl⟩)⟩
      · have hp' : 1 ≤ p ∧ p ≤ 8 := by simpa [prinB] using hp
        cases hh : hasI (ofG gs r) p
        · have hnot : ¬ Has zs r p := fun q => by
            have := (hg.al r p hp'.1 hp'.2).2 q
            rw [hh] at this; cases this
          refine ⟨4, [], by simp, fun g w h => specProof_bad _ _ _ _ _ 0 (ofG gs r) 4 _ (.inr (.inr ⟨rfl, hp, ofG_set hg.sg r, hh, rfl⟩)) (hS g w h), fun g w h => implProof_ok _ _ _ zs _ _ _ _ _ (Nat.le_refl _) hm (RulesIn.of hz h) hc hr hp ?_⟩
          exact fun k hk => ⟨fun x hx _ => absurd (none_of_not hok1 hnot k) hx, fun _ _ => ⟨rfl, rfl⟩⟩
        · have hHas := (hg.al r p hp'.1 hp'.2).1 hh
          obtain ⟨N, hN, h1, h2⟩ := first_few hok1 hHas
          refine ⟨0, [(N : Int) + 1, hitAt (ofG (itG zs N)) r p zs 0], by simp, fun g w h => specProof_ok _ _ _ zs _ _ _ N _ (RulesIn.of hz h) (pol_n16 hz hc) hok hp (ofG_set hg.sg r) hh hN h1 h2 (hS g w h), fun g w h => implProof_ok _ _ _ zs _ _ _ _ _ (Nat.le_refl _) hm (RulesIn.of hz h) hc hr hp ?_⟩
          refine fun k hk => ⟨fun x hx ex => ?_, fun hx hst => ?_⟩
          · have : k = N := by
              by_cases q : k < N
              · exact absurd (h2 k q) hx
              · by_cases q2 : N < k
                · exact absurd (hk N q2) h1
                · omega
            subst this
            exact ⟨rfl, by rw [ex]⟩
          · exfalso
            refine not_of_still hok1 hp'.1 hp'.2 (n := k) (fun j hj => ?_) hst hHas
            by_cases q : j = k
            · subst q; exact hx
            · exact hk j (by omega)
  · have e : memCode zs r = polCode zs := by simp [memCode, orC, hc]
    exact ⟨polCode zs, [], by simp, fun g w h => specProof_bad _ _ _ _ _ (polCode zs) 0 _ _ (.inl ⟨hc, rfl⟩) (fun w' hb => specMembersOf_pol _ _ _ _ _ _ _ hn ((RulesIn.of hz h).below hb) rfl hc), fun g w h => implProof_bad _ _ _ _ _ _ _ _ _ hn (Nat.le_refl _) hm (RulesIn.of hz h) e (.inl ⟨hc, rfl⟩)⟩

end Go.Proofs.Ytocdclgolhhckaa

namespace Go.Proofs.Ytocdclgolhhckaa
open Go.RowKit
set_option linter.unusedVariables false
set_option linter.unusedSimpArgs false

theorem at_cast {w : World} {g g' : Nat} {zs : List RuleI} (h : RulesAt w g 0 zs) (e : g = g') : RulesAt w g' 0 zs := e ▸ h

/-- An empty box of a number and a list. -/
def BoxI (w : World) (B : Nat) : Prop := w.cell? ⟨B, 0, none⟩ = some (.int .i64 0) ∧ w.cell? ⟨B, 1, none⟩ = some (.slice none 0 0) ∧ w.frozen? ⟨B, 0, none⟩ = false ∧ w.frozen? ⟨B, 1, none⟩ = false
theorem BoxI.lt {w : World} {B : Nat} (h : BoxI w B) : B < w.heap.size := World.block_lt_of_cell? w ⟨B, 0, none⟩ h.1
theorem BoxI.new (X : World) : BoxI (X.alloc (.cells #[.int .i64 0, .slice none 0 0] 55)) X.heap.size := ⟨by simp, by simp, by simp [go_sem], by simp [go_sem]⟩
theorem BoxI.newD (X : World) : BoxI (X.drew.alloc (.cells #[.int .i64 0, .slice none 0 0] 55)) X.heap.size := BoxI.new X.drew
theorem BoxI.below {w w' : World} {B : Nat} (h : BoxI w B) (hb : Below w.heap.size w w') : BoxI w' B := by
  have hl : B < w.heap.size := h.lt
  exact ⟨(hb.cell (p := ⟨B, 0, none⟩) hl).trans h.1, (hb.cell (p := ⟨B, 1, none⟩) hl).trans h.2.1, (hb.frozen (p := ⟨B, 0, none⟩) hl).trans h.2.2.1, (hb.frozen (p := ⟨B, 1, none⟩) hl).trans h.2.2.2⟩
theorem BoxI.put {w : World} {B : Nat} (h : BoxI w B) (c : Int) (v : Value) : Box2 ((w.setCell ⟨B, 0, none⟩ (.int .i64 c)).setCell ⟨B, 1, none⟩ v) B (.int .i64 c) v := by
  obtain ⟨h0, h1, _, _⟩ := h
  exact ⟨by simp [go_sem, h0], by simp [go_sem, h1]⟩

/-- A row that a box's two stores leave. -/
def RowB (w : World) (B : Nat) (a : Option Addr) (ls : List Int) : Prop := ∀ x y, RowIn ((w.setCell ⟨B, 0, none⟩ x).setCell ⟨B, 1, none⟩ y) a ls.length ls
theorem row_box {w : World} {Bs B : Nat} {a : Option Addr} {cap : Nat} {ls : List Int} (h : w.ownsRow Bs 2 1 (.slice a ls.length cap) ls.length (ls.map (Value.int .i64))) (hB : B < Bs) : RowB w B a ls := fun x y =>
  row_of_owns (owns_box1 h hB)

/-- What a drawn statement 'x := F(..)' leaves: a box with the result, its row; what lay is as it was. -/
def Res1 (c : Int) (ls : List Int) (W : World) (s : Value) (wx : World) : Prop := ∃ (B : Nat) (a1 : Option Addr) (cap1 : Nat), s = .pointer (some ⟨B, 0, none⟩) ∧ Box2 wx B (.int .i64 c) (.slice a1 ls.length cap1) ∧ RowIn wx a1 ls.length ls ∧ Below W.heap.size W wx

theorem RowIn.kept0 {w w' : World} {a : Option Addr} {n N : Nat} {zs : List Int} {row : Option Nat} (h : RowIn w a n zs) (hg : w.grownBy w' row) (hrow : ∀ q, row = some q → N ≤ q) (hN : ∀ g off, a = some ⟨g, off, none⟩ → n = 0 ∨ g < N) : RowIn w' a n zs := by
  refine ⟨h.1, fun k hk => ?_⟩
  obtain ⟨g, off, e, hc⟩ := h.2 k hk
  refine ⟨g, off, e, hg.cell hc (fun q => ?_)⟩
  have := hrow g q.symm
  have := hN g off e
  omega

theorem row_lt {w : World} {a : Option Addr} {n : Nat} {zs : List Int} (h : RowIn w a n zs) : ∀ g off, a = some ⟨g, off, none⟩ → n = 0 ∨ g < w.heap.size := by
  intro g off e
  by_cases h0 : n = 0
  · exact .inl h0
  · obtain ⟨g', off', e', hc⟩ := h.2 0 (by omega)
    rw [e] at e'
    cases e'
    exact .inr (World.block_lt_of_cell? w _ hc)

theorem owns_kept1 {W W' : World} {B q : Nat} {a : Option Addr} {n cap : Nat} {xs : List Value} (h : W.ownsRow B 2 1 (.slice a n cap) n xs) (hg : W.grownBy W' (some q)) (hq : q < B) : W'.ownsRow B 2 1 (.slice a n cap) n xs := by
  refine h.kept hg ?_
  rcases h.2 with ⟨e, _⟩ | ⟨g, cap', cur, e, hB, _⟩
  · exact .inl (by rw [e]; rfl)
  · simp at e
    obtain ⟨rfl, _⟩ := e
    exact .inr (by simp [Value.ownBlock]; omega)

/-- What the law keeps: its rules, and the first result in its box. -/
structure SP (w : World) (a0 : Option Addr) (len : Nat) (zs : List RuleI) (r : RoI) (R B1 : Nat) (c : Int) (a1 : Option Addr) (cap1 : Nat) (ls : List Int) (W : World) : Prop where
  bl : Below w.heap.size w W
  ru : RulesIn W a0 len zs
  ro : Box2 W R (.int .i64 r.1) (.int .i64 r.2)
  bx : Box2 W B1 (.int .i64 c) (.slice a1 ls.length cap1)
  vw : RowIn W a1 ls.length ls

theorem SP.below {w : World} {a0 : Option Addr} {len : Nat} {zs : List RuleI} {r : RoI} {R B1 : Nat} {c : Int} {a1 : Option Addr} {cap1 : Nat} {ls : List Int} {W W' : World} (h : SP w a0 len zs r R B1 c a1 cap1 ls W) (hb : Below W.heap.size W W') : SP w a0 len zs r R B1 c a1 cap1 ls W' :=
  ⟨h.bl.trans (hb.mono h.bl.size), h.ru.below hb, h.ro.below hb, h.bx.below hb, h.vw.below hb⟩

theorem SP.grown {w : World} {a0 : Option Addr} {len : Nat} {zs : List RuleI} {r : RoI} {R B1 : Nat} {c : Int} {a1 : Option Addr} {cap1 : Nat} {ls : List Int} {W W' : World} {row : Option Nat} (N : Nat) (h : SP w a0 len zs r R B1 c a1 cap1 ls W) (hg : W.grownBy W' row)
    (hlr : ∀ b off, a0 = some ⟨b, off, none⟩ → len = 0 ∨ b < w.heap.size) (hrow : ∀ q, row = some q → N ≤ q) (hN : w.heap.size ≤ N) (hR : R < N) (hB : B1 < N) (hV : ∀ g off, a1 = some ⟨g, off, none⟩ → ls.length = 0 ∨ g < N) : SP w a0 len zs r R B1 c a1 cap1 ls W' :=
  ⟨h.bl.grown hg h.bl.size (fun q e => by have := hrow q e; omega), rulesIn_kept h.ru hg hlr (fun q e => by have := hrow q e; omega), h.ro.grown hg (fun e => by have := hrow _ e.symm; omega),
    h.bx.grown hg (fun e => by have := hrow _ e.symm; omega), h.vw.kept0 hg hrow hV⟩

end Go.Proofs.Ytocdclgolhhckaa
