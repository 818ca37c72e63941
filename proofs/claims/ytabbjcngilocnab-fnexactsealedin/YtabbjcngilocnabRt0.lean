/-
  CONTRACTS: SealedIn of both programs; a replica measured.
  Conditions: each contract bears its own.
-/
import Derived.Test.YtabbjcngilocnabRs0
namespace Go.Proofs.Ytabbjcngilocnab
open Go.RowKit
set_option linter.unusedVariables false
set_option linter.unusedSimpArgs false

theorem idx_seal {said : List StI} {k e i : Int} (h : SaidIdx said k e i) : decide (0 ≤ i) = kindB said k e := by
  rw [kindB_at]
  rcases h with ⟨rfl, q⟩ | ⟨j, x, rfl, _, q⟩
  · rw [q]; rfl
  · rw [q]; simp

set_option maxRecDepth 20000 in
set_option maxHeartbeats 1000000 in
theorem isSealed_c (a : Option Addr) (n cap : Nat) (said : List StI) (e : Int) (w : World) (hn : n ≤ 1048576) (h : StIn w a n said) :
    Calls Try.prog 14 #[.slice a n cap, .int .i64 e] w fun d w' => d = .returned (.bool (sealB said e)) ∧ Below w.heap.size w w' := by
  have HK : Hid (∀ (k : Int) (w2 : World), Below w.heap.size w w2 → Calls Try.prog 20 #[.slice a n cap, .int .i64 k, .int .i64 e] w2 fun d w' => (∃ i : Int, d = .returned (.int .i64 i) ∧ SaidIdx said k e i) ∧ Below w2.heap.size w2 w') := fun k w2 hb => saidOf_c a n cap said k e w2 hn (h.below hb)
  clear h
  unfold sealB
  cases q : kindB said 3 e
  · have HQ : Hid (kindB said 3 e = false) := q
    clear q
    obtain ⟨t, ht⟩ : ∃ t, kindB said 4 e = t := ⟨_, rfl⟩
    have HT : Hid (kindB said 4 e = t) := ht
    rw [ht, Bool.false_or]
    clear ht
    go_enter Try.func14, Try.ntmps14
    go_wp2_with fail
    refine (HK.out 3 _ (Below.refl _ _)).mono ?_
    rintro d w1 ⟨⟨i, rfl, hi⟩, hb1⟩
    have h1 := idx_seal hi
    rw [HQ.out] at h1
    clear hi
    go_wp2_with fail
    refine (HK.out 4 _ hb1).mono ?_
    rintro d w2 ⟨⟨i2, rfl, hi2⟩, hb2⟩
    have h2 := idx_seal hi2
    rw [HT.out] at h2
    have H2 : Hid (decide (0 ≤ i2) = t) := h2
    clear hi2 h1 h2
    go_wp2
    go_ret
    exact ⟨by rw [← H2.out]; rfl, hb1.trans (hb2.mono hb1.size)⟩
  · have HQ : Hid (kindB said 3 e = true) := q
    clear q
    rw [Bool.true_or]
    go_enter Try.func14, Try.ntmps14
    go_wp2_with fail
    refine (HK.out 3 _ (Below.refl _ _)).mono ?_
    rintro d w1 ⟨⟨i, rfl, hi⟩, hb1⟩
    have h1 := idx_seal hi
    rw [HQ.out] at h1
    clear hi
    go_wp2
    go_ret
    exact ⟨rfl, hb1⟩

set_option maxRecDepth 20000 in
set_option maxHeartbeats 1000000 in
theorem implSealed_c (r : RepI) (e : Int) (w : World) (hn : r.sn ≤ 1048576) (h : StIn w r.sa r.sn r.ss) :
    Calls Try.prog 7 #[.agg #[.int .i64 r.i, .int .i64 r.u, .slice r.sa r.sn r.sc, .slice r.la r.ln r.lc], .int .i64 e] w fun d w' => d = .returned (.bool (sealB r.ss e)) ∧ Below w.heap.size w w' := by
  have H : Hid (∀ w2, Below w.heap.size w w2 → Calls Try.prog 14 #[.slice r.sa r.sn r.sc, .int .i64 e] w2 fun d w' => d = .returned (.bool (sealB r.ss e)) ∧ Below w2.heap.size w2 w') := fun w2 hb => isSealed_c r.sa r.sn r.sc r.ss e w2 hn (h.below hb)
  clear h
  go_enter Try.func7, Try.ntmps7
  go_wp2_with fail
  refine (H.out _ ((Below.refl _ _).alloc (Nat.le_refl _) _)).mono ?_
  rintro d w1 ⟨rfl, hb1⟩
  go_wp2
  go_ret
  exact ⟨rfl, below_new hb1⟩

set_option maxRecDepth 20000 in
set_option maxHeartbeats 1000000 in
theorem specSealed_c (r : RepI) (e : Int) (w : World) (hn : r.sn ≤ 1048576) (h : StIn w r.sa r.sn r.ss) :
    Calls Try.prog 5 #[.agg #[.int .i64 r.i, .int .i64 r.u, .slice r.sa r.sn r.sc, .slice r.la r.ln r.lc], .int .i64 e] w fun d w' => d = .returned (.bool (sealB r.ss e)) ∧ Below w.heap.size w w' := by
  obtain ⟨V, hV⟩ : ∃ V, V = w.alloc (.cells #[.int .i64 r.i, .int .i64 r.u, .slice r.sa r.sn r.sc, .slice r.la r.ln r.lc] 31) := ⟨_, rfl⟩
  have B0 : Below w.heap.size w V := by rw [hV]; exact (Below.refl _ _).alloc (Nat.le_refl _) _
  have H : Hid (Calls Try.prog 11 #[.pointer (some ⟨w.heap.size, 0, none⟩), .int .i64 e] V fun d w' => d = .returned (.bool (sealB r.ss e)) ∧ Below V.heap.size V w') := l8Sealed_c w.heap.size r e V (by rw [hV]; exact RepBox.new w r _) (h.below B0) hn
  clear h
  go_enter Try.func5, Try.ntmps5
  go_wp2_with fail
  rw [← hV]
  clear hV
  refine H.out.mono ?_
  rintro d w1 ⟨rfl, hb1⟩
  go_wp2
  go_ret
  exact ⟨rfl, B0.trans (hb1.mono B0.size)⟩

set_option maxRecDepth 20000 in
set_option maxHeartbeats 1000000 in
theorem szReplica_ok (r : RepI) (l : Int) (w : World) (h0 : (r.sn : Int) + (r.ln : Int) ≤ l) (hl : l ≤ 1048576) :
    Calls Try.prog 4 #[.agg #[.int .i64 r.i, .int .i64 r.u, .slice r.sa r.sn r.sc, .slice r.la r.ln r.lc], .int .i64 l] w fun e w' => e = .returned (.int .i64 (l - r.sn - r.ln)) ∧ Below w.heap.size w w' := by
  have h1 : (r.sn : Int) ≤ l := by omega
  have h2 : ¬ (l - (r.sn : Int) < 0) := by omega
  have h3 : ¬ (l - (r.sn : Int) - (r.ln : Int) < 0) := by omega
  go_enter Try.func4, Try.ntmps4
  go_wp2_with go_in
  go_ret
  exact ⟨rfl, by go_grown⟩

set_option maxRecDepth 20000 in
set_option maxHeartbeats 1000000 in
theorem szReplica_said (r : RepI) (l : Int) (w : World) (hm : r.sn ≤ maxLen) (h0 : l < (r.sn : Int)) (hl0 : 0 ≤ l) (hl : l ≤ 1048576) :
    Calls Try.prog 4 #[.agg #[.int .i64 r.i, .int .i64 r.u, .slice r.sa r.sn r.sc, .slice r.la r.ln r.lc], .int .i64 l] w fun e w' => e = .returned (.int .i64 (-1)) ∧ Below w.heap.size w w' := by
  unfold maxLen at hm
  have hm' : (r.sn : Int) ≤ 9223372036854775807 := by omega
  clear hm
  go_enter Try.func4, Try.ntmps4
  go_wp2_with go_in
  go_ret
  exact ⟨rfl, by go_grown⟩

set_option maxRecDepth 20000 in
set_option maxHeartbeats 1000000 in
theorem szReplica_locks (r : RepI) (l : Int) (w : World) (h1 : (r.sn : Int) ≤ l) (hm : r.ln ≤ maxLen) (h0 : l < (r.sn : Int) + (r.ln : Int)) (hl : l ≤ 1048576) :
    Calls Try.prog 4 #[.agg #[.int .i64 r.i, .int .i64 r.u, .slice r.sa r.sn r.sc, .slice r.la r.ln r.lc], .int .i64 l] w fun e w' => e = .returned (.int .i64 (-1)) ∧ Below w.heap.size w w' := by
  unfold maxLen at hm
  have hm' : (r.ln : Int) ≤ 9223372036854775807 := by omega
  clear hm
  go_enter Try.func4, Try.ntmps4
  go_wp2_with go_in
  go_ret
  exact ⟨rfl, by go_grown⟩

/-- What is measured of a replica. -/
theorem szReplica_c (r : RepI) (l : Int) (w : World) (hm : RepLe maxLen r) (hl0 : 0 ≤ l) (hl : l ≤ 1048576) :
    Calls Try.prog 4 #[.agg #[.int .i64 r.i, .int .i64 r.u, .slice r.sa r.sn r.sc, .slice r.la r.ln r.lc], .int .i64 l] w fun e w' => (∃ v : Int, e = .returned (.int .i64 v) ∧ v ≤ l ∧ (0 ≤ v → (r.sn : Int) ≤ l ∧ (r.ln : Int) ≤ l)) ∧ Below w.heap.size w w' := by
  by_cases h1 : (r.sn : Int) ≤ l
  · by_cases h2 : (r.sn : Int) + (r.ln : Int) ≤ l
    · exact (szReplica_ok r l w h2 hl).mono fun e w' h => ⟨⟨_, h.1, by omega, fun _ => by omega⟩, h.2⟩
    · exact (szReplica_locks r l w h1 hm.locks (by omega) hl).mono fun e w' h => ⟨⟨_, h.1, by omega, fun q => by omega⟩, h.2⟩
  · exact (szReplica_said r l w hm.said (by omega) hl0 hl).mono fun e w' h => ⟨⟨_, h.1, by omega, fun q => by omega⟩, h.2⟩

end Go.Proofs.Ytabbjcngilocnab
