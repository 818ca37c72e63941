/-
  CONTRACTS: slices.Equal over rules, parts and classes.
  Conditions: each contract bears its own.
-/
import Derived.Test.YtnfolmjdicfobaaPol1
import Derived.Test.YtnfolmjdicfobaaPt0
import Derived.Test.YtnfolmjdicfobaaIn0
import Derived.Test.YtnfolmjdicfobaaPol2
namespace Go.Proofs.Ytnfolmjdicfobaa
open Go.RowKit
set_option linter.unusedVariables false
set_option linter.unusedSimpArgs false

theorem sameRule_iff (a0 a1 a2 a3 a4 a5 a6 a7 b0 b1 b2 b3 b4 b5 b6 b7 : Int) : decide ((⟨a0, a1, a2, a3, a4, a5, a6, a7⟩ : RuleI) = ⟨b0, b1, b2, b3, b4, b5, b6, b7⟩) = (a0 == b0 && a1 == b1 && a2 == b2 && a3 == b3 && a4 == b4 && a5 == b5 && a6 == b6 && a7 == b7) := by
  rw [Bool.eq_iff_iff]
  simp only [decide_eq_true_eq, RuleI.mk.injEq, Bool.and_eq_true, beq_iff_eq, and_assoc]

set_option maxHeartbeats 1000000 in
theorem Rule_neq (r s : RuleI) (w : World) : (binOp .neq 78 (.agg #[.int .i64 r.k, .int .i64 r.ho, .int .i64 r.hn, .int .i64 r.w, .int .i64 r.oo, .int .i64 r.on, .int .i64 r.to, .int .i64 r.tn]) (.agg #[.int .i64 s.k, .int .i64 s.ho, .int .i64 s.hn, .int .i64 s.w, .int .i64 s.oo, .int .i64 s.on, .int .i64 s.to, .int .i64 s.tn])).run Try.prog w = .ok (.bool (!decide (r = s))) w := by
  obtain ⟨a0, a1, a2, a3, a4, a5, a6, a7⟩ := r
  obtain ⟨b0, b1, b2, b3, b4, b5, b6, b7⟩ := s
  simp only
  rw [sameRule_iff]
  cases e0 : (a0 == b0)
  · simp [go_sem, e0]
  cases e1 : (a1 == b1)
  · simp [go_sem, e0, e1]
  cases e2 : (a2 == b2)
  · simp [go_sem, e0, e1, e2]
  cases e3 : (a3 == b3)
  · simp [go_sem, e0, e1, e2, e3]
  cases e4 : (a4 == b4)
  · simp [go_sem, e0, e1, e2, e3, e4]
  cases e5 : (a5 == b5)
  · simp [go_sem, e0, e1, e2, e3, e4, e5]
  cases e6 : (a6 == b6)
  · simp [go_sem, e0, e1, e2, e3, e4, e5, e6]
  cases e7 : (a7 == b7)
  · simp [go_sem, e0, e1, e2, e3, e4, e5, e6, e7]
  · simp [go_sem, e0, e1, e2, e3, e4, e5, e6, e7]

theorem samePart_iff (a0 a1 a2 a3 a4 b0 b1 b2 b3 b4 : Int) : decide ((⟨a0, a1, a2, a3, a4⟩ : PartI) = ⟨b0, b1, b2, b3, b4⟩) = (a0 == b0 && a1 == b1 && a2 == b2 && a3 == b3 && a4 == b4) := by
  rw [Bool.eq_iff_iff]
  simp only [decide_eq_true_eq, PartI.mk.injEq, Bool.and_eq_true, beq_iff_eq, and_assoc]

set_option maxHeartbeats 1000000 in
theorem Part_neq (r s : PartI) (w : World) : (binOp .neq 97 (.agg #[.int .i64 r.k, .int .i64 r.ro, .int .i64 r.rn, .int .i64 r.l, .int .i64 r.r]) (.agg #[.int .i64 s.k, .int .i64 s.ro, .int .i64 s.rn, .int .i64 s.l, .int .i64 s.r])).run Try.prog w = .ok (.bool (!decide (r = s))) w := by
  obtain ⟨a0, a1, a2, a3, a4⟩ := r
  obtain ⟨b0, b1, b2, b3, b4⟩ := s
  simp only
  rw [samePart_iff]
  cases e0 : (a0 == b0)
  · simp [go_sem, e0]
  cases e1 : (a1 == b1)
  · simp [go_sem, e0, e1]
  cases e2 : (a2 == b2)
  · simp [go_sem, e0, e1, e2]
  cases e3 : (a3 == b3)
  · simp [go_sem, e0, e1, e2, e3]
  cases e4 : (a4 == b4)
  · simp [go_sem, e0, e1, e2, e3, e4]
  · simp [go_sem, e0, e1, e2, e3, e4]

attribute [local go_sem ↓] Rule_neq Part_neq

set_option maxHeartbeats 1000000 in
theorem slEqRules_c (a b : Option Addr) (n m ca cb : Nat) (xs ys : List RuleI) (w : World) (hn : n ≤ 1048576) (hm : m ≤ 1048576) (h : RulesIn w a n xs) (h' : RulesIn w b m ys) :
    Calls Try.prog 61 #[.slice a n ca, .slice b m cb] w fun e w' => e = .returned (.bool (decide (xs = ys))) ∧ Below w.heap.size w w' := by
  have H : Hid (RulesIn w a n xs) := h
  have H' : Hid (RulesIn w b m ys) := h'
  have HX : Hid (xs.length = n) := h.1
  have HY : Hid (ys.length = m) := h'.1
  clear h h'
  have hn' : (n : Int) ≤ 1048576 := by omega
  have hm' : (m : Int) ≤ 1048576 := by omega
  by_cases hnm : n = m
  · subst hnm
    obtain ⟨t, ht⟩ : ∃ t, decide (xs = ys) = t := ⟨_, rfl⟩
    have HT : Hid (decide (xs = ys) = t) := ht
    rw [ht]
    clear ht
    go_enter Try.func61, Try.ntmps61
    go_wp2
    go_loopw [13] (fun i wr => ∃ k : Nat, k ≤ n ∧ i = .int .i64 (k : Int) ∧ xs.take k = ys.take k ∧ ∃ q, wr = w.drewN q) (fun i _ => n - (intOf i).toNat)
    case atStart => exact ⟨0, Nat.zero_le _, rfl, by simp, 0, rfl⟩
    case round =>
      obtain ⟨k, hk, rfl, htk, q, rfl⟩ := hrel
      have HTK : Hid (xs.take k = ys.take k) := htk
      clear htk
      by_cases hlt : k < n
      · obtain ⟨b1, o1, s, e1, hs, hr⟩ := H.out.at hlt
        obtain ⟨b2, o2, s2, e2, hs2, hr2⟩ := H'.out.at hlt
        subst e1 e2
        have HS : Hid (xs[k]? = some s) := hs
        have HS2 : Hid (ys[k]? = some s2) := hs2
        have hb1 : b1 < w.heap.size := World.block_lt_of_cell? w ⟨b1, _, none⟩ hr.1
        have hb2 : b2 < w.heap.size := World.block_lt_of_cell? w ⟨b2, _, none⟩ hr2.1
        clear hs hs2
        obtain ⟨h0, h1, h2, h3, h4, h5, h6, h7⟩ := hr
        obtain ⟨g0, g1, g2, g3, g4, g5, g6, g7⟩ := hr2
        have hlt' : (k : Int) < (n : Int) := by omega
        by_cases hsame : s = s2
        · have HN : Hid (xs.take (k + 1) = ys.take (k + 1)) := by
            show xs.take (k + 1) = ys.take (k + 1)
            rw [List.take_add_one, List.take_add_one, HTK.out, HS.out, HS2.out, hsame]
          have hd : decide (s = s2) = true := decide_eq_true hsame
          skip
          clear hsame
          go_wp2
          go_quiet (fail)
          go_wp2
          exact ⟨⟨k + 1, by omega, by go_num, HN.out, _, rfl⟩, by simp [intOf]; omega⟩
        · have HE : Hid (t = false) := by
            show t = false
            rw [← HT.out]
            refine decide_eq_false (fun e => hsame ?_)
            have h1 := HS.out
            rw [e, HS2.out] at h1
            exact (Option.some.inj h1).symm
          have hd : decide (s = s2) = false := decide_eq_false hsame
          skip
          clear hsame
          go_wp2
          go_quiet (fail)
          go_wp2
          go_ret
          exact ⟨by rw [HE.out]; rfl, bdN (bdN (Below.refl _ _) _) _⟩
      · have hkn : k = n := by omega
        subst hkn
        have HE : Hid (t = true) := by
          show t = true
          rw [← HT.out]
          refine decide_eq_true ?_
          have := HTK.out
          rw [List.take_of_length_le (by rw [HX.out]; exact Nat.le_refl _), List.take_of_length_le (by rw [HY.out]; exact Nat.le_refl _)] at this
          exact this
        go_wp2
        go_ret
        exact ⟨by rw [HE.out]; rfl, bdN (Below.refl _ _) _⟩
  · have HE : Hid (decide (xs = ys) = false) := decide_eq_false (fun e => hnm (by rw [← HX.out, ← HY.out, e]))
    rw [HE.out]
    have hnb : ((n : Int) != (m : Int)) = true := by simp; omega
    have hnm' : ¬ ((n : Int) = (m : Int)) := by omega
    go_enter Try.func61, Try.ntmps61
    go_wp2
    go_ret
    exact ⟨rfl, Below.refl _ _⟩

set_option maxHeartbeats 1000000 in
theorem slEqParts_c (a b : Option Addr) (n m ca cb : Nat) (xs ys : List PartI) (w : World) (hn : n ≤ 1048576) (hm : m ≤ 1048576) (h : PartsIn w a n xs) (h' : PartsIn w b m ys) :
    Calls Try.prog 83 #[.slice a n ca, .slice b m cb] w fun e w' => e = .returned (.bool (decide (xs = ys))) ∧ Below w.heap.size w w' := by
  have H : Hid (PartsIn w a n xs) := h
  have H' : Hid (PartsIn w b m ys) := h'
  have HX : Hid (xs.length = n) := h.1
  have HY : Hid (ys.length = m) := h'.1
  clear h h'
  have hn' : (n : Int) ≤ 1048576 := by omega
  have hm' : (m : Int) ≤ 1048576 := by omega
  by_cases hnm : n = m
  · subst hnm
    obtain ⟨t, ht⟩ : ∃ t, decide (xs = ys) = t := ⟨_, rfl⟩
    have HT : Hid (decide (xs = ys) = t) := ht
    rw [ht]
    clear ht
    go_enter Try.func83, Try.ntmps83
    go_wp2
    go_loopw [13] (fun i wr => ∃ k : Nat, k ≤ n ∧ i = .int .i64 (k : Int) ∧ xs.take k = ys.take k ∧ ∃ q, wr = w.drewN q) (fun i _ => n - (intOf i).toNat)
    case atStart => exact ⟨0, Nat.zero_le _, rfl, by simp, 0, rfl⟩
    case round =>
      obtain ⟨k, hk, rfl, htk, q, rfl⟩ := hrel
      have HTK : Hid (xs.take k = ys.take k) := htk
      clear htk
      by_cases hlt : k < n
      · obtain ⟨b1, o1, s, e1, hs, hr⟩ := H.out.at hlt
        obtain ⟨b2, o2, s2, e2, hs2, hr2⟩ := H'.out.at hlt
        subst e1 e2
        have HS : Hid (xs[k]? = some s) := hs
        have HS2 : Hid (ys[k]? = some s2) := hs2
        have hb1 : b1 < w.heap.size := World.block_lt_of_cell? w ⟨b1, _, none⟩ hr.1
        have hb2 : b2 < w.heap.size := World.block_lt_of_cell? w ⟨b2, _, none⟩ hr2.1
        clear hs hs2
        obtain ⟨h0, h1, h2, h3, h4⟩ := hr
        obtain ⟨g0, g1, g2, g3, g4⟩ := hr2
        have hlt' : (k : Int) < (n : Int) := by omega
        by_cases hsame : s = s2
        · have HN : Hid (xs.take (k + 1) = ys.take (k + 1)) := by
            show xs.take (k + 1) = ys.take (k + 1)
            rw [List.take_add_one, List.take_add_one, HTK.out, HS.out, HS2.out, hsame]
          have hd : decide (s = s2) = true := decide_eq_true hsame
          skip
          clear hsame
          go_wp2
          go_quiet (fail)
          go_wp2
          exact ⟨⟨k + 1, by omega, by go_num, HN.out, _, rfl⟩, by simp [intOf]; omega⟩
        · have HE : Hid (t = false) := by
            show t = false
            rw [← HT.out]
            refine decide_eq_false (fun e => hsame ?_)
            have h1 := HS.out
            rw [e, HS2.out] at h1
            exact (Option.some.inj h1).symm
          have hd : decide (s = s2) = false := decide_eq_false hsame
          skip
          clear hsame
          go_wp2
          go_quiet (fail)
          go_wp2
          go_ret
          exact ⟨by rw [HE.out]; rfl, bdN (bdN (Below.refl _ _) _) _⟩
      · have hkn : k = n := by omega
        subst hkn
        have HE : Hid (t = true) := by
          show t = true
          rw [← HT.out]
          refine decide_eq_true ?_
          have := HTK.out
          rw [List.take_of_length_le (by rw [HX.out]; exact Nat.le_refl _), List.take_of_length_le (by rw [HY.out]; exact Nat.le_refl _)] at this
          exact this
        go_wp2
        go_ret
        exact ⟨by rw [HE.out]; rfl, bdN (Below.refl _ _) _⟩
  · have HE : Hid (decide (xs = ys) = false) := decide_eq_false (fun e => hnm (by rw [← HX.out, ← HY.out, e]))
    rw [HE.out]
    have hnb : ((n : Int) != (m : Int)) = true := by simp; omega
    have hnm' : ¬ ((n : Int) = (m : Int)) := by omega
    go_enter Try.func83, Try.ntmps83
    go_wp2
    go_ret
    exact ⟨rfl, Below.refl _ _⟩

set_option maxHeartbeats 1000000 in
theorem slEqInts_c (a b : Option Addr) (n m ca cb : Nat) (xs ys : List Int) (w : World) (hn : n ≤ 1048576) (hm : m ≤ 1048576) (h : IntIn w a n xs) (h' : IntIn w b m ys) :
    Calls Try.prog 84 #[.slice a n ca, .slice b m cb] w fun e w' => e = .returned (.bool (decide (xs = ys))) ∧ Below w.heap.size w w' := by
  have H : Hid (IntIn w a n xs) := h
  have H' : Hid (IntIn w b m ys) := h'
  have HX : Hid (xs.length = n) := h.1
  have HY : Hid (ys.length = m) := h'.1
  clear h h'
  have hn' : (n : Int) ≤ 1048576 := by omega
  have hm' : (m : Int) ≤ 1048576 := by omega
  by_cases hnm : n = m
  · subst hnm
    obtain ⟨t, ht⟩ : ∃ t, decide (xs = ys) = t := ⟨_, rfl⟩
    have HT : Hid (decide (xs = ys) = t) := ht
    rw [ht]
    clear ht
    go_enter Try.func84, Try.ntmps84
    go_wp2
    go_loopw [13] (fun i wr => ∃ k : Nat, k ≤ n ∧ i = .int .i64 (k : Int) ∧ xs.take k = ys.take k ∧ ∃ q, wr = w.drewN q) (fun i _ => n - (intOf i).toNat)
    case atStart => exact ⟨0, Nat.zero_le _, rfl, by simp, 0, rfl⟩
    case round =>
      obtain ⟨k, hk, rfl, htk, q, rfl⟩ := hrel
      have HTK : Hid (xs.take k = ys.take k) := htk
      clear htk
      by_cases hlt : k < n
      · obtain ⟨b1, o1, s, e1, hs, h0, hb1⟩ := H.out.at hlt
        obtain ⟨b2, o2, s2, e2, hs2, g0, hb2⟩ := H'.out.at hlt
        subst e1 e2
        have HS : Hid (xs[k]? = some s) := hs
        have HS2 : Hid (ys[k]? = some s2) := hs2
        clear hs hs2
        have hlt' : (k : Int) < (n : Int) := by omega
        by_cases hsame : s = s2
        · have HN : Hid (xs.take (k + 1) = ys.take (k + 1)) := by
            show xs.take (k + 1) = ys.take (k + 1)
            rw [List.take_add_one, List.take_add_one, HTK.out, HS.out, HS2.out, hsame]
          have hd : decide (s = s2) = true := decide_eq_true hsame
          have hdb : (s != s2) = !decide (s = s2) := by cases q : decide (s = s2) <;> simp_all
          clear hsame
          go_wp2
          go_quiet (fail)
          go_wp2
          exact ⟨⟨k + 1, by omega, by go_num, HN.out, _, rfl⟩, by simp [intOf]; omega⟩
        · have HE : Hid (t = false) := by
            show t = false
            rw [← HT.out]
            refine decide_eq_false (fun e => hsame ?_)
            have h1 := HS.out
            rw [e, HS2.out] at h1
            exact (Option.some.inj h1).symm
          have hd : decide (s = s2) = false := decide_eq_false hsame
          have hdb : (s != s2) = !decide (s = s2) := by cases q : decide (s = s2) <;> simp_all
          clear hsame
          go_wp2
          go_quiet (fail)
          go_wp2
          go_ret
          exact ⟨by rw [HE.out]; rfl, bdN (bdN (Below.refl _ _) _) _⟩
      · have hkn : k = n := by omega
        subst hkn
        have HE : Hid (t = true) := by
          show t = true
          rw [← HT.out]
          refine decide_eq_true ?_
          have := HTK.out
          rw [List.take_of_length_le (by rw [HX.out]; exact Nat.le_refl _), List.take_of_length_le (by rw [HY.out]; exact Nat.le_refl _)] at this
          exact this
        go_wp2
        go_ret
        exact ⟨by rw [HE.out]; rfl, bdN (Below.refl _ _) _⟩
  · have HE : Hid (decide (xs = ys) = false) := decide_eq_false (fun e => hnm (by rw [← HX.out, ← HY.out, e]))
    rw [HE.out]
    have hnb : ((n : Int) != (m : Int)) = true := by simp; omega
    have hnm' : ¬ ((n : Int) = (m : Int)) := by omega
    go_enter Try.func84, Try.ntmps84
    go_wp2
    go_ret
    exact ⟨rfl, Below.refl _ _⟩

end Go.Proofs.Ytnfolmjdicfobaa
