/-
  CONTRACTS: slices.Equal over rows of numbers.
  Conditions: each contract bears its own.
-/
import Derived.Test.YteknjkifgnfjgaaIn0
import Derived.WalkSmall
namespace Go.Proofs.Yteknjkifgnfjgaa
open Go.RowKit
set_option linter.unusedVariables false
set_option linter.unusedSimpArgs false

set_option maxHeartbeats 1000000 in
theorem slEqWords_c (a b : Option Addr) (n m ca cb : Nat) (xs ys : List Int) (w : World) (hn : n ≤ 1048576) (hm : m ≤ 1048576) (h : IntIn w a n xs) (h' : IntIn w b m ys) :
    Calls Try.prog 19 #[.slice a n ca, .slice b m cb] w fun e w' => e = .returned (.bool (decide (xs = ys))) ∧ Below w.heap.size w w' := by
  have H : Hid (IntIn w a n xs) := h
  have H' : Hid (IntIn w b m ys) := h'
  have HX : Hid (xs.length = n) := h.1
  have HY : Hid (ys.length = m) := h'.1
  clear h h'
  have hn' : (n : Int) ≤ 1048576 := by omega
  have hm' : (m : Int) ≤ 1048576 := by omega
  by_cases hnm : n = m
  · subst hnm
    obtain ⟨t, ht⟩ : ∃ t, decide (xs = ys) = t := ⟨_, rfl⟩
    have HT : Hid (decide (xs = ys) = t) := ht
    rw [ht]
    clear ht
    go_enter Try.func19, Try.ntmps19
    go_wp2
    go_loopw [13] (fun i wr => ∃ k : Nat, k ≤ n ∧ i = .int .i64 (k : Int) ∧ xs.take k = ys.take k ∧ ∃ q, wr = w.drewN q) (fun i _ => n - (intOf i).toNat)
    case atStart => exact ⟨0, Nat.zero_le _, rfl, by simp, 0, rfl⟩
    case round =>
      obtain ⟨k, hk, rfl, htk, q, rfl⟩ := hrel
      have HTK : Hid (xs.take k = ys.take k) := htk
      clear htk
      by_cases hlt : k < n
      · obtain ⟨b1, o1, s, e1, hs, h0, hb1⟩ := H.out.at hlt
        obtain ⟨b2, o2, s2, e2, hs2, g0, hb2⟩ := H'.out.at hlt
        subst e1 e2
        have HS : Hid (xs[k]? = some s) := hs
        have HS2 : Hid (ys[k]? = some s2) := hs2
        clear hs hs2
        have hlt' : (k : Int) < (n : Int) := by omega
        by_cases hsame : s = s2
        · have HN : Hid (xs.take (k + 1) = ys.take (k + 1)) := by
            show xs.take (k + 1) = ys.take (k + 1)
            rw [List.take_add_one, List.take_add_one, HTK.out, HS.out, HS2.out, hsame]
          have hd : decide (s = s2) = true := decide_eq_true hsame
          have hdb : (s != s2) = !decide (s = s2) := by cases q : decide (s = s2) <;> simp_all
          clear hsame
          go_wp2
          go_quiet (fail)
          go_wp2
          exact ⟨⟨k + 1, by omega, by go_num, HN.out, _, rfl⟩, by simp [intOf]; omega⟩
        · have HE : Hid (t = false) := by
            show t = false
            rw [← HT.out]
            refine decide_eq_false (fun e => hsame ?_)
            have h1 := HS.out
            rw [e, HS2.out] at h1
            exact (Option.some.inj h1).symm
          have hd : decide (s = s2) = false := decide_eq_false hsame
          have hdb : (s != s2) = !decide (s = s2) := by cases q : decide (s = s2) <;> simp_all
          clear hsame
          go_wp2
          go_quiet (fail)
          go_wp2
          go_ret
          exact ⟨by rw [HE.out]; rfl, below_drewN (below_drewN (Below.refl _ _) _) _⟩
      · have hkn : k = n := by omega
        subst hkn
        have HE : Hid (t = true) := by
          show t = true
          rw [← HT.out]
          refine decide_eq_true ?_
          have := HTK.out
          rw [List.take_of_length_le (by rw [HX.out]; exact Nat.le_refl _), List.take_of_length_le (by rw [HY.out]; exact Nat.le_refl _)] at this
          exact this
        go_wp2
        go_ret
        exact ⟨by rw [HE.out]; rfl, below_drewN (Below.refl _ _) _⟩
  · have HE : Hid (decide (xs = ys) = false) := decide_eq_false (fun e => hnm (by rw [← HX.out, ← HY.out, e]))
    rw [HE.out]
    have hnb : ((n : Int) != (m : Int)) = true := by simp; omega
    have hnm' : ¬ ((n : Int) = (m : Int)) := by omega
    go_enter Try.func19, Try.ntmps19
    go_wp2
    go_ret
    exact ⟨rfl, Below.refl _ _⟩

end Go.Proofs.Yteknjkifgnfjgaa
