/-
  CONTRACTS: IsPrefix of both programs, and two rows of numbers compared by a law.
  Conditions: each contract bears its own.
-/
import Derived.Test.YteknjkifgnfjgaaSwq
namespace Go.Proofs.Yteknjkifgnfjgaa
open Go.RowKit
set_option linter.unusedVariables false
set_option linter.unusedSimpArgs false

/-- Whether ys begins with xs. -/
def pfB (xs ys : List Int) : Bool := decide (xs = ys.take xs.length)

theorem pfB_long {xs ys : List Int} (h : ys.length < xs.length) : pfB xs ys = false := by
  unfold pfB
  refine decide_eq_false (fun e => ?_)
  have := congrArg List.length e
  rw [List.length_take] at this
  omega

theorem IntIn.front {w : World} {a : Option Addr} {n : Nat} {zs : List Int} (h : IntIn w a n zs) {k : Nat} (hk : k ≤ n) : IntIn w a k (zs.take k) := by
  refine ⟨by rw [List.length_take, h.1]; omega, fun hp => ?_⟩
  obtain ⟨b, off, e, hc⟩ := h.2 (by omega)
  refine ⟨b, off, e, fun j x hx => ?_⟩
  rw [List.getElem?_take] at hx
  split at hx
  · exact hc j x hx
  · cases hx

set_option maxHeartbeats 1000000 in
theorem implIsPrefix_c (a b : Option Addr) (n m ca cb : Nat) (xs ys : List Int) (w : World) (hn : n ≤ 1048576) (hm : m ≤ 1048576) (hcb : m ≤ cb) (h : IntIn w a n xs) (h' : IntIn w b m ys) :
    Calls Try.prog 8 #[.slice a n ca, .slice b m cb] w fun e w' => e = .returned (.bool (pfB xs ys)) ∧ Below w.heap.size w w' := by
  have HX : Hid (xs.length = n) := h.1
  have HY : Hid (ys.length = m) := h'.1
  by_cases hnm : n ≤ m
  · obtain ⟨t, ht⟩ : ∃ t, pfB xs ys = t := ⟨_, rfl⟩
    have HQ : Hid (∀ W : World, W = w → Calls Try.prog 19 #[.slice a n ca, .slice b n cb] W fun e w' => e = .returned (.bool t) ∧ Below W.heap.size W w') := by
      intro W hW
      subst hW
      have := slEqWords_c a b n n ca cb xs (ys.take n) W hn hn h (h'.front hnm)
      rw [← ht]
      unfold pfB
      rw [HX.out]
      exact this
    rw [ht]
    have hle : (n : Int) ≤ (m : Int) := by omega
    have hlb : decide ((n : Int) ≤ (m : Int)) = true := by simp; omega
    have h1 : (0 : Int) ≤ (n : Int) := by omega
    have h2 : (n : Int) ≤ (cb : Int) := by omega
    clear h h' ht hnm
    go_enter Try.func8, Try.ntmps8
    go_wp2_with fail
    refine (HQ.out _ rfl).mono ?_
    rintro e w1 ⟨rfl, hb⟩
    go_wp2_with fail
    go_ret
    exact ⟨rfl, hb⟩
  · have hf : pfB xs ys = false := pfB_long (by rw [HX.out, HY.out]; omega)
    have hlb : decide ((n : Int) ≤ (m : Int)) = false := by simp; omega
    have hle : ¬ (n : Int) ≤ (m : Int) := by omega
    rw [hf]
    clear h h'
    go_enter Try.func8, Try.ntmps8
    go_wp2_with fail
    go_ret
    exact ⟨rfl, Below.refl _ _⟩

set_option maxHeartbeats 1000000 in
theorem specIsPrefix_c (a b : Option Addr) (n m ca cb : Nat) (xs ys : List Int) (w : World) (hn : n ≤ 1048576) (hm : m ≤ 1048576) (h : IntIn w a n xs) (h' : IntIn w b m ys) :
    Calls Try.prog 6 #[.slice a n ca, .slice b m cb] w fun e w' => e = .returned (.bool (pfB xs ys)) ∧ Below w.heap.size w w' := by
  have H : Hid (IntIn w a n xs) := h
  have H' : Hid (IntIn w b m ys) := h'
  have HX : Hid (xs.length = n) := h.1
  have HY : Hid (ys.length = m) := h'.1
  clear h h'
  have hn' : (n : Int) ≤ 1048576 := by omega
  have hm' : (m : Int) ≤ 1048576 := by omega
  by_cases hnm : n ≤ m
  · have hgt : ¬ (m : Int) < (n : Int) := by omega
    obtain ⟨t, ht⟩ : ∃ t, pfB xs ys = t := ⟨_, rfl⟩
    have HT : Hid (pfB xs ys = t) := ht
    rw [ht]
    clear ht
    go_enter Try.func6, Try.ntmps6
    go_wp2
    go_loopw [5] (fun i wr => ∃ k : Nat, k ≤ n ∧ i = .int .i64 (k : Int) ∧ xs.take k = ys.take k ∧ ∃ q, wr = w.drewN q) (fun i _ => n - (intOf i).toNat)
    case atStart => exact ⟨0, Nat.zero_le _, rfl, by simp, 0, rfl⟩
    case round =>
      obtain ⟨k, hk, rfl, htk, q, rfl⟩ := hrel
      have HTK : Hid (xs.take k = ys.take k) := htk
      clear htk
      by_cases hlt : k < n
      · obtain ⟨b1, o1, s, e1, hs, h0, hb1⟩ := H.out.at hlt
        obtain ⟨b2, o2, s2, e2, hs2, g0, hb2⟩ := H'.out.at (show k < m by omega)
        subst e1 e2
        have HS : Hid (xs[k]? = some s) := hs
        have HS2 : Hid (ys[k]? = some s2) := hs2
        clear hs hs2
        have hlt' : (k : Int) < (n : Int) := by omega
        have hlt2 : (k : Int) < (m : Int) := by omega
        by_cases hsame : s = s2
        · have HN : Hid (xs.take (k + 1) = ys.take (k + 1)) := by
            show xs.take (k + 1) = ys.take (k + 1)
            rw [List.take_add_one, List.take_add_one, HTK.out, HS.out, HS2.out, hsame]
          have hd : decide (s = s2) = true := decide_eq_true hsame
          have hdb : (s != s2) = false := by simp [hsame]
          clear hsame
          go_wp2
          go_quiet (fail)
          go_wp2
          exact ⟨⟨k + 1, by omega, by go_num, HN.out, _, rfl⟩, by simp [intOf]; omega⟩
        · have HE : Hid (t = false) := by
            show t = false
            rw [← HT.out]
            unfold pfB
            refine decide_eq_false (fun e => hsame ?_)
            have h1 := HS.out
            rw [e, List.getElem?_take, HX.out, if_pos (by omega), HS2.out] at h1
            exact (Option.some.inj h1).symm
          have hdb : (s != s2) = true := by simp [hsame]
          clear hsame
          go_wp2
          go_quiet (fail)
          go_wp2
          go_ret
          exact ⟨by rw [HE.out]; rfl, below_drewN (below_drewN (Below.refl _ _) _) _⟩
      · have hkn : k = n := by omega
        subst hkn
        have HE : Hid (t = true) := by
          show t = true
          rw [← HT.out]
          unfold pfB
          refine decide_eq_true ?_
          have := HTK.out
          rw [List.take_of_length_le (by rw [HX.out]; exact Nat.le_refl _)] at this
          rw [HX.out]
          exact this
        have hlt' : ¬ (k : Int) < (k : Int) := by omega
        go_wp2
        go_ret
        exact ⟨by rw [HE.out]; rfl, below_drewN (Below.refl _ _) _⟩
  · have hf : pfB xs ys = false := pfB_long (by rw [HX.out, HY.out]; omega)
    have hgt : (m : Int) < (n : Int) := by omega
    rw [hf]
    go_enter Try.func6, Try.ntmps6
    go_wp2
    go_ret
    exact ⟨rfl, Below.refl _ _⟩

end Go.Proofs.Yteknjkifgnfjgaa
