/-
  THE LAW laws.FnPrefixes, from its code on.
  Conditions: the code has at most 1048576 bytes.
-/
import Derived.Test.YteknjkifgnfjgaaIp1
namespace Go.Proofs.Yteknjkifgnfjgaa
open Go.RowKit
set_option linter.unusedVariables false
set_option linter.unusedSimpArgs false

theorem pf_front {zs : List Int} {k : Nat} (h : k ≤ zs.length) : pfB (zs.take k) zs = true := by
  unfold pfB
  rw [List.length_take, Nat.min_eq_left h]
  simp

theorem pf_nil (us : List Int) : pfB [] us = true := by
  unfold pfB
  simp

theorem pf_trans {zs us : List Int} {k : Nat} (h : k ≤ zs.length) (hp : pfB zs us = true) : pfB (zs.take k) us = true := by
  unfold pfB at hp ⊢
  have e := of_decide_eq_true hp
  rw [List.length_take, Nat.min_eq_left h]
  refine decide_eq_true ?_
  have h2 : zs.take k = (us.take zs.length).take k := by rw [← e]
  rw [h2, List.take_take, Nat.min_eq_left h]

theorem pf_anti {zs us : List Int} (hp : pfB zs us = true) (hq : pfB us zs = true) : zs = us := by
  unfold pfB at hp hq
  have e := of_decide_eq_true hp
  have f := of_decide_eq_true hq
  have h1 := congrArg List.length e
  have h2 := congrArg List.length f
  rw [List.length_take] at h1 h2
  rw [e, List.take_of_length_le (by omega)]

set_option maxHeartbeats 1000000 in
theorem lwNums_c (a b : Option Addr) (n m ca cb : Nat) (xs ys : List Int) (w : World) (hn : n ≤ 1048576) (hm : m ≤ 1048576) (h : IntIn w a n xs) (h' : IntIn w b m ys) :
    Calls Try.prog 17 #[.slice a n ca, .slice b m cb] w fun e w' => e = .returned (.bool (decide (xs = ys))) ∧ Below w.heap.size w w' := by
  have H : Hid (IntIn w a n xs) := h
  have H' : Hid (IntIn w b m ys) := h'
  have HX : Hid (xs.length = n) := h.1
  have HY : Hid (ys.length = m) := h'.1
  clear h h'
  have hn' : (n : Int) ≤ 1048576 := by omega
  have hm' : (m : Int) ≤ 1048576 := by omega
  by_cases hnm : n = m
  · subst hnm
    obtain ⟨t, ht⟩ : ∃ t, decide (xs = ys) = t := ⟨_, rfl⟩
    have HT : Hid (decide (xs = ys) = t) := ht
    rw [ht]
    clear ht
    go_enter Try.func17, Try.ntmps17
    go_wp2
    go_loopw [5] (fun i wr => ∃ k : Nat, k ≤ n ∧ i = .int .i64 (k : Int) ∧ xs.take k = ys.take k ∧ ∃ q, wr = w.drewN q) (fun i _ => n - (intOf i).toNat)
    case atStart => exact ⟨0, Nat.zero_le _, rfl, by simp, 0, rfl⟩
    case round =>
      obtain ⟨k, hk, rfl, htk, q, rfl⟩ := hrel
      have HTK : Hid (xs.take k = ys.take k) := htk
      clear htk
      by_cases hlt : k < n
      · obtain ⟨b1, o1, s, e1, hs, h0, hb1⟩ := H.out.at hlt
        obtain ⟨b2, o2, s2, e2, hs2, g0, hb2⟩ := H'.out.at hlt
        subst e1 e2
        have HS : Hid (xs[k]? = some s) := hs
        have HS2 : Hid (ys[k]? = some s2) := hs2
        clear hs hs2
        have hlt' : (k : Int) < (n : Int) := by omega
        by_cases hsame : s = s2
        · have HN : Hid (xs.take (k + 1) = ys.take (k + 1)) := by
            show xs.take (k + 1) = ys.take (k + 1)
            rw [List.take_add_one, List.take_add_one, HTK.out, HS.out, HS2.out, hsame]
          have hdb : (s != s2) = false := by simp [hsame]
          clear hsame
          go_wp2
          go_quiet (fail)
          go_wp2
          exact ⟨⟨k + 1, by omega, by go_num, HN.out, _, rfl⟩, by simp [intOf]; omega⟩
        · have HE : Hid (t = false) := by
            show t = false
            rw [← HT.out]
            refine decide_eq_false (fun e => hsame ?_)
            have h1 := HS.out
            rw [e, HS2.out] at h1
            exact (Option.some.inj h1).symm
          have hdb : (s != s2) = true := by simp [hsame]
          clear hsame
          go_wp2
          go_quiet (fail)
          go_wp2
          go_ret
          exact ⟨by rw [HE.out]; rfl, below_drewN (below_drewN (Below.refl _ _) _) _⟩
      · have hkn : k = n := by omega
        subst hkn
        have HE : Hid (t = true) := by
          show t = true
          rw [← HT.out]
          refine decide_eq_true ?_
          have := HTK.out
          rw [List.take_of_length_le (by rw [HX.out]; exact Nat.le_refl _), List.take_of_length_le (by rw [HY.out]; exact Nat.le_refl _)] at this
          exact this
        have hlt' : ¬ (k : Int) < (k : Int) := by omega
        go_wp2
        go_ret
        exact ⟨by rw [HE.out]; rfl, below_drewN (Below.refl _ _) _⟩
  · have HE : Hid (decide (xs = ys) = false) := decide_eq_false (fun e => hnm (by rw [← HX.out, ← HY.out, e]))
    rw [HE.out]
    have hnb : ((n : Int) != (m : Int)) = true := by simp; omega
    have hnm' : ¬ ((n : Int) = (m : Int)) := by omega
    go_enter Try.func17, Try.ntmps17
    go_wp2
    go_ret
    exact ⟨rfl, Below.refl _ _⟩

set_option maxHeartbeats 1000000 in
theorem lwAt_c (a : Option Addr) (len cap : Nat) (ys : List Int) (i : Nat) (n : Int) (w : World) (h : CodeIn w a len ys) (hl : len ≤ 1048576) (hi : i ≤ 100) (n2 : 1 ≤ n) (n200 : n ≤ 200) :
    Calls Try.prog 18 #[.slice a len cap, .int .i64 (i : Int), .int .i64 n] w fun e w' => ∃ v : Int, 0 ≤ v ∧ v < n ∧ e = .returned (.int .i64 v) ∧ Below w.heap.size w w' := by
  have hl' : (len : Int) ≤ 1048576 := by omega
  have hi' : (i : Int) ≤ 100 := by omega
  by_cases hn1 : n = 1
  · subst hn1
    clear h
    go_enter Try.func18, Try.ntmps18
    go_wp2
    go_ret
    exact ⟨0, by omega, by omega, rfl, Below.refl _ _⟩
  have hn2 : ¬ n ≤ 1 := by omega
  by_cases h0 : len = 0
  · subst h0
    go_enter Try.func18, Try.ntmps18
    go_wp2
    go_ret
    exact ⟨_, Int.emod_nonneg _ (by omega), Int.emod_lt_of_pos _ (by omega), rfl, Below.refl _ _⟩
  · have hk0 : ((len : Int) == 0) = false := by simp; omega
    obtain ⟨j, hj, hjl⟩ : ∃ j : Nat, (i : Int) % (len : Int) = (j : Int) ∧ j < len := ⟨i % len, by simp, Nat.mod_lt _ (by omega)⟩
    obtain ⟨q, hq, hql⟩ : ∃ q : Nat, (i : Int) / (len : Int) = (q : Int) ∧ q ≤ 100 := ⟨i / len, by simp, Nat.le_trans (Nat.div_le_self _ _) hi⟩
    obtain ⟨b, off, ha, hcj, y0, y1⟩ := h j hjl
    obtain ⟨y, hy⟩ : ∃ y : Int, y = ys[j]?.getD 0 := ⟨_, rfl⟩
    rw [← hy] at hcj y0 y1
    subst ha
    clear hy h
    have hjl' : (j : Int) < (len : Int) := by omega
    have hql' : (q : Int) ≤ 100 := by omega
    go_enter Try.func18, Try.ntmps18
    go_wp2
    go_quiet (fail)
    go_wp2
    go_ret
    exact ⟨_, Int.emod_nonneg _ (by omega), Int.emod_lt_of_pos _ (by omega), rfl, below_drewN (Below.refl _ _) _⟩

theorem CodeIn.below {w w' : World} {a : Option Addr} {len : Nat} {ys : List Int} (h : CodeIn w a len ys) (hb : Below w.heap.size w w') : CodeIn w' a len ys :=
  h.kept (row := none) ⟨hb.os, hb.tape, hb.output, hb.size, fun k hk _ => hb.block k hk⟩ (fun _ _ _ => .inr (by simp))

set_option maxRecDepth 20000 in
set_option maxHeartbeats 2000000 in
theorem prefixes_inner (a : Option Addr) (len cap : Nat) (ys : List Int) (w : World) (hl : len ≤ 1048576) (h : CodeIn w a len ys) :
    Calls Try.prog 5 #[.slice a len cap] w fun e w' => e = .returned (.bool true) ∧ Below w.heap.size w w' := by
  have HC : Hid (CodeIn w a len ys) := h
  have hl' : ¬ ((1048576 : Int) < (len : Int)) := by omega
  clear h
  go_enter Try.func5, Try.ntmps5
  go_wp2_with (first | (go_at_call 15; go_in) | fail)
  refine (drawPrefix_c w a len cap ys HC.out hl).mono ?_
  rintro e w1 ⟨aa, ab, n, c, m, d, zs, us, rfl, ⟨hn, hnc, hcm⟩, ⟨hm, hmd, hdm⟩, hia, hib, hb⟩
  have HA : Hid (IntIn w1 aa n zs) := hia
  have HB : Hid (IntIn w1 ab m us) := hib
  have B1 : Hid (Below w.heap.size w w1) := hb
  have HZ : Hid (zs.length = n) := hia.1
  have HU : Hid (us.length = m) := hib.1
  obtain ⟨ok, hok⟩ : ∃ t, pfB zs us = t := ⟨_, rfl⟩
  have HOK : Hid (pfB zs us = ok) := hok
  clear hia hib hb hok
  have HIM : Hid (∀ W, Below w1.heap.size w1 W → Calls Try.prog 8 #[.slice aa n c, .slice ab m d] W fun e w' => e = .returned (.bool ok) ∧ Below W.heap.size W w') := fun W q => by
    have := implIsPrefix_c aa ab n m c d zs us W (by omega) (by omega) hmd (HA.out.below q) (HB.out.below q)
    rw [HOK.out] at this
    exact this
  have HSP : Hid (∀ W, Below w1.heap.size w1 W → Calls Try.prog 6 #[.slice aa n c, .slice ab m d] W fun e w' => e = .returned (.bool ok) ∧ Below W.heap.size W w') := fun W q => by
    have := specIsPrefix_c aa ab n m c d zs us W (by omega) (by omega) (HA.out.below q) (HB.out.below q)
    rw [HOK.out] at this
    exact this
  go_wp2_with fail
  refine (HIM.out _ (Below.refl _ _)).mono ?_
  rintro e w2 ⟨rfl, hb2⟩
  have B2 : Hid (Below w1.heap.size w1 w2) := hb2
  clear hb2
  obtain ⟨same, hsm⟩ : ∃ t, decide (zs = us) = t := ⟨_, rfl⟩
  have HSM : Hid (decide (zs = us) = same) := hsm
  clear hsm
  have HN := lwNums_c aa ab n m c d zs us w2 (by omega) (by omega) (HA.out.below B2.out) (HB.out.below B2.out)
  rw [HSM.out] at HN
  go_wp2_with fail
  refine HN.mono ?_
  rintro e w3 ⟨rfl, hb3⟩
  have B3 : Hid (Below w1.heap.size w1 w3) := B2.out.trans (hb3.mono B2.out.size)
  clear hb3 HN B2
  go_wp2_with fail
  refine (lwAt_c a len cap ys 2 ((n : Int) + 1) w3 ((HC.out.below B1.out).below B3.out) hl (by omega) (by omega) (by omega)).mono ?_
  rintro e w4 ⟨v, v0, v1, rfl, hb4⟩
  have B4 : Hid (Below w1.heap.size w1 w4) := B3.out.trans (hb4.mono B3.out.size)
  clear hb4 B3
  obtain ⟨k, rfl⟩ := Int.eq_ofNat_of_zero_le v0
  have hkn : k ≤ n := by omega
  have hkc : (k : Int) ≤ (c : Int) := by omega
  have HF : Hid (∀ W, Below w1.heap.size w1 W → Calls Try.prog 8 #[.slice aa k c, .slice aa n c] W fun e w' => e = .returned (.bool true) ∧ Below W.heap.size W w') := fun W q => by
    have := implIsPrefix_c aa aa k n c c (zs.take k) zs W (by omega) (by omega) hnc ((HA.out.front hkn).below q) (HA.out.below q)
    rw [pf_front (by rw [HZ.out]; exact hkn)] at this
    exact this
  have H0 : Hid (∀ W, Below w1.heap.size w1 W → Calls Try.prog 8 #[.slice none 0 0, .slice ab m d] W fun e w' => e = .returned (.bool true) ∧ Below W.heap.size W w') := fun W q => by
    have := implIsPrefix_c none ab 0 m 0 d [] us W (by omega) (by omega) hmd ⟨rfl, fun h => by omega⟩ (HB.out.below q)
    rw [pf_nil] at this
    exact this
  clear v0 v1
  cases ok
  · go_wp2_with fail
    refine (HSP.out _ B4.out).mono ?_
    rintro e w5 ⟨rfl, hb5⟩
    have B5 : Hid (Below w1.heap.size w1 w5) := B4.out.trans (hb5.mono B4.out.size)
    clear hb5
    go_wp2_with fail
    refine (HF.out _ B5.out).mono ?_
    rintro e w6 ⟨rfl, hb6⟩
    have B6 : Hid (Below w1.heap.size w1 w6) := B5.out.trans (hb6.mono B5.out.size)
    clear hb6
    go_wp2_with fail
    refine (H0.out _ B6.out).mono ?_
    rintro e w7 ⟨rfl, hb7⟩
    have B7 : Hid (Below w1.heap.size w1 w7) := B6.out.trans (hb7.mono B6.out.size)
    clear hb7
    go_wp2_with fail
    go_ret
    exact ⟨rfl, B1.out.trans (B7.out.mono B1.out.size)⟩
  · have HG : Hid (∀ W, Below w1.heap.size w1 W → Calls Try.prog 8 #[.slice aa k c, .slice ab m d] W fun e w' => e = .returned (.bool true) ∧ Below W.heap.size W w') := fun W q => by
      have := implIsPrefix_c aa ab k m c d (zs.take k) us W (by omega) (by omega) hmd ((HA.out.front hkn).below q) (HB.out.below q)
      rw [pf_trans (by rw [HZ.out]; exact hkn) HOK.out] at this
      exact this
    obtain ⟨t, ht⟩ : ∃ t, pfB us zs = t := ⟨_, rfl⟩
    have HT : Hid (pfB us zs = t) := ht
    clear ht
    have HR : Hid (∀ W, Below w1.heap.size w1 W → Calls Try.prog 8 #[.slice ab m d, .slice aa n c] W fun e w' => e = .returned (.bool t) ∧ Below W.heap.size W w') := fun W q => by
      have := implIsPrefix_c ab aa m n d c us zs W (by omega) (by omega) hnc (HB.out.below q) (HA.out.below q)
      rw [HT.out] at this
      exact this
    go_wp2_with fail
    refine (HSP.out _ B4.out).mono ?_
    rintro e w5 ⟨rfl, hb5⟩
    have B5 : Hid (Below w1.heap.size w1 w5) := B4.out.trans (hb5.mono B4.out.size)
    clear hb5
    go_wp2_with fail
    refine (HF.out _ B5.out).mono ?_
    rintro e w6 ⟨rfl, hb6⟩
    have B6 : Hid (Below w1.heap.size w1 w6) := B5.out.trans (hb6.mono B5.out.size)
    clear hb6
    go_wp2_with fail
    refine (HG.out _ B6.out).mono ?_
    rintro e w7 ⟨rfl, hb7⟩
    have B7 : Hid (Below w1.heap.size w1 w7) := B6.out.trans (hb7.mono B6.out.size)
    clear hb7
    go_wp2_with fail
    refine (HR.out _ B7.out).mono ?_
    rintro e w8 ⟨rfl, hb8⟩
    have B8 : Hid (Below w1.heap.size w1 w8) := B7.out.trans (hb8.mono B7.out.size)
    clear hb8
    cases t
    · go_wp2_with fail
      refine (H0.out _ B8.out).mono ?_
      rintro e w9 ⟨rfl, hb9⟩
      have B9 : Hid (Below w1.heap.size w1 w9) := B8.out.trans (hb9.mono B8.out.size)
      clear hb9
      go_wp2_with fail
      go_ret
      exact ⟨rfl, B1.out.trans (B9.out.mono B1.out.size)⟩
    · have hs : same = true := by rw [← HSM.out]; exact decide_eq_true (pf_anti HOK.out HT.out)
      subst hs
      go_wp2_with fail
      refine (H0.out _ B8.out).mono ?_
      rintro e w9 ⟨rfl, hb9⟩
      have B9 : Hid (Below w1.heap.size w1 w9) := B8.out.trans (hb9.mono B8.out.size)
      clear hb9
      go_wp2_with fail
      go_ret
      exact ⟨rfl, B1.out.trans (B9.out.mono B1.out.size)⟩

end Go.Proofs.Yteknjkifgnfjgaa
