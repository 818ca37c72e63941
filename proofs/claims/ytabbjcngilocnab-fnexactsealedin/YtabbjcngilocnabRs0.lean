/-
  CONTRACTS: what a replica said: looked for by its kind and epoch, or as a whole (both programs).
  Conditions: each contract bears its own.
-/
import Derived.Test.YtabbjcngilocnabRq0
import Derived.Test.YtabbjcngilocnabRe0
import Derived.Test.YtabbjcngilocnabSt2
namespace Go.Proofs.Ytabbjcngilocnab
open Go.RowKit
set_option linter.unusedVariables false
set_option linter.unusedSimpArgs false
attribute [local go_sem ↓] st_eql

/-- A replica in a box. -/
def RepBox (w : World) (b : Nat) (r : RepI) : Prop := w.cell? ⟨b, 0, none⟩ = some (.int .i64 r.i) ∧ w.cell? ⟨b, 1, none⟩ = some (.int .i64 r.u) ∧ w.cell? ⟨b, 2, none⟩ = some (.slice r.sa r.sn r.sc) ∧ w.cell? ⟨b, 3, none⟩ = some (.slice r.la r.ln r.lc)

theorem RepBox.lt {w : World} {b : Nat} {r : RepI} (h : RepBox w b r) : b < w.heap.size := World.block_lt_of_cell? w ⟨b, 0, none⟩ h.1

theorem RepBox.below {w w' : World} {b : Nat} {r : RepI} (h : RepBox w b r) (hb : Below w.heap.size w w') : RepBox w' b r :=
  ⟨(hb.cell (p := ⟨b, 0, none⟩) h.lt).trans h.1, (hb.cell (p := ⟨b, 1, none⟩) h.lt).trans h.2.1, (hb.cell (p := ⟨b, 2, none⟩) h.lt).trans h.2.2.1, (hb.cell (p := ⟨b, 3, none⟩) h.lt).trans h.2.2.2⟩

theorem RepBox.new (w : World) (r : RepI) (t : TypeId) : RepBox (w.alloc (.cells #[.int .i64 r.i, .int .i64 r.u, .slice r.sa r.sn r.sc, .slice r.la r.ln r.lc] t)) w.heap.size r := ⟨by simp, by simp, by simp, by simp⟩

set_option maxRecDepth 20000 in
set_option maxHeartbeats 2000000 in
theorem l8Kind_c (b : Nat) (r : RepI) (k e : Int) (w : World) (hx : RepBox w b r) (h : StIn w r.sa r.sn r.ss) (hn : r.sn ≤ 1048576) :
    Calls Try.prog 17 #[.pointer (some ⟨b, 0, none⟩), .int .i64 k, .int .i64 e] w fun d w' => d = .returned (.bool (kindB r.ss k e)) ∧ Below w.heap.size w w' := by
  obtain ⟨i, u, sa, n, sc, said, la, ln, lc, ls⟩ := r
  simp only at hx h hn ⊢
  have HZ : Hid (said.length = n) := h.1
  have H : Hid (StIn w sa n said) := h
  have hbl := hx.lt
  obtain ⟨_, _, x2, _⟩ := hx
  have X2 : Hid (w.cell? ⟨b, 2, none⟩ = some (.slice sa n sc)) := x2
  clear h x2
  have hn' : (n : Int) ≤ 1048576 := by omega
  rw [kindB_at]
  obtain ⟨t, ht⟩ : ∃ t, (kindAt said k e).isSome = t := ⟨_, rfl⟩
  have HT : Hid ((kindAt said k e).isSome = t) := ht
  rw [ht]
  clear ht
  go_enter Try.func17, Try.ntmps17
  go_wp2
  go_loopw [7] (fun i wr => ∃ j : Nat, j ≤ n ∧ i = .int .i64 (j : Int) ∧ (kindAt (said.drop j) k e).isSome = t ∧ Below w.heap.size w wr) (fun i _ => n - (intOf i).toNat)
  case atStart => exact ⟨0, Nat.zero_le _, rfl, HT.out, Below.refl _ _⟩
  case round =>
    obtain ⟨j, hj, rfl, hp, hnx⟩ := hrel
    have x2 := (hnx.cell (p := ⟨b, 2, none⟩) hbl).trans X2.out
    have hbw2 : b < wr.heap.size := Nat.lt_of_lt_of_le hbl hnx.size
    by_cases hlt : j < n
    · obtain ⟨g, off, x, rfl, hs, hxa, hgl⟩ := H.out.at hlt
      rw [kindAt_drop hs] at hp
      obtain ⟨g0, g1, g2, g3, g4⟩ := hxa.below hnx hgl
      have hbw : g < wr.heap.size := Nat.lt_of_lt_of_le hgl hnx.size
      have hlt' : (j : Int) < (n : Int) := by omega
      clear hs hxa
      by_cases q1 : x.k = k
      · have b1 : (x.k == k) = true := by simp [q1]
        by_cases q2 : x.e = e
        · have b2 : (x.e == e) = true := by simp [q2]
          rw [if_pos ⟨q1, q2⟩] at hp
          have HP : Hid (true = t) := hp
          clear hp q1 q2
          go_wp2
          go_ret
          exact ⟨by rw [← HP.out]; rfl, hnx⟩
        · have b2 : (x.e == e) = false := by simp [q2]
          rw [if_neg (fun q => q2 q.2)] at hp
          have HP : Hid ((kindAt (said.drop (j + 1)) k e).isSome = t) := hp
          clear hp q1 q2
          go_wp2
          exact ⟨⟨j + 1, by omega, by go_num, HP.out, hnx⟩, by simp [intOf]; omega⟩
      · have b1 : (x.k == k) = false := by simp [q1]
        rw [if_neg (fun q => q1 q.1)] at hp
        have HP : Hid ((kindAt (said.drop (j + 1)) k e).isSome = t) := hp
        clear hp q1
        go_wp2
        exact ⟨⟨j + 1, by omega, by go_num, HP.out, hnx⟩, by simp [intOf]; omega⟩
    · have hkn : j = n := by omega
      subst hkn
      rw [List.drop_of_length_le (by rw [HZ.out]; exact Nat.le_refl _)] at hp
      have HP : Hid (false = t) := hp
      clear hp
      go_wp2
      go_ret
      exact ⟨by rw [← HP.out]; rfl, hnx⟩

set_option maxRecDepth 20000 in
set_option maxHeartbeats 1000000 in
theorem l8Sealed_c (b : Nat) (r : RepI) (e : Int) (w : World) (hx : RepBox w b r) (h : StIn w r.sa r.sn r.ss) (hn : r.sn ≤ 1048576) :
    Calls Try.prog 11 #[.pointer (some ⟨b, 0, none⟩), .int .i64 e] w fun d w' => d = .returned (.bool (sealB r.ss e)) ∧ Below w.heap.size w w' := by
  have HK : Hid (∀ (k : Int) (w2 : World), Below w.heap.size w w2 → Calls Try.prog 17 #[.pointer (some ⟨b, 0, none⟩), .int .i64 k, .int .i64 e] w2 fun d w' => d = .returned (.bool (kindB r.ss k e)) ∧ Below w2.heap.size w2 w') := fun k w2 hb => l8Kind_c b r k e w2 (hx.below hb) (h.below hb) hn
  clear hx h
  unfold sealB
  cases q : kindB r.ss 3 e
  · have HQ : Hid (kindB r.ss 3 e = false) := q
    clear q
    obtain ⟨t, ht⟩ : ∃ t, kindB r.ss 4 e = t := ⟨_, rfl⟩
    have HT : Hid (kindB r.ss 4 e = t) := ht
    rw [ht, Bool.false_or]
    clear ht
    go_enter Try.func11, Try.ntmps11
    go_wp2_with fail
    refine (HK.out 3 _ (Below.refl _ _)).mono ?_
    rintro d w1 ⟨rfl, hb1⟩
    rw [HQ.out]
    go_wp2_with fail
    refine (HK.out 4 _ hb1).mono ?_
    rintro d w2 ⟨rfl, hb2⟩
    rw [HT.out]
    go_wp2
    go_ret
    exact ⟨rfl, hb1.trans (hb2.mono hb1.size)⟩
  · have HQ : Hid (kindB r.ss 3 e = true) := q
    clear q
    rw [Bool.true_or]
    go_enter Try.func11, Try.ntmps11
    go_wp2_with fail
    refine (HK.out 3 _ (Below.refl _ _)).mono ?_
    rintro d w1 ⟨rfl, hb1⟩
    rw [HQ.out]
    go_wp2
    go_ret
    exact ⟨rfl, hb1⟩

/-- Where the first one of a kind in an epoch stands. -/
def SaidIdx (said : List StI) (k e i : Int) : Prop := (i = -1 ∧ kindAt said k e = none) ∨ ∃ (j : Nat) (x : StI), i = (j : Int) ∧ said[j]? = some x ∧ kindAt said k e = some x

set_option maxRecDepth 20000 in
set_option maxHeartbeats 1000000 in
theorem saidOf1_c (bk be : Nat) (x : StI) (k e : Int) (w : World) (hk : w.cell? ⟨bk, 0, none⟩ = some (.int .i64 k)) (he : w.cell? ⟨be, 0, none⟩ = some (.int .i64 e)) :
    Calls Try.prog 24 #[.agg #[.int .i64 x.k, .int .i64 x.e, .int .i64 x.f, .int .i64 x.s, .int .i64 x.n], .pointer (some ⟨bk, 0, none⟩), .pointer (some ⟨be, 0, none⟩)] w fun d w' => d = .returned (.bool (decide (x.k = k ∧ x.e = e))) ∧ Below w.heap.size w w' := by
  have hkl := World.block_lt_of_cell? w ⟨bk, 0, none⟩ hk
  have hel := World.block_lt_of_cell? w ⟨be, 0, none⟩ he
  by_cases q1 : x.k = k
  · have b1 : (x.k == k) = true := by simp [q1]
    by_cases q2 : x.e = e
    · have b2 : (x.e == e) = true := by simp [q2]
      rw [decide_eq_true ⟨q1, q2⟩]
      clear q1 q2
      go_enter Try.func24, Try.ntmps24
      go_wp2
      go_ret
      exact ⟨rfl, by go_grown⟩
    · have b2 : (x.e == e) = false := by simp [q2]
      rw [decide_eq_false (fun q => q2 q.2)]
      clear q1 q2
      go_enter Try.func24, Try.ntmps24
      go_wp2
      go_ret
      exact ⟨rfl, by go_grown⟩
  · have b1 : (x.k == k) = false := by simp [q1]
    rw [decide_eq_false (fun q => q1 q.1)]
    clear q1
    go_enter Try.func24, Try.ntmps24
    go_wp2
    go_ret
    exact ⟨rfl, by go_grown⟩

set_option maxRecDepth 20000 in
set_option maxHeartbeats 2000000 in
theorem saidIndex_c (bk be : Nat) (a : Option Addr) (n cap : Nat) (said : List StI) (k e : Int) (w : World) (hn : n ≤ 1048576) (h : StIn w a n said) (hk : w.cell? ⟨bk, 0, none⟩ = some (.int .i64 k)) (he : w.cell? ⟨be, 0, none⟩ = some (.int .i64 e)) :
    Calls Try.prog 23 #[.slice a n cap, .func (.func 24) #[] #[.pointer (some ⟨bk, 0, none⟩), .pointer (some ⟨be, 0, none⟩)]] w fun d w' => (∃ i : Int, d = .returned (.int .i64 i) ∧ SaidIdx said k e i) ∧ Below w.heap.size w w' := by
  have HZ : Hid (said.length = n) := h.1
  have H : Hid (StIn w a n said) := h
  have hkl := World.block_lt_of_cell? w ⟨bk, 0, none⟩ hk
  have hel := World.block_lt_of_cell? w ⟨be, 0, none⟩ he
  have HC : Hid (∀ (x : StI) (w2 : World), Below w.heap.size w w2 → Calls Try.prog 24 #[.agg #[.int .i64 x.k, .int .i64 x.e, .int .i64 x.f, .int .i64 x.s, .int .i64 x.n], .pointer (some ⟨bk, 0, none⟩), .pointer (some ⟨be, 0, none⟩)] w2 fun d w' => d = .returned (.bool (decide (x.k = k ∧ x.e = e))) ∧ Below w2.heap.size w2 w') := fun x w2 hb => saidOf1_c bk be x k e w2 ((hb.cell (p := ⟨bk, 0, none⟩) hkl).trans hk) ((hb.cell (p := ⟨be, 0, none⟩) hel).trans he)
  clear h hk he hkl hel
  have hn' : (n : Int) ≤ 1048576 := by omega
  go_enter Try.func23, Try.ntmps23
  go_wp2_with fail
  go_loopw [8] (fun i wr => ∃ j : Nat, j ≤ n ∧ i = .int .i64 (j : Int) ∧ Hid (kindAt (said.drop j) k e = kindAt said k e) ∧ Below w.heap.size w wr) (fun i _ => n - (intOf i).toNat)
  case atStart => exact ⟨0, Nat.zero_le _, rfl, by show kindAt (said.drop 0) k e = _; rw [List.drop_zero], Below.refl _ _⟩
  case round =>
    obtain ⟨j, hj, rfl, HP, hnx⟩ := hrel
    by_cases hlt : j < n
    · obtain ⟨g, off, x, rfl, hs, hxa, hgl⟩ := H.out.at hlt
      have HS : Hid (said[j]? = some x) := hs
      have HD := kindAt_drop hs k e
      obtain ⟨g0, g1, g2, g3, g4⟩ := hxa.below hnx hgl
      have hbw : g < wr.heap.size := Nat.lt_of_lt_of_le hgl hnx.size
      have hlt' : (j : Int) < (n : Int) := by omega
      clear hs hxa
      by_cases q : x.k = k ∧ x.e = e
      · have HI : Hid (SaidIdx said k e (j : Int)) := .inr ⟨j, x, rfl, HS.out, by rw [← HP.out, HD, if_pos q]⟩
        have HQ : Hid (decide (x.k = k ∧ x.e = e) = true) := decide_eq_true q
        clear q HD
        go_wp2_with fail
        refine (HC.out x _ hnx).mono ?_
        rintro d w1 ⟨rfl, hb1⟩
        rw [HQ.out]
        go_wp2
        go_ret
        exact ⟨⟨_, rfl, HI.out⟩, hnx.trans (hb1.mono hnx.size)⟩
      · have HN : Hid (kindAt (said.drop (j + 1)) k e = kindAt said k e) := by show _ = _; rw [← HP.out, HD, if_neg q]
        have HQ : Hid (decide (x.k = k ∧ x.e = e) = false) := decide_eq_false q
        clear q HD
        go_wp2_with fail
        refine (HC.out x _ hnx).mono ?_
        rintro d w1 ⟨rfl, hb1⟩
        rw [HQ.out]
        go_wp2
        exact ⟨⟨j + 1, by omega, by go_num, HN, hnx.trans (hb1.mono hnx.size)⟩, by simp [intOf]; omega⟩
    · have hkn : j = n := by omega
      subst hkn
      have HI : Hid (SaidIdx said k e (-1)) := .inl ⟨rfl, by rw [← HP.out, List.drop_of_length_le (by rw [HZ.out]; exact Nat.le_refl _)]; rfl⟩
      go_wp2
      go_ret
      exact ⟨⟨_, rfl, HI.out⟩, hnx⟩

set_option maxRecDepth 20000 in
set_option maxHeartbeats 1000000 in
theorem saidOf_c (a : Option Addr) (n cap : Nat) (said : List StI) (k e : Int) (w : World) (hn : n ≤ 1048576) (h : StIn w a n said) :
    Calls Try.prog 20 #[.slice a n cap, .int .i64 k, .int .i64 e] w fun d w' => (∃ i : Int, d = .returned (.int .i64 i) ∧ SaidIdx said k e i) ∧ Below w.heap.size w w' := by
  obtain ⟨W, hW⟩ : ∃ W, W = (w.alloc (.cells #[.int .i64 k] 2)).alloc (.cells #[.int .i64 e] 2) := ⟨_, rfl⟩
  have B0 : Below w.heap.size w W := by rw [hW]; exact ((Below.refl _ _).alloc (Nat.le_refl _) _).alloc (by simp) _
  have c0 : W.cell? ⟨w.heap.size, 0, none⟩ = some (.int .i64 k) := by rw [hW]; simp
  have c1 : W.cell? ⟨w.heap.size + 1, 0, none⟩ = some (.int .i64 e) := by rw [hW]; simp
  have HC : Hid (Calls Try.prog 23 #[.slice a n cap, .func (.func 24) #[] #[.pointer (some ⟨w.heap.size, 0, none⟩), .pointer (some ⟨w.heap.size + 1, 0, none⟩)]] W fun d w' => (∃ i : Int, d = .returned (.int .i64 i) ∧ SaidIdx said k e i) ∧ Below W.heap.size W w') := saidIndex_c _ _ a n cap said k e W hn (h.below B0) c0 c1
  clear h c0 c1
  have hmf : ∀ (fn : Fn) (first cap : Array Value) (w : World), (Instr.makeFunc fn first cap).run Try.prog w = .ok (.func fn first cap) w := fun _ _ _ _ => rfl
  go_enter Try.func20, Try.ntmps20
  go_wp2_with fail
  rw [← hW]
  clear hW
  refine HC.out.mono ?_
  rintro d w1 ⟨⟨i, rfl, hi⟩, hb1⟩
  go_wp2
  go_ret
  exact ⟨⟨i, rfl, hi⟩, B0.trans (hb1.mono B0.size)⟩

end Go.Proofs.Ytabbjcngilocnab
