/-
  CONTRACTS: SharesFault of both programs, and what it asks.
  Conditions: each contract bears its own.
-/
import Derived.Test.YthogdfnaojijhaaCe0
import Derived.Test.YthogdfnaojijhaaRi0
namespace Go.Proofs.Ythogdfnaojijhaa
open Go.RowKit
set_option linter.unusedVariables false
set_option linter.unusedSimpArgs false

theorem sameSh_mk (a0 a1 a2 a3 a4 a5 b0 b1 b2 b3 b4 b5 : Int) : sameSh ⟨a0, a1, a2, a3, a4, a5⟩ ⟨b0, b1, b2, b3, b4, b5⟩ = (a0 == b0 && a1 == b1 && a2 == b2 && a3 == b3 && a4 == b4 && a5 == b5) := by
  unfold sameSh
  rw [Bool.eq_iff_iff]
  simp only [decide_eq_true_eq, ShI.mk.injEq, Bool.and_eq_true, beq_iff_eq]
  constructor
  · rintro ⟨h0, h1, h2, h3, h4, h5⟩; exact ⟨⟨⟨⟨⟨h0, h1⟩, h2⟩, h3⟩, h4⟩, h5⟩
  · rintro ⟨⟨⟨⟨⟨h0, h1⟩, h2⟩, h3⟩, h4⟩, h5⟩; exact ⟨h0, h1, h2, h3, h4, h5⟩

set_option maxHeartbeats 1000000 in
theorem sh_eql (x y : ShI) (w : World) : (binOp .eql 71 (.agg #[.int .i64 x.r, .int .i64 x.k, .int .i64 x.e, .int .i64 x.f, .int .i64 x.s, .int .i64 x.n]) (.agg #[.int .i64 y.r, .int .i64 y.k, .int .i64 y.e, .int .i64 y.f, .int .i64 y.s, .int .i64 y.n])).run Try.prog w = .ok (.bool (sameSh x y)) w := by
  obtain ⟨a0, a1, a2, a3, a4, a5⟩ := x
  obtain ⟨b0, b1, b2, b3, b4, b5⟩ := y
  simp only
  rw [sameSh_mk]
  cases e0 : (a0 == b0)
  · simp [go_sem, e0]
  cases e1 : (a1 == b1)
  · simp [go_sem, e0, e1]
  cases e2 : (a2 == b2)
  · simp [go_sem, e0, e1, e2]
  cases e3 : (a3 == b3)
  · simp [go_sem, e0, e1, e2, e3]
  cases e4 : (a4 == b4)
  · simp [go_sem, e0, e1, e2, e3, e4]
  cases e5 : (a5 == b5)
  · simp [go_sem, e0, e1, e2, e3, e4, e5]
  · simp [go_sem, e0, e1, e2, e3, e4, e5]

attribute [local go_sem ↓] sh_eql

theorem ShAt.new (w : World) (x : ShI) (t : TypeId) : ShAt (w.alloc (.cells #[.int .i64 x.r, .int .i64 x.k, .int .i64 x.e, .int .i64 x.f, .int .i64 x.s, .int .i64 x.n] t)) w.heap.size 0 x := by
  refine ⟨?_, ?_, ?_, ?_, ?_, ?_⟩ <;> simp

theorem ShAt.stat {w : World} {b o : Nat} {x : ShI} (h : ShAt w b o x) : StAt w b (o + 1) x.st := ⟨h.2.1, h.2.2.1, h.2.2.2.1, h.2.2.2.2.1, h.2.2.2.2.2⟩

theorem ShIn.take {w : World} {a : Option Addr} {n : Nat} {zs : List ShI} (h : ShIn w a n zs) {k : Nat} (hk : k ≤ n) : ShIn w a k (zs.take k) := by
  have hz := h.1
  refine ⟨by simp; omega, fun hp => ?_⟩
  obtain ⟨b, off, e, q⟩ := h.2 (by omega)
  refine ⟨b, off, e, fun j x hx => ?_⟩
  rw [List.getElem?_take] at hx
  split at hx
  · exact q j x hx
  · cases hx

set_option maxRecDepth 20000 in
set_option maxHeartbeats 1000000 in
theorem l9Has_c (a : Option Addr) (n cap : Nat) (zs : List ShI) (x : ShI) (w : World) (hn : n ≤ 1048576) (h : ShIn w a n zs) :
    Calls Try.prog 54 #[.slice a n cap, .agg #[.int .i64 x.r, .int .i64 x.k, .int .i64 x.e, .int .i64 x.f, .int .i64 x.s, .int .i64 x.n]] w fun e w' => e = .returned (.bool (hasSh zs x)) ∧ Below w.heap.size w w' := by
  have hz : Hid (zs.length = n) := h.1
  have hn' : (n : Int) ≤ 1048576 := by omega
  obtain ⟨w0, hw0⟩ : ∃ w0, w0 = w.alloc (.cells #[.int .i64 x.r, .int .i64 x.k, .int .i64 x.e, .int .i64 x.f, .int .i64 x.s, .int .i64 x.n] 71) := ⟨_, rfl⟩
  have hb0 : Below w.heap.size w w0 := by rw [hw0]; exact (Below.refl _ _).alloc (Nat.le_refl _) _
  have hs0 : w.heap.size < w0.heap.size := by rw [hw0]; simp
  have HB0 : Hid (Below w.heap.size w w0) := hb0
  have H : Hid (ShIn w0 a n zs) := h.below hb0
  have HY : Hid (ShAt w0 w.heap.size 0 x) := by rw [hw0]; exact ShAt.new w x _
  clear h hb0
  go_enter Try.func54, Try.ntmps54
  go_wp2
  rw [← hw0]
  clear hw0
  go_loopw [5] (fun i wr => ∃ k : Nat, k ≤ n ∧ i = .int .i64 (k : Int) ∧ ¬ x ∈ zs.take k ∧ Below w0.heap.size w0 wr) (fun i _ => n - (intOf i).toNat)
  case atStart => exact ⟨0, Nat.zero_le _, rfl, by simp, Below.refl _ _⟩
  case round =>
    obtain ⟨k, hk, rfl, hm, hnx⟩ := hrel
    have HM : Hid (¬ x ∈ zs.take k) := hm
    have BN : Hid (Below w.heap.size w wr) := HB0.out.trans (hnx.mono (by omega))
    clear hm
    by_cases hlt : k < n
    · obtain ⟨g, off, y, rfl, hs, hxa, hgl⟩ := H.out.at hlt
      have HS : Hid (zs[k]? = some y) := hs
      obtain ⟨g0, g1, g2, g3, g4, g5⟩ := hxa.below hnx hgl
      obtain ⟨y0, y1, y2, y3, y4, y5⟩ := HY.out.below hnx hs0
      simp only [Nat.zero_add] at y0 y1 y2 y3 y4 y5
      have hbw : g < wr.heap.size := Nat.lt_of_lt_of_le hgl hnx.size
      have hyw : w.heap.size < wr.heap.size := Nat.lt_of_lt_of_le hs0 hnx.size
      have hlt' : (k : Int) < (n : Int) := by omega
      clear hs hxa
      cases hsame : sameSh y x
      · have HN : Hid (¬ x ∈ zs.take (k + 1)) := by
          show ¬ x ∈ zs.take (k + 1)
          rw [mem_takeH]
          rintro ⟨j, hj, hjs⟩
          by_cases e : j = k
          · subst e
            rw [HS.out] at hjs
            simp [sameSh] at hsame
            exact hsame (Option.some.inj hjs)
          · exact HM.out (mem_takeH.2 ⟨j, by omega, hjs⟩)
        go_wp2
        go_quiet (fail)
        go_wp2
        exact ⟨⟨k + 1, by omega, by go_num, HN.out, below_drewN hnx _⟩, by simp [intOf]; omega⟩
      · have HI : Hid (hasSh zs x = true) := by
          show hasSh zs x = true
          simp [sameSh] at hsame
          subst hsame
          exact hasSh_iff.2 (List.mem_of_getElem? HS.out)
        go_wp2
        go_quiet (fail)
        go_wp2
        go_ret
        exact ⟨by rw [HI.out]; rfl, below_drewN BN.out _⟩
    · have hkn : k = n := by omega
      subst hkn
      have HN : Hid (hasSh zs x = false) := by
        show hasSh zs x = false
        have := HM.out
        rw [List.take_of_length_le (by rw [hz.out]; exact Nat.le_refl _)] at this
        cases q : hasSh zs x
        · rfl
        · exact absurd (hasSh_iff.1 q) this
      go_wp2
      go_ret
      exact ⟨by rw [HN.out]; rfl, BN.out⟩

set_option maxRecDepth 20000 in
set_option maxHeartbeats 1000000 in
theorem slIndexH_c (a : Option Addr) (n cap : Nat) (zs : List ShI) (x : ShI) (w : World) (hn : n ≤ 1048576) (h : ShIn w a n zs) :
    Calls Try.prog 75 #[.slice a n cap, .agg #[.int .i64 x.r, .int .i64 x.k, .int .i64 x.e, .int .i64 x.f, .int .i64 x.s, .int .i64 x.n]] w fun e w' => (∃ i : Int, e = .returned (.int .i64 i) ∧ ((0 ≤ i ∧ x ∈ zs) ∨ (i = -1 ∧ ¬ x ∈ zs))) ∧ Below w.heap.size w w' := by
  have hz : Hid (zs.length = n) := h.1
  have hn' : (n : Int) ≤ 1048576 := by omega
  obtain ⟨w0, hw0⟩ : ∃ w0, w0 = w.alloc (.cells #[.int .i64 x.r, .int .i64 x.k, .int .i64 x.e, .int .i64 x.f, .int .i64 x.s, .int .i64 x.n] 71) := ⟨_, rfl⟩
  have hb0 : Below w.heap.size w w0 := by rw [hw0]; exact (Below.refl _ _).alloc (Nat.le_refl _) _
  have hs0 : w.heap.size < w0.heap.size := by rw [hw0]; simp
  have HB0 : Hid (Below w.heap.size w w0) := hb0
  have H : Hid (ShIn w0 a n zs) := h.below hb0
  have HY : Hid (ShAt w0 w.heap.size 0 x) := by rw [hw0]; exact ShAt.new w x _
  clear h hb0
  go_enter Try.func75, Try.ntmps75
  go_wp2
  rw [← hw0]
  clear hw0
  go_loopw [8] (fun i wr => ∃ k : Nat, k ≤ n ∧ i = .int .i64 (k : Int) ∧ ¬ x ∈ zs.take k ∧ Below w0.heap.size w0 wr) (fun i _ => n - (intOf i).toNat)
  case atStart => exact ⟨0, Nat.zero_le _, rfl, by simp, Below.refl _ _⟩
  case round =>
    obtain ⟨k, hk, rfl, hm, hnx⟩ := hrel
    have HM : Hid (¬ x ∈ zs.take k) := hm
    have BN : Hid (Below w.heap.size w wr) := HB0.out.trans (hnx.mono (by omega))
    clear hm
    by_cases hlt : k < n
    · obtain ⟨g, off, y, rfl, hs, hxa, hgl⟩ := H.out.at hlt
      have HS : Hid (zs[k]? = some y) := hs
      obtain ⟨g0, g1, g2, g3, g4, g5⟩ := hxa.below hnx hgl
      obtain ⟨y0, y1, y2, y3, y4, y5⟩ := HY.out.below hnx hs0
      simp only [Nat.zero_add] at y0 y1 y2 y3 y4 y5
      have hbw : g < wr.heap.size := Nat.lt_of_lt_of_le hgl hnx.size
      have hyw : w.heap.size < wr.heap.size := Nat.lt_of_lt_of_le hs0 hnx.size
      have hlt' : (k : Int) < (n : Int) := by omega
      clear hs hxa
      cases hsame : sameSh x y
      · have HN : Hid (¬ x ∈ zs.take (k + 1)) := by
          show ¬ x ∈ zs.take (k + 1)
          rw [mem_takeH]
          rintro ⟨j, hj, hjs⟩
          by_cases e : j = k
          · subst e
            rw [HS.out] at hjs
            simp [sameSh] at hsame
            exact hsame (Option.some.inj hjs).symm
          · exact HM.out (mem_takeH.2 ⟨j, by omega, hjs⟩)
        go_wp2
        go_quiet (fail)
        go_wp2
        exact ⟨⟨k + 1, by omega, by go_num, HN.out, below_drewN hnx _⟩, by simp [intOf]; omega⟩
      · have HI : Hid (x ∈ zs) := by
          show x ∈ zs
          simp [sameSh] at hsame
          subst hsame
          exact List.mem_of_getElem? HS.out
        go_wp2
        go_quiet (fail)
        go_wp2
        go_ret
        exact ⟨⟨_, rfl, Or.inl ⟨by omega, HI.out⟩⟩, below_drewN BN.out _⟩
    · have hkn : k = n := by omega
      subst hkn
      have HN : Hid (¬ x ∈ zs) := by
        have := HM.out
        rw [List.take_of_length_le (by rw [hz.out]; exact Nat.le_refl _)] at this
        exact this
      go_wp2
      go_ret
      exact ⟨⟨_, rfl, Or.inr ⟨rfl, HN.out⟩⟩, BN.out⟩

set_option maxRecDepth 20000 in
set_option maxHeartbeats 400000 in
theorem slContainsH_c (a : Option Addr) (n cap : Nat) (zs : List ShI) (x : ShI) (w : World) (hn : n ≤ 1048576) (h : ShIn w a n zs) :
    Calls Try.prog 62 #[.slice a n cap, .agg #[.int .i64 x.r, .int .i64 x.k, .int .i64 x.e, .int .i64 x.f, .int .i64 x.s, .int .i64 x.n]] w fun e w' => e = .returned (.bool (hasSh zs x)) ∧ Below w.heap.size w w' := by
  have H : Hid (ShIn (w.alloc (.cells #[.int .i64 x.r, .int .i64 x.k, .int .i64 x.e, .int .i64 x.f, .int .i64 x.s, .int .i64 x.n] 71)) a n zs) := h.below ((Below.refl _ _).alloc (Nat.le_refl _) _)
  clear h
  go_enter Try.func62, Try.ntmps62
  go_wp2_with fail
  refine (slIndexH_c a n cap zs x _ hn H.out).mono ?_
  rintro e w1 ⟨⟨i, rfl, hi⟩, hb1⟩
  have HX : Hid (decide (0 ≤ i) = hasSh zs x) := by
    show decide (0 ≤ i) = hasSh zs x
    cases q : hasSh zs x
    · have hq : ¬ x ∈ zs := fun m => by rw [hasSh_iff.2 m] at q; cases q
      rcases hi with ⟨_, h2⟩ | ⟨rfl, _⟩
      · exact absurd h2 hq
      · rfl
    · have hq := hasSh_iff.1 q
      rcases hi with ⟨h1, _⟩ | ⟨_, h2⟩
      · simp [h1]
      · exact absurd hq h2
  clear hi
  go_wp2
  go_ret
  exact ⟨by rw [HX.out]; rfl, ((Below.refl w.heap.size w).alloc (Nat.le_refl _) _).trans (hb1.mono (by simp))⟩

end Go.Proofs.Ythogdfnaojijhaa
