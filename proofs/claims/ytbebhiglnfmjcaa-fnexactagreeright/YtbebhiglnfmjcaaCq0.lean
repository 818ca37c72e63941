/-
  PLAIN WORDS of chapter 10: messages, nodes, broadcasts and their fault. CONTRACTS: messages compared and found.
  Conditions: each contract bears its own.
-/
import Derived.Test.YtbebhiglnfmjcaaCa0
import Derived.Test.YtbebhiglnfmjcaaRi0
namespace Go.Proofs.Ytbebhiglnfmjcaa
open Go.RowKit
set_option linter.unusedVariables false
set_option linter.unusedSimpArgs false

def sameMs (x y : MsI) : Bool := decide (x = y)
def hasMs (zs : List MsI) (x : MsI) : Bool := zs.any (fun y => sameMs y x)

theorem hasMs_iff {zs : List MsI} {x : MsI} : hasMs zs x = true ↔ x ∈ zs := by
  unfold hasMs sameMs
  rw [List.any_eq_true]
  constructor
  · rintro ⟨y, hy, h⟩
    have : y = x := of_decide_eq_true h
    subst this; exact hy
  · intro h
    exact ⟨x, h, decide_eq_true rfl⟩

theorem mem_takeM {zs : List MsI} {x : MsI} {k : Nat} : x ∈ zs.take k ↔ ∃ j, j < k ∧ zs[j]? = some x := by
  rw [List.mem_take_iff_getElem]
  constructor
  · rintro ⟨j, hj, e⟩
    exact ⟨j, by omega, by rw [List.getElem?_eq_getElem (by omega), e]⟩
  · rintro ⟨j, hj, e⟩
    have hl : j < zs.length := by
      by_cases q : j < zs.length
      · exact q
      · rw [List.getElem?_eq_none (by omega)] at e; cases e
    rw [List.getElem?_eq_getElem hl] at e
    exact ⟨j, by omega, Option.some.inj e⟩

/-- A message's fields are so. -/
def msB (f : Int) (m : MsI) : Bool := inR m.f 1 (3 * f + 1) && (inR m.t 1 (3 * f + 1) && (inR m.k 1 3 && inR m.v 1 3))

/-- The code of one message behind those ahead. -/
def msOne (f : Int) (pre : List MsI) (m : MsI) : Int := if msB f m = true then (if hasMs pre m = true then 6 else 0) else 3

/-- The code of the first k of them. -/
def msTo (f : Int) (ms : List MsI) : Nat → Int
  | 0 => 0
  | k + 1 => if msTo f ms k = 0 then (match ms[k]? with
    | none => 0
    | some x => msOne f (ms.take k) x) else msTo f ms k

theorem msTo_stay (f : Int) (ms : List MsI) (k m : Nat) (d : Int) (hd : d ≠ 0) (h : msTo f ms k = d) (hm : k ≤ m) : msTo f ms m = d := by
  induction m with
  | zero => obtain rfl : k = 0 := by omega
            exact h
  | succ m ih =>
    by_cases e : k = m + 1
    · subst e; exact h
    · have := ih (by omega)
      rw [msTo, this, if_neg hd]

theorem msTo_next {f : Int} {ms : List MsI} {k : Nat} {x : MsI} (hx : ms[k]? = some x) (h0 : msTo f ms k = 0) : msTo f ms (k + 1) = msOne f (ms.take k) x := by
  rw [msTo, h0, if_pos rfl, hx]

/-- A node's numbers are so. -/
def ndB (x : NdP) : Bool := inR x.e 0 3 && (inR x.r 0 3 && inR x.t 0 3)

/-- What a node heard is there and to it. -/
def hdB (ms : List MsI) (i : Int) (hs : List MsI) : Bool := hs.all (fun h => hasMs ms h && decide (h.t = i))

/-- The code of one node. -/
def ndOne (ms : List MsI) (i : Int) (x : NdP) : Int := if ndB x = true then (if hdB ms i x.hs = true then (if decide x.hs.Nodup = true then 0 else 6) else 4) else 3

/-- The code of the first k of them. -/
def ndTo (ms : List MsI) (ns : List NdP) : Nat → Int
  | 0 => 0
  | k + 1 => if ndTo ms ns k = 0 then (match ns[k]? with
    | none => 0
    | some x => ndOne ms ((k : Int) + 1) x) else ndTo ms ns k

theorem ndTo_stay (ms : List MsI) (ns : List NdP) (k m : Nat) (d : Int) (hd : d ≠ 0) (h : ndTo ms ns k = d) (hm : k ≤ m) : ndTo ms ns m = d := by
  induction m with
  | zero => obtain rfl : k = 0 := by omega
            exact h
  | succ m ih =>
    by_cases e : k = m + 1
    · subst e; exact h
    · have := ih (by omega)
      rw [ndTo, this, if_neg hd]

theorem ndTo_next {ms : List MsI} {ns : List NdP} {k : Nat} {x : NdP} (hx : ns[k]? = some x) (h0 : ndTo ms ns k = 0) : ndTo ms ns (k + 1) = ndOne ms ((k : Int) + 1) x := by
  rw [ndTo, h0, if_pos rfl, hx]

/-- What is asked ahead of messages and nodes. -/
def hdCode (f s : Int) (bs : List Int) (nn mn : Nat) : Int :=
  if inR f 1 2 = true then (if (inR s 1 (3 * f + 1) && rngAll f bs) = true then (if f < (bs.length : Int) ∨ 200 < mn then 2 else if riseB bs = true ∧ (nn : Int) = 3 * f + 1 then 0 else 1) else 3) else 3

/-- The code of a broadcast. -/
def caCode (c : CaP) : Int := if hdCode c.f c.s c.bs c.ns.length c.ms.length = 0 then (if msTo c.f c.ms c.ms.length = 0 then ndTo c.ms c.ns c.ns.length else msTo c.f c.ms c.ms.length) else hdCode c.f c.s c.bs c.ns.length c.ms.length

theorem hd_ok {f s : Int} {bs : List Int} {nn mn : Nat} (h : hdCode f s bs nn mn = 0) : (1 ≤ f ∧ f ≤ 2) ∧ inR s 1 (3 * f + 1) = true ∧ rngAll f bs = true ∧ (bs.length : Int) ≤ f ∧ mn ≤ 200 ∧ riseB bs = true ∧ (nn : Int) = 3 * f + 1 := by
  unfold hdCode at h
  by_cases q1 : inR f 1 2 = true
  · rw [if_pos q1] at h
    by_cases q2 : (inR s 1 (3 * f + 1) && rngAll f bs) = true
    · rw [if_pos q2] at h
      by_cases q3 : f < (bs.length : Int) ∨ 200 < mn
      · rw [if_pos q3] at h; omega
      · rw [if_neg q3] at h
        by_cases q4 : riseB bs = true ∧ (nn : Int) = 3 * f + 1
        · rw [Bool.and_eq_true] at q2
          exact ⟨(inR_iff _ _ _).1 q1, q2.1, q2.2, by omega, by omega, q4.1, q4.2⟩
        · rw [if_neg q4] at h; omega
    · rw [if_neg q2] at h; omega
  · rw [if_neg q1] at h; omega

theorem sameMs_mk (a0 a1 a2 a3 b0 b1 b2 b3 : Int) : sameMs ⟨a0, a1, a2, a3⟩ ⟨b0, b1, b2, b3⟩ = (a0 == b0 && a1 == b1 && a2 == b2 && a3 == b3) := by
  unfold sameMs
  rw [Bool.eq_iff_iff]
  simp only [decide_eq_true_eq, MsI.mk.injEq, Bool.and_eq_true, beq_iff_eq]
  constructor
  · rintro ⟨h0, h1, h2, h3⟩; exact ⟨⟨⟨h0, h1⟩, h2⟩, h3⟩
  · rintro ⟨⟨⟨h0, h1⟩, h2⟩, h3⟩; exact ⟨h0, h1, h2, h3⟩

set_option maxHeartbeats 1000000 in
theorem ms_eql (x y : MsI) (w : World) : (binOp .eql 51 (.agg #[.int .i64 x.f, .int .i64 x.t, .int .i64 x.k, .int .i64 x.v]) (.agg #[.int .i64 y.f, .int .i64 y.t, .int .i64 y.k, .int .i64 y.v])).run Try.prog w = .ok (.bool (sameMs x y)) w := by
  obtain ⟨a0, a1, a2, a3⟩ := x
  obtain ⟨b0, b1, b2, b3⟩ := y
  simp only
  rw [sameMs_mk]
  cases e0 : (a0 == b0)
  · simp [go_sem, e0]
  cases e1 : (a1 == b1)
  · simp [go_sem, e0, e1]
  cases e2 : (a2 == b2)
  · simp [go_sem, e0, e1, e2]
  cases e3 : (a3 == b3)
  · simp [go_sem, e0, e1, e2, e3]
  · simp [go_sem, e0, e1, e2, e3]

attribute [local go_sem ↓] ms_eql

theorem MsAt.new (w : World) (x : MsI) (t : TypeId) : MsAt (w.alloc (.cells #[.int .i64 x.f, .int .i64 x.t, .int .i64 x.k, .int .i64 x.v] t)) w.heap.size 0 x := by
  refine ⟨?_, ?_, ?_, ?_⟩ <;> simp

theorem MsIn.take {w : World} {a : Option Addr} {n : Nat} {zs : List MsI} (h : MsIn w a n zs) {k : Nat} (hk : k ≤ n) : MsIn w a k (zs.take k) := by
  have hz := h.1
  refine ⟨by simp; omega, fun hp => ?_⟩
  obtain ⟨b, off, e, q⟩ := h.2 (by omega)
  refine ⟨b, off, e, fun j x hx => ?_⟩
  rw [List.getElem?_take] at hx
  split at hx
  · exact q j x hx
  · cases hx

set_option maxRecDepth 20000 in
set_option maxHeartbeats 1000000 in
theorem l10Has_c (a : Option Addr) (n cap : Nat) (zs : List MsI) (x : MsI) (w : World) (hn : n ≤ 1048576) (h : MsIn w a n zs) :
    Calls Try.prog 80 #[.slice a n cap, .agg #[.int .i64 x.f, .int .i64 x.t, .int .i64 x.k, .int .i64 x.v]] w fun e w' => e = .returned (.bool (hasMs zs x)) ∧ Below w.heap.size w w' := by
  have hz : Hid (zs.length = n) := h.1
  have hn' : (n : Int) ≤ 1048576 := by omega
  obtain ⟨w0, hw0⟩ : ∃ w0, w0 = w.alloc (.cells #[.int .i64 x.f, .int .i64 x.t, .int .i64 x.k, .int .i64 x.v] 51) := ⟨_, rfl⟩
  have hb0 : Below w.heap.size w w0 := by rw [hw0]; exact (Below.refl _ _).alloc (Nat.le_refl _) _
  have hs0 : w.heap.size < w0.heap.size := by rw [hw0]; simp
  have HB0 : Hid (Below w.heap.size w w0) := hb0
  have H : Hid (MsIn w0 a n zs) := h.below hb0
  have HY : Hid (MsAt w0 w.heap.size 0 x) := by rw [hw0]; exact MsAt.new w x _
  clear h hb0
  go_enter Try.func80, Try.ntmps80
  go_wp2
  rw [← hw0]
  clear hw0
  go_loopw [5] (fun i wr => ∃ k : Nat, k ≤ n ∧ i = .int .i64 (k : Int) ∧ ¬ x ∈ zs.take k ∧ Below w0.heap.size w0 wr) (fun i _ => n - (intOf i).toNat)
  case atStart => exact ⟨0, Nat.zero_le _, rfl, by simp, Below.refl _ _⟩
  case round =>
    obtain ⟨k, hk, rfl, hm, hnx⟩ := hrel
    have HM : Hid (¬ x ∈ zs.take k) := hm
    have BN : Hid (Below w.heap.size w wr) := HB0.out.trans (hnx.mono (by omega))
    clear hm
    by_cases hlt : k < n
    · obtain ⟨g, off, y, rfl, hs, hxa, hgl⟩ := H.out.at hlt
      have HS : Hid (zs[k]? = some y) := hs
      obtain ⟨g0, g1, g2, g3⟩ := hxa.below hnx hgl
      obtain ⟨y0, y1, y2, y3⟩ := HY.out.below hnx hs0
      simp only [Nat.zero_add] at y0 y1 y2 y3
      have hbw : g < wr.heap.size := Nat.lt_of_lt_of_le hgl hnx.size
      have hyw : w.heap.size < wr.heap.size := Nat.lt_of_lt_of_le hs0 hnx.size
      have hlt' : (k : Int) < (n : Int) := by omega
      clear hs hxa
      cases hsame : sameMs y x
      · have HN : Hid (¬ x ∈ zs.take (k + 1)) := by
          show ¬ x ∈ zs.take (k + 1)
          rw [mem_takeM]
          rintro ⟨j, hj, hjs⟩
          by_cases e : j = k
          · subst e
            rw [HS.out] at hjs
            simp [sameMs] at hsame
            exact hsame (Option.some.inj hjs)
          · exact HM.out (mem_takeM.2 ⟨j, by omega, hjs⟩)
        go_wp2
        go_quiet (fail)
        go_wp2
        exact ⟨⟨k + 1, by omega, by go_num, HN.out, below_drewN hnx _⟩, by simp [intOf]; omega⟩
      · have HI : Hid (hasMs zs x = true) := by
          show hasMs zs x = true
          simp [sameMs] at hsame
          subst hsame
          exact hasMs_iff.2 (List.mem_of_getElem? HS.out)
        go_wp2
        go_quiet (fail)
        go_wp2
        go_ret
        exact ⟨by rw [HI.out]; rfl, below_drewN BN.out _⟩
    · have hkn : k = n := by omega
      subst hkn
      have HN : Hid (hasMs zs x = false) := by
        show hasMs zs x = false
        have := HM.out
        rw [List.take_of_length_le (by rw [hz.out]; exact Nat.le_refl _)] at this
        cases q : hasMs zs x
        · rfl
        · exact absurd (hasMs_iff.1 q) this
      go_wp2
      go_ret
      exact ⟨by rw [HN.out]; rfl, BN.out⟩

set_option maxRecDepth 20000 in
set_option maxHeartbeats 1000000 in
theorem slIndexM_c (a : Option Addr) (n cap : Nat) (zs : List MsI) (x : MsI) (w : World) (hn : n ≤ 1048576) (h : MsIn w a n zs) :
    Calls Try.prog 111 #[.slice a n cap, .agg #[.int .i64 x.f, .int .i64 x.t, .int .i64 x.k, .int .i64 x.v]] w fun e w' => (∃ i : Int, e = .returned (.int .i64 i) ∧ ((0 ≤ i ∧ x ∈ zs) ∨ (i = -1 ∧ ¬ x ∈ zs))) ∧ Below w.heap.size w w' := by
  have hz : Hid (zs.length = n) := h.1
  have hn' : (n : Int) ≤ 1048576 := by omega
  obtain ⟨w0, hw0⟩ : ∃ w0, w0 = w.alloc (.cells #[.int .i64 x.f, .int .i64 x.t, .int .i64 x.k, .int .i64 x.v] 51) := ⟨_, rfl⟩
  have hb0 : Below w.heap.size w w0 := by rw [hw0]; exact (Below.refl _ _).alloc (Nat.le_refl _) _
  have hs0 : w.heap.size < w0.heap.size := by rw [hw0]; simp
  have HB0 : Hid (Below w.heap.size w w0) := hb0
  have H : Hid (MsIn w0 a n zs) := h.below hb0
  have HY : Hid (MsAt w0 w.heap.size 0 x) := by rw [hw0]; exact MsAt.new w x _
  clear h hb0
  go_enter Try.func111, Try.ntmps111
  go_wp2
  rw [← hw0]
  clear hw0
  go_loopw [8] (fun i wr => ∃ k : Nat, k ≤ n ∧ i = .int .i64 (k : Int) ∧ ¬ x ∈ zs.take k ∧ Below w0.heap.size w0 wr) (fun i _ => n - (intOf i).toNat)
  case atStart => exact ⟨0, Nat.zero_le _, rfl, by simp, Below.refl _ _⟩
  case round =>
    obtain ⟨k, hk, rfl, hm, hnx⟩ := hrel
    have HM : Hid (¬ x ∈ zs.take k) := hm
    have BN : Hid (Below w.heap.size w wr) := HB0.out.trans (hnx.mono (by omega))
    clear hm
    by_cases hlt : k < n
    · obtain ⟨g, off, y, rfl, hs, hxa, hgl⟩ := H.out.at hlt
      have HS : Hid (zs[k]? = some y) := hs
      obtain ⟨g0, g1, g2, g3⟩ := hxa.below hnx hgl
      obtain ⟨y0, y1, y2, y3⟩ := HY.out.below hnx hs0
      simp only [Nat.zero_add] at y0 y1 y2 y3
      have hbw : g < wr.heap.size := Nat.lt_of_lt_of_le hgl hnx.size
      have hyw : w.heap.size < wr.heap.size := Nat.lt_of_lt_of_le hs0 hnx.size
      have hlt' : (k : Int) < (n : Int) := by omega
      clear hs hxa
      cases hsame : sameMs x y
      · have HN : Hid (¬ x ∈ zs.take (k + 1)) := by
          show ¬ x ∈ zs.take (k + 1)
          rw [mem_takeM]
          rintro ⟨j, hj, hjs⟩
          by_cases e : j = k
          · subst e
            rw [HS.out] at hjs
            simp [sameMs] at hsame
            exact hsame (Option.some.inj hjs).symm
          · exact HM.out (mem_takeM.2 ⟨j, by omega, hjs⟩)
        go_wp2
        go_quiet (fail)
        go_wp2
        exact ⟨⟨k + 1, by omega, by go_num, HN.out, below_drewN hnx _⟩, by simp [intOf]; omega⟩
      · have HI : Hid (x ∈ zs) := by
          show x ∈ zs
          simp [sameMs] at hsame
          subst hsame
          exact List.mem_of_getElem? HS.out
        go_wp2
        go_quiet (fail)
        go_wp2
        go_ret
        exact ⟨⟨_, rfl, Or.inl ⟨by omega, HI.out⟩⟩, below_drewN BN.out _⟩
    · have hkn : k = n := by omega
      subst hkn
      have HN : Hid (¬ x ∈ zs) := by
        have := HM.out
        rw [List.take_of_length_le (by rw [hz.out]; exact Nat.le_refl _)] at this
        exact this
      go_wp2
      go_ret
      exact ⟨⟨_, rfl, Or.inr ⟨rfl, HN.out⟩⟩, BN.out⟩

set_option maxRecDepth 20000 in
set_option maxHeartbeats 400000 in
theorem slContainsM_c (a : Option Addr) (n cap : Nat) (zs : List MsI) (x : MsI) (w : World) (hn : n ≤ 1048576) (h : MsIn w a n zs) :
    Calls Try.prog 92 #[.slice a n cap, .agg #[.int .i64 x.f, .int .i64 x.t, .int .i64 x.k, .int .i64 x.v]] w fun e w' => e = .returned (.bool (hasMs zs x)) ∧ Below w.heap.size w w' := by
  have H : Hid (MsIn (w.alloc (.cells #[.int .i64 x.f, .int .i64 x.t, .int .i64 x.k, .int .i64 x.v] 51)) a n zs) := h.below ((Below.refl _ _).alloc (Nat.le_refl _) _)
  clear h
  go_enter Try.func92, Try.ntmps92
  go_wp2_with fail
  refine (slIndexM_c a n cap zs x _ hn H.out).mono ?_
  rintro e w1 ⟨⟨i, rfl, hi⟩, hb1⟩
  have HX : Hid (decide (0 ≤ i) = hasMs zs x) := by
    show decide (0 ≤ i) = hasMs zs x
    cases q : hasMs zs x
    · have hq : ¬ x ∈ zs := fun m => by rw [hasMs_iff.2 m] at q; cases q
      rcases hi with ⟨_, h2⟩ | ⟨rfl, _⟩
      · exact absurd h2 hq
      · rfl
    · have hq := hasMs_iff.1 q
      rcases hi with ⟨h1, _⟩ | ⟨_, h2⟩
      · simp [h1]
      · exact absurd hq h2
  clear hi
  go_wp2
  go_ret
  exact ⟨by rw [HX.out]; rfl, ((Below.refl w.heap.size w).alloc (Nat.le_refl _) _).trans (hb1.mono (by simp))⟩

end Go.Proofs.Ytbebhiglnfmjcaa
