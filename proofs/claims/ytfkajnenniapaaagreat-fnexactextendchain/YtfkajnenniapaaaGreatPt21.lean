/- Contracts. -/
import Derived.Test.YtfkajnenniapaaaGreatPt12
import Derived.Test.YtfkajnenniapaaaGreatPt07
import Derived.Test.YtfkajnenniapaaaGreatPt20
namespace Go.Proofs.YtfkajnenniapaaaGreat
set_option maxRecDepth 100000
set_option maxHeartbeats 8000000
open Go.RowKit
set_option linter.unusedVariables false
set_option linter.unusedSimpArgs false

abbrev ShI.st (x : ShI) : StI := ⟨x.k, x.e, x.f, x.s, x.n⟩
/-- The share of one. -/
abbrev shOf (r : Int) (x : StI) : ShI := ⟨r, x.k, x.e, x.f, x.s, x.n⟩
theorem sh_eq {z : ShI} {r : Int} {x : StI} : z = shOf r x ↔ z.st = x ∧ z.r = r := by
 obtain ⟨a, b, c, d, e, f⟩ := z
 obtain ⟨k, e', f', s, n⟩ := x
 simp only [ShI.mk.injEq, StI.mk.injEq]
 constructor
 ·rintro ⟨h0, h1, h2, h3, h4, h5⟩; exact ⟨⟨h1, h2, h3, h4, h5⟩, h0⟩
 ·rintro ⟨⟨h1, h2, h3, h4, h5⟩, h0⟩; exact ⟨h0, h1, h2, h3, h4, h5⟩
def sameSh (x y : ShI) : Bool := decide (x = y)
def hasSh (zs : List ShI) (x : ShI) : Bool := zs.any (fun y => sameSh y x)
theorem hasSh_iff {zs : List ShI} {x : ShI} : hasSh zs x = true ↔ x ∈ zs := by
 unfold hasSh sameSh
 rw [List.any_eq_true]
 constructor
 ·rintro ⟨y, hy, h⟩
  have : y = x := of_decide_eq_true h
  subst this; exact hy
 ·intro h
  exact ⟨x, h, decide_eq_true rfl⟩
theorem mem_takeH {zs : List ShI} {x : ShI} {k : Nat} : x ∈ zs.take k ↔ ∃ j, j < k ∧ zs[j]? = some x := by
 rw [List.mem_take_iff_getElem]
 constructor
 ·rintro ⟨j, hj, e⟩
  exact ⟨j, by omega, by rw [List.getElem?_eq_getElem (by omega), e]⟩
 ·rintro ⟨j, hj, e⟩
  have hl : j < zs.length := by
   by_cases q : j < zs.length
   ·exact q
   ·rw [List.getElem?_eq_none (by omega)] at e; cases e
  rw [List.getElem?_eq_getElem hl] at e
  exact ⟨j, by omega, Option.some.inj e⟩
def shOne (f : Int) (pre : List ShI) (x : ShI) : Int := if inR x.r 1 (3 * f + 1) = true then (if stCode x.st = 0 then (if hasSh pre x = true then 6 else 0) else stCode x.st) else 3
def shTo (f : Int) (zs : List ShI) : Nat → Int
 | 0 => 0
 | k + 1 => if shTo f zs k = 0 then (match zs[k]? with
  | none => 0
  | some x => shOne f (zs.take k) x) else shTo f zs k
def shCode (f : Int) (zs : List ShI) : Int := if inR f 1 2 = true then (if 120 < zs.length then 2 else shTo f zs zs.length) else 3
theorem shTo_stay (f : Int) (zs : List ShI) (k m : Nat) (d : Int) (hd : d ≠ 0) (h : shTo f zs k = d) (hm : k ≤ m) : shTo f zs m = d := by
  induction m with
  | zero => obtain rfl : k = 0 := by omega
            exact h
  | succ m ih =>
    by_cases e : k = m + 1
    · subst e; exact h
    · have := ih (by omega)
      rw [shTo, this, if_neg hd]
theorem shTo_next {f : Int} {zs : List ShI} {k : Nat} {x : ShI} (hx : zs[k]? = some x) (h0 : shTo f zs k = 0) : shTo f zs (k + 1) = shOne f (zs.take k) x := by
 rw [shTo, h0, if_pos rfl, hx]
theorem sh_ok {f : Int} {zs : List ShI} (h : shCode f zs = 0) : inR f 1 2 = true ∧ zs.length ≤ 120 ∧ ∀ x ∈ zs, inR x.r 1 (3 * f + 1) = true ∧ stCode x.st = 0 := by
 unfold shCode at h
 by_cases hf : inR f 1 2 = true
 ·rw [if_pos hf] at h
  by_cases hl : 120 < zs.length
  ·rw [if_pos hl] at h; omega
  ·rw [if_neg hl] at h
   refine ⟨hf, by omega, fun x hx => ?_⟩
   obtain ⟨k, hk, e⟩ := List.mem_iff_getElem.1 hx
   have hc : zs[k]? = some x := by rw [List.getElem?_eq_getElem hk, e]
   have h0 : shTo f zs k = 0 := by
    by_cases q : shTo f zs k = 0
    ·exact q
    ·have := shTo_stay f zs k zs.length _ q rfl (by omega); rw [this] at h; exact absurd h q
   have h1 : shTo f zs (k + 1) = 0 := by
    by_cases q : shTo f zs (k + 1) = 0
    ·exact q
    ·have := shTo_stay f zs (k + 1) zs.length _ q rfl (by omega); rw [this] at h; exact absurd h q
   rw [shTo_next hc h0] at h1
   unfold shOne at h1
   by_cases q : inR x.r 1 (3 * f + 1) = true
   ·rw [if_pos q] at h1
    by_cases q2 : stCode x.st = 0
    ·exact ⟨q, q2⟩
    ·rw [if_neg q2] at h1; exact absurd h1 q2
   ·rw [if_neg q] at h1; omega
 ·rw [if_neg hf] at h; omega
def insR (r : Int) : List Int → List Int
 | [] => [r]
 | y :: ys => if y < r then y :: insR r ys else if y = r then y :: ys else r :: y :: ys
theorem mem_insR (r i : Int) (ys : List Int) : i ∈ insR r ys ↔ i = r ∨ i ∈ ys := by
 induction ys with
 | nil => simp [insR]
 | cons y ys ih =>
  unfold insR
  by_cases h1 : y < r
  ·rw [if_pos h1, List.mem_cons, List.mem_cons, ih]
   constructor
   ·rintro (h | h | h)
    ·exact .inr (.inl h)
    ·exact .inl h
    ·exact .inr (.inr h)
   ·rintro (h | h | h)
    ·exact .inr (.inl h)
    ·exact .inl h
    ·exact .inr (.inr h)
  ·rw [if_neg h1]
   by_cases h2 : y = r
   ·rw [if_pos h2, List.mem_cons]
    constructor
    ·intro h; exact .inr h
    ·rintro (h | h)
     ·exact .inl (by rw [h, h2])
     ·exact h
   ·rw [if_neg h2, List.mem_cons, List.mem_cons]
theorem up_insR (r : Int) (ys : List Int) (h : Up ys) : Up (insR r ys) := by
 induction ys with
 | nil => simp [insR, Up]
 | cons y ys ih =>
  obtain ⟨h0, h1⟩ := List.pairwise_cons.1 h
  unfold insR
  by_cases q1 : y < r
  ·rw [if_pos q1]
   refine List.pairwise_cons.2 ⟨fun a ha => ?_, ih h1⟩
   rcases (mem_insR r a ys).1 ha with rfl | ha
   ·exact q1
   ·exact h0 a ha
  ·rw [if_neg q1]
   by_cases q2 : y = r
   ·rw [if_pos q2]; exact h
   ·rw [if_neg q2]
    refine List.pairwise_cons.2 ⟨fun a ha => ?_, h⟩
    rcases List.mem_cons.1 ha with rfl | ha
    ·omega
    ·have := h0 a ha; omega
def atI (r : Int) : List Int → Nat
 | [] => 0
 | y :: ys => if y < r then atI r ys + 1 else 0
theorem atI_le (r : Int) (ys : List Int) : atI r ys ≤ ys.length := by
 induction ys with
 | nil => simp [atI]
 | cons y ys ih =>
  unfold atI
  split
  ·simp; omega
  ·simp
theorem atI_lt (r : Int) (ys : List Int) : ∀ j y, j < atI r ys → ys[j]? = some y → y < r := by
 induction ys with
 | nil => intro j y h; simp [atI] at h
 | cons z ys ih =>
  intro j y h e
  unfold atI at h
  split at h
  ·rename_i q
   cases j with
   | zero => simp at e; omega
   | succ j => exact ih j y (by omega) (by simpa using e)
  ·omega
theorem atI_stop (r : Int) (ys : List Int) : ∀ y, ys[atI r ys]? = some y → ¬ y < r := by
 induction ys with
 | nil => intro y h; simp [atI] at h
 | cons z ys ih =>
  intro y e
  unfold atI at e
  split at e
  ·exact ih y (by simpa using e)
  ·rename_i q
   simp at e; omega
theorem insR_there (r : Int) (ys : List Int) (h : ys[atI r ys]? = some r) : insR r ys = ys := by
 induction ys with
 | nil => simp at h
 | cons y ys ih =>
  unfold atI at h
  unfold insR
  split at h
  ·rename_i q
   rw [if_pos q, ih (by simpa using h)]
  ·rename_i q
   have e : y = r := by simpa using h
   rw [if_neg q, if_pos e]
theorem insR_new (r : Int) (ys : List Int) (h : ys[atI r ys]? ≠ some r) : insR r ys = ys.take (atI r ys) ++ [r] ++ ys.drop (atI r ys) := by
 induction ys with
 | nil => simp [insR, atI]
 | cons y ys ih =>
  unfold atI at h ⊢
  unfold insR
  by_cases q : y < r
  ·rw [if_pos q] at h ⊢
   rw [if_pos q, ih (by simpa using h)]
   simp
  ·rw [if_neg q] at h ⊢
   have e : ¬ y = r := by simpa using h
   rw [if_neg q, if_neg e]
   simp
theorem insR_len (r : Int) (ys : List Int) : (insR r ys).length ≤ ys.length + 1 := by
 by_cases h : ys[atI r ys]? = some r
 ·rw [insR_there r ys h]; omega
 ·rw [insR_new r ys h]; simp; omega
theorem up_unique {xs ys : List Int} (hx : Up xs) (hy : Up ys) (h : ∀ i, i ∈ xs ↔ i ∈ ys) : xs = ys := by
 induction xs generalizing ys with
 | nil =>
  cases ys with
  | nil => rfl
  | cons y ys => exact absurd ((h y).2 (by simp)) (by simp)
 | cons x xs ih =>
  cases ys with
  | nil => exact absurd ((h x).1 (by simp)) (by simp)
  | cons y ys =>
   obtain ⟨hx0, hx1⟩ := List.pairwise_cons.1 hx
   obtain ⟨hy0, hy1⟩ := List.pairwise_cons.1 hy
   have e : x = y := by
    rcases List.mem_cons.1 ((h x).1 (by simp)) with q | q
    ·exact q
    ·rcases List.mem_cons.1 ((h y).2 (by simp)) with p | p
     ·exact p.symm
     ·have := hy0 x q; have := hx0 y p; omega
   subst e
   have hn1 : x ∉ xs := fun q => by have := hx0 x q; omega
   have hn2 : x ∉ ys := fun q => by have := hy0 x q; omega
   rw [ih hx1 hy1 (fun i => ?_)]
   constructor
   ·intro hi
    rcases List.mem_cons.1 ((h i).1 (List.mem_cons_of_mem _ hi)) with q | q
    ·subst q; exact absurd hi hn1
    ·exact q
   ·intro hi
    rcases List.mem_cons.1 ((h i).2 (List.mem_cons_of_mem _ hi)) with q | q
    ·subst q; exact absurd hi hn2
    ·exact q
theorem up_nodup {xs : List Int} (h : Up xs) : xs.Nodup := List.Pairwise.imp (fun {a b} q => by omega) h
def sgTo (zs : List ShI) (x : StI) : Nat → List Int
 | 0 => []
 | k + 1 => match zs[k]? with
  | none => sgTo zs x k
  | some z => if sameSt z.st x = true then insR z.r (sgTo zs x k) else sgTo zs x k
def sgL (zs : List ShI) (x : StI) : List Int := sgTo zs x zs.length
theorem sgTo_hit {zs : List ShI} {x : StI} {k : Nat} {z : ShI} (hz : zs[k]? = some z) (h : sameSt z.st x = true) : sgTo zs x (k + 1) = insR z.r (sgTo zs x k) := by
 rw [sgTo, hz]; exact if_pos h
theorem sgTo_miss {zs : List ShI} {x : StI} {k : Nat} {z : ShI} (hz : zs[k]? = some z) (h : sameSt z.st x = false) : sgTo zs x (k + 1) = sgTo zs x k := by
 rw [sgTo, hz]; exact if_neg (by rw [h]; simp)
theorem sgTo_up (zs : List ShI) (x : StI) (k : Nat) : Up (sgTo zs x k) := by
 induction k with
 | zero => exact List.Pairwise.nil
 | succ k ih =>
  unfold sgTo
  split
  ·exact ih
  ·split
   ·exact up_insR _ _ ih
   ·exact ih
theorem sgTo_len (zs : List ShI) (x : StI) (k : Nat) : (sgTo zs x k).length ≤ k := by
 induction k with
 | zero => exact Nat.le_refl _
 | succ k ih =>
  unfold sgTo
  split
  ·omega
  ·split
   ·have := insR_len (by assumption : ShI).r (sgTo zs x k); omega
   ·omega
theorem mem_sgTo (zs : List ShI) (x : StI) (i : Int) (k : Nat) : i ∈ sgTo zs x k ↔ shOf i x ∈ zs.take k := by
 induction k with
 | zero => simp [sgTo]
 | succ k ih =>
  have hS : shOf i x ∈ zs.take (k + 1) ↔ (shOf i x ∈ zs.take k ∨ zs[k]? = some (shOf i x)) := by
   rw [mem_takeH, mem_takeH]
   constructor
   ·rintro ⟨j, hj, e⟩
    by_cases q : j = k
    ·subst q; exact .inr e
    ·exact .inl ⟨j, by omega, e⟩
   ·rintro (⟨j, hj, e⟩ | e)
    ·exact ⟨j, by omega, e⟩
    ·exact ⟨k, by omega, e⟩
  rw [hS, ← ih]
  cases e : zs[k]? with
  | none => rw [sgTo, e]; simp
  | some z =>
   by_cases q : sameSt z.st x = true
   ·rw [sgTo_hit e q, mem_insR]
    have hst : z.st = x := by unfold sameSt at q; exact of_decide_eq_true q
    constructor
    ·rintro (h | h)
     ·exact .inr (by rw [sh_eq.2 ⟨hst, h.symm⟩])
     ·exact .inl h
    ·rintro (h | h)
     ·exact .inr h
     ·exact .inl (sh_eq.1 (Option.some.inj h)).2.symm
   ·rw [sgTo_miss e (by simpa using q)]
    constructor
    ·intro h; exact .inl h
    ·rintro (h | h)
     ·exact h
     ·exact absurd (by unfold sameSt; exact decide_eq_true (sh_eq.1 (Option.some.inj h)).1) q
theorem mem_sgL (zs : List ShI) (x : StI) (i : Int) : i ∈ sgL zs x ↔ shOf i x ∈ zs := by
 unfold sgL
 rw [mem_sgTo, List.take_of_length_le (Nat.le_refl _)]
theorem sgL_up (zs : List ShI) (x : StI) : Up (sgL zs x) := sgTo_up zs x _
theorem sgL_len (zs : List ShI) (x : StI) : (sgL zs x).length ≤ zs.length := sgTo_len zs x _
def sgCode (zs : List ShI) (x : StI) : Int := if 120 < zs.length then 2 else stCode x
def sgRes (zs : List ShI) (x : StI) : List Int := if sgCode zs x = 0 then sgL zs x else []
def cbCode (f : Int) (zs : List ShI) (x : StI) : Int := if shCode f zs = 0 then (if stCode x = 0 then (if ((sgL zs x).length : Int) < 2 * f + 1 then 7 else 0) else stCode x) else shCode f zs
def sgdAll (zs : List ShI) (x : StI) (ys : List Int) : Bool := ys.all (fun y => hasSh zs (shOf y x))
def sfCode (f : Int) (ys : List Int) : Int := if riseB ys = true then (if rngAll f ys = true then (if (ys.length : Int) < 2 * f + 1 then 7 else 0) else 3) else 1
def vfCode (f : Int) (zs : List ShI) (x : StI) (ys : List Int) : Int := if shCode f zs = 0 then (if stCode x = 0 then (if sfCode f ys = 0 then (if sgdAll zs x ys = true then 0 else 7) else sfCode f ys) else stCode x) else shCode f zs

section
theorem sameSh_mk (a0 a1 a2 a3 a4 a5 b0 b1 b2 b3 b4 b5 : Int) : sameSh ⟨a0, a1, a2, a3, a4, a5⟩ ⟨b0, b1, b2, b3, b4, b5⟩ = (a0 == b0 && a1 == b1 && a2 == b2 && a3 == b3 && a4 == b4 && a5 == b5) := by
 unfold sameSh
 rw [Bool.eq_iff_iff]
 simp only [decide_eq_true_eq, ShI.mk.injEq, Bool.and_eq_true, beq_iff_eq]
 constructor
 ·rintro ⟨h0, h1, h2, h3, h4, h5⟩; exact ⟨⟨⟨⟨⟨h0, h1⟩, h2⟩, h3⟩, h4⟩, h5⟩
 ·rintro ⟨⟨⟨⟨⟨h0, h1⟩, h2⟩, h3⟩, h4⟩, h5⟩; exact ⟨h0, h1, h2, h3, h4, h5⟩
theorem sh_eql (x y : ShI) (w : World) : (binOp .eql 76 (.agg #[.int .i64 x.r, .int .i64 x.k, .int .i64 x.e, .int .i64 x.f, .int .i64 x.s, .int .i64 x.n]) (.agg #[.int .i64 y.r, .int .i64 y.k, .int .i64 y.e, .int .i64 y.f, .int .i64 y.s, .int .i64 y.n])).run Tryz.prog w = .ok (.bool (sameSh x y)) w := by
 obtain ⟨a0, a1, a2, a3, a4, a5⟩ := x
 obtain ⟨b0, b1, b2, b3, b4, b5⟩ := y
 simp only
 rw [sameSh_mk]
 cases e0 : (a0 == b0)
 ·simp [go_sem, e0]
 cases e1 : (a1 == b1)
 ·simp [go_sem, e0, e1]
 cases e2 : (a2 == b2)
 ·simp [go_sem, e0, e1, e2]
 cases e3 : (a3 == b3)
 ·simp [go_sem, e0, e1, e2, e3]
 cases e4 : (a4 == b4)
 ·simp [go_sem, e0, e1, e2, e3, e4]
 cases e5 : (a5 == b5)
 ·simp [go_sem, e0, e1, e2, e3, e4, e5]
 ·simp [go_sem, e0, e1, e2, e3, e4, e5]
attribute [local go_sem ↓] sh_eql
theorem ShAt.new (w : World) (x : ShI) (t : TypeId) : ShAt (w.alloc (.cells #[.int .i64 x.r, .int .i64 x.k, .int .i64 x.e, .int .i64 x.f, .int .i64 x.s, .int .i64 x.n] t)) w.heap.size 0 x := by
 refine ⟨?_, ?_, ?_, ?_, ?_, ?_⟩ <;> simp
theorem ShAt.stat {w : World} {b o : Nat} {x : ShI} (h : ShAt w b o x) : StAt w b (o + 1) x.st := ⟨h.2.1, h.2.2.1, h.2.2.2.1, h.2.2.2.2.1, h.2.2.2.2.2⟩
theorem ShIn.take {w : World} {a : Option Addr} {n : Nat} {zs : List ShI} (h : ShIn w a n zs) {k : Nat} (hk : k ≤ n) : ShIn w a k (zs.take k) := by
 have hz := h.1
 refine ⟨by simp; omega, fun hp => ?_⟩
 obtain ⟨b, off, e, q⟩ := h.2 (by omega)
 refine ⟨b, off, e, fun j x hx => ?_⟩
 rw [List.getElem?_take] at hx
 split at hx
 ·exact q j x hx
 ·cases hx
theorem l9Has_c (a : Option Addr) (n cap : Nat) (zs : List ShI) (x : ShI) (w : World) (hn : n ≤ 1048576) (h : ShIn w a n zs) :
  Calls Tryz.prog 90 #[.slice a n cap, .agg #[.int .i64 x.r, .int .i64 x.k, .int .i64 x.e, .int .i64 x.f, .int .i64 x.s, .int .i64 x.n]] w fun e w' => e = .returned (.bool (hasSh zs x)) ∧ Below w.heap.size w w' := by
 have hz : Hid (zs.length = n) := h.1
 have hn' : (n : Int) ≤ 1048576 := by omega
 obtain ⟨w0, hw0⟩ : ∃ w0, w0 = w.alloc (.cells #[.int .i64 x.r, .int .i64 x.k, .int .i64 x.e, .int .i64 x.f, .int .i64 x.s, .int .i64 x.n] 76) := ⟨_, rfl⟩
 have hb0 : Below w.heap.size w w0 := by rw [hw0]; exact zN
 have hs0 : w.heap.size < w0.heap.size := by rw [hw0]; simp
 have HB0 : Hid (Below w.heap.size w w0) := hb0
 have H : Hid (ShIn w0 a n zs) := h.below hb0
 have HY : Hid (ShAt w0 w.heap.size 0 x) := by rw [hw0]; exact ShAt.new w x _
 clear h hb0
 go_enter Tryz.func90, Tryz.ntmps90
 go_wp2
 rw [← hw0]
 clear hw0
 go_loopw [5] (fun i wr => ∃ k : Nat, k ≤ n ∧ i = .int .i64 (k : Int) ∧ ¬ x ∈ zs.take k ∧ Below w0.heap.size w0 wr) (fun i _ => n - (intOf i).toNat)
 case atStart => exact ⟨0, Nat.zero_le _, rfl, by simp, Below.refl _ _⟩
 case round =>
  obtain ⟨k, hk, rfl, hm, hnx⟩ := hrel
  have HM : Hid (¬ x ∈ zs.take k) := hm
  have BN : Hid (Below w.heap.size w wr) := HB0.out.trans (hnx.mono (by omega))
  clear hm
  by_cases hlt : k < n
  ·obtain ⟨g, off, y, rfl, hs, hxa, hgl⟩ := H.out.at hlt
   have HS : Hid (zs[k]? = some y) := hs
   obtain ⟨g0, g1, g2, g3, g4, g5⟩ := hxa.below hnx hgl
   obtain ⟨y0, y1, y2, y3, y4, y5⟩ := HY.out.below hnx hs0
   simp only [Nat.zero_add] at y0 y1 y2 y3 y4 y5
   have hbw : g < wr.heap.size := Nat.lt_of_lt_of_le hgl hnx.size
   have hyw : w.heap.size < wr.heap.size := Nat.lt_of_lt_of_le hs0 hnx.size
   have hlt' : (k : Int) < (n : Int) := by omega
   clear hs hxa
   cases hsame : sameSh y x
   ·have HN : Hid (¬ x ∈ zs.take (k + 1)) := by
     show ¬ x ∈ zs.take (k + 1)
     rw [mem_takeH]
     rintro ⟨j, hj, hjs⟩
     by_cases e : j = k
     ·subst e
      rw [HS.out] at hjs
      simp [sameSh] at hsame
      exact hsame (Option.some.inj hjs)
     ·exact HM.out (mem_takeH.2 ⟨j, by omega, hjs⟩)
    go_wp2
    go_quiet (fail)
    go_wp2
    exact ⟨⟨k + 1, by omega, by go_num, HN.out, below_drewN hnx _⟩, by simp [intOf]; omega⟩
   ·have HI : Hid (hasSh zs x = true) := by
     show hasSh zs x = true
     simp [sameSh] at hsame
     subst hsame
     exact hasSh_iff.2 (List.mem_of_getElem? HS.out)
    go_wp2
    go_quiet (fail)
    go_wp2
    go_ret
    exact ⟨by rw [HI.out]; rfl, below_drewN BN.out _⟩
  ·have hkn : k = n := by omega
   subst hkn
   have HN : Hid (hasSh zs x = false) := by
    show hasSh zs x = false
    have := HM.out
    rw [List.take_of_length_le (by rw [hz.out]; exact Nat.le_refl _)] at this
    cases q : hasSh zs x
    ·rfl
    ·exact absurd (hasSh_iff.1 q) this
   go_wp2
   go_ret
   exact ⟨by rw [HN.out]; rfl, BN.out⟩
theorem slIndexH_c (a : Option Addr) (n cap : Nat) (zs : List ShI) (x : ShI) (w : World) (hn : n ≤ 1048576) (h : ShIn w a n zs) :
  Calls Tryz.prog 120 #[.slice a n cap, .agg #[.int .i64 x.r, .int .i64 x.k, .int .i64 x.e, .int .i64 x.f, .int .i64 x.s, .int .i64 x.n]] w fun e w' => (∃ i : Int, e = .returned (.int .i64 i) ∧ ((0 ≤ i ∧ x ∈ zs) ∨ (i = -1 ∧ ¬ x ∈ zs))) ∧ Below w.heap.size w w' := by
 have hz : Hid (zs.length = n) := h.1
 have hn' : (n : Int) ≤ 1048576 := by omega
 obtain ⟨w0, hw0⟩ : ∃ w0, w0 = w.alloc (.cells #[.int .i64 x.r, .int .i64 x.k, .int .i64 x.e, .int .i64 x.f, .int .i64 x.s, .int .i64 x.n] 76) := ⟨_, rfl⟩
 have hb0 : Below w.heap.size w w0 := by rw [hw0]; exact zN
 have hs0 : w.heap.size < w0.heap.size := by rw [hw0]; simp
 have HB0 : Hid (Below w.heap.size w w0) := hb0
 have H : Hid (ShIn w0 a n zs) := h.below hb0
 have HY : Hid (ShAt w0 w.heap.size 0 x) := by rw [hw0]; exact ShAt.new w x _
 clear h hb0
 go_enter Tryz.func120, Tryz.ntmps120
 go_wp2
 rw [← hw0]
 clear hw0
 go_loopw [8] (fun i wr => ∃ k : Nat, k ≤ n ∧ i = .int .i64 (k : Int) ∧ ¬ x ∈ zs.take k ∧ Below w0.heap.size w0 wr) (fun i _ => n - (intOf i).toNat)
 case atStart => exact ⟨0, Nat.zero_le _, rfl, by simp, Below.refl _ _⟩
 case round =>
  obtain ⟨k, hk, rfl, hm, hnx⟩ := hrel
  have HM : Hid (¬ x ∈ zs.take k) := hm
  have BN : Hid (Below w.heap.size w wr) := HB0.out.trans (hnx.mono (by omega))
  clear hm
  by_cases hlt : k < n
  ·obtain ⟨g, off, y, rfl, hs, hxa, hgl⟩ := H.out.at hlt
   have HS : Hid (zs[k]? = some y) := hs
   obtain ⟨g0, g1, g2, g3, g4, g5⟩ := hxa.below hnx hgl
   obtain ⟨y0, y1, y2, y3, y4, y5⟩ := HY.out.below hnx hs0
   simp only [Nat.zero_add] at y0 y1 y2 y3 y4 y5
   have hbw : g < wr.heap.size := Nat.lt_of_lt_of_le hgl hnx.size
   have hyw : w.heap.size < wr.heap.size := Nat.lt_of_lt_of_le hs0 hnx.size
   have hlt' : (k : Int) < (n : Int) := by omega
   clear hs hxa
   cases hsame : sameSh x y
   ·have HN : Hid (¬ x ∈ zs.take (k + 1)) := by
     show ¬ x ∈ zs.take (k + 1)
     rw [mem_takeH]
     rintro ⟨j, hj, hjs⟩
     by_cases e : j = k
     ·subst e
      rw [HS.out] at hjs
      simp [sameSh] at hsame
      exact hsame (Option.some.inj hjs).symm
     ·exact HM.out (mem_takeH.2 ⟨j, by omega, hjs⟩)
    go_wp2
    go_quiet (fail)
    go_wp2
    exact ⟨⟨k + 1, by omega, by go_num, HN.out, below_drewN hnx _⟩, by simp [intOf]; omega⟩
   ·have HI : Hid (x ∈ zs) := by
     show x ∈ zs
     simp [sameSh] at hsame
     subst hsame
     exact List.mem_of_getElem? HS.out
    go_wp2
    go_quiet (fail)
    go_wp2
    go_ret
    exact ⟨⟨_, rfl, Or.inl ⟨by omega, HI.out⟩⟩, below_drewN BN.out _⟩
  ·have hkn : k = n := by omega
   subst hkn
   have HN : Hid (¬ x ∈ zs) := by
    have := HM.out
    rw [List.take_of_length_le (by rw [hz.out]; exact Nat.le_refl _)] at this
    exact this
   go_wp2
   go_ret
   exact ⟨⟨_, rfl, Or.inr ⟨rfl, HN.out⟩⟩, BN.out⟩
theorem slContainsH_c (a : Option Addr) (n cap : Nat) (zs : List ShI) (x : ShI) (w : World) (hn : n ≤ 1048576) (h : ShIn w a n zs) :
  Calls Tryz.prog 97 #[.slice a n cap, .agg #[.int .i64 x.r, .int .i64 x.k, .int .i64 x.e, .int .i64 x.f, .int .i64 x.s, .int .i64 x.n]] w fun e w' => e = .returned (.bool (hasSh zs x)) ∧ Below w.heap.size w w' := by
 have H : Hid (ShIn (w.alloc (.cells #[.int .i64 x.r, .int .i64 x.k, .int .i64 x.e, .int .i64 x.f, .int .i64 x.s, .int .i64 x.n] 76)) a n zs) := h.below (zN)
 clear h
 go_enter Tryz.func97, Tryz.ntmps97
 go_wp2_with fail
 refine (slIndexH_c a n cap zs x _ hn H.out).mono ?_
 rintro e w1 ⟨⟨i, rfl, hi⟩, hb1⟩
 have HX : Hid (decide (0 ≤ i) = hasSh zs x) := by
  show decide (0 ≤ i) = hasSh zs x
  cases q : hasSh zs x
  ·have hq : ¬ x ∈ zs := fun m => by rw [hasSh_iff.2 m] at q; cases q
   rcases hi with ⟨_, h2⟩ | ⟨rfl, _⟩
   ·exact absurd h2 hq
   ·rfl
  ·have hq := hasSh_iff.1 q
   rcases hi with ⟨h1, _⟩ | ⟨_, h2⟩
   ·simp [h1]
   ·exact absurd hq h2
 clear hi
 go_wp2
 go_ret
 exact ⟨by rw [HX.out]; rfl, ((Below.refl w.heap.size w).alloc (Nat.le_refl _) _).trans (hb1.mono (by simp))⟩
end

def GivesSF (fn : Nat) (a : Option Addr) (n cap : Nat) (f c : Int) (w : World) : Prop := Calls Tryz.prog fn #[.slice a n cap, .int .i64 f] w fun e w' => e = .returned (.int .i64 c) ∧ Below w.heap.size w w'
theorem l9Fault_c (a : Option Addr) (n cap : Nat) (zs : List ShI) (f : Int) (w : World) (hn : n ≤ 1048576) (hcap : n ≤ cap) (hcm : cap ≤ maxLen) (h : ShIn w a n zs) : GivesSF 66 a n cap f (shCode f zs) w := by
 have H : Hid (ShIn w a n zs) := h
 have HZ : Hid (zs.length = n) := h.1
 have hn' : (n : Int) ≤ 1048576 := by omega
 unfold GivesSF
 clear h
 cases hf : inR f 1 2
 ·have HC : Hid (shCode f zs = 3) := by show shCode f zs = 3; unfold shCode; rw [if_neg (by rw [hf]; simp)]
  have HF : Hid (inR f 1 2 = false) := hf
  clear hf
  rw [HC.out]
  go_enter Tryz.func66, Tryz.ntmps66
  go_wp2_with (first | (go_at_call 89; refine (l6F_c _ _).mono ?_; rintro e w' ⟨rfl, rfl⟩; rw [HF.out]))
  go_ret
  exact ⟨rfl, Below.refl _ _⟩
 ·obtain ⟨hf1, hf2⟩ := (inR_iff f 1 2).1 hf
  have HF : Hid (inR f 1 2 = true) := hf
  by_cases hl : 120 < n
  ·have HC : Hid (shCode f zs = 2) := by show shCode f zs = 2; unfold shCode; rw [if_pos hf, if_pos (by rw [HZ.out]; exact hl)]
   have hl' : (120 : Int) < (n : Int) := by omega
   clear hf
   rw [HC.out]
   go_enter Tryz.func66, Tryz.ntmps66
   go_wp2_with (first | (go_at_call 89; refine (l6F_c _ _).mono ?_; rintro e w' ⟨rfl, rfl⟩; rw [HF.out]))
   go_ret
   exact ⟨rfl, Below.refl _ _⟩
  ·have HC : Hid (shCode f zs = shTo f zs n) := by show shCode f zs = _; unfold shCode; rw [if_pos hf, if_neg (by rw [HZ.out]; exact hl), HZ.out]
   have hl' : ¬ ((120 : Int) < (n : Int)) := by omega
   clear hf
   rw [HC.out]
   go_enter Tryz.func66, Tryz.ntmps66
   go_wp2_with (first | (go_at_call 89; refine (l6F_c _ _).mono ?_; rintro e w' ⟨rfl, rfl⟩; rw [HF.out]))
   go_loopw [5] (fun i wr => ∃ k : Nat, k ≤ n ∧ i = .int .i64 (k : Int) ∧ shTo f zs k = 0 ∧ Below w.heap.size w wr) (fun i _ => n - (intOf i).toNat)
   case atStart => exact ⟨0, Nat.zero_le _, rfl, rfl, Below.refl _ _⟩
   case round =>
    obtain ⟨k, hk, rfl, hz, hnx⟩ := hrel
    have HK0 : Hid (shTo f zs k = 0) := hz
    clear hz
    by_cases hlt : k < n
    ·obtain ⟨b, off, x, rfl, hx, hxa, hbl⟩ := H.out.at hlt
     have hlt' : (k : Int) < (n : Int) := by omega
     have hxw := hxa.below hnx hbl
     have HX : Hid (ShAt wr b (off + k * 6) x) := hxw
     have hbw : b < wr.heap.size := Nat.lt_of_lt_of_le hbl hnx.size
     have HN : Hid (shTo f zs (k + 1) = shOne f (zs.take k) x) := shTo_next hx HK0.out
     have HT : Hid (ShIn wr (some ⟨b, off, none⟩) k (zs.take k)) := (H.out.below hnx).take hk
     obtain ⟨x0, x1, x2, x3, x4, x5⟩ := hxw
     clear hx hxa
     obtain ⟨t, ht⟩ : ∃ t, inR x.r 1 (3 * f + 1) = t := ⟨_, rfl⟩
     have HTR : Hid (inR x.r 1 (3 * f + 1) = t) := ht
     obtain ⟨c, hc⟩ : ∃ c, stCode x.st = c := ⟨_, rfl⟩
     have HSC : Hid (stCode x.st = c) := hc
     obtain ⟨u, hu⟩ : ∃ u, hasSh (zs.take k) x = u := ⟨_, rfl⟩
     have HU : Hid (hasSh (zs.take k) x = u) := hu
     have HN2 : Hid (shTo f zs (k + 1) = if t = true then (if c = 0 then (if u = true then 6 else 0) else c) else 3) := by show _ = _; rw [HN.out]; unfold shOne; rw [ht, hc, hu]
     clear ht hc hu HN
     cases t
     ·have HE : Hid (shTo f zs n = 3) := shTo_stay f zs (k + 1) n 3 (by omega) (by rw [HN2.out]; rfl) (by omega)
      go_wp2_with (first | (go_at_call 56; refine (cin_c _ _ _ _).mono ?_; rintro e w' ⟨rfl, rfl⟩; rw [HTR.out]))
      go_ret
      exact ⟨by rw [HE.out]; rfl, hnx⟩
     ·by_cases c0 : c = 0
      ·have cb : (c != 0) = false := by simp [c0]
       have HE0 : Hid (u = false → shTo f zs (k + 1) = 0) := fun q => by rw [HN2.out, if_pos rfl, if_pos c0, q]; rfl
       have HE6 : Hid (u = true → shTo f zs n = 6) := fun q => shTo_stay f zs (k + 1) n 6 (by omega) (by rw [HN2.out, if_pos rfl, if_pos c0, q]; rfl) (by omega)
       clear c0 HN2
       have hkc : (k : Int) ≤ (cap : Int) := by omega
       have hk0 : (0 : Int) ≤ (k : Int) := by omega
       go_wp2_with (first | (go_at_call 56; refine (cin_c _ _ _ _).mono ?_; rintro e w' ⟨rfl, rfl⟩; rw [HTR.out]) | (go_at_call 83; refine (l7Fault_c _ _ x.st _ HX.out.stat).mono ?_; rintro e w' ⟨rfl, rfl⟩; rw [HSC.out]))
       have HQ : Hid (∀ w2 : World, (∀ b o, b < wr.heap.size → w2.cell? ⟨b, o, none⟩ = wr.cell? ⟨b, o, none⟩) ∧ Below wr.heap.size wr w2 → Calls Tryz.prog 90 #[.slice (some ⟨b, off, none⟩) k cap, .agg #[.int .i64 x.r, .int .i64 x.k, .int .i64 x.e, .int .i64 x.f, .int .i64 x.s, .int .i64 x.n]] w2 fun e w' => e = .returned (.bool u) ∧ Below w2.heap.size w2 w') := fun w2 hb => by
        have := l9Has_c (some ⟨b, off, none⟩) k cap (zs.take k) x w2 (by omega) (HT.out.below hb.2)
        rw [HU.out] at this
        exact this
       go_region_held3 (fun w' => (∀ b o, b < wr.heap.size → w'.cell? ⟨b, o, none⟩ = wr.cell? ⟨b, o, none⟩) ∧ Below wr.heap.size wr w') (first | exact hS | exact kp_drew _)
        (first | (go_at_call 90; refine (HQ.out _ (by assumption)).mono ?_; rintro e w' ⟨rfl, hb1⟩; have hS := kp_step (by assumption) hb1))
       have B1 := hnx.trans (hS.2.mono hnx.size)
       cases u
       ·have HX0 : Hid (shTo f zs (k + 1) = 0) := HE0.out rfl
        go_wp2
        exact ⟨⟨k + 1, by omega, by go_num, HX0.out, B1⟩, by simp [intOf]; omega⟩
       ·have HX6 : Hid (shTo f zs n = 6) := HE6.out rfl
        go_wp2
        go_ret
        exact ⟨by rw [HX6.out]; rfl, B1⟩
      ·have cb : (c != 0) = true := by simp [c0]
       have HE : Hid (shTo f zs n = c) := shTo_stay f zs (k + 1) n c c0 (by rw [HN2.out, if_pos rfl, if_neg c0]) (by omega)
       clear c0
       go_wp2_with (first | (go_at_call 56; refine (cin_c _ _ _ _).mono ?_; rintro e w' ⟨rfl, rfl⟩; rw [HTR.out]) | (go_at_call 83; refine (l7Fault_c _ _ x.st _ HX.out.stat).mono ?_; rintro e w' ⟨rfl, rfl⟩; rw [HSC.out]))
       go_ret
       exact ⟨by rw [HE.out]; rfl, hnx⟩
    ·have hkn : k = n := by omega
     have hlt' : ¬ ((k : Int) < (n : Int)) := by omega
     have HE : Hid (shTo f zs n = 0) := by rw [← hkn]; exact HK0.out
     clear hkn
     go_wp2
     go_ret
     exact ⟨by rw [HE.out]; rfl, hnx⟩

end Go.Proofs.YtfkajnenniapaaaGreat
