/-
  PLAIN WORDS: shares and their fault, who signed, what a certificate is asked.
-/
import Derived.Test.YthogdfnaojijhaaSh0
import Derived.Test.YthogdfnaojijhaaRi0
import Derived.Test.YthogdfnaojijhaaSt3
import Derived.Test.YthogdfnaojijhaaNf0
namespace Go.Proofs.Ythogdfnaojijhaa
set_option linter.unusedVariables false

/-- What a share says. -/
abbrev ShI.st (x : ShI) : StI := ⟨x.k, x.e, x.f, x.s, x.n⟩
/-- The share of one. -/
abbrev shOf (r : Int) (x : StI) : ShI := ⟨r, x.k, x.e, x.f, x.s, x.n⟩

theorem sh_eq {z : ShI} {r : Int} {x : StI} : z = shOf r x ↔ z.st = x ∧ z.r = r := by
  obtain ⟨a, b, c, d, e, f⟩ := z
  obtain ⟨k, e', f', s, n⟩ := x
  simp only [ShI.mk.injEq, StI.mk.injEq]
  constructor
  · rintro ⟨h0, h1, h2, h3, h4, h5⟩; exact ⟨⟨h1, h2, h3, h4, h5⟩, h0⟩
  · rintro ⟨⟨h1, h2, h3, h4, h5⟩, h0⟩; exact ⟨h0, h1, h2, h3, h4, h5⟩

def sameSh (x y : ShI) : Bool := decide (x = y)
def hasSh (zs : List ShI) (x : ShI) : Bool := zs.any (fun y => sameSh y x)

theorem hasSh_iff {zs : List ShI} {x : ShI} : hasSh zs x = true ↔ x ∈ zs := by
  unfold hasSh sameSh
  rw [List.any_eq_true]
  constructor
  · rintro ⟨y, hy, h⟩
    have : y = x := of_decide_eq_true h
    subst this; exact hy
  · intro h
    exact ⟨x, h, decide_eq_true rfl⟩

theorem mem_takeH {zs : List ShI} {x : ShI} {k : Nat} : x ∈ zs.take k ↔ ∃ j, j < k ∧ zs[j]? = some x := by
  rw [List.mem_take_iff_getElem]
  constructor
  · rintro ⟨j, hj, e⟩
    exact ⟨j, by omega, by rw [List.getElem?_eq_getElem (by omega), e]⟩
  · rintro ⟨j, hj, e⟩
    have hl : j < zs.length := by
      by_cases q : j < zs.length
      · exact q
      · rw [List.getElem?_eq_none (by omega)] at e; cases e
    rw [List.getElem?_eq_getElem hl] at e
    exact ⟨j, by omega, Option.some.inj e⟩

/-- The code of one share behind those ahead. -/
def shOne (f : Int) (pre : List ShI) (x : ShI) : Int := if inR x.r 1 (3 * f + 1) = true then (if stCode x.st = 0 then (if hasSh pre x = true then 6 else 0) else stCode x.st) else 3

/-- The code of the first k of them. -/
def shTo (f : Int) (zs : List ShI) : Nat → Int
  | 0 => 0
  | k + 1 => if shTo f zs k = 0 then (match zs[k]? with
    | none => 0
    | some x => shOne f (zs.take k) x) else shTo f zs k

def shCode (f : Int) (zs : List ShI) : Int := if inR f 1 2 = true then (if 120 < zs.length then 2 else shTo f zs zs.length) else 3

theorem shTo_stay (f : Int) (zs : List ShI) (k m : Nat) (d : Int) (hd : d ≠ 0) (h : shTo f zs k = d) (hm : k ≤ m) : shTo f zs m = d := by
  induction m with
  | zero => obtain rfl : k = 0 := by omega
            exact h
  | succ m ih =>
    by_cases e : k = m + 1
    · subst e; exact h
    · have := ih (by omega)
      rw [shTo, this, if_neg hd]

theorem shTo_next {f : Int} {zs : List ShI} {k : Nat} {x : ShI} (hx : zs[k]? = some x) (h0 : shTo f zs k = 0) : shTo f zs (k + 1) = shOne f (zs.take k) x := by
  rw [shTo, h0, if_pos rfl, hx]

theorem sh_ok {f : Int} {zs : List ShI} (h : shCode f zs = 0) : inR f 1 2 = true ∧ zs.length ≤ 120 ∧ ∀ x ∈ zs, inR x.r 1 (3 * f + 1) = true ∧ stCode x.st = 0 := by
  unfold shCode at h
  by_cases hf : inR f 1 2 = true
  · rw [if_pos hf] at h
    by_cases hl : 120 < zs.length
    · rw [if_pos hl] at h; omega
    · rw [if_neg hl] at h
      refine ⟨hf, by omega, fun x hx => ?_⟩
      obtain ⟨k, hk, e⟩ := List.mem_iff_getElem.1 hx
      have hc : zs[k]? = some x := by rw [List.getElem?_eq_getElem hk, e]
      have h0 : shTo f zs k = 0 := by
        by_cases q : shTo f zs k = 0
        · exact q
        · have := shTo_stay f zs k zs.length _ q rfl (by omega); rw [this] at h; exact absurd h q
      have h1 : shTo f zs (k + 1) = 0 := by
        by_cases q : shTo f zs (k + 1) = 0
        · exact q
        · have := shTo_stay f zs (k + 1) zs.length _ q rfl (by omega); rw [this] at h; exact absurd h q
      rw [shTo_next hc h0] at h1
      unfold shOne at h1
      by_cases q : inR x.r 1 (3 * f + 1) = true
      · rw [if_pos q] at h1
        by_cases q2 : stCode x.st = 0
        · exact ⟨q, q2⟩
        · rw [if_neg q2] at h1; exact absurd h1 q2
      · rw [if_neg q] at h1; omega
  · rw [if_neg hf] at h; omega

/-! rising lists of numbers -/

def insR (r : Int) : List Int → List Int
  | [] => [r]
  | y :: ys => if y < r then y :: insR r ys else if y = r then y :: ys else r :: y :: ys

theorem mem_insR (r i : Int) (ys : List Int) : i ∈ insR r ys ↔ i = r ∨ i ∈ ys := by
  induction ys with
  | nil => simp [insR]
  | cons y ys ih =>
    unfold insR
    by_cases h1 : y < r
    · rw [if_pos h1, List.mem_cons, List.mem_cons, ih]
      constructor
      · rintro (h | h | h)
        · exact .inr (.inl h)
        · exact .inl h
        · exact .inr (.inr h)
      · rintro (h | h | h)
        · exact .inr (.inl h)
        · exact .inl h
        · exact .inr (.inr h)
    · rw [if_neg h1]
      by_cases h2 : y = r
      · rw [if_pos h2, List.mem_cons]
        constructor
        · intro h; exact .inr h
        · rintro (h | h)
          · exact .inl (by rw [h, h2])
          · exact h
      · rw [if_neg h2, List.mem_cons, List.mem_cons]

theorem up_insR (r : Int) (ys : List Int) (h : Up ys) : Up (insR r ys) := by
  induction ys with
  | nil => simp [insR, Up]
  | cons y ys ih =>
    obtain ⟨h0, h1⟩ := List.pairwise_cons.1 h
    unfold insR
    by_cases q1 : y < r
    · rw [if_pos q1]
      refine List.pairwise_cons.2 ⟨fun a ha => ?_, ih h1⟩
      rcases (mem_insR r a ys).1 ha with rfl | ha
      · exact q1
      · exact h0 a ha
    · rw [if_neg q1]
      by_cases q2 : y = r
      · rw [if_pos q2]; exact h
      · rw [if_neg q2]
        refine List.pairwise_cons.2 ⟨fun a ha => ?_, h⟩
        rcases List.mem_cons.1 ha with rfl | ha
        · omega
        · have := h0 a ha; omega

/-- How many stand ahead of r. -/
def atI (r : Int) : List Int → Nat
  | [] => 0
  | y :: ys => if y < r then atI r ys + 1 else 0

theorem atI_le (r : Int) (ys : List Int) : atI r ys ≤ ys.length := by
  induction ys with
  | nil => simp [atI]
  | cons y ys ih =>
    unfold atI
    split
    · simp; omega
    · simp

theorem atI_lt (r : Int) (ys : List Int) : ∀ j y, j < atI r ys → ys[j]? = some y → y < r := by
  induction ys with
  | nil => intro j y h; simp [atI] at h
  | cons z ys ih =>
    intro j y h e
    unfold atI at h
    split at h
    · rename_i q
      cases j with
      | zero => simp at e; omega
      | succ j => exact ih j y (by omega) (by simpa using e)
    · omega

theorem atI_stop (r : Int) (ys : List Int) : ∀ y, ys[atI r ys]? = some y → ¬ y < r := by
  induction ys with
  | nil => intro y h; simp [atI] at h
  | cons z ys ih =>
    intro y e
    unfold atI at e
    split at e
    · exact ih y (by simpa using e)
    · rename_i q
      simp at e; omega

theorem atI_is (r : Int) (ys : List Int) (k : Nat) (hk : k ≤ ys.length) (h1 : ∀ j y, j < k → ys[j]? = some y → y < r) (h2 : ∀ y, ys[k]? = some y → ¬ y < r) : atI r ys = k := by
  have hle := atI_le r ys
  by_cases q : atI r ys < k
  · have e : ys[atI r ys]? = some (ys[atI r ys]'(by omega)) := List.getElem?_eq_getElem _
    exact absurd (h1 _ _ q e) (atI_stop r ys _ e)
  · by_cases q2 : k < atI r ys
    · have e : ys[k]? = some (ys[k]'(by omega)) := List.getElem?_eq_getElem _
      exact absurd (atI_lt r ys _ _ q2 e) (h2 _ e)
    · omega

theorem insR_there (r : Int) (ys : List Int) (h : ys[atI r ys]? = some r) : insR r ys = ys := by
  induction ys with
  | nil => simp at h
  | cons y ys ih =>
    unfold atI at h
    unfold insR
    split at h
    · rename_i q
      rw [if_pos q, ih (by simpa using h)]
    · rename_i q
      have e : y = r := by simpa using h
      rw [if_neg q, if_pos e]

theorem insR_new (r : Int) (ys : List Int) (h : ys[atI r ys]? ≠ some r) : insR r ys = ys.take (atI r ys) ++ [r] ++ ys.drop (atI r ys) := by
  induction ys with
  | nil => simp [insR, atI]
  | cons y ys ih =>
    unfold atI at h ⊢
    unfold insR
    by_cases q : y < r
    · rw [if_pos q] at h ⊢
      rw [if_pos q, ih (by simpa using h)]
      simp
    · rw [if_neg q] at h ⊢
      have e : ¬ y = r := by simpa using h
      rw [if_neg q, if_neg e]
      simp

theorem insR_len (r : Int) (ys : List Int) : (insR r ys).length ≤ ys.length + 1 := by
  by_cases h : ys[atI r ys]? = some r
  · rw [insR_there r ys h]; omega
  · rw [insR_new r ys h]; simp; omega

/-- Two rising lists of the same numbers are one. -/
theorem up_unique {xs ys : List Int} (hx : Up xs) (hy : Up ys) (h : ∀ i, i ∈ xs ↔ i ∈ ys) : xs = ys := by
  induction xs generalizing ys with
  | nil =>
    cases ys with
    | nil => rfl
    | cons y ys => exact absurd ((h y).2 (by simp)) (by simp)
  | cons x xs ih =>
    cases ys with
    | nil => exact absurd ((h x).1 (by simp)) (by simp)
    | cons y ys =>
      obtain ⟨hx0, hx1⟩ := List.pairwise_cons.1 hx
      obtain ⟨hy0, hy1⟩ := List.pairwise_cons.1 hy
      have e : x = y := by
        rcases List.mem_cons.1 ((h x).1 (by simp)) with q | q
        · exact q
        · rcases List.mem_cons.1 ((h y).2 (by simp)) with p | p
          · exact p.symm
          · have := hy0 x q; have := hx0 y p; omega
      subst e
      have hn1 : x ∉ xs := fun q => by have := hx0 x q; omega
      have hn2 : x ∉ ys := fun q => by have := hy0 x q; omega
      rw [ih hx1 hy1 (fun i => ?_)]
      constructor
      · intro hi
        rcases List.mem_cons.1 ((h i).1 (List.mem_cons_of_mem _ hi)) with q | q
        · subst q; exact absurd hi hn1
        · exact q
      · intro hi
        rcases List.mem_cons.1 ((h i).2 (List.mem_cons_of_mem _ hi)) with q | q
        · subst q; exact absurd hi hn2
        · exact q

theorem up_nodup {xs : List Int} (h : Up xs) : xs.Nodup := List.Pairwise.imp (fun {a b} q => by omega) h

/-! who signed -/

/-- Who of the first k signed x, rising. -/
def sgTo (zs : List ShI) (x : StI) : Nat → List Int
  | 0 => []
  | k + 1 => match zs[k]? with
    | none => sgTo zs x k
    | some z => if sameSt z.st x = true then insR z.r (sgTo zs x k) else sgTo zs x k

def sgL (zs : List ShI) (x : StI) : List Int := sgTo zs x zs.length

theorem sgTo_hit {zs : List ShI} {x : StI} {k : Nat} {z : ShI} (hz : zs[k]? = some z) (h : sameSt z.st x = true) : sgTo zs x (k + 1) = insR z.r (sgTo zs x k) := by
  rw [sgTo, hz]; exact if_pos h

theorem sgTo_miss {zs : List ShI} {x : StI} {k : Nat} {z : ShI} (hz : zs[k]? = some z) (h : sameSt z.st x = false) : sgTo zs x (k + 1) = sgTo zs x k := by
  rw [sgTo, hz]; exact if_neg (by rw [h]; simp)

theorem sgTo_up (zs : List ShI) (x : StI) (k : Nat) : Up (sgTo zs x k) := by
  induction k with
  | zero => exact List.Pairwise.nil
  | succ k ih =>
    unfold sgTo
    split
    · exact ih
    · split
      · exact up_insR _ _ ih
      · exact ih

theorem sgTo_len (zs : List ShI) (x : StI) (k : Nat) : (sgTo zs x k).length ≤ k := by
  induction k with
  | zero => exact Nat.le_refl _
  | succ k ih =>
    unfold sgTo
    split
    · omega
    · split
      · have := insR_len (by assumption : ShI).r (sgTo zs x k); omega
      · omega

theorem mem_sgTo (zs : List ShI) (x : StI) (i : Int) (k : Nat) : i ∈ sgTo zs x k ↔ shOf i x ∈ zs.take k := by
  induction k with
  | zero => simp [sgTo]
  | succ k ih =>
    have hS : shOf i x ∈ zs.take (k + 1) ↔ (shOf i x ∈ zs.take k ∨ zs[k]? = some (shOf i x)) := by
      rw [mem_takeH, mem_takeH]
      constructor
      · rintro ⟨j, hj, e⟩
        by_cases q : j = k
        · subst q; exact .inr e
        · exact .inl ⟨j, by omega, e⟩
      · rintro (⟨j, hj, e⟩ | e)
        · exact ⟨j, by omega, e⟩
        · exact ⟨k, by omega, e⟩
    rw [hS, ← ih]
    cases e : zs[k]? with
    | none => rw [sgTo, e]; simp
    | some z =>
      by_cases q : sameSt z.st x = true
      · rw [sgTo_hit e q, mem_insR]
        have hst : z.st = x := by unfold sameSt at q; exact of_decide_eq_true q
        constructor
        · rintro (h | h)
          · exact .inr (by rw [sh_eq.2 ⟨hst, h.symm⟩])
          · exact .inl h
        · rintro (h | h)
          · exact .inr h
          · exact .inl (sh_eq.1 (Option.some.inj h)).2.symm
      · rw [sgTo_miss e (by simpa using q)]
        constructor
        · intro h; exact .inl h
        · rintro (h | h)
          · exact h
          · exact absurd (by unfold sameSt; exact decide_eq_true (sh_eq.1 (Option.some.inj h)).1) q

theorem mem_sgL (zs : List ShI) (x : StI) (i : Int) : i ∈ sgL zs x ↔ shOf i x ∈ zs := by
  unfold sgL
  rw [mem_sgTo, List.take_of_length_le (Nat.le_refl _)]

theorem sgL_up (zs : List ShI) (x : StI) : Up (sgL zs x) := sgTo_up zs x _
theorem sgL_len (zs : List ShI) (x : StI) : (sgL zs x).length ≤ zs.length := sgTo_len zs x _

/-- The code of SignersOf. -/
def sgCode (zs : List ShI) (x : StI) : Int := if 120 < zs.length then 2 else stCode x
def sgRes (zs : List ShI) (x : StI) : List Int := if sgCode zs x = 0 then sgL zs x else []

/-- The code of Combine. -/
def cbCode (f : Int) (zs : List ShI) (x : StI) : Int := if shCode f zs = 0 then (if stCode x = 0 then (if ((sgL zs x).length : Int) < 2 * f + 1 then 7 else 0) else stCode x) else shCode f zs

def sgdAll (zs : List ShI) (x : StI) (ys : List Int) : Bool := ys.all (fun y => hasSh zs (shOf y x))
def sfCode (f : Int) (ys : List Int) : Int := if riseB ys = true then (if rngAll f ys = true then (if (ys.length : Int) < 2 * f + 1 then 7 else 0) else 3) else 1
def vfCode (f : Int) (zs : List ShI) (x : StI) (ys : List Int) : Int := if shCode f zs = 0 then (if stCode x = 0 then (if sfCode f ys = 0 then (if sgdAll zs x ys = true then 0 else 7) else sfCode f ys) else stCode x) else shCode f zs

/-- What CommonOf tells. -/
def cmCode (m n : Nat) : Int := if 20 < m ∨ 20 < n then 2 else 0
def cmTo (us vs : List Int) (k : Nat) : List Int := (us.take k).filter (fun i => decide (i ∈ vs))
def cmRes (us vs : List Int) : List Int := if cmCode us.length vs.length = 0 then us.filter (fun i => decide (i ∈ vs)) else []

end Go.Proofs.Ythogdfnaojijhaa
