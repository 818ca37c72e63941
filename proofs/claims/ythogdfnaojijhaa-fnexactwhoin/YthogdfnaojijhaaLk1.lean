/-
  PLAIN WORDS on locks: which has no fault, which stands ahead, which form was chosen. No Go text is walked here.
  Conditions: each fact bears its own.
-/
import Derived.Test.YthogdfnaojijhaaLk0
namespace Go.Proofs.Ythogdfnaojijhaa
open Go.RowKit
set_option linter.unusedVariables false
set_option linter.unusedSimpArgs false

/-- One lock stands ahead of another. -/
def ltL (x y : LkI) : Bool := decide (x.e < y.e ∨ (x.e = y.e ∧ (x.c < y.c ∨ (x.c = y.c ∧ x.p < y.p))))

def inR (v lo hi : Int) : Bool := decide (lo ≤ v) && decide (v ≤ hi)

def okL (x : LkI) : Bool := inR x.e 1 9 && inR x.c 0 3 && inR x.p 1 8 && inR x.f 1 4

/-- The lock ahead stands ahead. -/
def prevL (gs : List LkI) (k : Nat) (x : LkI) : Bool := match k with
  | 0 => true
  | j + 1 => match gs[j]? with | some y => ltL y x | none => true

def lkOne (gs : List LkI) (k : Nat) (x : LkI) : Int := if okL x = false then 3 else if prevL gs k x = false then 1 else 0

def lkTo (gs : List LkI) : Nat → Int
  | 0 => 0
  | k + 1 => if lkTo gs k ≠ 0 then lkTo gs k else match gs[k]? with
    | none => 0
    | some x => lkOne gs k x

def lkCode (gs : List LkI) : Int := if 200 < gs.length then 2 else lkTo gs gs.length

theorem lkTo_stay (gs : List LkI) (k m : Nat) (c : Int) (hc : c ≠ 0) (h : lkTo gs k = c) (hm : k ≤ m) : lkTo gs m = c := by
  induction m with
  | zero => obtain rfl : k = 0 := by omega
            exact h
  | succ m ih =>
    by_cases e : k = m + 1
    · subst e; exact h
    · have := ih (by omega)
      simp only [lkTo, this]
      rw [if_pos hc]

theorem lkTo_next {gs : List LkI} {k : Nat} {x : LkI} (hk : gs[k]? = some x) (h0 : lkTo gs k = 0) : lkTo gs (k + 1) = lkOne gs k x := by
  simp [lkTo, h0, hk]

theorem lkOne_zero {gs : List LkI} {k : Nat} {x : LkI} : lkOne gs k x = 0 ↔ okL x = true ∧ prevL gs k x = true := by
  unfold lkOne
  cases okL x <;> cases prevL gs k x <;> simp

/-- Locks that rise. -/
def SL (gs : List LkI) : Prop := gs.Pairwise (fun a b => ltL a b = true)

theorem ltL_trans {a b c : LkI} (h1 : ltL a b = true) (h2 : ltL b c = true) : ltL a c = true := by
  simp only [ltL, decide_eq_true_eq] at *
  omega

theorem ltL_irrefl (a : LkI) : ltL a a = false := by simp [ltL]

theorem lk_take {gs : List LkI} : ∀ k, k ≤ gs.length → lkTo gs k = 0 → SL (gs.take k) ∧ ∀ x ∈ gs.take k, okL x = true
  | 0, _, _ => by simp [SL]
  | k + 1, hk, h => by
    have h0 : lkTo gs k = 0 := by
      by_cases q : lkTo gs k = 0
      · exact q
      · exact absurd (lkTo_stay gs k (k + 1) _ q rfl (by omega)) (by rw [h]; exact fun e => q e.symm)
    have hx : gs[k]? = some gs[k] := List.getElem?_eq_getElem (by omega)
    rw [lkTo_next hx h0] at h
    obtain ⟨h1, h3⟩ := lkOne_zero.1 h
    obtain ⟨i1, i2⟩ := lk_take k (by omega) h0
    rw [List.take_succ_eq_append_getElem (by omega)]
    refine ⟨List.pairwise_append.2 ⟨i1, by simp, fun a ha b hb => ?_⟩, fun x hx => ?_⟩
    · simp at hb
      rw [hb]
      obtain ⟨j, hj⟩ := List.mem_iff_getElem?.1 ha
      have hjk : j < k := by
        by_cases q : j < k
        · exact q
        · rw [List.getElem?_eq_none (by simp; omega)] at hj; cases hj
      match k, hk, hx, h3, i1, ha, hj, hjk with
      | m + 1, hk, hx, h3, i1, ha, hj, hjk =>
        have hy : gs[m]? = some gs[m] := List.getElem?_eq_getElem (by omega)
        simp only [prevL, hy] at h3
        by_cases e : j = m
        · subst e
          rw [List.getElem?_take, if_pos (by omega), hy] at hj
          cases hj
          exact h3
        · have hm2 : (gs.take (m + 1))[m]? = some gs[m] := by rw [List.getElem?_take, if_pos (by omega)]; exact hy
          have := List.pairwise_iff_getElem.1 i1 j m (by simp; omega) (by simp; omega) (by omega)
          rw [List.getElem?_eq_getElem (by simp; omega)] at hj hm2
          rw [Option.some.inj hj, Option.some.inj hm2] at this
          exact ltL_trans this h3
    · rcases List.mem_append.1 hx with q | q
      · exact i2 x q
      · simp at q; rw [q]; exact h1

theorem lk_ok {gs : List LkI} (h : lkCode gs = 0) : gs.length ≤ 200 ∧ SL gs ∧ ∀ x ∈ gs, okL x = true := by
  unfold lkCode at h
  split at h
  · cases h
  · have := lk_take gs.length (Nat.le_refl _) h
    rw [List.take_length] at this
    exact ⟨by omega, this⟩

/-- The form that was chosen; 0: none. -/
def formL (gs : List LkI) (e c p : Int) : Int := match gs with
  | [] => 0
  | x :: xs => if x.e = e ∧ x.c = c ∧ x.p = p then x.f else formL xs e c p

theorem formL_drop {gs : List LkI} {k : Nat} {x : LkI} (h : gs[k]? = some x) (e c p : Int) : formL (gs.drop k) e c p = if x.e = e ∧ x.c = c ∧ x.p = p then x.f else formL (gs.drop (k + 1)) e c p := by
  have hk : k < gs.length := by
    by_cases q : k < gs.length
    · exact q
    · rw [List.getElem?_eq_none (by omega)] at h; cases h
  have e1 : gs[k] = x := by rw [List.getElem?_eq_getElem hk] at h; exact Option.some.inj h
  rw [List.drop_eq_getElem_cons hk, e1]
  rfl

theorem formL_none {gs : List LkI} {e c p : Int} (h : ∀ x ∈ gs, ¬ (x.e = e ∧ x.c = c ∧ x.p = p)) : formL gs e c p = 0 := by
  induction gs with
  | nil => rfl
  | cons x xs ih =>
    unfold formL
    rw [if_neg (h x (by simp))]
    exact ih (fun y hy => h y (by simp [hy]))

theorem formL_mem {gs : List LkI} (hs : SL gs) {x : LkI} (hx : x ∈ gs) : formL gs x.e x.c x.p = x.f := by
  induction gs with
  | nil => cases hx
  | cons y ys ih =>
    have hp := List.pairwise_cons.1 hs
    unfold formL
    rcases List.mem_cons.1 hx with rfl | q
    · simp
    · have := hp.1 x q
      rw [if_neg (by simp only [ltL, decide_eq_true_eq] at this; omega)]
      exact ih hp.2 q

/-- How a lock lies against a place. -/
def cmpJ (x y : Int) : Int := if x < y then -1 else if y < x then 1 else 0
def orJ (c d : Int) : Int := if c = 0 then d else c
def cfL (x y : LkI) : Int := orJ (cmpJ x.e y.e) (orJ (cmpJ x.c y.c) (cmpJ x.p y.p))

theorem cfL_neg (x y : LkI) : cfL x y < 0 ↔ ltL x y = true := by
  unfold cfL orJ ltL cmpJ
  simp only [decide_eq_true_eq]
  split <;> (repeat' split) <;> first | omega | (simp_all; try omega)

theorem cfL_zero (x y : LkI) : cfL x y = 0 ↔ (x.e = y.e ∧ x.c = y.c ∧ x.p = y.p) := by
  unfold cfL orJ cmpJ
  split <;> (repeat' split) <;> first | omega | (simp_all; try omega)

/-- A place parts rising locks: those ahead stand ahead of t, the others do not. -/
def CutAt (gs : List LkI) (t : LkI) (i : Nat) : Prop := i ≤ gs.length ∧ (∀ k x, k < i → gs[k]? = some x → ltL x t = true) ∧ (∀ k x, i ≤ k → gs[k]? = some x → ltL x t = false)

theorem parts_form {gs : List LkI} (hs : SL gs) {t : LkI} {i : Nat} (h : CutAt gs t i) : formL gs t.e t.c t.p = match gs[i]? with | some x => if cfL x t = 0 then x.f else 0 | none => 0 := by
  cases hi : gs[i]? with
  | none =>
    refine formL_none (fun x hx e => ?_)
    obtain ⟨k, hk⟩ := List.mem_iff_getElem?.1 hx
    have hkl : k < gs.length := by
      by_cases q : k < gs.length
      · exact q
      · rw [List.getElem?_eq_none (by omega)] at hk; cases hk
    have hil : gs.length ≤ i := List.getElem?_eq_none_iff.1 hi
    have := h.2.1 k x (by omega) hk
    simp only [ltL, decide_eq_true_eq] at this
    omega
  | some y =>
    show _ = if cfL y t = 0 then y.f else 0
    by_cases q : cfL y t = 0
    · rw [if_pos q]
      obtain ⟨e1, e2, e3⟩ := (cfL_zero y t).1 q
      rw [← e1, ← e2, ← e3]
      exact formL_mem hs (List.mem_of_getElem? hi)
    · rw [if_neg q]
      refine formL_none (fun x hx e => ?_)
      obtain ⟨k, hk⟩ := List.mem_iff_getElem?.1 hx
      rcases Nat.lt_trichotomy k i with hki | hki | hki
      · have := h.2.1 k x hki hk
        simp only [ltL, decide_eq_true_eq] at this
        omega
      · subst hki
        rw [hi] at hk
        cases hk
        exact q ((cfL_zero _ _).2 e)
      · have hkl : k < gs.length := by
          by_cases q : k < gs.length
          · exact q
          · rw [List.getElem?_eq_none (by omega)] at hk; cases hk
        have hil : i < gs.length := by omega
        have h1 := List.pairwise_iff_getElem.1 hs i k hil hkl hki
        rw [List.getElem?_eq_getElem hkl] at hk
        rw [List.getElem?_eq_getElem hil] at hi
        rw [Option.some.inj hk, Option.some.inj hi] at h1
        have h2 := h.2.2 i y (Nat.le_refl _) (by rw [List.getElem?_eq_getElem hil, Option.some.inj hi])
        simp only [ltL, decide_eq_true_eq, decide_eq_false_iff_not] at h1 h2
        omega

end Go.Proofs.Ythogdfnaojijhaa
