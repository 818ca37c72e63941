/- Contracts. -/
import Derived.Test.YtfkajnenniapaaaGreatPr19
namespace Go.Proofs.YtfkajnenniapaaaGreat
set_option maxRecDepth 100000
set_option maxHeartbeats 8000000
open Go.RowKit
set_option linter.unusedVariables false
set_option linter.unusedSimpArgs false

def eAt (cs : List ConfI) (p : Nat) : Int := (cs[p]?.getD default).e
def sB (cs : List ConfI) (P : Int → Nat → Bool) (e : Int) (i : Nat) : Bool := decide (eAt cs i = e + 1) && P e i
def nx (cs : List ConfI) (P : Int → Nat → Bool) (e : Int) : Nat → Option Nat
 | 0 => none
 | k + 1 => match nx cs P e k with
  | some i => some i
  | none => if sB cs P e k = true then some k else none
theorem nx_none {cs : List ConfI} {P : Int → Nat → Bool} {e : Int} {k : Nat} (h : nx cs P e k = none) : ∀ j, j < k → sB cs P e j = false := by
 induction k with
 | zero => intro j hj; omega
 | succ k ih =>
  intro j hj
  rw [nx] at h
  cases hn : nx cs P e k with
  | some i => rw [hn] at h; cases h
  | none =>
   rw [hn] at h
   simp only at h
   by_cases hs : sB cs P e k = true
   ·rw [if_pos hs] at h; cases h
   ·by_cases hjk : j = k
    ·subst hjk; simpa using hs
    ·exact ih hn j (by omega)
theorem nx_some {cs : List ConfI} {P : Int → Nat → Bool} {e : Int} {k i : Nat} (h : nx cs P e k = some i) : i < k ∧ sB cs P e i = true ∧ ∀ j, j < i → sB cs P e j = false := by
 induction k with
 | zero => cases h
 | succ k ih =>
  rw [nx] at h
  cases hn : nx cs P e k with
  | some i' =>
   rw [hn] at h
   simp only [Option.some.injEq] at h
   subst h
   obtain ⟨h1, h2⟩ := ih hn
   exact ⟨by omega, h2⟩
  | none =>
   rw [hn] at h
   simp only at h
   by_cases hs : sB cs P e k = true
   ·rw [if_pos hs] at h
    cases h
    exact ⟨by omega, hs, nx_none hn⟩
   ·rw [if_neg hs] at h; cases h
theorem nx_of {cs : List ConfI} {P : Int → Nat → Bool} {e : Int} {n i : Nat} (hi : i < n) (hs : sB cs P e i = true) (hj : ∀ j, j < i → sB cs P e j = false) : nx cs P e n = some i := by
 cases h : nx cs P e n with
 | none => rw [nx_none h i hi] at hs; cases hs
 | some i' =>
  obtain ⟨_, h2, h3⟩ := nx_some h
  by_cases q : i' = i
  ·rw [q]
  ·by_cases q2 : i' < i
   ·rw [hj i' q2] at h2; cases h2
   ·rw [h3 i (by omega)] at hs; cases hs
theorem nx_not {cs : List ConfI} {P : Int → Nat → Bool} {e : Int} {n : Nat} (hj : ∀ j, j < n → sB cs P e j = false) : nx cs P e n = none := by
 cases h : nx cs P e n with
 | none => rfl
 | some i =>
  obtain ⟨h1, h2, _⟩ := nx_some h
  rw [hj i h1] at h2; cases h2
def lastP (l : List Nat) : Nat := l[l.length - 1]?.getD 0
def way (cs : List ConfI) (P : Int → Nat → Bool) : Nat → List Nat
 | 0 => [0]
 | k + 1 => match nx cs P (eAt cs (lastP (way cs P k))) cs.length with
  | none => way cs P k
  | some i => way cs P k ++ [i]
def stuck (cs : List ConfI) (P : Int → Nat → Bool) (k : Nat) : Prop := nx cs P (eAt cs (lastP (way cs P k))) cs.length = none
theorem way_stay {cs : List ConfI} {P : Int → Nat → Bool} {k : Nat} (h : stuck cs P k) : ∀ m, k ≤ m → way cs P m = way cs P k := by
 intro m hm
 induction m with
 | zero => rw [show k = 0 by omega]
 | succ m ih =>
  by_cases q : k = m + 1
  ·rw [q]
  ·have e := ih (by omega)
   have hs : nx cs P (eAt cs (lastP (way cs P m))) cs.length = none := by rw [e]; exact h
   rw [way, hs]
   exact e
theorem way_step {cs : List ConfI} {P : Int → Nat → Bool} {k i : Nat} (h : nx cs P (eAt cs (lastP (way cs P k))) cs.length = some i) : way cs P (k + 1) = way cs P k ++ [i] := by rw [way, h]
theorem last_app (l : List Nat) (i : Nat) : lastP (l ++ [i]) = i := by
 unfold lastP
 simp
theorem way_go {cs : List ConfI} {P : Int → Nat → Bool} (h0 : 0 < cs.length) : ∀ k, (∀ j, j < k → ¬ stuck cs P j) → (way cs P k).length = k + 1 ∧ eAt cs (lastP (way cs P k)) = eAt cs 0 + (k : Int) ∧ ∀ i, i ≤ k → ∃ p, (way cs P k)[i]? = some p ∧ p < cs.length ∧ eAt cs p = eAt cs 0 + (i : Int)
 | 0, _ => ⟨rfl, by simp [way, lastP], fun i hi => ⟨0, by rw [show i = 0 by omega]; rfl, h0, by rw [show i = 0 by omega]; simp⟩⟩
 | k + 1, hs => by
  obtain ⟨hl, he, hp⟩ := way_go h0 k (fun j hj => hs j (by omega))
  have hk := hs k (by omega)
  cases hn : nx cs P (eAt cs (lastP (way cs P k))) cs.length with
  | none => exact absurd hn hk
  | some i =>
   obtain ⟨h1, h2, _⟩ := nx_some hn
   have hei : eAt cs i = eAt cs 0 + ((k + 1 : Nat) : Int) := by
    unfold sB at h2
    have := of_decide_eq_true (Bool.and_eq_true_iff.1 h2).1
    rw [he] at this
    omega
   rw [way_step hn]
   refine ⟨by simp [hl], by rw [last_app]; exact hei, fun j hj => ?_⟩
   by_cases q : j ≤ k
   ·obtain ⟨p, e1, e2, e3⟩ := hp j q
    exact ⟨p, by rw [List.getElem?_append_left (by omega)]; exact e1, e2, e3⟩
   ·have : j = k + 1 := by omega
    subst this
    exact ⟨i, by rw [List.getElem?_append_right (by omega), hl]; simp, h1, hei⟩
theorem pigeon : ∀ (n m : Nat) (f : Nat → Nat), (∀ i, i < m → f i < n) → (∀ i j, i < m → j < m → f i = f j → i = j) → m ≤ n
 | 0, m, f, h, _ => by
  by_cases q : m = 0
  ·omega
  ·have := h 0 (by omega); omega
 | n + 1, m, f, h, hi => by
  by_cases q : ∃ i, i < m ∧ f i = n
  ·obtain ⟨i, him, hin⟩ := q
   have := pigeon n (m - 1) (fun j => if j < i then f j else f (j + 1)) (fun j hj => ?_) (fun j k hj hk e => ?_)
   ·omega
   ·show (if j < i then f j else f (j + 1)) < n
    by_cases hji : j < i
    ·rw [if_pos hji]
     have h1 := h j (by omega)
     have : f j ≠ n := fun e => by have := hi j i (by omega) him (e.trans hin.symm); omega
     omega
    ·rw [if_neg hji]
     have h1 := h (j + 1) (by omega)
     have : f (j + 1) ≠ n := fun e => by have := hi (j + 1) i (by omega) him (e.trans hin.symm); omega
     omega
   ·have e : (if j < i then f j else f (j + 1)) = (if k < i then f k else f (k + 1)) := e
    by_cases hji : j < i
    ·rw [if_pos hji] at e
     by_cases hki : k < i
     ·rw [if_pos hki] at e
      exact hi j k (by omega) (by omega) e
     ·rw [if_neg hki] at e
      have := hi j (k + 1) (by omega) (by omega) e
      omega
    ·rw [if_neg hji] at e
     by_cases hki : k < i
     ·rw [if_pos hki] at e
      have := hi (j + 1) k (by omega) (by omega) e
      omega
     ·rw [if_neg hki] at e
      have := hi (j + 1) (k + 1) (by omega) (by omega) e
      omega
  ·have := pigeon n m f (fun i hm => by have h1 := h i hm; have : f i ≠ n := fun e => q ⟨i, hm, e⟩; omega) hi
   omega
theorem way_end {cs : List ConfI} {P : Int → Nat → Bool} (h0 : 0 < cs.length) : stuck cs P (cs.length - 1) := by
 by_cases q : ∃ k, k ≤ cs.length - 1 ∧ stuck cs P k
 ·obtain ⟨k, hk, hs⟩ := q
  unfold stuck
  rw [way_stay hs _ hk]
  exact hs
 ·exfalso
  obtain ⟨hl, _, hp⟩ := way_go (P := P) h0 cs.length (fun j hj hs => q ⟨j, by omega, hs⟩)
  have := pigeon cs.length (cs.length + 1) (fun i => (way cs P cs.length)[i]?.getD 0) (fun i hi => ?_) (fun i j hi hj e => ?_)
  ·omega
  ·obtain ⟨p, e1, e2, _⟩ := hp i (by omega)
   simp only [e1]
   exact e2
  ·obtain ⟨p, e1, _, e3⟩ := hp i (by omega)
   obtain ⟨p', e1', _, e3'⟩ := hp j (by omega)
   simp only [e1, e1', Option.getD_some] at e
   subst e
   omega

end Go.Proofs.YtfkajnenniapaaaGreat
