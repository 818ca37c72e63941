/-
  PLAIN WORDS: what was said, looked for by its kind and epoch or as a whole.
-/
import Derived.Test.YthogdfnaojijhaaSt1
namespace Go.Proofs.Ythogdfnaojijhaa
set_option linter.unusedVariables false

def kindB (said : List StI) (k e : Int) : Bool := said.any (fun x => decide (x.k = k) && decide (x.e = e))
def kindAt (said : List StI) (k e : Int) : Option StI := said.find? (fun x => decide (x.k = k) && decide (x.e = e))
def sealB (said : List StI) (e : Int) : Bool := kindB said 3 e || kindB said 4 e
def backI (x : StI) : StI := ⟨2, x.e, x.f, x.s, 0⟩
def saidB (said : List StI) (x : StI) : Bool := said.any (fun y => sameSt y x)

theorem saidB_iff {said : List StI} {x : StI} : saidB said x = true ↔ x ∈ said := by
  unfold saidB sameSt
  rw [List.any_eq_true]
  constructor
  · rintro ⟨y, hy, h⟩
    have : y = x := of_decide_eq_true h
    subst this; exact hy
  · intro h
    exact ⟨x, h, decide_eq_true rfl⟩

theorem kindAt_drop {said : List StI} {j : Nat} {x : StI} (h : said[j]? = some x) (k e : Int) : kindAt (said.drop j) k e = if x.k = k ∧ x.e = e then some x else kindAt (said.drop (j + 1)) k e := by
  have hl : j < said.length := by
    by_cases q : j < said.length
    · exact q
    · rw [List.getElem?_eq_none (by omega)] at h; cases h
  rw [List.getElem?_eq_getElem hl] at h
  rw [List.drop_eq_getElem_cons hl, Option.some.inj h]
  unfold kindAt
  rw [List.find?_cons]
  by_cases q : x.k = k ∧ x.e = e
  · rw [if_pos q]; simp [q.1, q.2]
  · rw [if_neg q]
    have : (decide (x.k = k) && decide (x.e = e)) = false := by
      rw [Bool.and_eq_false_iff]
      by_cases q1 : x.k = k
      · exact .inr (decide_eq_false (fun q2 => q ⟨q1, q2⟩))
      · exact .inl (decide_eq_false q1)
    rw [this]

theorem kindB_at (said : List StI) (k e : Int) : kindB said k e = (kindAt said k e).isSome := by
  unfold kindB kindAt
  induction said with
  | nil => rfl
  | cons x r ih =>
    rw [List.any_cons, List.find?_cons]
    cases (decide (x.k = k) && decide (x.e = e))
    · simpa using ih
    · simp

theorem saidB_drop {said : List StI} {j : Nat} {x : StI} (h : said[j]? = some x) (y : StI) : saidB (said.drop j) y = (sameSt x y || saidB (said.drop (j + 1)) y) := by
  have hl : j < said.length := by
    by_cases q : j < said.length
    · exact q
    · rw [List.getElem?_eq_none (by omega)] at h; cases h
  rw [List.getElem?_eq_getElem hl] at h
  rw [List.drop_eq_getElem_cons hl, Option.some.inj h]
  unfold saidB
  rw [List.any_cons]

end Go.Proofs.Ythogdfnaojijhaa
