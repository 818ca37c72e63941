/-
  PLAIN WORDS on lists of roles: strictly rising lists, what is put into one, what a policy's roles are. No Go text is walked here.
  Conditions: each fact bears its own.
-/
import Derived.Test.YthogdfnaojijhaaPol0
namespace Go.Proofs.Ythogdfnaojijhaa
open Go.RowKit

abbrev RoI := Int × Int

def ltR (a b : RoI) : Bool := decide (a.1 < b.1 ∨ (a.1 = b.1 ∧ a.2 < b.2))

theorem ltR_irrefl (a : RoI) : ltR a a = false := by simp [ltR]
theorem ltR_trans {a b c : RoI} (h : ltR a b = true) (k : ltR b c = true) : ltR a c = true := by
  simp [ltR] at *; omega
theorem ltR_total {a b : RoI} (h : ltR a b = false) (hne : a ≠ b) : ltR b a = true := by
  obtain ⟨a1, a2⟩ := a
  obtain ⟨b1, b2⟩ := b
  have hne' : ¬ (a1 = b1 ∧ a2 = b2) := fun e => hne (by rw [e.1, e.2])
  simp [ltR] at *; omega

/-- Strictly rising. -/
def SS (zs : List RoI) : Prop := zs.Pairwise (fun a b => ltR a b = true)

theorem ss_unique : ∀ (a b : List RoI), SS a → SS b → (∀ x, x ∈ a ↔ x ∈ b) → a = b
  | [], [], _, _, _ => rfl
  | [], y :: ys, _, _, h => absurd ((h y).2 (by simp)) (by simp)
  | x :: xs, [], _, _, h => absurd ((h x).1 (by simp)) (by simp)
  | x :: xs, y :: ys, ha, hb, h => by
    have ha' := List.pairwise_cons.1 ha
    have hb' := List.pairwise_cons.1 hb
    have e : x = y := by
      rcases List.mem_cons.1 ((h x).1 (by simp)) with e | e
      · exact e
      · rcases List.mem_cons.1 ((h y).2 (by simp)) with e2 | e2
        · exact e2.symm
        · have h1 := hb'.1 x e
          have h2 := ha'.1 y e2
          have := ltR_trans h1 h2
          rw [ltR_irrefl] at this
          cases this
    subst e
    rw [ss_unique xs ys ha'.2 hb'.2 (fun z => ?_)]
    constructor
    · intro hz
      rcases List.mem_cons.1 ((h z).1 (by simp [hz])) with e | e
      · subst e
        have := ha'.1 z hz
        rw [ltR_irrefl] at this
        cases this
      · exact e
    · intro hz
      rcases List.mem_cons.1 ((h z).2 (by simp [hz])) with e | e
      · subst e
        have := hb'.1 z hz
        rw [ltR_irrefl] at this
        cases this
      · exact e

/-- A role put at its place: all ahead are less, the one there is not less and is another. -/
theorem ss_insert {zs : List RoI} {r : RoI} {k : Nat} (hs : SS zs) (hlo : ∀ j x, j < k → zs[j]? = some x → ltR x r = true) (hhi : ∀ x, zs[k]? = some x → ltR x r = false ∧ x ≠ r) : SS (zs.take k ++ r :: zs.drop k) := by
  have hs2 : SS (zs.take k ++ zs.drop k) := by rw [List.take_append_drop]; exact hs
  obtain ⟨h1, h2, h3⟩ := List.pairwise_append.1 hs2
  have hr : ∀ b ∈ zs.drop k, ltR r b = true := by
    intro b hb
    cases e : zs.drop k with
    | nil => rw [e] at hb; cases hb
    | cons y ys =>
      have hy : zs[k]? = some y := by
        have : (zs.drop k)[0]? = some y := by rw [e]; rfl
        rw [List.getElem?_drop] at this
        simpa using this
      obtain ⟨h4, h5⟩ := hhi y hy
      have h6 := ltR_total h4 h5
      rw [e] at hb h2
      rcases List.mem_cons.1 hb with rfl | hb'
      · exact h6
      · exact ltR_trans h6 ((List.pairwise_cons.1 h2).1 b hb')
  refine List.pairwise_append.2 ⟨h1, List.pairwise_cons.2 ⟨hr, h2⟩, fun a ha b hb => ?_⟩
  rcases List.mem_cons.1 hb with rfl | hb'
  · obtain ⟨j, hj⟩ := List.mem_iff_getElem?.1 ha
    rw [List.getElem?_take] at hj
    split at hj
    · rename_i hjk
      exact hlo j a hjk hj
    · cases hj
  · exact h3 a ha b hb'

theorem mem_insert {zs : List RoI} {r : RoI} (k : Nat) (x : RoI) : x ∈ zs.take k ++ r :: zs.drop k ↔ x = r ∨ x ∈ zs := by
  have : x ∈ zs ↔ x ∈ zs.take k ++ zs.drop k := by rw [List.take_append_drop]
  rw [this]
  simp only [List.mem_append, List.mem_cons]
  constructor
  · rintro (h | h | h)
    · exact .inr (.inl h)
    · exact .inl h
    · exact .inr (.inr h)
  · rintro (h | h | h)
    · exact .inr (.inl h)
    · exact .inl h
    · exact .inr (.inr h)

/-- The roles that a rule names. -/
def bodyR (r : RuleI) : List RoI := if r.k = 1 then [] else if r.k = 4 then [(r.oo, r.on), (r.to, r.tn)] else [(r.oo, r.on)]
def rawR (r : RuleI) : List RoI := (r.ho, r.hn) :: bodyR r
def rawTo (zs : List RuleI) (k : Nat) : List RoI := (zs.take k).flatMap rawR

theorem rawTo_succ {zs : List RuleI} {k : Nat} {r : RuleI} (h : zs[k]? = some r) : rawTo zs (k + 1) = rawTo zs k ++ rawR r := by
  have hk : k < zs.length := by
    by_cases q : k < zs.length
    · exact q
    · rw [List.getElem?_eq_none (by omega)] at h; cases h
  have e : zs[k] = r := by rw [List.getElem?_eq_getElem hk] at h; exact Option.some.inj h
  rw [rawTo, List.take_succ_eq_append_getElem hk, List.flatMap_append, e]
  simp [rawTo]

theorem rawR_len (r : RuleI) : (rawR r).length ≤ 3 := by
  unfold rawR bodyR
  split
  · simp
  · split <;> simp

theorem rawTo_len (zs : List RuleI) (k : Nat) : (rawTo zs k).length ≤ 3 * k := by
  induction k with
  | zero => simp [rawTo]
  | succ k ih =>
    cases h : zs[k]? with
    | none =>
      have hk : zs.length ≤ k := by
        by_cases q : k < zs.length
        · rw [List.getElem?_eq_getElem q] at h; cases h
        · omega
      have : rawTo zs (k + 1) = rawTo zs k := by unfold rawTo; rw [List.take_of_length_le (by omega), List.take_of_length_le (by omega)]
      rw [this]; omega
    | some r =>
      rw [rawTo_succ h, List.length_append]
      have := rawR_len r
      omega

/-- Roles laid out flat. -/
def flat2 : List RoI → List Value
  | [] => []
  | p :: ps => .int .i64 p.1 :: .int .i64 p.2 :: flat2 ps

theorem flat2_append (a b : List RoI) : flat2 (a ++ b) = flat2 a ++ flat2 b := by
  induction a with
  | nil => rfl
  | cons p ps ih => simp [flat2, ih]

theorem flat2_len (a : List RoI) : (flat2 a).length = a.length * 2 := by
  induction a with
  | nil => rfl
  | cons p ps ih => simp [flat2, ih]; omega

theorem flat2_fst : ∀ (a : List RoI) (k : Nat) (p : RoI), a[k]? = some p → (flat2 a)[k * 2]? = some (.int .i64 p.1)
  | [], _, _, h => by simp at h
  | q :: qs, 0, p, h => by simp at h; subst h; rfl
  | q :: qs, k + 1, p, h => by
    have := flat2_fst qs k p (by simpa using h)
    rw [show (k + 1) * 2 = k * 2 + 1 + 1 by omega]
    simpa [flat2] using this

theorem flat2_snd : ∀ (a : List RoI) (k : Nat) (p : RoI), a[k]? = some p → (flat2 a)[k * 2 + 1]? = some (.int .i64 p.2)
  | [], _, _, h => by simp at h
  | q :: qs, 0, p, h => by simp at h; subst h; rfl
  | q :: qs, k + 1, p, h => by
    have := flat2_snd qs k p (by simpa using h)
    rw [show (k + 1) * 2 + 1 = k * 2 + 1 + 1 + 1 by omega]
    simpa [flat2] using this

theorem flat2_one (a : List RoI) : ∀ u ∈ flat2 a, u.oneCell' = true := by
  induction a with
  | nil => simp [flat2]
  | cons p ps ih =>
    intro u hu
    simp only [flat2, List.mem_cons] at hu
    rcases hu with rfl | rfl | hu
    · rfl
    · rfl
    · exact ih u hu

theorem flat2_take (a : List RoI) (k : Nat) : flat2 (a.take k) = (flat2 a).take (k * 2) := by
  induction a generalizing k with
  | nil => simp [flat2]
  | cons p ps ih =>
    cases k with
    | zero => simp [flat2]
    | succ k =>
      rw [show (k + 1) * 2 = k * 2 + 1 + 1 by omega]
      simp [flat2, ih]

theorem flat2_drop (a : List RoI) (k : Nat) : flat2 (a.drop k) = (flat2 a).drop (k * 2) := by
  induction a generalizing k with
  | nil => simp [flat2]
  | cons p ps ih =>
    cases k with
    | zero => simp [flat2]
    | succ k =>
      rw [show (k + 1) * 2 = k * 2 + 1 + 1 by omega]
      simp [flat2, ih]

theorem flat2_set (a : List RoI) (k : Nat) (p : RoI) : flat2 (a.set k p) = ((flat2 a).set (k * 2) (.int .i64 p.1)).set (k * 2 + 1) (.int .i64 p.2) := by
  induction a generalizing k with
  | nil => simp [flat2]
  | cons q qs ih =>
    cases k with
    | zero => simp [flat2]
    | succ k =>
      rw [show (k + 1) * 2 = k * 2 + 1 + 1 by omega]
      simp [flat2, ih]

end Go.Proofs.Ythogdfnaojijhaa
