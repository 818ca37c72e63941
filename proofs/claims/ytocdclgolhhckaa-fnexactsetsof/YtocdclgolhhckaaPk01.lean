/-
  PLAIN WORDS on roles and rules: which have no fault, and which code a fault has. No Go text is walked here.
  Conditions: each fact bears its own.
  PLAIN WORDS on lists of rules: which code a policy has, rule by rule; a list of rules in memory. No Go text is walked here.
  Conditions: each fact bears its own.
  PLAIN WORDS on lists of roles: strictly rising lists, what is put into one, what a policy's roles are. No Go text is walked here.
  Conditions: each fact bears its own.
-/
import Derived.WalkKit
import Derived.Below
namespace Go.Proofs.Ytocdclgolhhckaa
open Go.RowKit

/-- A rule, as eight numbers. -/
structure RuleI where
  k : Int
  ho : Int
  hn : Int
  w : Int
  oo : Int
  on : Int
  to : Int
  tn : Int
deriving DecidableEq

def RuleI.cells (r : RuleI) : Array Value := #[.int .i64 r.k, .int .i64 r.ho, .int .i64 r.hn, .int .i64 r.w, .int .i64 r.oo, .int .i64 r.on, .int .i64 r.to, .int .i64 r.tn]

def prinB (p : Int) : Bool := decide (1 ≤ p ∧ p ≤ 8)
def nameB (n : Int) : Bool := decide (1 ≤ n ∧ n ≤ 5)
def roleB (o n : Int) : Bool := prinB o && nameB n
def roleCode (o n : Int) : Int := if roleB o n = true then 0 else 3

/-- A rule has nothing that its kind does not have. -/
def bareB (r : RuleI) : Bool :=
  if r.k = 1 then r.oo == 0 && r.on == 0 && r.to == 0 && r.tn == 0
  else if r.k = 2 then r.w == 0 && r.to == 0 && r.tn == 0
  else if r.k = 3 then r.w == 0 && r.to == 0
  else r.w == 0

/-- What a rule's kind has is so. -/
def hasB (r : RuleI) : Bool :=
  if r.k = 1 then prinB r.w
  else if r.k = 2 then roleB r.oo r.on
  else if r.k = 3 then roleB r.oo r.on && nameB r.tn
  else roleB r.oo r.on && roleB r.to r.tn

def ruleCode (r : RuleI) : Int :=
  if ¬ (1 ≤ r.k ∧ r.k ≤ 4) then 1 else if roleB r.ho r.hn = false then 3 else if bareB r = false then 1 else if hasB r = false then 3 else 0

/-- A rule lies in memory, in eight cells. -/
def RuleAt (w : World) (g off : Nat) (r : RuleI) : Prop :=
  w.cell? ⟨g, off, none⟩ = some (.int .i64 r.k) ∧ w.cell? ⟨g, off + 1, none⟩ = some (.int .i64 r.ho) ∧ w.cell? ⟨g, off + 2, none⟩ = some (.int .i64 r.hn) ∧ w.cell? ⟨g, off + 3, none⟩ = some (.int .i64 r.w) ∧
  w.cell? ⟨g, off + 4, none⟩ = some (.int .i64 r.oo) ∧ w.cell? ⟨g, off + 5, none⟩ = some (.int .i64 r.on) ∧ w.cell? ⟨g, off + 6, none⟩ = some (.int .i64 r.to) ∧ w.cell? ⟨g, off + 7, none⟩ = some (.int .i64 r.tn)

theorem RuleAt.below {w w' : World} {g off : Nat} {r : RuleI} (h : RuleAt w g off r) (hb : Below w.heap.size w w') : RuleAt w' g off r := by
  have key : ∀ (o : Nat) (v : Value), w.cell? ⟨g, o, none⟩ = some v → w'.cell? ⟨g, o, none⟩ = some v := fun o v e => (hb.cell (p := ⟨g, o, none⟩) (World.block_lt_of_cell? w ⟨g, o, none⟩ e)).trans e
  obtain ⟨h0, h1, h2, h3, h4, h5, h6, h7⟩ := h
  exact ⟨key _ _ h0, key _ _ h1, key _ _ h2, key _ _ h3, key _ _ h4, key _ _ h5, key _ _ h6, key _ _ h7⟩

theorem RuleAt.new (w : World) (r : RuleI) (t : TypeId) : RuleAt (w.alloc (.cells #[.int .i64 r.k, .int .i64 r.ho, .int .i64 r.hn, .int .i64 r.w, .int .i64 r.oo, .int .i64 r.on, .int .i64 r.to, .int .i64 r.tn] t)) w.heap.size 0 r := by
  simp [RuleAt]

/-- A role lies in memory, in two cells. -/
def RoleAt (w : World) (g off : Nat) (o n : Int) : Prop := w.cell? ⟨g, off, none⟩ = some (.int .i64 o) ∧ w.cell? ⟨g, off + 1, none⟩ = some (.int .i64 n)

theorem RoleAt.below {w w' : World} {g off : Nat} {o n : Int} (h : RoleAt w g off o n) (hb : Below w.heap.size w w') : RoleAt w' g off o n := by
  have key : ∀ (o : Nat) (v : Value), w.cell? ⟨g, o, none⟩ = some v → w'.cell? ⟨g, o, none⟩ = some v := fun o v e => (hb.cell (p := ⟨g, o, none⟩) (World.block_lt_of_cell? w ⟨g, o, none⟩ e)).trans e
  exact ⟨key _ _ h.1, key _ _ h.2⟩

theorem RoleAt.new (w : World) (o n : Int) (t : TypeId) : RoleAt (w.alloc (.cells #[.int .i64 o, .int .i64 n] t)) w.heap.size 0 o n := by
  simp [RoleAt]

end Go.Proofs.Ytocdclgolhhckaa

namespace Go.Proofs.Ytocdclgolhhckaa
open Go.RowKit

/-- The code of the first k rules: rule by rule, the rule's own code, then 6 where one ahead is the same. -/
def polTo (zs : List RuleI) : Nat → Int
  | 0 => 0
  | k + 1 => if polTo zs k ≠ 0 then polTo zs k else match zs[k]? with
    | none => 0
    | some r => if ruleCode r ≠ 0 then ruleCode r else if r ∈ zs.take k then 6 else 0

def polCode (zs : List RuleI) : Int := if 16 < zs.length then 2 else polTo zs zs.length

theorem polTo_stay (zs : List RuleI) (k m : Nat) (c : Int) (hc : c ≠ 0) (h : polTo zs k = c) (hm : k ≤ m) : polTo zs m = c := by
  induction m with
  | zero => obtain rfl : k = 0 := by omega
            exact h
  | succ m ih =>
    by_cases e : k = m + 1
    · subst e; exact h
    · have := ih (by omega)
      simp only [polTo, this]
      rw [if_pos hc]

theorem polTo_bad (zs : List RuleI) (k : Nat) (r : RuleI) (hk : zs[k]? = some r) (h0 : polTo zs k = 0) (hr : ruleCode r ≠ 0) : polTo zs (k + 1) = ruleCode r := by
  simp [polTo, h0, hk, hr]

theorem polTo_same (zs : List RuleI) (k : Nat) (r : RuleI) (hk : zs[k]? = some r) (h0 : polTo zs k = 0) (hr : ruleCode r = 0) (hm : r ∈ zs.take k) : polTo zs (k + 1) = 6 := by
  simp [polTo, h0, hk, hr, hm]

theorem polTo_good (zs : List RuleI) (k : Nat) (r : RuleI) (hk : zs[k]? = some r) (h0 : polTo zs k = 0) (hr : ruleCode r = 0) (hm : ¬ r ∈ zs.take k) : polTo zs (k + 1) = 0 := by
  simp [polTo, h0, hk, hr, hm]

theorem mem_take_iff (zs : List RuleI) (k : Nat) (r : RuleI) : r ∈ zs.take k ↔ ∃ j, j < k ∧ zs[j]? = some r := by
  rw [List.mem_iff_getElem?]
  constructor
  · rintro ⟨j, hj⟩
    rw [List.getElem?_take] at hj
    by_cases h : j < k
    · rw [if_pos h] at hj; exact ⟨j, h, hj⟩
    · rw [if_neg h] at hj; cases hj
  · rintro ⟨j, h, hj⟩
    exact ⟨j, by rw [List.getElem?_take, if_pos h]; exact hj⟩

/-- Rules lie in a block, eight cells each. -/
def RulesAt (w : World) (g off : Nat) (zs : List RuleI) : Prop := ∀ k r, zs[k]? = some r → RuleAt w g (off + k * 8) r

theorem RulesAt.below {w w' : World} {g off : Nat} {zs : List RuleI} (h : RulesAt w g off zs) (hb : Below w.heap.size w w') : RulesAt w' g off zs := fun k r e => (h k r e).below hb

/-- A slice of rules. -/
def RulesIn (w : World) (a : Option Addr) (len : Nat) (zs : List RuleI) : Prop := zs.length = len ∧ (0 < len → ∃ b off, a = some ⟨b, off, none⟩ ∧ RulesAt w b off zs)

theorem RulesIn.below {w w' : World} {a : Option Addr} {len : Nat} {zs : List RuleI} (h : RulesIn w a len zs) (hb : Below w.heap.size w w') : RulesIn w' a len zs := by
  refine ⟨h.1, fun hl => ?_⟩
  obtain ⟨b, off, e, hr⟩ := h.2 hl
  exact ⟨b, off, e, hr.below hb⟩

theorem RulesIn.at {w : World} {a : Option Addr} {len : Nat} {zs : List RuleI} (h : RulesIn w a len zs) {k : Nat} (hk : k < len) :
    ∃ b off r, a = some ⟨b, off, none⟩ ∧ zs[k]? = some r ∧ RuleAt w b (off + k * 8) r := by
  obtain ⟨b, off, e, hr⟩ := h.2 (by omega)
  have hl := h.1
  exact ⟨b, off, zs[k]'(by omega), e, List.getElem?_eq_getElem (by omega), hr k _ (List.getElem?_eq_getElem (by omega))⟩

theorem RulesIn.here {w : World} {b off len : Nat} {zs : List RuleI} (h : RulesIn w (some ⟨b, off, none⟩) len zs) {k : Nat} (hk : k < len) : ∃ r, zs[k]? = some r ∧ RuleAt w b (off + k * 8) r := by
  obtain ⟨b', off', r, e, h1, h2⟩ := h.at hk
  cases e
  exact ⟨r, h1, h2⟩

/-- The first rules of a slice. -/
theorem RulesIn.cut {w : World} {a : Option Addr} {len : Nat} {zs : List RuleI} (h : RulesIn w a len zs) {k : Nat} (hk : k ≤ len) : RulesIn w a k (zs.take k) := by
  refine ⟨by have := h.1; simp; omega, fun hp => ?_⟩
  obtain ⟨b, off, e, hr⟩ := h.2 (by omega)
  refine ⟨b, off, e, fun j r ej => hr j r ?_⟩
  rw [List.getElem?_take] at ej
  split at ej
  · exact ej
  · cases ej

theorem RulesIn.of {w : World} {g len : Nat} {zs : List RuleI} (hl : zs.length = len) (h : RulesAt w g 0 zs) : RulesIn w (some ⟨g, 0, none⟩) len zs :=
  ⟨hl, fun _ => ⟨g, 0, rfl, h⟩⟩

/-- Old cells are as they were: in the form that a region's walk takes for its S. -/
theorem kp_drew (W : World) : (∀ b o, b < W.heap.size → W.drew.cell? ⟨b, o, none⟩ = W.cell? ⟨b, o, none⟩) ∧ Below W.heap.size W W.drew :=
  ⟨fun _ _ _ => rfl, ⟨rfl, rfl, rfl, Nat.le_refl _, fun _ _ => rfl⟩⟩

theorem kp_refl (W : World) : (∀ b o, b < W.heap.size → W.cell? ⟨b, o, none⟩ = W.cell? ⟨b, o, none⟩) ∧ Below W.heap.size W W :=
  ⟨fun _ _ _ => rfl, Below.refl _ _⟩

theorem kp_step {W w w' : World} (h : (∀ b o, b < W.heap.size → w.cell? ⟨b, o, none⟩ = W.cell? ⟨b, o, none⟩) ∧ Below W.heap.size W w) (hb : Below w.heap.size w w') : (∀ b o, b < W.heap.size → w'.cell? ⟨b, o, none⟩ = W.cell? ⟨b, o, none⟩) ∧ Below W.heap.size W w' := by
  have hz := h.2.size
  exact ⟨fun b o hl => (hb.cell (p := ⟨b, o, none⟩) (by show b < w.heap.size; omega)).trans (h.1 b o hl), h.2.trans (hb.mono hz)⟩

/-- A slice of rules that came in. -/
def RulesArg (w : World) (a : Option Addr) (len : Nat) (zs : List RuleI) : Prop := RulesIn w a len zs ∧ len ≤ maxLen

end Go.Proofs.Ytocdclgolhhckaa

namespace Go.Proofs.Ytocdclgolhhckaa
open Go.RowKit

abbrev RoI := Int × Int

def ltR (a b : RoI) : Bool := decide (a.1 < b.1 ∨ (a.1 = b.1 ∧ a.2 < b.2))

theorem ltR_irrefl (a : RoI) : ltR a a = false := by simp [ltR]
theorem ltR_trans {a b c : RoI} (h : ltR a b = true) (k : ltR b c = true) : ltR a c = true := by
  simp [ltR] at *; omega
theorem ltR_total {a b : RoI} (h : ltR a b = false) (hne : a ≠ b) : ltR b a = true := by
  obtain ⟨a1, a2⟩ := a
  obtain ⟨b1, b2⟩ := b
  have hne' : ¬ (a1 = b1 ∧ a2 = b2) := fun e => hne (by rw [e.1, e.2])
  simp [ltR] at *; omega

/-- Strictly rising. -/
def SS (zs : List RoI) : Prop := zs.Pairwise (fun a b => ltR a b = true)

theorem ss_unique : ∀ (a b : List RoI), SS a → SS b → (∀ x, x ∈ a ↔ x ∈ b) → a = b
  | [], [], _, _, _ => rfl
  | [], y :: ys, _, _, h => absurd ((h y).2 (by simp)) (by simp)
  | x :: xs, [], _, _, h => absurd ((h x).1 (by simp)) (by simp)
  | x :: xs, y :: ys, ha, hb, h => by
    have ha' := List.pairwise_cons.1 ha
    have hb' := List.pairwise_cons.1 hb
    have e : x = y := by
      rcases List.mem_cons.1 ((h x).1 (by simp)) with e | e
      · exact e
      · rcases List.mem_cons.1 ((h y).2 (by simp)) with e2 | e2
        · exact e2.symm
        · have h1 := hb'.1 x e
          have h2 := ha'.1 y e2
          have := ltR_trans h1 h2
          rw [ltR_irrefl] at this
          cases this
    subst e
    rw [ss_unique xs ys ha'.2 hb'.2 (fun z => ?_)]
    constructor
    · intro hz
      rcases List.mem_cons.1 ((h z).1 (by simp [hz])) with e | e
      · subst e
        have := ha'.1 z hz
        rw [ltR_irrefl] at this
        cases this
      · exact e
    · intro hz
      rcases List.mem_cons.1 ((h z).2 (by simp [hz])) with e | e
      · subst e
        have := hb'.1 z hz
        rw [ltR_irrefl] at this
        cases this
      · exact e

/-- A role put at its place: all ahead are less, the one there is not less and is another. -/
theorem ss_insert {zs : List RoI} {r : RoI} {k : Nat} (hs : SS zs) (hlo : ∀ j x, j < k → zs[j]? = some x → ltR x r = true) (hhi : ∀ x, zs[k]? = some x → ltR x r = false ∧ x ≠ r) : SS (zs.take k ++ r :: zs.drop k) := by
  have hs2 : SS (zs.take k ++ zs.drop k) := by rw [List.take_append_drop]; exact hs
  obtain ⟨h1, h2, h3⟩ := List.pairwise_append.1 hs2
  have hr : ∀ b ∈ zs.drop k, ltR r b = true := by
    intro b hb
    cases e : zs.drop k with
    | nil => rw [e] at hb; cases hb
    | cons y ys =>
      have hy : zs[k]? = some y := by
        have : (zs.drop k)[0]? = some y := by rw [e]; rfl
        rw [List.getElem?_drop] at this
        simpa using this
      obtain ⟨h4, h5⟩ := hhi y hy
      have h6 := ltR_total h4 h5
      rw [e] at hb h2
      rcases List.mem_cons.1 hb with rfl | hb'
      · exact h6
      · exact ltR_trans h6 ((List.pairwise_cons.1 h2).1 b hb')
  refine List.pairwise_append.2 ⟨h1, List.pairwise_cons.2 ⟨hr, h2⟩, fun a ha b hb => ?_⟩
  rcases List.mem_cons.1 hb with rfl | hb'
  · obtain ⟨j, hj⟩ := List.mem_iff_getElem?.1 ha
    rw [List.getElem?_take] at hj
    split at hj
    · rename_i hjk
      exact hlo j a hjk hj
    · cases hj
  · exact h3 a ha b hb'

theorem mem_insert {zs : List RoI} {r : RoI} (k : Nat) (x : RoI) : x ∈ zs.take k ++ r :: zs.drop k ↔ x = r ∨ x ∈ zs := by
  have : x ∈ zs ↔ x ∈ zs.take k ++ zs.drop k := by rw [List.take_append_drop]
  rw [this]
  simp only [List.mem_append, List.mem_cons]
  constructor
  · rintro (h | h | h)
    · exact .inr (.inl h)
    · exact .inl h
    · exact .inr (.inr h)
  · rintro (h | h | h)
    · exact .inr (.inl h)
    · exact .inl h
    · exact .inr (.inr h)

/-- The roles that a rule names. -/
def bodyR (r : RuleI) : List RoI := if r.k = 1 then [] else if r.k = 4 then [(r.oo, r.on), (r.to, r.tn)] else [(r.oo, r.on)]
def rawR (r : RuleI) : List RoI := (r.ho, r.hn) :: bodyR r
def rawTo (zs : List RuleI) (k : Nat) : List RoI := (zs.take k).flatMap rawR

theorem rawTo_succ {zs : List RuleI} {k : Nat} {r : RuleI} (h : zs[k]? = some r) : rawTo zs (k + 1) = rawTo zs k ++ rawR r := by
  have hk : k < zs.length := by
    by_cases q : k < zs.length
    · exact q
    · rw [List.getElem?_eq_none (by omega)] at h; cases h
  have e : zs[k] = r := by rw [List.getElem?_eq_getElem hk] at h; exact Option.some.inj h
  rw [rawTo, List.take_succ_eq_append_getElem hk, List.flatMap_append, e]
  simp [rawTo]

theorem rawR_len (r : RuleI) : (rawR r).length ≤ 3 := by
  unfold rawR bodyR
  split
  · simp
  · split <;> simp

theorem rawTo_len (zs : List RuleI) (k : Nat) : (rawTo zs k).length ≤ 3 * k := by
  induction k with
  | zero => simp [rawTo]
  | succ k ih =>
    cases h : zs[k]? with
    | none =>
      have hk : zs.length ≤ k := by
        by_cases q : k < zs.length
        · rw [List.getElem?_eq_getElem q] at h; cases h
        · omega
      have : rawTo zs (k + 1) = rawTo zs k := by unfold rawTo; rw [List.take_of_length_le (by omega), List.take_of_length_le (by omega)]
      rw [this]; omega
    | some r =>
      rw [rawTo_succ h, List.length_append]
      have := rawR_len r
      omega

/-- Roles laid out flat. -/
def flat2 : List RoI → List Value
  | [] => []
  | p :: ps => .int .i64 p.1 :: .int .i64 p.2 :: flat2 ps

theorem flat2_append (a b : List RoI) : flat2 (a ++ b) = flat2 a ++ flat2 b := by
  induction a with
  | nil => rfl
  | cons p ps ih => simp [flat2, ih]

theorem flat2_len (a : List RoI) : (flat2 a).length = a.length * 2 := by
  induction a with
  | nil => rfl
  | cons p ps ih => simp [flat2, ih]; omega

theorem flat2_fst : ∀ (a : List RoI) (k : Nat) (p : RoI), a[k]? = some p → (flat2 a)[k * 2]? = some (.int .i64 p.1)
  | [], _, _, h => by simp at h
  | q :: qs, 0, p, h => by simp at h; subst h; rfl
  | q :: qs, k + 1, p, h => by
    have := flat2_fst qs k p (by simpa using h)
    rw [show (k + 1) * 2 = k * 2 + 1 + 1 by omega]
    simpa [flat2] using this

theorem flat2_snd : ∀ (a : List RoI) (k : Nat) (p : RoI), a[k]? = some p → (flat2 a)[k * 2 + 1]? = some (.int .i64 p.2)
  | [], _, _, h => by simp at h
  | q :: qs, 0, p, h => by simp at h; subst h; rfl
  | q :: qs, k + 1, p, h => by
    have := flat2_snd qs k p (by simpa using h)
    rw [show (k + 1) * 2 + 1 = k * 2 + 1 + 1 + 1 by omega]
    simpa [flat2] using this

theorem flat2_one (a : List RoI) : ∀ u ∈ flat2 a, u.oneCell' = true := by
  induction a with
  | nil => simp [flat2]
  | cons p ps ih =>
    intro u hu
    simp only [flat2, List.mem_cons] at hu
    rcases hu with rfl | rfl | hu
    · rfl
    · rfl
    · exact ih u hu

theorem flat2_take (a : List RoI) (k : Nat) : flat2 (a.take k) = (flat2 a).take (k * 2) := by
  induction a generalizing k with
  | nil => simp [flat2]
  | cons p ps ih =>
    cases k with
    | zero => simp [flat2]
    | succ k =>
      rw [show (k + 1) * 2 = k * 2 + 1 + 1 by omega]
      simp [flat2, ih]

theorem flat2_drop (a : List RoI) (k : Nat) : flat2 (a.drop k) = (flat2 a).drop (k * 2) := by
  induction a generalizing k with
  | nil => simp [flat2]
  | cons p ps ih =>
    cases k with
    | zero => simp [flat2]
    | succ k =>
      rw [show (k + 1) * 2 = k * 2 + 1 + 1 by omega]
      simp [flat2, ih]

theorem flat2_set (a : List RoI) (k : Nat) (p : RoI) : flat2 (a.set k p) = ((flat2 a).set (k * 2) (.int .i64 p.1)).set (k * 2 + 1) (.int .i64 p.2) := by
  induction a generalizing k with
  | nil => simp [flat2]
  | cons q qs ih =>
    cases k with
    | zero => simp [flat2]
    | succ k =>
      rw [show (k + 1) * 2 = k * 2 + 1 + 1 by omega]
      simp [flat2, ih]

/-- A row of roles that is owned. -/
def Owns2 (w : World) (B : Nat) (v : Value) (zs : List RoI) : Prop := w.ownsRow B 31 2 v zs.length (flat2 zs)

end Go.Proofs.Ytocdclgolhhckaa
