/-
  PLAIN WORDS on which sets the parts of a form tell, and on the least of them. No Go text is walked here.
  Conditions: each fact bears its own.
-/
import Derived.Test.YtnmidppiakdanaaPt0
import Derived.Test.YtnmidppiakdanaaGr8
namespace Go.Proofs.Ytnmidppiakdanaa
open Go.RowKit
set_option linter.unusedVariables false
set_option linter.unusedSimpArgs false

/-- Which of the 256 sets are told. -/
abbrev TS := Nat → Bool
def noT : TS := fun _ => false
def putT (T : TS) (x : Nat) : TS := fun y => if y = x then true else T y
def oneT (s : Int) : TS := fun x => (List.range 8).any fun p => (x == 2 ^ p) && hasI s ((p : Int) + 1)
def okAB (ap : Bool) (a b : Nat) : Bool := !(ap && (a &&& b != 0))
def bothT (ap : Bool) (L R : TS) : TS := fun x => (List.range 256).any fun a => L a && (List.range 256).any fun b => R b && okAB ap a b && (a ||| b == x)

theorem bothT_iff {ap : Bool} {L R : TS} {x : Nat} : bothT ap L R x = true ↔ ∃ a b, a < 256 ∧ b < 256 ∧ L a = true ∧ R b = true ∧ okAB ap a b = true ∧ a ||| b = x := by
  unfold bothT
  rw [List.any_eq_true]
  constructor
  · rintro ⟨a, ha, h⟩
    rw [Bool.and_eq_true, List.any_eq_true] at h
    obtain ⟨hL, b, hb, h⟩ := h
    rw [Bool.and_eq_true, Bool.and_eq_true] at h
    exact ⟨a, b, List.mem_range.1 ha, List.mem_range.1 hb, hL, h.1.1, h.1.2, by simpa using h.2⟩
  · rintro ⟨a, b, ha, hb, hL, hR, ho, rfl⟩
    refine ⟨a, List.mem_range.2 ha, ?_⟩
    rw [Bool.and_eq_true, List.any_eq_true]
    exact ⟨hL, b, List.mem_range.2 hb, by simp [hR, ho]⟩

/-- What two loops have put so far. -/
def Both (ap : Bool) (L R : TS) (i j : Nat) (T : TS) : Prop := ∀ x, x < 256 → (T x = true ↔ ∃ a b, (a < i ∨ a = i ∧ b < j) ∧ a < 256 ∧ b < 256 ∧ L a = true ∧ R b = true ∧ okAB ap a b = true ∧ a ||| b = x)

theorem both_start (ap : Bool) (L R : TS) : Both ap L R 0 0 noT := by
  intro x hx
  constructor
  · intro h; cases h
  · rintro ⟨a, b, h, _⟩; omega

theorem both_skip {ap : Bool} {L R : TS} {i j : Nat} {T : TS} (h : Both ap L R i j T) (hl : L i = false) : Both ap L R (i + 1) 0 T := by
  intro x hx
  rw [h x hx]
  constructor
  · rintro ⟨a, b, h0, h1⟩
    exact ⟨a, b, by omega, h1⟩
  · rintro ⟨a, b, h0, h1, h2, h3, h4⟩
    have : a ≠ i := fun e => by rw [e, hl] at h3; cases h3
    exact ⟨a, b, by omega, h1, h2, h3, h4⟩

theorem both_next {ap : Bool} {L R : TS} {i : Nat} {T : TS} (h : Both ap L R i 256 T) : Both ap L R (i + 1) 0 T := by
  intro x hx
  rw [h x hx]
  constructor
  · rintro ⟨a, b, h0, h1⟩
    exact ⟨a, b, by omega, h1⟩
  · rintro ⟨a, b, h0, h1, h2, h3⟩
    exact ⟨a, b, by omega, h1, h2, h3⟩

theorem both_no {ap : Bool} {L R : TS} {i j : Nat} {T : TS} (h : Both ap L R i j T) (hn : (R j && okAB ap i j) = false) : Both ap L R i (j + 1) T := by
  intro x hx
  rw [h x hx]
  constructor
  · rintro ⟨a, b, h0, h1⟩
    exact ⟨a, b, by omega, h1⟩
  · rintro ⟨a, b, h0, h1, h2, h3, h4, h5, h6⟩
    have : ¬ (a = i ∧ b = j) := by
      rintro ⟨rfl, rfl⟩
      rw [h4, h5] at hn; cases hn
    exact ⟨a, b, by omega, h1, h2, h3, h4, h5, h6⟩

theorem both_put {ap : Bool} {L R : TS} {i j : Nat} {T : TS} (h : Both ap L R i j T) (hi : i < 256) (hj : j < 256) (hL : L i = true) (hn : (R j && okAB ap i j) = true) : Both ap L R i (j + 1) (putT T (i ||| j)) := by
  rw [Bool.and_eq_true] at hn
  intro x hx
  unfold putT
  by_cases e : x = i ||| j
  · rw [if_pos e]
    exact ⟨fun _ => ⟨i, j, by omega, hi, hj, hL, hn.1, hn.2, e.symm⟩, fun _ => rfl⟩
  · rw [if_neg e, h x hx]
    constructor
    · rintro ⟨a, b, h0, h1⟩
      exact ⟨a, b, by omega, h1⟩
    · rintro ⟨a, b, h0, h1, h2, h3, h4, h5, h6⟩
      have : ¬ (a = i ∧ b = j) := by
        rintro ⟨rfl, rfl⟩
        exact e h6.symm
      exact ⟨a, b, by omega, h1, h2, h3, h4, h5, h6⟩

theorem both_end {ap : Bool} {L R : TS} {j : Nat} {T : TS} (h : Both ap L R 256 j T) : ∀ x, x < 256 → T x = bothT ap L R x := by
  intro x hx
  rw [Bool.eq_iff_iff, h x hx, bothT_iff]
  constructor
  · rintro ⟨a, b, h0, h1⟩
    exact ⟨a, b, h1⟩
  · rintro ⟨a, b, h1, h2, h3⟩
    exact ⟨a, b, .inl h1, h1, h2, h3⟩

/-- The first principals of a set, each alone. -/
def oneTo (s : Int) (k : Nat) : TS := fun x => (List.range k).any fun p => (x == 2 ^ p) && hasI s ((p : Int) + 1)
theorem oneTo_next (s : Int) (k : Nat) : oneTo s (k + 1) = if hasI s ((k : Int) + 1) = true then putT (oneTo s k) (2 ^ k) else oneTo s k := by
  funext x
  have e0 : oneTo s (k + 1) x = (oneTo s k x || ((x == 2 ^ k) && hasI s ((k : Int) + 1))) := by
    unfold oneTo
    rw [List.range_succ, List.any_append]
    simp only [List.any_cons, List.any_nil, Bool.or_false]
  rw [e0]
  cases h : hasI s ((k : Int) + 1)
  · rw [Bool.and_false, Bool.or_false, if_neg (by simp)]
  · rw [Bool.and_true, if_pos rfl]
    unfold putT
    by_cases e : x = 2 ^ k
    · rw [if_pos e, e]; simp
    · rw [if_neg e, show (x == 2 ^ k) = false by simpa using e, Bool.or_false]

/-- The 256 cells. -/
def arrT (T : TS) : Array Value := ((List.range 256).map fun i => Value.bool (T i)).toArray

theorem arrT_size (T : TS) : (arrT T).size = 256 := by simp [arrT]
theorem arrT_at (T : TS) {i : Nat} (h : i < 256) : (arrT T)[i]? = some (.bool (T i)) := by simp [arrT, h]
theorem arrT_ext {T U : TS} (h : ∀ x, x < 256 → T x = U x) : arrT T = arrT U := by
  unfold arrT
  congr 1
  apply List.map_congr_left
  intro x hx
  rw [h x (List.mem_range.1 hx)]
theorem arrT_put (T : TS) {i : Nat} (h : i < 256) : (arrT T).setIfInBounds i (.bool true) = arrT (putT T i) := by
  apply Array.ext_getElem?
  intro j
  rw [Array.getElem?_setIfInBounds]
  by_cases hj : j < 256
  · by_cases e : i = j
    · subst e
      rw [if_pos rfl, if_pos (by rw [arrT_size]; exact h), arrT_at _ h]; simp [putT]
    · rw [if_neg e, arrT_at _ hj, arrT_at _ hj]; simp [putT, show ¬ j = i from fun q => e q.symm]
  · rw [if_neg (by omega), Array.getElem?_eq_none (by rw [arrT_size]; omega), Array.getElem?_eq_none (by rw [arrT_size]; omega)]
theorem arrT_cells (T : TS) : (arrT T).all (·.oneCell') = true := by
  rw [Array.all_eq_true']
  intro v hv
  simp [arrT] at hv
  obtain ⟨i, _, rfl⟩ := hv
  rfl

/-- What a part tells, out of what the parts ahead tell. -/
def tellOne (f : RoI → Int) (ts : List TS) (p : PartI) : TS := if p.k = 1 then oneT (f (p.ro, p.rn)) else bothT (decide (p.k = 3)) (ts[p.l.toNat]?.getD noT) (ts[p.r.toNat]?.getD noT)
def tellsTo (f : RoI → Int) (zs : List PartI) : Nat → List TS
  | 0 => []
  | k + 1 => match zs[k]? with
    | none => tellsTo f zs k
    | some p => tellsTo f zs k ++ [tellOne f (tellsTo f zs k) p]
theorem tellsTo_next {zs : List PartI} {k : Nat} {p : PartI} (h : zs[k]? = some p) (f : RoI → Int) : tellsTo f zs (k + 1) = tellsTo f zs k ++ [tellOne f (tellsTo f zs k) p] := by
  simp [tellsTo, h]
theorem tellsTo_len (f : RoI → Int) (zs : List PartI) : ∀ k, k ≤ zs.length → (tellsTo f zs k).length = k
  | 0, _ => rfl
  | k + 1, h => by
    rw [tellsTo_next (List.getElem?_eq_getElem (show k < zs.length by omega))]
    simp [tellsTo_len f zs k (by omega)]
/-- What the last part tells. -/
def tellsL (f : RoI → Int) (zs : List PartI) : TS := (tellsTo f zs zs.length)[zs.length - 1]?.getD noT

/-- The sets that are told, rising. -/
def setsTo (T : TS) (k : Nat) : List Int := ((List.range k).filter T).map (fun n : Nat => (n : Int))
def setsL (T : TS) : List Int := setsTo T 256
theorem setsTo_next (T : TS) (k : Nat) : setsTo T (k + 1) = if T k = true then setsTo T k ++ [(k : Int)] else setsTo T k := by
  unfold setsTo
  rw [List.range_succ, List.filter_append, List.map_append]
  cases h : T k <;> simp [h]
theorem setsTo_len (T : TS) (k : Nat) : (setsTo T k).length ≤ k := by
  unfold setsTo
  rw [List.length_map]
  have := List.length_filter_le T (List.range k)
  simpa using this

/-- How many a set has. -/
def pcN (x : Nat) : Nat := (listTo (x : Int) 8).length
theorem pc_le : ∀ n : Fin 256, pcN n.val ≤ 8 := by decide +kernel
def IsLeast (T : TS) (x : Nat) : Prop := x < 256 ∧ T x = true ∧ ∀ y, y < 256 → T y = true → pcN x < pcN y ∨ (pcN x = pcN y ∧ x ≤ y)
theorem least_unique {T : TS} {x y : Nat} (h : IsLeast T x) (g : IsLeast T y) : x = y := by
  have h1 := h.2.2 y g.1 g.2.1
  have h2 := g.2.2 x h.1 h.2.1
  omega

end Go.Proofs.Ytnmidppiakdanaa
