/-
  CONTRACTS: RolesIn of both programs, at every slice of rules.
  Conditions: each contract bears its own.
-/
import Derived.Test.YtajdgbdpmmdlfaaRol5
import Derived.Test.YtajdgbdpmmdlfaaRol8
import Derived.Shelf.SlSortCmp.NoneTotal
namespace Go.Proofs.Ytajdgbdpmmdlfaa
open Go.RowKit
set_option linter.unusedVariables false
set_option linter.unusedSimpArgs false

def insR (x : RoI) : List RoI → List RoI
  | [] => [x]
  | y :: ys => if ltR y x = true then y :: insR x ys else if y = x then y :: ys else x :: y :: ys

theorem insR_mem (x z : RoI) (ys : List RoI) : z ∈ insR x ys ↔ z = x ∨ z ∈ ys := by
  induction ys with
  | nil => simp [insR]
  | cons y ys ih =>
    simp only [insR]
    split
    · rw [List.mem_cons, ih, List.mem_cons]
      constructor
      · rintro (h | h | h)
        · exact .inr (.inl h)
        · exact .inl h
        · exact .inr (.inr h)
      · rintro (h | h | h)
        · exact .inr (.inl h)
        · exact .inl h
        · exact .inr (.inr h)
    · split
      · rename_i e
        subst e
        constructor
        · exact .inr
        · rintro (h | h)
          · subst h; simp
          · exact h
      · rw [List.mem_cons]

theorem insR_ss (x : RoI) (ys : List RoI) (h : SS ys) : SS (insR x ys) := by
  induction ys with
  | nil => exact List.pairwise_singleton _ _
  | cons y ys ih =>
    have h' := List.pairwise_cons.1 h
    simp only [insR]
    split
    · rename_i hl
      refine List.pairwise_cons.2 ⟨fun b hb => ?_, ih h'.2⟩
      rcases (insR_mem x b ys).1 hb with rfl | hb'
      · exact hl
      · exact h'.1 b hb'
    · rename_i hl
      split
      · exact h
      · rename_i hne
        have hxy : ltR x y = true := ltR_total (by simpa using hl) hne
        refine List.pairwise_cons.2 ⟨fun b hb => ?_, h⟩
        rcases List.mem_cons.1 hb with rfl | hb'
        · exact hxy
        · exact ltR_trans hxy (h'.1 b hb')

/-- The one strictly rising list with these members. -/
def canon : List RoI → List RoI
  | [] => []
  | x :: xs => insR x (canon xs)

theorem canon_facts (xs : List RoI) : SS (canon xs) ∧ SameM (canon xs) xs := by
  induction xs with
  | nil => exact ⟨List.Pairwise.nil, fun x => Iff.rfl⟩
  | cons x xs ih =>
    refine ⟨insR_ss x _ ih.1, fun z => ?_⟩
    show z ∈ insR x (canon xs) ↔ _
    rw [insR_mem, ih.2 z, List.mem_cons]

theorem canon_of {ys xs : List RoI} (h1 : SS ys) (h2 : SameM ys xs) : ys = canon xs :=
  ss_unique _ _ h1 (canon_facts xs).1 (fun x => (h2 x).trans ((canon_facts xs).2 x).symm)

theorem insR_len (x : RoI) (ys : List RoI) : (insR x ys).length ≤ ys.length + 1 := by
  induction ys with
  | nil => simp [insR]
  | cons y ys ih =>
    simp only [insR]
    split
    · simp; exact ih
    · split <;> simp

theorem canon_len (xs : List RoI) : (canon xs).length ≤ xs.length := by
  induction xs with
  | nil => simp [canon]
  | cons x xs ih =>
    have := insR_len x (canon xs)
    simp only [canon, List.length_cons]
    omega

theorem specRolesIn_g (a : Option Addr) (n cap : Nat) (zs : List RuleI) (w : World) (h : RulesIn w a n zs) (hc : polCode zs = 0) : GivesR 18 a n cap 0 (canon (rawTo zs n)) w := by
  refine (specRolesIn_ok a n cap zs w h hc).mono ?_
  rintro e w' ⟨ys, a', cap', h1, h2, rfl, h3, h4⟩
  obtain rfl := canon_of h1 h2
  exact ⟨a', cap', rfl, h3, h4⟩

set_option maxHeartbeats 1000000 in
theorem implRolesIn_bad (a : Option Addr) (n cap : Nat) (zs : List RuleI) (c : Int) (w : World) (hn : n ≤ 1048576) (hcap : n ≤ cap) (hcm : cap ≤ maxLen) (h : RulesIn w a n zs) (hc : polCode zs = c) (h0 : c ≠ 0) : GivesR 19 a n cap c [] w := by
  have H : Hid (RulesIn (w.alloc (.cells #[.int .i64 0, .slice none 0 0] 44)) a n zs) := h.below ((Below.refl _ _).alloc (Nat.le_refl _) _)
  have HC : Hid (polCode zs = c) := hc
  clear h hc
  have hcn : (c != 0) = true := by simpa using h0
  unfold GivesR
  go_enter Try.func19, Try.ntmps19
  go_wp2_with fail
  refine (implPolicyFault_c a n cap zs _ hn hcap hcm H.out).mono ?_
  rintro e w1 ⟨rfl, hb1⟩
  rw [HC.out]
  have hBx : Below w.heap.size w w1 := below_new hb1
  have hw : w.heap.size < w1.heap.size := by have := hb1.size; simp only [World.size_alloc] at this; omega
  have c0 : w1.cell? ⟨w.heap.size, 0, none⟩ = some (.int .i64 0) := (hb1.cell (p := ⟨w.heap.size, 0, none⟩) (by simp)).trans (by simp)
  have c1 : w1.cell? ⟨w.heap.size, 1, none⟩ = some (.slice none 0 0) := (hb1.cell (p := ⟨w.heap.size, 1, none⟩) (by simp)).trans (by simp)
  have f0 : w1.frozen? ⟨w.heap.size, 0, none⟩ = false := (hb1.frozen (p := ⟨w.heap.size, 0, none⟩) (by simp)).trans (by simp [go_sem])
  have f1 : w1.frozen? ⟨w.heap.size, 1, none⟩ = false := (hb1.frozen (p := ⟨w.heap.size, 1, none⟩) (by simp)).trans (by simp [go_sem])
  clear hb1
  go_wp2
  refine bodyPost_ret (v := .agg #[.int .i64 c, .slice none 0 0]) (by simp [results, Try.results19, go_sem, c0, c1, hw]) rfl ⟨none, 0, rfl, World.ownsRow_nil _ _ _ _, ?_⟩
  exact hBx |>.setCell (Nat.le_refl _) _ |>.setCell (Nat.le_refl _) _

theorem sortNil_c (w : World) (fv : Value) : Calls Try.prog 35 #[.slice none 0 0, fv] w fun e w' => e = .returned (.tuple #[]) ∧ w' = w := by
  have h := AnyF.slices_SortFunc_none Try.sortRole none 0 fv w
  change Calls Try.prog 35 _ _ _ at h
  exact h

set_option maxHeartbeats 400000 in
theorem compactNil_c (w : World) : Calls Try.prog 37 #[.slice none 0 0] w fun e w' => e = .returned (.slice none 0 0) ∧ w' = w := by
  go_enter Try.func37, Try.ntmps37
  go_wp2
  go_ret
  exact ⟨rfl, rfl⟩

set_option maxHeartbeats 1000000 in
theorem implRolesIn_nil (a : Option Addr) (cap : Nat) (w : World) (hcm : cap ≤ maxLen) (h : RulesIn w a 0 []) : GivesR 19 a 0 cap 0 [] w := by
  have H : Hid (RulesIn (w.alloc (.cells #[.int .i64 0, .slice none 0 0] 44)) a 0 []) := h.below ((Below.refl _ _).alloc (Nat.le_refl _) _)
  clear h
  unfold GivesR
  go_enter Try.func19, Try.ntmps19
  go_wp2_with fail
  refine (implPolicyFault_c a 0 cap [] _ (by omega) (Nat.zero_le _) hcm H.out).mono ?_
  rintro e w1 ⟨rfl, hb1⟩
  rw [show polCode [] = 0 from rfl]
  have hBx : Below w.heap.size w w1 := below_new hb1
  have hw : w.heap.size < w1.heap.size := by have := hb1.size; simp only [World.size_alloc] at this; omega
  have c0 : w1.cell? ⟨w.heap.size, 0, none⟩ = some (.int .i64 0) := (hb1.cell (p := ⟨w.heap.size, 0, none⟩) (by simp)).trans (by simp)
  have c1 : w1.cell? ⟨w.heap.size, 1, none⟩ = some (.slice none 0 0) := (hb1.cell (p := ⟨w.heap.size, 1, none⟩) (by simp)).trans (by simp)
  have f0 : w1.frozen? ⟨w.heap.size, 0, none⟩ = false := (hb1.frozen (p := ⟨w.heap.size, 0, none⟩) (by simp)).trans (by simp [go_sem])
  have f1 : w1.frozen? ⟨w.heap.size, 1, none⟩ = false := (hb1.frozen (p := ⟨w.heap.size, 1, none⟩) (by simp)).trans (by simp [go_sem])
  clear hb1
  go_wp2
  go_loop [4, 15] (fun s i => s = .slice none 0 0 ∧ i = .int .i64 0) (fun _ _ => 0)
  case atStart => exact ⟨rfl, rfl⟩
  case round =>
    obtain ⟨rfl, rfl⟩ := hrel
    go_wp2_with fail
    refine (sortNil_c _ _).mono ?_
    rintro e w2 ⟨rfl, rfl⟩
    go_wp2_with fail
    refine (compactNil_c _).mono ?_
    rintro e w3 ⟨rfl, rfl⟩
    go_wp2
    refine bodyPost_ret (v := .agg #[.int .i64 0, .slice none 0 0]) (by simp [results, Try.results19, go_sem, c0, c1, hw]) rfl ⟨none, 0, rfl, World.ownsRow_nil _ _ _ _, ?_⟩
    exact hBx |>.setCell (Nat.le_refl _) _ |>.setCell (Nat.le_refl _) _

theorem implRolesIn_g (a : Option Addr) (n cap : Nat) (zs : List RuleI) (w : World) (hcap : n ≤ cap) (hcm : cap ≤ maxLen) (h : RulesIn w a n zs) (hc : polCode zs = 0) : GivesR 19 a n cap 0 (canon (rawTo zs n)) w := by
  by_cases hp : 0 < n
  · refine (implRoles_ok a n cap zs w hcap hcm h hc hp sorts_c compacts_c).mono ?_
    rintro e w' ⟨ys, a', cap', h1, h2, rfl, h3, h4⟩
    obtain rfl := canon_of h1 h2
    exact ⟨a', cap', rfl, h3, h4⟩
  · have e : n = 0 := by omega
    subst e
    have e2 : zs = [] := List.length_eq_zero_iff.1 h.1
    subst e2
    exact implRolesIn_nil a cap w hcm h

end Go.Proofs.Ytajdgbdpmmdlfaa
