/-
  CONTRACT: impl.RolesIn, what it gathers.
  Conditions: each contract bears its own.
-/
import Derived.Test.YtipmkdacnpkgjaaRol3
import Derived.Test.YtipmkdacnpkgjaaPol5
import Derived.Laws.AppendOwnNone
namespace Go.Proofs.Ytipmkdacnpkgjaa
open Go.RowKit
set_option linter.unusedVariables false
set_option linter.unusedSimpArgs false

theorem polTo_zero {zs : List RuleI} {n : Nat} (h : polTo zs n = 0) : ∀ j r, j < n → zs[j]? = some r → ruleCode r = 0 := by
  induction n with
  | zero => intro j r hj; omega
  | succ n ih =>
    intro j r hj hr
    have h0 : polTo zs n = 0 := by
      by_cases q : polTo zs n = 0
      · exact q
      · have := polTo_stay zs n (n + 1) _ q rfl (by omega); rw [this] at h; exact absurd h q
    by_cases e : j = n
    · subst e
      by_cases q : ruleCode r = 0
      · exact q
      · have := polTo_bad zs j r hr h0 q; rw [this] at h; exact absurd h q
    · exact ih h0 j r (by omega) hr

theorem kinds_of {zs : List RuleI} {n : Nat} (h : polTo zs n = 0) {j : Nat} {r : RuleI} (hj : j < n) (hr : zs[j]? = some r) : r.k = 1 ∨ r.k = 2 ∨ r.k = 3 ∨ r.k = 4 := by
  have h0 := polTo_zero h j r hj hr
  unfold ruleCode at h0
  split at h0
  · simp at h0
  · rename_i q
    simp at q
    omega

/-- What a body's roles answers: a new slice that holds them. -/
def GivesNew (f : Nat) (v : Value) (xs : List RoI) : Prop := ∀ w : World, Calls Try.prog f #[v] w fun e w' => ∃ g : Nat, e = .returned (.slice (some ⟨g, 0, none⟩) xs.length xs.length) ∧ (∀ j u, (flat2 xs)[j]? = some u → w'.cell? ((⟨g, 0, none⟩ : Addr).add j) = some u) ∧ Below w.heap.size w w'

set_option maxHeartbeats 400000 in
theorem roles_1 (x : Int) (w : World) : Calls Try.prog 157 #[.agg #[.int .i64 x]] w fun e w' => e = .returned (.slice none 0 0) ∧ Below w.heap.size w w' := by
  go_enter Try.func157, Try.ntmps157
  go_wp2
  go_ret
  exact ⟨rfl, by go_grown⟩

theorem news_1 {w' : World} {g : Nat} {o n : Int} (h0 : w'.cell? ⟨g, 0, none⟩ = some (.int .i64 o)) (h1 : w'.cell? ⟨g, 1, none⟩ = some (.int .i64 n)) : ∀ j u, (flat2 [(o, n)])[j]? = some u → w'.cell? ((⟨g, 0, none⟩ : Addr).add j) = some u := by
  intro j u hj
  rw [Go.WideShapes.add_plain, Nat.zero_add]
  match j, hj with
  | 0, hj => simp [flat2] at hj; subst hj; exact h0
  | 1, hj => simp [flat2] at hj; subst hj; exact h1

theorem news_2 {w' : World} {g : Nat} {o n p m : Int} (h0 : w'.cell? ⟨g, 0, none⟩ = some (.int .i64 o)) (h1 : w'.cell? ⟨g, 1, none⟩ = some (.int .i64 n)) (h2 : w'.cell? ⟨g, 2, none⟩ = some (.int .i64 p)) (h3 : w'.cell? ⟨g, 3, none⟩ = some (.int .i64 m)) : ∀ j u, (flat2 [(o, n), (p, m)])[j]? = some u → w'.cell? ((⟨g, 0, none⟩ : Addr).add j) = some u := by
  intro j u hj
  rw [Go.WideShapes.add_plain, Nat.zero_add]
  match j, hj with
  | 0, hj => simp [flat2] at hj; subst hj; exact h0
  | 1, hj => simp [flat2] at hj; subst hj; exact h1
  | 2, hj => simp [flat2] at hj; subst hj; exact h2
  | 3, hj => simp [flat2] at hj; subst hj; exact h3

set_option maxHeartbeats 400000 in
theorem roles_2 (o n : Int) : GivesNew 158 (.agg #[.int .i64 o, .int .i64 n]) [(o, n)] := by
  intro w
  go_enter Try.func158, Try.ntmps158
  go_wp2
  go_ret
  exact ⟨_, rfl, news_1 (by simp) (by simp), by go_grown⟩

set_option maxHeartbeats 400000 in
theorem roles_3 (o n d : Int) : GivesNew 159 (.agg #[.int .i64 o, .int .i64 n, .int .i64 d]) [(o, n)] := by
  intro w
  go_enter Try.func159, Try.ntmps159
  go_wp2
  go_ret
  exact ⟨_, rfl, news_1 (by simp) (by simp), by go_grown⟩

set_option maxHeartbeats 400000 in
theorem roles_4 (o n p m : Int) : GivesNew 160 (.agg #[.int .i64 o, .int .i64 n, .int .i64 p, .int .i64 m]) [(o, n), (p, m)] := by
  intro w
  go_enter Try.func160, Try.ntmps160
  go_wp2
  try go_quiet (fail)
  go_wp2
  go_ret
  first
    | exact ⟨_, rfl, news_2 (by simp) (by simp) (by simp) (by simp), by go_grown⟩
    | exact ⟨_, rfl, news_2 (by simp [go_sem]) (by simp [go_sem]) (by simp [go_sem]) (by simp [go_sem]), bdN (by go_grown) _⟩

/-- What SortFunc does to a row of roles. -/
def Sorts : Prop := ∀ (g cap B : Nat) (xs : List RoI) (w : World), Owns2 w B (.slice (some ⟨g, 0, none⟩) xs.length cap) xs → xs.length ≤ 1000 → Calls Try.prog 111 #[.slice (some ⟨g, 0, none⟩) xs.length cap, .func (.func 56) #[] #[]] w fun e w' =>
  e = .returned (.tuple #[]) ∧ ∃ ys : List RoI, ys.length = xs.length ∧ SameM ys xs ∧ ys.Pairwise (fun a b => ltR b a = false) ∧ Owns2 w' B (.slice (some ⟨g, 0, none⟩) xs.length cap) ys ∧ Below B w w'

end Go.Proofs.Ytipmkdacnpkgjaa
