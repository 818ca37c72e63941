/-
  PLAIN WORDS on roles and rules: which have no fault, and which code a fault has. No Go text is walked here.
  Conditions: each fact bears its own.
  CONTRACTS of the small tests of chapters 1 and 2 (principals, names, roles) and of RoleFault, of both programs.
  Conditions: none.
  CONTRACTS on rules: laws.toRule, spec.l2Bare.
  Conditions: each contract bears its own.
-/
import Derived.WalkKit
import Derived.Below
import Derived.Test.YtnfolmjdicfobaaProg
import Derived.ProofKit
import Derived.Outline
import Derived.Handy
import Derived.Laws.StructEq
import Derived.BigQuiet
import Derived.Deep.QuietTactic
namespace Go.Proofs.Ytnfolmjdicfobaa
open Go.RowKit

/-- A rule, as eight numbers. -/
structure RuleI where
  k : Int
  ho : Int
  hn : Int
  w : Int
  oo : Int
  on : Int
  to : Int
  tn : Int
deriving DecidableEq

def RuleI.cells (r : RuleI) : Array Value := #[.int .i64 r.k, .int .i64 r.ho, .int .i64 r.hn, .int .i64 r.w, .int .i64 r.oo, .int .i64 r.on, .int .i64 r.to, .int .i64 r.tn]

def prinB (p : Int) : Bool := decide (1 ≤ p ∧ p ≤ 8)
def nameB (n : Int) : Bool := decide (1 ≤ n ∧ n ≤ 5)
def roleB (o n : Int) : Bool := prinB o && nameB n
def roleCode (o n : Int) : Int := if roleB o n = true then 0 else 3

/-- A rule has nothing that its kind does not have. -/
def bareB (r : RuleI) : Bool :=
  if r.k = 1 then r.oo == 0 && r.on == 0 && r.to == 0 && r.tn == 0
  else if r.k = 2 then r.w == 0 && r.to == 0 && r.tn == 0
  else if r.k = 3 then r.w == 0 && r.to == 0
  else r.w == 0

/-- What a rule's kind has is so. -/
def hasB (r : RuleI) : Bool :=
  if r.k = 1 then prinB r.w
  else if r.k = 2 then roleB r.oo r.on
  else if r.k = 3 then roleB r.oo r.on && nameB r.tn
  else roleB r.oo r.on && roleB r.to r.tn

def ruleCode (r : RuleI) : Int :=
  if ¬ (1 ≤ r.k ∧ r.k ≤ 4) then 1 else if roleB r.ho r.hn = false then 3 else if bareB r = false then 1 else if hasB r = false then 3 else 0

/-- A rule lies in memory, in eight cells. -/
def RuleAt (w : World) (g off : Nat) (r : RuleI) : Prop :=
  w.cell? ⟨g, off, none⟩ = some (.int .i64 r.k) ∧ w.cell? ⟨g, off + 1, none⟩ = some (.int .i64 r.ho) ∧ w.cell? ⟨g, off + 2, none⟩ = some (.int .i64 r.hn) ∧ w.cell? ⟨g, off + 3, none⟩ = some (.int .i64 r.w) ∧
  w.cell? ⟨g, off + 4, none⟩ = some (.int .i64 r.oo) ∧ w.cell? ⟨g, off + 5, none⟩ = some (.int .i64 r.on) ∧ w.cell? ⟨g, off + 6, none⟩ = some (.int .i64 r.to) ∧ w.cell? ⟨g, off + 7, none⟩ = some (.int .i64 r.tn)

theorem RuleAt.below {w w' : World} {g off : Nat} {r : RuleI} (h : RuleAt w g off r) (hb : Below w.heap.size w w') : RuleAt w' g off r := by
  have key : ∀ (o : Nat) (v : Value), w.cell? ⟨g, o, none⟩ = some v → w'.cell? ⟨g, o, none⟩ = some v := fun o v e => (hb.cell (p := ⟨g, o, none⟩) (World.block_lt_of_cell? w ⟨g, o, none⟩ e)).trans e
  obtain ⟨h0, h1, h2, h3, h4, h5, h6, h7⟩ := h
  exact ⟨key _ _ h0, key _ _ h1, key _ _ h2, key _ _ h3, key _ _ h4, key _ _ h5, key _ _ h6, key _ _ h7⟩

theorem RuleAt.new (w : World) (r : RuleI) (t : TypeId) : RuleAt (w.alloc (.cells #[.int .i64 r.k, .int .i64 r.ho, .int .i64 r.hn, .int .i64 r.w, .int .i64 r.oo, .int .i64 r.on, .int .i64 r.to, .int .i64 r.tn] t)) w.heap.size 0 r := by
  simp [RuleAt]

/-- A role lies in memory, in two cells. -/
def RoleAt (w : World) (g off : Nat) (o n : Int) : Prop := w.cell? ⟨g, off, none⟩ = some (.int .i64 o) ∧ w.cell? ⟨g, off + 1, none⟩ = some (.int .i64 n)

theorem RoleAt.below {w w' : World} {g off : Nat} {o n : Int} (h : RoleAt w g off o n) (hb : Below w.heap.size w w') : RoleAt w' g off o n := by
  have key : ∀ (o : Nat) (v : Value), w.cell? ⟨g, o, none⟩ = some v → w'.cell? ⟨g, o, none⟩ = some v := fun o v e => (hb.cell (p := ⟨g, o, none⟩) (World.block_lt_of_cell? w ⟨g, o, none⟩ e)).trans e
  exact ⟨key _ _ h.1, key _ _ h.2⟩

theorem RoleAt.new (w : World) (o n : Int) (t : TypeId) : RoleAt (w.alloc (.cells #[.int .i64 o, .int .i64 n] t)) w.heap.size 0 o n := by
  simp [RoleAt]

end Go.Proofs.Ytnfolmjdicfobaa

namespace Go.Proofs.Ytnfolmjdicfobaa
open Go.RowKit
set_option linter.unusedVariables false

theorem below_new {w w1 : World} {o : Obj} (h : Below (w.alloc o).heap.size (w.alloc o) w1) : Below w.heap.size w w1 := ((Below.refl _ _).alloc (Nat.le_refl _) _).trans (h.mono (by simp))

set_option maxHeartbeats 400000 in
theorem l1Principal_c (p : Int) (w : World) :
    Calls Try.prog 86 #[.int .i64 p] w fun e w' => e = .returned (.bool (prinB p)) ∧ w = w' := by
  unfold prinB
  go_each [1 ≤ p, p ≤ 8] => (go_enter Try.func86, Try.ntmps86; go_wp2; go_ret; exact ⟨by simp [*], rfl⟩)

set_option maxHeartbeats 400000 in
theorem l2Name_c (p : Int) (w : World) :
    Calls Try.prog 87 #[.int .i64 p] w fun e w' => e = .returned (.bool (nameB p)) ∧ w = w' := by
  unfold nameB
  go_each [1 ≤ p, p ≤ 5] => (go_enter Try.func87, Try.ntmps87; go_wp2; go_ret; exact ⟨by simp [*], rfl⟩)

set_option maxHeartbeats 400000 in
theorem isPrin_c (p : Int) (w : World) :
    Calls Try.prog 105 #[.int .i64 p] w fun e w' => e = .returned (.bool (prinB p)) ∧ w = w' := by
  unfold prinB
  go_each [1 ≤ p, p ≤ 8] => (go_enter Try.func105, Try.ntmps105; go_wp2; go_ret; exact ⟨by simp [*], rfl⟩)

set_option maxHeartbeats 400000 in
theorem isName_c (p : Int) (w : World) :
    Calls Try.prog 106 #[.int .i64 p] w fun e w' => e = .returned (.bool (nameB p)) ∧ w = w' := by
  unfold nameB
  go_each [1 ≤ p, p ≤ 5] => (go_enter Try.func106, Try.ntmps106; go_wp2; go_ret; exact ⟨by simp [*], rfl⟩)

set_option maxHeartbeats 400000 in
theorem l2Role_c (o n : Int) (w : World) :
    Calls Try.prog 67 #[.agg #[.int .i64 o, .int .i64 n]] w fun e w' => e = .returned (.bool (roleB o n)) ∧ Below w.heap.size w w' := by
  unfold roleB
  cases hp : prinB o <;> cases hn : nameB n
  all_goals
    go_enter Try.func67, Try.ntmps67
    go_wp2_with (first | (go_at_call 86; refine (l1Principal_c o _).mono ?_; rintro e w' ⟨rfl, rfl⟩; rw [hp]) | (go_at_call 87; refine (l2Name_c n _).mono ?_; rintro e w' ⟨rfl, rfl⟩; rw [hn]))
    go_ret
    exact ⟨rfl, by go_grown⟩

set_option maxHeartbeats 400000 in
theorem implRoleFault_c (o n : Int) (w : World) :
    Calls Try.prog 90 #[.agg #[.int .i64 o, .int .i64 n]] w fun e w' => e = .returned (.int .i64 (roleCode o n)) ∧ Below w.heap.size w w' := by
  unfold roleCode roleB
  cases hp : prinB o <;> cases hn : nameB n
  all_goals
    go_enter Try.func90, Try.ntmps90
    go_wp2_with (first | (go_at_call 105; refine (isPrin_c o _).mono ?_; rintro e w' ⟨rfl, rfl⟩; rw [hp]) | (go_at_call 106; refine (isName_c n _).mono ?_; rintro e w' ⟨rfl, rfl⟩; rw [hn]))
    go_ret
    exact ⟨rfl, by go_grown⟩

set_option maxHeartbeats 400000 in
theorem toRole_c (o n : Int) (w : World) :
    Calls Try.prog 68 #[.agg #[.int .i64 o, .int .i64 n]] w fun e w' => e = .returned (.agg #[.int .i64 o, .int .i64 n]) ∧ Below w.heap.size w w' := by
  go_enter Try.func68, Try.ntmps68
  go_wp2
  go_returns
  exact ⟨rfl, by go_grown⟩

end Go.Proofs.Ytnfolmjdicfobaa

namespace Go.Proofs.Ytnfolmjdicfobaa
open Go.RowKit
set_option linter.unusedVariables false
set_option linter.unusedSimpArgs false

theorem bdN {B : Nat} {a w : World} (h : Below B a w) (n : Nat) : Below B a (w.drewN n) := h.trans ⟨rfl, rfl, rfl, Nat.le_refl _, fun _ _ => rfl⟩

set_option maxHeartbeats 1000000 in
theorem l2Bare_c (g off : Nat) (r : RuleI) (w : World) (h : RuleAt w g off r) (hk : 1 ≤ r.k ∧ r.k ≤ 4) :
    Calls Try.prog 85 #[.pointer (some ⟨g, off, none⟩)] w fun e w' => e = .returned (.bool (bareB r)) ∧ Below w.heap.size w w' := by
  obtain ⟨k, ho, hn, wh, oo, on, tw, tn⟩ := r
  obtain ⟨h0, h1, h2, h3, h4, h5, h6, h7⟩ := h
  simp only at h0 h1 h2 h3 h4 h5 h6 h7 hk
  have hg : g < w.heap.size := World.block_lt_of_cell? w ⟨g, off, none⟩ h0
  have hk' : k = 1 ∨ k = 2 ∨ k = 3 ∨ k = 4 := by omega
  clear hk
  simp only [bareB]
  rcases hk' with rfl | rfl | rfl | rfl
  · cases e1 : (oo == 0) <;> cases e2 : (on == 0) <;> cases e3 : (tw == 0) <;> cases e4 : (tn == 0)
    all_goals
      go_enter Try.func85, Try.ntmps85
      go_wp2
      go_quiet (fail)
      go_wp2
      go_ret
      exact ⟨by simp [e1, e2, e3, e4], bdN (by go_grown) _⟩
  · cases e1 : (wh == 0) <;> cases e2 : (tw == 0) <;> cases e3 : (tn == 0)
    all_goals
      go_enter Try.func85, Try.ntmps85
      go_wp2
      go_quiet (fail)
      go_wp2
      go_ret
      exact ⟨by simp [e1, e2, e3], bdN (by go_grown) _⟩
  · cases e1 : (wh == 0) <;> cases e2 : (tw == 0)
    all_goals
      go_enter Try.func85, Try.ntmps85
      go_wp2
      go_ret
      exact ⟨by simp [e1, e2], by go_grown⟩
  · cases e1 : (wh == 0)
    all_goals
      go_enter Try.func85, Try.ntmps85
      go_wp2
      go_ret
      exact ⟨by simp [e1], by go_grown⟩

set_option maxHeartbeats 400000 in
theorem toRule_c (r : RuleI) (w : World) :
    Calls Try.prog 45 #[.agg #[.int .i64 r.k, .int .i64 r.ho, .int .i64 r.hn, .int .i64 r.w, .int .i64 r.oo, .int .i64 r.on, .int .i64 r.to, .int .i64 r.tn]] w fun e w' =>
      e = .returned (.agg #[.int .i64 r.k, .int .i64 r.ho, .int .i64 r.hn, .int .i64 r.w, .int .i64 r.oo, .int .i64 r.on, .int .i64 r.to, .int .i64 r.tn]) ∧ Below w.heap.size w w' := by
  obtain ⟨k, ho, hn, wh, oo, on, tw, tn⟩ := r
  simp only
  go_enter Try.func45, Try.ntmps45
  go_wp2
  go_returns
  exact ⟨rfl, by go_grown⟩

end Go.Proofs.Ytnfolmjdicfobaa
