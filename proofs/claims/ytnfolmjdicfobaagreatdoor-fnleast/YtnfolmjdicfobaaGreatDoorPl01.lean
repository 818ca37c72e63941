/-
  PLAIN WORDS on roles and rules: which have no fault, and which code a fault has. No Go text is walked here.
  Conditions: each fact bears its own.
  CONTRACTS of the small tests of chapters 1 and 2 (principals, names, roles) and of RoleFault, of both programs.
  Conditions: none.
  CONTRACTS on rules: laws.toRule, spec.l2Bare.
  Conditions: each contract bears its own.
  PLAIN WORDS on lists of rules: which code a policy has, rule by rule; a list of rules in memory. No Go text is walked here.
  Conditions: each fact bears its own.
-/
import Derived.WalkKit
import Derived.Below
import Derived.Test.YtnfolmjdicfobaaGreatDoorProg
import Derived.ProofKit
import Derived.Outline
import Derived.Handy
import Derived.Laws.StructEq
import Derived.BigQuiet
import Derived.Deep.QuietTactic
namespace Go.Proofs.YtnfolmjdicfobaaGreatDoor
open Go.RowKit

/-- A rule, as eight numbers. -/
structure RuleI where
  k : Int
  ho : Int
  hn : Int
  w : Int
  oo : Int
  on : Int
  to : Int
  tn : Int
deriving DecidableEq

def RuleI.cells (r : RuleI) : Array Value := #[.int .i64 r.k, .int .i64 r.ho, .int .i64 r.hn, .int .i64 r.w, .int .i64 r.oo, .int .i64 r.on, .int .i64 r.to, .int .i64 r.tn]

def prinB (p : Int) : Bool := decide (1 ≤ p ∧ p ≤ 8)
def nameB (n : Int) : Bool := decide (1 ≤ n ∧ n ≤ 5)
def roleB (o n : Int) : Bool := prinB o && nameB n
def roleCode (o n : Int) : Int := if roleB o n = true then 0 else 3

/-- A rule has nothing that its kind does not have. -/
def bareB (r : RuleI) : Bool :=
  if r.k = 1 then r.oo == 0 && r.on == 0 && r.to == 0 && r.tn == 0
  else if r.k = 2 then r.w == 0 && r.to == 0 && r.tn == 0
  else if r.k = 3 then r.w == 0 && r.to == 0
  else r.w == 0

/-- What a rule's kind has is so. -/
def hasB (r : RuleI) : Bool :=
  if r.k = 1 then prinB r.w
  else if r.k = 2 then roleB r.oo r.on
  else if r.k = 3 then roleB r.oo r.on && nameB r.tn
  else roleB r.oo r.on && roleB r.to r.tn

def ruleCode (r : RuleI) : Int :=
  if ¬ (1 ≤ r.k ∧ r.k ≤ 4) then 1 else if roleB r.ho r.hn = false then 3 else if bareB r = false then 1 else if hasB r = false then 3 else 0

/-- A rule lies in memory, in eight cells. -/
def RuleAt (w : World) (g off : Nat) (r : RuleI) : Prop :=
  w.cell? ⟨g, off, none⟩ = some (.int .i64 r.k) ∧ w.cell? ⟨g, off + 1, none⟩ = some (.int .i64 r.ho) ∧ w.cell? ⟨g, off + 2, none⟩ = some (.int .i64 r.hn) ∧ w.cell? ⟨g, off + 3, none⟩ = some (.int .i64 r.w) ∧
  w.cell? ⟨g, off + 4, none⟩ = some (.int .i64 r.oo) ∧ w.cell? ⟨g, off + 5, none⟩ = some (.int .i64 r.on) ∧ w.cell? ⟨g, off + 6, none⟩ = some (.int .i64 r.to) ∧ w.cell? ⟨g, off + 7, none⟩ = some (.int .i64 r.tn)

theorem RuleAt.below {w w' : World} {g off : Nat} {r : RuleI} (h : RuleAt w g off r) (hb : Below w.heap.size w w') : RuleAt w' g off r := by
  have key : ∀ (o : Nat) (v : Value), w.cell? ⟨g, o, none⟩ = some v → w'.cell? ⟨g, o, none⟩ = some v := fun o v e => (hb.cell (p := ⟨g, o, none⟩) (World.block_lt_of_cell? w ⟨g, o, none⟩ e)).trans e
  obtain ⟨h0, h1, h2, h3, h4, h5, h6, h7⟩ := h
  exact ⟨key _ _ h0, key _ _ h1, key _ _ h2, key _ _ h3, key _ _ h4, key _ _ h5, key _ _ h6, key _ _ h7⟩

theorem RuleAt.new (w : World) (r : RuleI) (t : TypeId) : RuleAt (w.alloc (.cells #[.int .i64 r.k, .int .i64 r.ho, .int .i64 r.hn, .int .i64 r.w, .int .i64 r.oo, .int .i64 r.on, .int .i64 r.to, .int .i64 r.tn] t)) w.heap.size 0 r := by
  simp [RuleAt]

/-- A role lies in memory, in two cells. -/
def RoleAt (w : World) (g off : Nat) (o n : Int) : Prop := w.cell? ⟨g, off, none⟩ = some (.int .i64 o) ∧ w.cell? ⟨g, off + 1, none⟩ = some (.int .i64 n)

theorem RoleAt.below {w w' : World} {g off : Nat} {o n : Int} (h : RoleAt w g off o n) (hb : Below w.heap.size w w') : RoleAt w' g off o n := by
  have key : ∀ (o : Nat) (v : Value), w.cell? ⟨g, o, none⟩ = some v → w'.cell? ⟨g, o, none⟩ = some v := fun o v e => (hb.cell (p := ⟨g, o, none⟩) (World.block_lt_of_cell? w ⟨g, o, none⟩ e)).trans e
  exact ⟨key _ _ h.1, key _ _ h.2⟩

theorem RoleAt.new (w : World) (o n : Int) (t : TypeId) : RoleAt (w.alloc (.cells #[.int .i64 o, .int .i64 n] t)) w.heap.size 0 o n := by
  simp [RoleAt]

end Go.Proofs.YtnfolmjdicfobaaGreatDoor

namespace Go.Proofs.YtnfolmjdicfobaaGreatDoor
open Go.RowKit
set_option linter.unusedVariables false

theorem below_new {w w1 : World} {o : Obj} (h : Below (w.alloc o).heap.size (w.alloc o) w1) : Below w.heap.size w w1 := ((Below.refl _ _).alloc (Nat.le_refl _) _).trans (h.mono (by simp))

set_option maxHeartbeats 400000 in
theorem l1Principal_c (p : Int) (w : World) :
    Calls Tryz.prog 139 #[.int .i64 p] w fun e w' => e = .returned (.bool (prinB p)) ∧ w = w' := by
  unfold prinB
  go_each [1 ≤ p, p ≤ 8] => (go_enter Tryz.func139, Tryz.ntmps139; go_wp2; go_ret; exact ⟨by simp [*], rfl⟩)

set_option maxHeartbeats 400000 in
theorem l2Name_c (p : Int) (w : World) :
    Calls Tryz.prog 140 #[.int .i64 p] w fun e w' => e = .returned (.bool (nameB p)) ∧ w = w' := by
  unfold nameB
  go_each [1 ≤ p, p ≤ 5] => (go_enter Tryz.func140, Tryz.ntmps140; go_wp2; go_ret; exact ⟨by simp [*], rfl⟩)

set_option maxHeartbeats 400000 in
theorem isPrin_c (p : Int) (w : World) :
    Calls Tryz.prog 137 #[.int .i64 p] w fun e w' => e = .returned (.bool (prinB p)) ∧ w = w' := by
  unfold prinB
  go_each [1 ≤ p, p ≤ 8] => (go_enter Tryz.func137, Tryz.ntmps137; go_wp2; go_ret; exact ⟨by simp [*], rfl⟩)

set_option maxHeartbeats 400000 in
theorem isName_c (p : Int) (w : World) :
    Calls Tryz.prog 138 #[.int .i64 p] w fun e w' => e = .returned (.bool (nameB p)) ∧ w = w' := by
  unfold nameB
  go_each [1 ≤ p, p ≤ 5] => (go_enter Tryz.func138, Tryz.ntmps138; go_wp2; go_ret; exact ⟨by simp [*], rfl⟩)

set_option maxHeartbeats 400000 in
theorem l2Role_c (o n : Int) (w : World) :
    Calls Tryz.prog 107 #[.agg #[.int .i64 o, .int .i64 n]] w fun e w' => e = .returned (.bool (roleB o n)) ∧ Below w.heap.size w w' := by
  unfold roleB
  cases hp : prinB o <;> cases hn : nameB n
  all_goals
    go_enter Tryz.func107, Tryz.ntmps107
    go_wp2_with (first | (go_at_call 139; refine (l1Principal_c o _).mono ?_; rintro e w' ⟨rfl, rfl⟩; rw [hp]) | (go_at_call 140; refine (l2Name_c n _).mono ?_; rintro e w' ⟨rfl, rfl⟩; rw [hn]))
    go_ret
    exact ⟨rfl, by go_grown⟩

set_option maxHeartbeats 400000 in
theorem implRoleFault_c (o n : Int) (w : World) :
    Calls Tryz.prog 105 #[.agg #[.int .i64 o, .int .i64 n]] w fun e w' => e = .returned (.int .i64 (roleCode o n)) ∧ Below w.heap.size w w' := by
  unfold roleCode roleB
  cases hp : prinB o <;> cases hn : nameB n
  all_goals
    go_enter Tryz.func105, Tryz.ntmps105
    go_wp2_with (first | (go_at_call 137; refine (isPrin_c o _).mono ?_; rintro e w' ⟨rfl, rfl⟩; rw [hp]) | (go_at_call 138; refine (isName_c n _).mono ?_; rintro e w' ⟨rfl, rfl⟩; rw [hn]))
    go_ret
    exact ⟨rfl, by go_grown⟩

set_option maxHeartbeats 400000 in
theorem toRole_c (o n : Int) (w : World) :
    Calls Tryz.prog 133 #[.agg #[.int .i64 o, .int .i64 n]] w fun e w' => e = .returned (.agg #[.int .i64 o, .int .i64 n]) ∧ Below w.heap.size w w' := by
  go_enter Tryz.func133, Tryz.ntmps133
  go_wp2
  go_returns
  exact ⟨rfl, by go_grown⟩

end Go.Proofs.YtnfolmjdicfobaaGreatDoor

namespace Go.Proofs.YtnfolmjdicfobaaGreatDoor
open Go.RowKit
set_option linter.unusedVariables false
set_option linter.unusedSimpArgs false

theorem bdN {B : Nat} {a w : World} (h : Below B a w) (n : Nat) : Below B a (w.drewN n) := h.trans ⟨rfl, rfl, rfl, Nat.le_refl _, fun _ _ => rfl⟩

set_option maxHeartbeats 1000000 in
theorem l2Bare_c (g off : Nat) (r : RuleI) (w : World) (h : RuleAt w g off r) (hk : 1 ≤ r.k ∧ r.k ≤ 4) :
    Calls Tryz.prog 143 #[.pointer (some ⟨g, off, none⟩)] w fun e w' => e = .returned (.bool (bareB r)) ∧ Below w.heap.size w w' := by
  obtain ⟨k, ho, hn, wh, oo, on, tw, tn⟩ := r
  obtain ⟨h0, h1, h2, h3, h4, h5, h6, h7⟩ := h
  simp only at h0 h1 h2 h3 h4 h5 h6 h7 hk
  have hg : g < w.heap.size := World.block_lt_of_cell? w ⟨g, off, none⟩ h0
  have hk' : k = 1 ∨ k = 2 ∨ k = 3 ∨ k = 4 := by omega
  clear hk
  simp only [bareB]
  rcases hk' with rfl | rfl | rfl | rfl
  · cases e1 : (oo == 0) <;> cases e2 : (on == 0) <;> cases e3 : (tw == 0) <;> cases e4 : (tn == 0)
    all_goals
      go_enter Tryz.func143, Tryz.ntmps143
      go_wp2
      go_quiet (fail)
      go_wp2
      go_ret
      exact ⟨by simp [e1, e2, e3, e4], bdN (by go_grown) _⟩
  · cases e1 : (wh == 0) <;> cases e2 : (tw == 0) <;> cases e3 : (tn == 0)
    all_goals
      go_enter Tryz.func143, Tryz.ntmps143
      go_wp2
      go_quiet (fail)
      go_wp2
      go_ret
      exact ⟨by simp [e1, e2, e3], bdN (by go_grown) _⟩
  · cases e1 : (wh == 0) <;> cases e2 : (tw == 0)
    all_goals
      go_enter Tryz.func143, Tryz.ntmps143
      go_wp2
      go_ret
      exact ⟨by simp [e1, e2], by go_grown⟩
  · cases e1 : (wh == 0)
    all_goals
      go_enter Tryz.func143, Tryz.ntmps143
      go_wp2
      go_ret
      exact ⟨by simp [e1], by go_grown⟩

set_option maxHeartbeats 400000 in
theorem toRule_c (r : RuleI) (w : World) :
    Calls Tryz.prog 97 #[.agg #[.int .i64 r.k, .int .i64 r.ho, .int .i64 r.hn, .int .i64 r.w, .int .i64 r.oo, .int .i64 r.on, .int .i64 r.to, .int .i64 r.tn]] w fun e w' =>
      e = .returned (.agg #[.int .i64 r.k, .int .i64 r.ho, .int .i64 r.hn, .int .i64 r.w, .int .i64 r.oo, .int .i64 r.on, .int .i64 r.to, .int .i64 r.tn]) ∧ Below w.heap.size w w' := by
  obtain ⟨k, ho, hn, wh, oo, on, tw, tn⟩ := r
  simp only
  go_enter Tryz.func97, Tryz.ntmps97
  go_wp2
  go_returns
  exact ⟨rfl, by go_grown⟩

end Go.Proofs.YtnfolmjdicfobaaGreatDoor

namespace Go.Proofs.YtnfolmjdicfobaaGreatDoor
open Go.RowKit

/-- The code of the first k rules: rule by rule, the rule's own code, then 6 where one ahead is the same. -/
def polTo (zs : List RuleI) : Nat → Int
  | 0 => 0
  | k + 1 => if polTo zs k ≠ 0 then polTo zs k else match zs[k]? with
    | none => 0
    | some r => if ruleCode r ≠ 0 then ruleCode r else if r ∈ zs.take k then 6 else 0

def polCode (zs : List RuleI) : Int := if 16 < zs.length then 2 else polTo zs zs.length

theorem polTo_stay (zs : List RuleI) (k m : Nat) (c : Int) (hc : c ≠ 0) (h : polTo zs k = c) (hm : k ≤ m) : polTo zs m = c := by
  induction m with
  | zero => obtain rfl : k = 0 := by omega
            exact h
  | succ m ih =>
    by_cases e : k = m + 1
    · subst e; exact h
    · have := ih (by omega)
      simp only [polTo, this]
      rw [if_pos hc]

theorem polTo_bad (zs : List RuleI) (k : Nat) (r : RuleI) (hk : zs[k]? = some r) (h0 : polTo zs k = 0) (hr : ruleCode r ≠ 0) : polTo zs (k + 1) = ruleCode r := by
  simp [polTo, h0, hk, hr]

theorem polTo_same (zs : List RuleI) (k : Nat) (r : RuleI) (hk : zs[k]? = some r) (h0 : polTo zs k = 0) (hr : ruleCode r = 0) (hm : r ∈ zs.take k) : polTo zs (k + 1) = 6 := by
  simp [polTo, h0, hk, hr, hm]

theorem polTo_good (zs : List RuleI) (k : Nat) (r : RuleI) (hk : zs[k]? = some r) (h0 : polTo zs k = 0) (hr : ruleCode r = 0) (hm : ¬ r ∈ zs.take k) : polTo zs (k + 1) = 0 := by
  simp [polTo, h0, hk, hr, hm]

theorem mem_take_iff (zs : List RuleI) (k : Nat) (r : RuleI) : r ∈ zs.take k ↔ ∃ j, j < k ∧ zs[j]? = some r := by
  rw [List.mem_iff_getElem?]
  constructor
  · rintro ⟨j, hj⟩
    rw [List.getElem?_take] at hj
    by_cases h : j < k
    · rw [if_pos h] at hj; exact ⟨j, h, hj⟩
    · rw [if_neg h] at hj; cases hj
  · rintro ⟨j, h, hj⟩
    exact ⟨j, by rw [List.getElem?_take, if_pos h]; exact hj⟩

/-- Rules lie in a block, eight cells each. -/
def RulesAt (w : World) (g off : Nat) (zs : List RuleI) : Prop := ∀ k r, zs[k]? = some r → RuleAt w g (off + k * 8) r

theorem RulesAt.below {w w' : World} {g off : Nat} {zs : List RuleI} (h : RulesAt w g off zs) (hb : Below w.heap.size w w') : RulesAt w' g off zs := fun k r e => (h k r e).below hb

/-- A slice of rules. -/
def RulesIn (w : World) (a : Option Addr) (len : Nat) (zs : List RuleI) : Prop := zs.length = len ∧ (0 < len → ∃ b off, a = some ⟨b, off, none⟩ ∧ RulesAt w b off zs)

theorem RulesIn.below {w w' : World} {a : Option Addr} {len : Nat} {zs : List RuleI} (h : RulesIn w a len zs) (hb : Below w.heap.size w w') : RulesIn w' a len zs := by
  refine ⟨h.1, fun hl => ?_⟩
  obtain ⟨b, off, e, hr⟩ := h.2 hl
  exact ⟨b, off, e, hr.below hb⟩

theorem RulesIn.at {w : World} {a : Option Addr} {len : Nat} {zs : List RuleI} (h : RulesIn w a len zs) {k : Nat} (hk : k < len) :
    ∃ b off r, a = some ⟨b, off, none⟩ ∧ zs[k]? = some r ∧ RuleAt w b (off + k * 8) r := by
  obtain ⟨b, off, e, hr⟩ := h.2 (by omega)
  have hl := h.1
  exact ⟨b, off, zs[k]'(by omega), e, List.getElem?_eq_getElem (by omega), hr k _ (List.getElem?_eq_getElem (by omega))⟩

theorem RulesIn.here {w : World} {b off len : Nat} {zs : List RuleI} (h : RulesIn w (some ⟨b, off, none⟩) len zs) {k : Nat} (hk : k < len) : ∃ r, zs[k]? = some r ∧ RuleAt w b (off + k * 8) r := by
  obtain ⟨b', off', r, e, h1, h2⟩ := h.at hk
  cases e
  exact ⟨r, h1, h2⟩

/-- The first rules of a slice. -/
theorem RulesIn.cut {w : World} {a : Option Addr} {len : Nat} {zs : List RuleI} (h : RulesIn w a len zs) {k : Nat} (hk : k ≤ len) : RulesIn w a k (zs.take k) := by
  refine ⟨by have := h.1; simp; omega, fun hp => ?_⟩
  obtain ⟨b, off, e, hr⟩ := h.2 (by omega)
  refine ⟨b, off, e, fun j r ej => hr j r ?_⟩
  rw [List.getElem?_take] at ej
  split at ej
  · exact ej
  · cases ej

theorem RulesIn.of {w : World} {g len : Nat} {zs : List RuleI} (hl : zs.length = len) (h : RulesAt w g 0 zs) : RulesIn w (some ⟨g, 0, none⟩) len zs :=
  ⟨hl, fun _ => ⟨g, 0, rfl, h⟩⟩

/-- Old cells are as they were: in the form that a region's walk takes for its S. -/
theorem kp_drew (W : World) : (∀ b o, b < W.heap.size → W.drew.cell? ⟨b, o, none⟩ = W.cell? ⟨b, o, none⟩) ∧ Below W.heap.size W W.drew :=
  ⟨fun _ _ _ => rfl, ⟨rfl, rfl, rfl, Nat.le_refl _, fun _ _ => rfl⟩⟩

theorem kp_refl (W : World) : (∀ b o, b < W.heap.size → W.cell? ⟨b, o, none⟩ = W.cell? ⟨b, o, none⟩) ∧ Below W.heap.size W W :=
  ⟨fun _ _ _ => rfl, Below.refl _ _⟩

theorem kp_step {W w w' : World} (h : (∀ b o, b < W.heap.size → w.cell? ⟨b, o, none⟩ = W.cell? ⟨b, o, none⟩) ∧ Below W.heap.size W w) (hb : Below w.heap.size w w') : (∀ b o, b < W.heap.size → w'.cell? ⟨b, o, none⟩ = W.cell? ⟨b, o, none⟩) ∧ Below W.heap.size W w' := by
  have hz := h.2.size
  exact ⟨fun b o hl => (hb.cell (p := ⟨b, o, none⟩) (by show b < w.heap.size; omega)).trans (h.1 b o hl), h.2.trans (hb.mono hz)⟩

/-- A slice of rules that came in. -/
def RulesArg (w : World) (a : Option Addr) (len : Nat) (zs : List RuleI) : Prop := RulesIn w a len zs ∧ len ≤ maxLen

end Go.Proofs.YtnfolmjdicfobaaGreatDoor
