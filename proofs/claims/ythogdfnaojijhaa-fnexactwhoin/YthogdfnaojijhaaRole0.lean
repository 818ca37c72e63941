/-
  PLAIN WORDS on roles and rules: which have no fault, and which code a fault has. No Go text is walked here.
  Conditions: each fact bears its own.
-/
import Derived.WalkKit
import Derived.Below
namespace Go.Proofs.Ythogdfnaojijhaa
open Go.RowKit

/-- A rule, as eight numbers. -/
structure RuleI where
  k : Int
  ho : Int
  hn : Int
  w : Int
  oo : Int
  on : Int
  to : Int
  tn : Int
deriving DecidableEq

def RuleI.cells (r : RuleI) : Array Value := #[.int .i64 r.k, .int .i64 r.ho, .int .i64 r.hn, .int .i64 r.w, .int .i64 r.oo, .int .i64 r.on, .int .i64 r.to, .int .i64 r.tn]

def prinB (p : Int) : Bool := decide (1 ≤ p ∧ p ≤ 8)
def nameB (n : Int) : Bool := decide (1 ≤ n ∧ n ≤ 5)
def roleB (o n : Int) : Bool := prinB o && nameB n
def roleCode (o n : Int) : Int := if roleB o n = true then 0 else 3

/-- A rule has nothing that its kind does not have. -/
def bareB (r : RuleI) : Bool :=
  if r.k = 1 then r.oo == 0 && r.on == 0 && r.to == 0 && r.tn == 0
  else if r.k = 2 then r.w == 0 && r.to == 0 && r.tn == 0
  else if r.k = 3 then r.w == 0 && r.to == 0
  else r.w == 0

/-- What a rule's kind has is so. -/
def hasB (r : RuleI) : Bool :=
  if r.k = 1 then prinB r.w
  else if r.k = 2 then roleB r.oo r.on
  else if r.k = 3 then roleB r.oo r.on && nameB r.tn
  else roleB r.oo r.on && roleB r.to r.tn

def ruleCode (r : RuleI) : Int :=
  if ¬ (1 ≤ r.k ∧ r.k ≤ 4) then 1 else if roleB r.ho r.hn = false then 3 else if bareB r = false then 1 else if hasB r = false then 3 else 0

/-- A rule lies in memory, in eight cells. -/
def RuleAt (w : World) (g off : Nat) (r : RuleI) : Prop :=
  w.cell? ⟨g, off, none⟩ = some (.int .i64 r.k) ∧ w.cell? ⟨g, off + 1, none⟩ = some (.int .i64 r.ho) ∧ w.cell? ⟨g, off + 2, none⟩ = some (.int .i64 r.hn) ∧ w.cell? ⟨g, off + 3, none⟩ = some (.int .i64 r.w) ∧
  w.cell? ⟨g, off + 4, none⟩ = some (.int .i64 r.oo) ∧ w.cell? ⟨g, off + 5, none⟩ = some (.int .i64 r.on) ∧ w.cell? ⟨g, off + 6, none⟩ = some (.int .i64 r.to) ∧ w.cell? ⟨g, off + 7, none⟩ = some (.int .i64 r.tn)

theorem RuleAt.below {w w' : World} {g off : Nat} {r : RuleI} (h : RuleAt w g off r) (hb : Below w.heap.size w w') : RuleAt w' g off r := by
  have key : ∀ (o : Nat) (v : Value), w.cell? ⟨g, o, none⟩ = some v → w'.cell? ⟨g, o, none⟩ = some v := fun o v e => (hb.cell (p := ⟨g, o, none⟩) (World.block_lt_of_cell? w ⟨g, o, none⟩ e)).trans e
  obtain ⟨h0, h1, h2, h3, h4, h5, h6, h7⟩ := h
  exact ⟨key _ _ h0, key _ _ h1, key _ _ h2, key _ _ h3, key _ _ h4, key _ _ h5, key _ _ h6, key _ _ h7⟩

theorem RuleAt.new (w : World) (r : RuleI) (t : TypeId) : RuleAt (w.alloc (.cells #[.int .i64 r.k, .int .i64 r.ho, .int .i64 r.hn, .int .i64 r.w, .int .i64 r.oo, .int .i64 r.on, .int .i64 r.to, .int .i64 r.tn] t)) w.heap.size 0 r := by
  simp [RuleAt]

/-- A role lies in memory, in two cells. -/
def RoleAt (w : World) (g off : Nat) (o n : Int) : Prop := w.cell? ⟨g, off, none⟩ = some (.int .i64 o) ∧ w.cell? ⟨g, off + 1, none⟩ = some (.int .i64 n)

theorem RoleAt.below {w w' : World} {g off : Nat} {o n : Int} (h : RoleAt w g off o n) (hb : Below w.heap.size w w') : RoleAt w' g off o n := by
  have key : ∀ (o : Nat) (v : Value), w.cell? ⟨g, o, none⟩ = some v → w'.cell? ⟨g, o, none⟩ = some v := fun o v e => (hb.cell (p := ⟨g, o, none⟩) (World.block_lt_of_cell? w ⟨g, o, none⟩ e)).trans e
  exact ⟨key _ _ h.1, key _ _ h.2⟩

theorem RoleAt.new (w : World) (o n : Int) (t : TypeId) : RoleAt (w.alloc (.cells #[.int .i64 o, .int .i64 n] t)) w.heap.size 0 o n := by
  simp [RoleAt]

end Go.Proofs.Ythogdfnaojijhaa
