/-
  CONTRACTS of strconv.FormatInt and impl.numberText, for 1 to 8.
  Conditions: the number is 1 to 8.
  PLAIN WORDS on roles and rules: which have no fault, and which code a fault has. No Go text is walked here.
  Conditions: each fact bears its own.
  CONTRACTS of the small tests of chapters 1 and 2 (principals, names, roles) and of RoleFault, of both programs.
  Conditions: none.
  CONTRACTS on the text of a role: spec.l2Text, impl's Role.text, RoleText of both programs.
  Conditions: each contract bears its own.
-/
import Derived.Test.YtnfolmjdicfobaaGreatDoorPc01
import Derived.WalkKit
import Derived.Below
import Derived.Test.YtnfolmjdicfobaaGreatDoorProg
import Derived.ProofKit
import Derived.Outline
import Derived.Handy
import Derived.Laws.StructEq
import Derived.Deep.RegionHeld3
import Derived.BigQuiet
import Derived.Deep.QuietTactic
namespace Go.Proofs.YtnfolmjdicfobaaGreatDoor
open Go.RowKit Go.Shelf
set_option linter.unusedVariables false

theorem dec_digit (p : Int) (p0 : 1 ≤ p) (p1 : p ≤ 8) : Lib.decDigits p.toNat = [digitB p] := by
  rw [Lib.decDigits, dif_pos (by omega)]
  rfl

set_option maxHeartbeats 400000 in
theorem fmt_c (p : Int) (p0 : 1 ≤ p) (p1 : p ≤ 8) (w : World) :
    Calls Tryz.prog 115 #[.int .i64 p, .int .i64 10] w fun e w' => e = .returned (.string ⟨#[digitB p]⟩) ∧ w = w' := by
  obtain ⟨i, rfl⟩ := Int.eq_ofNat_of_zero_le (show 0 ≤ p by omega)
  have h := dec_digit (i : Int) p0 p1
  rw [Int.toNat_natCast] at h
  refine (Tryz.strconv_FormatInt_10_small i (by omega) w).mono fun e w' hh => ⟨?_, hh.2.symm⟩
  rw [hh.1, h]

set_option maxHeartbeats 400000 in
theorem num_c (p : Int) (p0 : 1 ≤ p) (p1 : p ≤ 8) (w : World) :
    Calls Tryz.prog 76 #[.int .i64 p] w fun e w' => e = .returned (.string ⟨#[digitB p]⟩) ∧ w = w' := by
  go_enter Tryz.func76, Tryz.ntmps76
  go_wp2_with (go_at_call 115; refine (fmt_c p p0 p1 _).mono ?_; rintro e w' ⟨rfl, rfl⟩)
  go_ret
  exact ⟨rfl, rfl⟩

end Go.Proofs.YtnfolmjdicfobaaGreatDoor

namespace Go.Proofs.YtnfolmjdicfobaaGreatDoor
open Go.RowKit

/-- A rule, as eight numbers. -/
structure RuleI where
  k : Int
  ho : Int
  hn : Int
  w : Int
  oo : Int
  on : Int
  to : Int
  tn : Int
deriving DecidableEq

def RuleI.cells (r : RuleI) : Array Value := #[.int .i64 r.k, .int .i64 r.ho, .int .i64 r.hn, .int .i64 r.w, .int .i64 r.oo, .int .i64 r.on, .int .i64 r.to, .int .i64 r.tn]

def prinB (p : Int) : Bool := decide (1 ≤ p ∧ p ≤ 8)
def nameB (n : Int) : Bool := decide (1 ≤ n ∧ n ≤ 5)
def roleB (o n : Int) : Bool := prinB o && nameB n
def roleCode (o n : Int) : Int := if roleB o n = true then 0 else 3

/-- A rule has nothing that its kind does not have. -/
def bareB (r : RuleI) : Bool :=
  if r.k = 1 then r.oo == 0 && r.on == 0 && r.to == 0 && r.tn == 0
  else if r.k = 2 then r.w == 0 && r.to == 0 && r.tn == 0
  else if r.k = 3 then r.w == 0 && r.to == 0
  else r.w == 0

/-- What a rule's kind has is so. -/
def hasB (r : RuleI) : Bool :=
  if r.k = 1 then prinB r.w
  else if r.k = 2 then roleB r.oo r.on
  else if r.k = 3 then roleB r.oo r.on && nameB r.tn
  else roleB r.oo r.on && roleB r.to r.tn

def ruleCode (r : RuleI) : Int :=
  if ¬ (1 ≤ r.k ∧ r.k ≤ 4) then 1 else if roleB r.ho r.hn = false then 3 else if bareB r = false then 1 else if hasB r = false then 3 else 0

/-- A rule lies in memory, in eight cells. -/
def RuleAt (w : World) (g off : Nat) (r : RuleI) : Prop :=
  w.cell? ⟨g, off, none⟩ = some (.int .i64 r.k) ∧ w.cell? ⟨g, off + 1, none⟩ = some (.int .i64 r.ho) ∧ w.cell? ⟨g, off + 2, none⟩ = some (.int .i64 r.hn) ∧ w.cell? ⟨g, off + 3, none⟩ = some (.int .i64 r.w) ∧
  w.cell? ⟨g, off + 4, none⟩ = some (.int .i64 r.oo) ∧ w.cell? ⟨g, off + 5, none⟩ = some (.int .i64 r.on) ∧ w.cell? ⟨g, off + 6, none⟩ = some (.int .i64 r.to) ∧ w.cell? ⟨g, off + 7, none⟩ = some (.int .i64 r.tn)

theorem RuleAt.below {w w' : World} {g off : Nat} {r : RuleI} (h : RuleAt w g off r) (hb : Below w.heap.size w w') : RuleAt w' g off r := by
  have key : ∀ (o : Nat) (v : Value), w.cell? ⟨g, o, none⟩ = some v → w'.cell? ⟨g, o, none⟩ = some v := fun o v e => (hb.cell (p := ⟨g, o, none⟩) (World.block_lt_of_cell? w ⟨g, o, none⟩ e)).trans e
  obtain ⟨h0, h1, h2, h3, h4, h5, h6, h7⟩ := h
  exact ⟨key _ _ h0, key _ _ h1, key _ _ h2, key _ _ h3, key _ _ h4, key _ _ h5, key _ _ h6, key _ _ h7⟩

theorem RuleAt.new (w : World) (r : RuleI) (t : TypeId) : RuleAt (w.alloc (.cells #[.int .i64 r.k, .int .i64 r.ho, .int .i64 r.hn, .int .i64 r.w, .int .i64 r.oo, .int .i64 r.on, .int .i64 r.to, .int .i64 r.tn] t)) w.heap.size 0 r := by
  simp [RuleAt]

/-- A role lies in memory, in two cells. -/
def RoleAt (w : World) (g off : Nat) (o n : Int) : Prop := w.cell? ⟨g, off, none⟩ = some (.int .i64 o) ∧ w.cell? ⟨g, off + 1, none⟩ = some (.int .i64 n)

theorem RoleAt.below {w w' : World} {g off : Nat} {o n : Int} (h : RoleAt w g off o n) (hb : Below w.heap.size w w') : RoleAt w' g off o n := by
  have key : ∀ (o : Nat) (v : Value), w.cell? ⟨g, o, none⟩ = some v → w'.cell? ⟨g, o, none⟩ = some v := fun o v e => (hb.cell (p := ⟨g, o, none⟩) (World.block_lt_of_cell? w ⟨g, o, none⟩ e)).trans e
  exact ⟨key _ _ h.1, key _ _ h.2⟩

theorem RoleAt.new (w : World) (o n : Int) (t : TypeId) : RoleAt (w.alloc (.cells #[.int .i64 o, .int .i64 n] t)) w.heap.size 0 o n := by
  simp [RoleAt]

end Go.Proofs.YtnfolmjdicfobaaGreatDoor

namespace Go.Proofs.YtnfolmjdicfobaaGreatDoor
open Go.RowKit
set_option linter.unusedVariables false

theorem below_new {w w1 : World} {o : Obj} (h : Below (w.alloc o).heap.size (w.alloc o) w1) : Below w.heap.size w w1 := ((Below.refl _ _).alloc (Nat.le_refl _) _).trans (h.mono (by simp))

set_option maxHeartbeats 400000 in
theorem l1Principal_c (p : Int) (w : World) :
    Calls Tryz.prog 139 #[.int .i64 p] w fun e w' => e = .returned (.bool (prinB p)) ∧ w = w' := by
  unfold prinB
  go_each [1 ≤ p, p ≤ 8] => (go_enter Tryz.func139, Tryz.ntmps139; go_wp2; go_ret; exact ⟨by simp [*], rfl⟩)

set_option maxHeartbeats 400000 in
theorem l2Name_c (p : Int) (w : World) :
    Calls Tryz.prog 140 #[.int .i64 p] w fun e w' => e = .returned (.bool (nameB p)) ∧ w = w' := by
  unfold nameB
  go_each [1 ≤ p, p ≤ 5] => (go_enter Tryz.func140, Tryz.ntmps140; go_wp2; go_ret; exact ⟨by simp [*], rfl⟩)

set_option maxHeartbeats 400000 in
theorem isPrin_c (p : Int) (w : World) :
    Calls Tryz.prog 137 #[.int .i64 p] w fun e w' => e = .returned (.bool (prinB p)) ∧ w = w' := by
  unfold prinB
  go_each [1 ≤ p, p ≤ 8] => (go_enter Tryz.func137, Tryz.ntmps137; go_wp2; go_ret; exact ⟨by simp [*], rfl⟩)

set_option maxHeartbeats 400000 in
theorem isName_c (p : Int) (w : World) :
    Calls Tryz.prog 138 #[.int .i64 p] w fun e w' => e = .returned (.bool (nameB p)) ∧ w = w' := by
  unfold nameB
  go_each [1 ≤ p, p ≤ 5] => (go_enter Tryz.func138, Tryz.ntmps138; go_wp2; go_ret; exact ⟨by simp [*], rfl⟩)

set_option maxHeartbeats 400000 in
theorem l2Role_c (o n : Int) (w : World) :
    Calls Tryz.prog 107 #[.agg #[.int .i64 o, .int .i64 n]] w fun e w' => e = .returned (.bool (roleB o n)) ∧ Below w.heap.size w w' := by
  unfold roleB
  cases hp : prinB o <;> cases hn : nameB n
  all_goals
    go_enter Tryz.func107, Tryz.ntmps107
    go_wp2_with (first | (go_at_call 139; refine (l1Principal_c o _).mono ?_; rintro e w' ⟨rfl, rfl⟩; rw [hp]) | (go_at_call 140; refine (l2Name_c n _).mono ?_; rintro e w' ⟨rfl, rfl⟩; rw [hn]))
    go_ret
    exact ⟨rfl, by go_grown⟩

set_option maxHeartbeats 400000 in
theorem implRoleFault_c (o n : Int) (w : World) :
    Calls Tryz.prog 105 #[.agg #[.int .i64 o, .int .i64 n]] w fun e w' => e = .returned (.int .i64 (roleCode o n)) ∧ Below w.heap.size w w' := by
  unfold roleCode roleB
  cases hp : prinB o <;> cases hn : nameB n
  all_goals
    go_enter Tryz.func105, Tryz.ntmps105
    go_wp2_with (first | (go_at_call 137; refine (isPrin_c o _).mono ?_; rintro e w' ⟨rfl, rfl⟩; rw [hp]) | (go_at_call 138; refine (isName_c n _).mono ?_; rintro e w' ⟨rfl, rfl⟩; rw [hn]))
    go_ret
    exact ⟨rfl, by go_grown⟩

set_option maxHeartbeats 400000 in
theorem toRole_c (o n : Int) (w : World) :
    Calls Tryz.prog 133 #[.agg #[.int .i64 o, .int .i64 n]] w fun e w' => e = .returned (.agg #[.int .i64 o, .int .i64 n]) ∧ Below w.heap.size w w' := by
  go_enter Tryz.func133, Tryz.ntmps133
  go_wp2
  go_returns
  exact ⟨rfl, by go_grown⟩

end Go.Proofs.YtnfolmjdicfobaaGreatDoor

namespace Go.Proofs.YtnfolmjdicfobaaGreatDoor
open Go.RowKit
set_option linter.unusedVariables false
set_option linter.unusedSimpArgs false

/-- A role's text. -/
def roleT (o n : Int) : ByteArray := ⟨#[digitB o, 46, digitB n]⟩

theorem roleB_bd {o n : Int} (h : roleB o n = true) : (1 ≤ o ∧ o ≤ 8) ∧ (1 ≤ n ∧ n ≤ 5) := by
  simp [roleB, prinB, nameB] at h
  omega

theorem cat3 (a b : UInt8) : (⟨#[a]⟩ : ByteArray) ++ ⟨#[46]⟩ ++ ⟨#[b]⟩ = ⟨#[a, 46, b]⟩ := by
  rw [ByteArray.mk_append_mk, ByteArray.mk_append_mk]
  simp

/-- A role in a block of the call's own, and nothing below has turned. -/
theorem keepS {g : Nat} {o n : Int} {w0 w w' : World} (h : w.cell? ⟨g, 0, none⟩ = some (.int .i64 o) ∧ w.cell? ⟨g, 1, none⟩ = some (.int .i64 n) ∧ Below w0.heap.size w0 w) (hb : Below w.heap.size w w') :
    w'.cell? ⟨g, 0, none⟩ = some (.int .i64 o) ∧ w'.cell? ⟨g, 1, none⟩ = some (.int .i64 n) ∧ Below w0.heap.size w0 w' := by
  have key : ∀ (o : Nat) (v : Value), w.cell? ⟨g, o, none⟩ = some v → w'.cell? ⟨g, o, none⟩ = some v := fun o v e => (hb.cell (p := ⟨g, o, none⟩) (World.block_lt_of_cell? w ⟨g, o, none⟩ e)).trans e
  exact ⟨key _ _ h.1, key _ _ h.2.1, h.2.2.trans (hb.mono h.2.2.size)⟩

theorem num_k (p : Int) (p0 : 1 ≤ p) (p1 : p ≤ 8) (g : Nat) (o n : Int) (w0 w : World) (h : w.cell? ⟨g, 0, none⟩ = some (.int .i64 o) ∧ w.cell? ⟨g, 1, none⟩ = some (.int .i64 n) ∧ Below w0.heap.size w0 w) :
    Calls Tryz.prog 76 #[.int .i64 p] w fun e w' => e = .returned (.string ⟨#[digitB p]⟩) ∧ w'.cell? ⟨g, 0, none⟩ = some (.int .i64 o) ∧ w'.cell? ⟨g, 1, none⟩ = some (.int .i64 n) ∧ Below w0.heap.size w0 w' :=
  (num_c p p0 p1 w).mono fun e w' hh => ⟨hh.1, hh.2 ▸ h⟩

theorem dig_k (p : Int) (p0 : 1 ≤ p) (p1 : p ≤ 8) (g : Nat) (o n : Int) (w0 w : World) (h : w.cell? ⟨g, 0, none⟩ = some (.int .i64 o) ∧ w.cell? ⟨g, 1, none⟩ = some (.int .i64 n) ∧ Below w0.heap.size w0 w) :
    Calls Tryz.prog 40 #[.int .i64 p] w fun e w' => e = .returned (.string ⟨#[digitB p]⟩) ∧ w'.cell? ⟨g, 0, none⟩ = some (.int .i64 o) ∧ w'.cell? ⟨g, 1, none⟩ = some (.int .i64 n) ∧ Below w0.heap.size w0 w' :=
  (l1Digits_c p p0 p1 w).mono fun e w' hh => ⟨hh.1, keepS h hh.2⟩

set_option maxHeartbeats 400000 in
theorem roleText_c (o n : Int) (h : roleB o n = true) (w : World) :
    Calls Tryz.prog 104 #[.agg #[.int .i64 o, .int .i64 n]] w fun e w' => e = .returned (.string (roleT o n)) ∧ Below w.heap.size w w' := by
  obtain ⟨⟨o1, o8⟩, n1, n5⟩ := roleB_bd h
  clear h
  go_enter Tryz.func104, Tryz.ntmps104
  go_wp2
  go_region_held3 (fun w' => w'.cell? ⟨w.heap.size, 0, none⟩ = some (.int .i64 o) ∧ w'.cell? ⟨w.heap.size, 1, none⟩ = some (.int .i64 n) ∧ Below w.heap.size w w') (first | exact hS | (refine ⟨by go_cell, by go_cell, by go_grown⟩)) (first | (go_at_call 76; refine (num_k _ (by omega) (by omega) w.heap.size o n w _ ?_).mono ?_; (first | assumption | exact ⟨by go_cell, by go_cell, by go_grown⟩); rintro e w1 ⟨rfl, hS⟩))
  go_wp2
  go_ret
  exact ⟨congrArg (fun x => Ending.returned (Value.string x)) (cat3 _ _), hS.2.2⟩

set_option maxHeartbeats 400000 in
theorem l2Text_c (o n : Int) (h : roleB o n = true) (w : World) :
    Calls Tryz.prog 82 #[.agg #[.int .i64 o, .int .i64 n]] w fun e w' => e = .returned (.string (roleT o n)) ∧ Below w.heap.size w w' := by
  obtain ⟨⟨o1, o8⟩, n1, n5⟩ := roleB_bd h
  clear h
  go_enter Tryz.func82, Tryz.ntmps82
  go_wp2
  go_region_held3 (fun w' => w'.cell? ⟨w.heap.size, 0, none⟩ = some (.int .i64 o) ∧ w'.cell? ⟨w.heap.size, 1, none⟩ = some (.int .i64 n) ∧ Below w.heap.size w w') (first | exact hS | (refine ⟨by go_cell, by go_cell, by go_grown⟩)) (first | (go_at_call 40; refine (dig_k _ (by omega) (by omega) w.heap.size o n w _ ?_).mono ?_; (first | assumption | exact ⟨by go_cell, by go_cell, by go_grown⟩); rintro e w1 ⟨rfl, hS⟩))
  go_wp2
  go_ret
  exact ⟨congrArg (fun x => Ending.returned (Value.string x)) (cat3 _ _), hS.2.2⟩

end Go.Proofs.YtnfolmjdicfobaaGreatDoor
