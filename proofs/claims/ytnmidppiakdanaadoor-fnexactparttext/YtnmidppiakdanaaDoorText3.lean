/-
  CONTRACTS on the text of a role: spec.l2Text, impl's Role.text, RoleText of both programs.
  Conditions: each contract bears its own.
-/
import Derived.Test.YtnmidppiakdanaaDoorNum1
import Derived.Test.YtnmidppiakdanaaDoorRole1
import Derived.Deep.RegionHeld3
import Derived.BigQuiet
import Derived.Deep.QuietTactic
namespace Go.Proofs.YtnmidppiakdanaaDoor
open Go.RowKit
set_option linter.unusedVariables false
set_option linter.unusedSimpArgs false

/-- A role's text. -/
def roleT (o n : Int) : ByteArray := ⟨#[digitB o, 46, digitB n]⟩

theorem roleB_bd {o n : Int} (h : roleB o n = true) : (1 ≤ o ∧ o ≤ 8) ∧ (1 ≤ n ∧ n ≤ 5) := by
  simp [roleB, prinB, nameB] at h
  omega

theorem cat3 (a b : UInt8) : (⟨#[a]⟩ : ByteArray) ++ ⟨#[46]⟩ ++ ⟨#[b]⟩ = ⟨#[a, 46, b]⟩ := by
  rw [ByteArray.mk_append_mk, ByteArray.mk_append_mk]
  simp

/-- A role in a block of the call's own, and nothing below has turned. -/
theorem keepS {g : Nat} {o n : Int} {w0 w w' : World} (h : w.cell? ⟨g, 0, none⟩ = some (.int .i64 o) ∧ w.cell? ⟨g, 1, none⟩ = some (.int .i64 n) ∧ Below w0.heap.size w0 w) (hb : Below w.heap.size w w') :
    w'.cell? ⟨g, 0, none⟩ = some (.int .i64 o) ∧ w'.cell? ⟨g, 1, none⟩ = some (.int .i64 n) ∧ Below w0.heap.size w0 w' := by
  have key : ∀ (o : Nat) (v : Value), w.cell? ⟨g, o, none⟩ = some v → w'.cell? ⟨g, o, none⟩ = some v := fun o v e => (hb.cell (p := ⟨g, o, none⟩) (World.block_lt_of_cell? w ⟨g, o, none⟩ e)).trans e
  exact ⟨key _ _ h.1, key _ _ h.2.1, h.2.2.trans (hb.mono h.2.2.size)⟩

theorem num_k (p : Int) (p0 : 1 ≤ p) (p1 : p ≤ 8) (g : Nat) (o n : Int) (w0 w : World) (h : w.cell? ⟨g, 0, none⟩ = some (.int .i64 o) ∧ w.cell? ⟨g, 1, none⟩ = some (.int .i64 n) ∧ Below w0.heap.size w0 w) :
    Calls Tryd.prog 28 #[.int .i64 p] w fun e w' => e = .returned (.string ⟨#[digitB p]⟩) ∧ w'.cell? ⟨g, 0, none⟩ = some (.int .i64 o) ∧ w'.cell? ⟨g, 1, none⟩ = some (.int .i64 n) ∧ Below w0.heap.size w0 w' :=
  (num_c p p0 p1 w).mono fun e w' hh => ⟨hh.1, hh.2 ▸ h⟩

theorem dig_k (p : Int) (p0 : 1 ≤ p) (p1 : p ≤ 8) (g : Nat) (o n : Int) (w0 w : World) (h : w.cell? ⟨g, 0, none⟩ = some (.int .i64 o) ∧ w.cell? ⟨g, 1, none⟩ = some (.int .i64 n) ∧ Below w0.heap.size w0 w) :
    Calls Tryd.prog 25 #[.int .i64 p] w fun e w' => e = .returned (.string ⟨#[digitB p]⟩) ∧ w'.cell? ⟨g, 0, none⟩ = some (.int .i64 o) ∧ w'.cell? ⟨g, 1, none⟩ = some (.int .i64 n) ∧ Below w0.heap.size w0 w' :=
  (l1Digits_c p p0 p1 w).mono fun e w' hh => ⟨hh.1, keepS h hh.2⟩

set_option maxHeartbeats 400000 in
theorem roleText_c (o n : Int) (h : roleB o n = true) (w : World) :
    Calls Tryd.prog 21 #[.agg #[.int .i64 o, .int .i64 n]] w fun e w' => e = .returned (.string (roleT o n)) ∧ Below w.heap.size w w' := by
  obtain ⟨⟨o1, o8⟩, n1, n5⟩ := roleB_bd h
  clear h
  go_enter Tryd.func21, Tryd.ntmps21
  go_wp2
  go_region_held3 (fun w' => w'.cell? ⟨w.heap.size, 0, none⟩ = some (.int .i64 o) ∧ w'.cell? ⟨w.heap.size, 1, none⟩ = some (.int .i64 n) ∧ Below w.heap.size w w') (first | exact hS | (refine ⟨by go_cell, by go_cell, by go_grown⟩)) (first | (go_at_call 28; refine (num_k _ (by omega) (by omega) w.heap.size o n w _ ?_).mono ?_; (first | assumption | exact ⟨by go_cell, by go_cell, by go_grown⟩); rintro e w1 ⟨rfl, hS⟩))
  go_wp2
  go_ret
  exact ⟨congrArg (fun x => Ending.returned (Value.string x)) (cat3 _ _), hS.2.2⟩

set_option maxHeartbeats 400000 in
theorem l2Text_c (o n : Int) (h : roleB o n = true) (w : World) :
    Calls Tryd.prog 18 #[.agg #[.int .i64 o, .int .i64 n]] w fun e w' => e = .returned (.string (roleT o n)) ∧ Below w.heap.size w w' := by
  obtain ⟨⟨o1, o8⟩, n1, n5⟩ := roleB_bd h
  clear h
  go_enter Tryd.func18, Tryd.ntmps18
  go_wp2
  go_region_held3 (fun w' => w'.cell? ⟨w.heap.size, 0, none⟩ = some (.int .i64 o) ∧ w'.cell? ⟨w.heap.size, 1, none⟩ = some (.int .i64 n) ∧ Below w.heap.size w w') (first | exact hS | (refine ⟨by go_cell, by go_cell, by go_grown⟩)) (first | (go_at_call 25; refine (dig_k _ (by omega) (by omega) w.heap.size o n w _ ?_).mono ?_; (first | assumption | exact ⟨by go_cell, by go_cell, by go_grown⟩); rintro e w1 ⟨rfl, hS⟩))
  go_wp2
  go_ret
  exact ⟨congrArg (fun x => Ending.returned (Value.string x)) (cat3 _ _), hS.2.2⟩

end Go.Proofs.YtnmidppiakdanaaDoor
