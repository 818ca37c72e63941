/-
  CONTRACTS on the line of a rule: impl's bodyText.
  Conditions: each contract bears its own.
-/
import Derived.Test.YtajdgbdpmmdlfaaDoorLine0
namespace Go.Proofs.YtajdgbdpmmdlfaaDoor
open Go.RowKit
set_option linter.unusedVariables false
set_option linter.unusedSimpArgs false
attribute [local go_sem] ta11 ta12 ta13 ta14 ta21 ta22 ta23 ta24 ta31 ta32 ta33 ta34 ta41 ta42 ta43 ta44

set_option maxHeartbeats 400000 in
theorem bodyText_1 (r : RuleI) (h : r.k = 1) (hw : prinB r.w = true) (w : World) :
    Calls Tryd.prog 58 #[.iface 106 (.agg #[.int .i64 r.w])] w fun e w' => e = .returned (.string (tailT r)) ∧ Below w.heap.size w w' := by
  have E : Hid (tailT r = ⟨#[digitB r.w]⟩) := tail_1 r h
  have hw' : 1 ≤ r.w ∧ r.w ≤ 8 := by simpa [prinB] using hw
  obtain ⟨w1, w8⟩ := hw'
  go_enter Tryd.func58, Tryd.ntmps58
  go_wp2_with (first | (go_at_call 70; refine (num_c _ (by omega) (by omega) _).mono ?_; rintro e w1 ⟨rfl, rfl⟩))
  go_ret
  exact ⟨by rw [E.out]; rfl, by go_grown⟩

set_option maxHeartbeats 400000 in
theorem bodyText_2 (r : RuleI) (h : r.k = 2) (hr : roleB r.oo r.on = true) (w : World) :
    Calls Tryd.prog 58 #[.iface 108 (.agg #[.int .i64 r.oo, .int .i64 r.on])] w fun e w' => e = .returned (.string (tailT r)) ∧ Below w.heap.size w w' := by
  have E : Hid (tailT r = roleT r.oo r.on) := tail_2 r h
  go_enter Tryd.func58, Tryd.ntmps58
  go_wp2_with (first | (go_at_call 57; refine (roleText_c _ _ hr _).mono ?_; rintro e w1 ⟨rfl, hb1⟩))
  go_ret
  exact ⟨by rw [E.out]; rfl, below_new hb1⟩

set_option maxHeartbeats 400000 in
theorem bodyText_3 (r : RuleI) (h : r.k = 3) (hr : roleB r.oo r.on = true) (hn : nameB r.tn = true) (w : World) :
    Calls Tryd.prog 58 #[.iface 110 (.agg #[.int .i64 r.oo, .int .i64 r.on, .int .i64 r.tn])] w fun e w' => e = .returned (.string (tailT r)) ∧ Below w.heap.size w w' := by
  have E : Hid (tailT r = roleT r.oo r.on ++ ⟨#[46]⟩ ++ ⟨#[digitB r.tn]⟩) := tail_3 r h
  have hs1 : (roleT r.oo r.on).size = 3 := rfl
  have hn' : 1 ≤ r.tn ∧ r.tn ≤ 5 := by simpa [nameB] using hn
  obtain ⟨n1, n5⟩ := hn'
  go_enter Tryd.func58, Tryd.ntmps58
  go_wp2
  go_region_held3 (fun w' => w'.cell? ⟨w.heap.size, 0, none⟩ = some (.int .i64 r.oo) ∧ w'.cell? ⟨w.heap.size, 1, none⟩ = some (.int .i64 r.on) ∧ w'.cell? ⟨w.heap.size, 2, none⟩ = some (.int .i64 r.tn) ∧ Below w.heap.size w w') (first | exact hS | (refine ⟨by go_cell, by go_cell, by go_cell, by go_grown⟩))
    (first
      | (go_at_call 70; refine (withS (S := fun w' => w'.cell? ⟨w.heap.size, 0, none⟩ = some (.int .i64 r.oo) ∧ w'.cell? ⟨w.heap.size, 1, none⟩ = some (.int .i64 r.on) ∧ w'.cell? ⟨w.heap.size, 2, none⟩ = some (.int .i64 r.tn) ∧ Below w.heap.size w w') (fun w' hb => keepS3 ?_ hb) ((num_c _ (by omega) (by omega) _).mono fun e w' hh => ⟨hh.1, hh.2 ▸ Below.refl _ _⟩)).mono ?_; (first | assumption | exact ⟨by go_cell, by go_cell, by go_cell, by go_grown⟩); rintro e w1 ⟨rfl, hS⟩)
      | (go_at_call 57; refine (withS (S := fun w' => w'.cell? ⟨w.heap.size, 0, none⟩ = some (.int .i64 r.oo) ∧ w'.cell? ⟨w.heap.size, 1, none⟩ = some (.int .i64 r.on) ∧ w'.cell? ⟨w.heap.size, 2, none⟩ = some (.int .i64 r.tn) ∧ Below w.heap.size w w') (fun w' hb => keepS3 ?_ hb) (roleText_c _ _ hr _)).mono ?_; (first | assumption | exact ⟨by go_cell, by go_cell, by go_cell, by go_grown⟩); rintro e w1 ⟨rfl, hS⟩))
  go_wp2
  go_ret
  exact ⟨by rw [E.out]; rfl, hS.2.2.2⟩

set_option maxRecDepth 20000 in
set_option maxHeartbeats 1000000 in
theorem bodyText_4 (r : RuleI) (h : r.k = 4) (hr : roleB r.oo r.on = true) (ht : roleB r.to r.tn = true) (w : World) :
    Calls Tryd.prog 58 #[.iface 112 (.agg #[.int .i64 r.oo, .int .i64 r.on, .int .i64 r.to, .int .i64 r.tn])] w fun e w' => e = .returned (.string (tailT r)) ∧ Below w.heap.size w w' := by
  have E : Hid (tailT r = roleT r.oo r.on ++ ⟨#[32, 38, 32]⟩ ++ roleT r.to r.tn) := tail_4 r h
  have hs1 : (roleT r.oo r.on).size = 3 := rfl
  have hs2 : (roleT r.to r.tn).size = 3 := rfl
  go_enter Tryd.func58, Tryd.ntmps58
  go_wp2
  go_region_held3 (fun w' => w'.cell? ⟨w.heap.size, 0, none⟩ = some (.int .i64 r.oo) ∧ w'.cell? ⟨w.heap.size, 1, none⟩ = some (.int .i64 r.on) ∧ w'.cell? ⟨w.heap.size, 2, none⟩ = some (.int .i64 r.to) ∧ w'.cell? ⟨w.heap.size, 3, none⟩ = some (.int .i64 r.tn) ∧ Below w.heap.size w w') (first | exact hS | (refine ⟨by go_cell, by go_cell, by go_cell, by go_cell, by go_grown⟩))
    (first
      | (go_at_call 57; refine (withS (S := fun w' => w'.cell? ⟨w.heap.size, 0, none⟩ = some (.int .i64 r.oo) ∧ w'.cell? ⟨w.heap.size, 1, none⟩ = some (.int .i64 r.on) ∧ w'.cell? ⟨w.heap.size, 2, none⟩ = some (.int .i64 r.to) ∧ w'.cell? ⟨w.heap.size, 3, none⟩ = some (.int .i64 r.tn) ∧ Below w.heap.size w w') (fun w' hb => keepS4 ?_ hb) (roleText_c _ _ (by assumption) _)).mono ?_; (first | assumption | exact ⟨by go_cell, by go_cell, by go_cell, by go_cell, by go_grown⟩); rintro e w1 ⟨rfl, hS⟩))
  go_wp2
  go_ret
  exact ⟨by rw [E.out]; rfl, hS.2.2.2.2⟩

end Go.Proofs.YtajdgbdpmmdlfaaDoor
