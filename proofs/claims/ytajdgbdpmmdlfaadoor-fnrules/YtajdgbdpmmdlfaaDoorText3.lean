/-
  CONTRACTS on the text of a role: spec.l2Text, impl's Role.text, RoleText of both programs.
  Conditions: each contract bears its own.
-/
import Derived.Test.YtajdgbdpmmdlfaaDoorNum1
import Derived.Test.YtajdgbdpmmdlfaaDoorRole1
import Derived.Deep.RegionHeld3
import Derived.BigQuiet
import Derived.Deep.QuietTactic
namespace Go.Proofs.YtajdgbdpmmdlfaaDoor
open Go.RowKit
set_option linter.unusedVariables false
set_option linter.unusedSimpArgs false

/-- A role's text. -/
def roleT (o n : Int) : ByteArray := ⟨#[digitB o, 46, digitB n]⟩

theorem roleB_bd {o n : Int} (h : roleB o n = true) : (1 ≤ o ∧ o ≤ 8) ∧ (1 ≤ n ∧ n ≤ 5) := by
  simp [roleB, prinB, nameB] at h
  omega

theorem cat3 (a b : UInt8) : (⟨#[a]⟩ : ByteArray) ++ ⟨#[46]⟩ ++ ⟨#[b]⟩ = ⟨#[a, 46, b]⟩ := by
  rw [ByteArray.mk_append_mk, ByteArray.mk_append_mk]
  simp

/-- A role in a block of the call's own, and nothing below has turned. -/
theorem keepS {g : Nat} {o n : Int} {w0 w w' : World} (h : w.cell? ⟨g, 0, none⟩ = some (.int .i64 o) ∧ w.cell? ⟨g, 1, none⟩ = some (.int .i64 n) ∧ Below w0.heap.size w0 w) (hb : Below w.heap.size w w') :
    w'.cell? ⟨g, 0, none⟩ = some (.int .i64 o) ∧ w'.cell? ⟨g, 1, none⟩ = some (.int .i64 n) ∧ Below w0.heap.size w0 w' := by
  have key : ∀ (o : Nat) (v : Value), w.cell? ⟨g, o, none⟩ = some v → w'.cell? ⟨g, o, none⟩ = some v := fun o v e => (hb.cell (p := ⟨g, o, none⟩) (World.block_lt_of_cell? w ⟨g, o, none⟩ e)).trans e
  exact ⟨key _ _ h.1, key _ _ h.2.1, h.2.2.trans (hb.mono h.2.2.size)⟩

theorem num_k (p : Int) (p0 : 1 ≤ p) (p1 : p ≤ 8) (g : Nat) (o n : Int) (w0 w : World) (h : w.cell? ⟨g, 0, none⟩ = some (.int .i64 o) ∧ w.cell? ⟨g, 1, none⟩ = some (.int .i64 n) ∧ Below w0.heap.size w0 w) :
    Calls Tryd.prog 70 #[.int .i64 p] w fun e w' => e = .returned (.string ⟨#[digitB p]⟩) ∧ w'.cell? ⟨g, 0, none⟩ = some (.int .i64 o) ∧ w'.cell? ⟨g, 1, none⟩ = some (.int .i64 n) ∧ Below w0.heap.size w0 w' :=
  (num_c p p0 p1 w).mono fun e w' hh => ⟨hh.1, hh.2 ▸ h⟩

theorem dig_k (p : Int) (p0 : 1 ≤ p) (p1 : p ≤ 8) (g : Nat) (o n : Int) (w0 w : World) (h : w.cell? ⟨g, 0, none⟩ = some (.int .i64 o) ∧ w.cell? ⟨g, 1, none⟩ = some (.int .i64 n) ∧ Below w0.heap.size w0 w) :
    Calls Tryd.prog 69 #[.int .i64 p] w fun e w' => e = .returned (.string ⟨#[digitB p]⟩) ∧ w'.cell? ⟨g, 0, none⟩ = some (.int .i64 o) ∧ w'.cell? ⟨g, 1, none⟩ = some (.int .i64 n) ∧ Below w0.heap.size w0 w' :=
  (l1Digits_c p p0 p1 w).mono fun e w' hh => ⟨hh.1, keepS h hh.2⟩

set_option maxHeartbeats 400000 in
theorem roleText_c (o n : Int) (h : roleB o n = true) (w : World) :
    Calls Tryd.prog 57 #[.agg #[.int .i64 o, .int .i64 n]] w fun e w' => e = .returned (.string (roleT o n)) ∧ Below w.heap.size w w' := by
  obtain ⟨⟨o1, o8⟩, n1, n5⟩ := roleB_bd h
  clear h
  go_enter Tryd.func57, Tryd.ntmps57
  go_wp2
  go_region_held3 (fun w' => w'.cell? ⟨w.heap.size, 0, none⟩ = some (.int .i64 o) ∧ w'.cell? ⟨w.heap.size, 1, none⟩ = some (.int .i64 n) ∧ Below w.heap.size w w') (first | exact hS | (refine ⟨by go_cell, by go_cell, by go_grown⟩)) (first | (go_at_call 70; refine (num_k _ (by omega) (by omega) w.heap.size o n w _ ?_).mono ?_; (first | assumption | exact ⟨by go_cell, by go_cell, by go_grown⟩); rintro e w1 ⟨rfl, hS⟩))
  go_wp2
  go_ret
  exact ⟨congrArg (fun x => Ending.returned (Value.string x)) (cat3 _ _), hS.2.2⟩

set_option maxHeartbeats 400000 in
theorem l2Text_c (o n : Int) (h : roleB o n = true) (w : World) :
    Calls Tryd.prog 67 #[.agg #[.int .i64 o, .int .i64 n]] w fun e w' => e = .returned (.string (roleT o n)) ∧ Below w.heap.size w w' := by
  obtain ⟨⟨o1, o8⟩, n1, n5⟩ := roleB_bd h
  clear h
  go_enter Tryd.func67, Tryd.ntmps67
  go_wp2
  go_region_held3 (fun w' => w'.cell? ⟨w.heap.size, 0, none⟩ = some (.int .i64 o) ∧ w'.cell? ⟨w.heap.size, 1, none⟩ = some (.int .i64 n) ∧ Below w.heap.size w w') (first | exact hS | (refine ⟨by go_cell, by go_cell, by go_grown⟩)) (first | (go_at_call 69; refine (dig_k _ (by omega) (by omega) w.heap.size o n w _ ?_).mono ?_; (first | assumption | exact ⟨by go_cell, by go_cell, by go_grown⟩); rintro e w1 ⟨rfl, hS⟩))
  go_wp2
  go_ret
  exact ⟨congrArg (fun x => Ending.returned (Value.string x)) (cat3 _ _), hS.2.2⟩

set_option maxHeartbeats 400000 in
theorem specRoleText_in (o n : Int) (h : roleB o n = true) (w : World) :
    Calls Tryd.prog 35 #[.agg #[.int .i64 o, .int .i64 n]] w fun e w' => e = .returned (.agg #[.int .i64 0, .string (roleT o n)]) ∧ Below w.heap.size w w' := by
  go_enter Tryd.func35, Tryd.ntmps35
  go_wp2_with (first | (go_at_call 66; refine (l2Role_c _ _ _).mono ?_; rintro e w1 ⟨rfl, hb1⟩; rw [h]; obtain ⟨hc1, hf1⟩ := bcell hb1; have hz1 := hb1.size; simp only [World.size_alloc] at hc1 hf1 hz1; have hlt0 : w.heap.size < w1.heap.size := (by omega); have hlt1 : w.heap.size + 1 < w1.heap.size := by omega) | (go_at_call 67; refine (l2Text_c _ _ h _).mono ?_; rintro e w2 ⟨rfl, hb2⟩; obtain ⟨hc2, hf2⟩ := bcell hb2; have hz2 := hb2.size; have hlt2 : w.heap.size + 1 < w2.heap.size := by omega))
  have c0 : w2.cell? ⟨w.heap.size + 1, 0, none⟩ = some (.int .i64 0) := (hc2 _ _ hlt1).trans ((hc1 _ _ (by omega)).trans (by go_cell))
  have c1 : w2.cell? ⟨w.heap.size + 1, 1, none⟩ = some (.string ⟨#[]⟩) := (hc2 _ _ hlt1).trans ((hc1 _ _ (by omega)).trans (by go_cell))
  refine bodyPost_ret (v := .agg #[.int .i64 0, .string (roleT o n)]) (by simp [results, Tryd.results35, go_sem, c0, c1]) rfl ⟨rfl, ?_⟩
  exact (((below_new (below_new hb1)).trans (hb2.mono (by omega))).setCell (by simp) _).setCell (by simp) _

set_option maxHeartbeats 400000 in
theorem implRoleText_in (o n : Int) (h : roleB o n = true) (w : World) :
    Calls Tryd.prog 30 #[.agg #[.int .i64 o, .int .i64 n]] w fun e w' => e = .returned (.agg #[.int .i64 0, .string (roleT o n)]) ∧ Below w.heap.size w w' := by
  have hc : roleCode o n = 0 := by simp [roleCode, h]
  go_enter Tryd.func30, Tryd.ntmps30
  go_wp2_with (first | (go_at_call 31; refine (implRoleFault_c _ _ _).mono ?_; rintro e w1 ⟨rfl, hb1⟩; rw [hc]; obtain ⟨hc1, hf1⟩ := bcell hb1; have hz1 := hb1.size; simp only [World.size_alloc] at hc1 hf1 hz1; have hlt0 : w.heap.size < w1.heap.size := (by omega); have hlt1 : w.heap.size + 1 < w1.heap.size := by omega) | (go_at_call 57; refine (roleText_c _ _ h _).mono ?_; rintro e w2 ⟨rfl, hb2⟩; obtain ⟨hc2, hf2⟩ := bcell hb2; have hz2 := hb2.size; have hlt2 : w.heap.size + 1 < w2.heap.size := by omega))
  have c0 : w2.cell? ⟨w.heap.size + 1, 0, none⟩ = some (.int .i64 0) := (hc2 _ _ hlt1).trans ((hc1 _ _ (by omega)).trans (by go_cell))
  have c1 : w2.cell? ⟨w.heap.size + 1, 1, none⟩ = some (.string ⟨#[]⟩) := (hc2 _ _ hlt1).trans ((hc1 _ _ (by omega)).trans (by go_cell))
  refine bodyPost_ret (v := .agg #[.int .i64 0, .string (roleT o n)]) (by simp [results, Tryd.results30, go_sem, c0, c1]) rfl ⟨rfl, ?_⟩
  exact (((below_new (below_new hb1)).trans (hb2.mono (by omega))).setCell (by simp) _).setCell (by simp) _

set_option maxHeartbeats 400000 in
theorem specRoleText_out (o n : Int) (h : roleB o n = false) (w : World) :
    Calls Tryd.prog 35 #[.agg #[.int .i64 o, .int .i64 n]] w fun e w' => e = .returned (.agg #[.int .i64 3, .string ⟨#[]⟩]) ∧ Below w.heap.size w w' := by
  go_enter Tryd.func35, Tryd.ntmps35
  go_wp2_with (first | (go_at_call 66; refine (l2Role_c _ _ _).mono ?_; rintro e w1 ⟨rfl, hb1⟩; rw [h]; obtain ⟨hc1, hf1⟩ := bcell hb1; have hz1 := hb1.size; simp only [World.size_alloc] at hc1 hf1 hz1; have hlt0 : w.heap.size < w1.heap.size := (by omega); have hlt1 : w.heap.size + 1 < w1.heap.size := by omega))
  have c0 : w1.cell? ⟨w.heap.size + 1, 0, none⟩ = some (.int .i64 0) := (hc1 _ _ (by omega)).trans (by go_cell)
  have c1 : w1.cell? ⟨w.heap.size + 1, 1, none⟩ = some (.string ⟨#[]⟩) := (hc1 _ _ (by omega)).trans (by go_cell)
  refine bodyPost_ret (v := .agg #[.int .i64 3, .string ⟨#[]⟩]) (by simp [results, Tryd.results35, go_sem, c0, c1]) rfl ⟨rfl, ?_⟩
  exact ((below_new (below_new hb1)).setCell (by simp) _).setCell (by simp) _

set_option maxHeartbeats 400000 in
theorem implRoleText_out (o n : Int) (h : roleB o n = false) (w : World) :
    Calls Tryd.prog 30 #[.agg #[.int .i64 o, .int .i64 n]] w fun e w' => e = .returned (.agg #[.int .i64 3, .string ⟨#[]⟩]) ∧ Below w.heap.size w w' := by
  have hc : roleCode o n = 3 := by simp [roleCode, h]
  go_enter Tryd.func30, Tryd.ntmps30
  go_wp2_with (first | (go_at_call 31; refine (implRoleFault_c _ _ _).mono ?_; rintro e w1 ⟨rfl, hb1⟩; rw [hc]; obtain ⟨hc1, hf1⟩ := bcell hb1; have hz1 := hb1.size; simp only [World.size_alloc] at hc1 hf1 hz1; have hlt0 : w.heap.size < w1.heap.size := (by omega); have hlt1 : w.heap.size + 1 < w1.heap.size := by omega))
  have c0 : w1.cell? ⟨w.heap.size + 1, 0, none⟩ = some (.int .i64 0) := (hc1 _ _ (by omega)).trans (by go_cell)
  have c1 : w1.cell? ⟨w.heap.size + 1, 1, none⟩ = some (.string ⟨#[]⟩) := (hc1 _ _ (by omega)).trans (by go_cell)
  refine bodyPost_ret (v := .agg #[.int .i64 3, .string ⟨#[]⟩]) (by simp [results, Tryd.results30, go_sem, c0, c1]) rfl ⟨rfl, ?_⟩
  exact ((below_new (below_new hb1)).setCell (by simp) _).setCell (by simp) _

end Go.Proofs.YtajdgbdpmmdlfaaDoor
