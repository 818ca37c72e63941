/-
  CONTRACTS on rules in impl: withoutBody, hasStray.
  Conditions: each contract bears its own.
  CONTRACTS on rules: spec.l2Rule, spec.RuleFault.
  Conditions: each contract bears its own.
  CONTRACT of impl.RuleFault.
  Conditions: none.
  CONTRACTS on the line of a rule: what it is.
  Conditions: each contract bears its own.
-/
import Derived.Test.YtnfolmjdicfobaaGreatDoorPc03
import Derived.Deep.RegionHeld3
import Derived.BigQuiet
import Derived.Deep.QuietTactic
import Derived.Test.YtnfolmjdicfobaaGreatDoorPc07
import Derived.Test.YtnfolmjdicfobaaGreatDoorPc02
namespace Go.Proofs.YtnfolmjdicfobaaGreatDoor
open Go.RowKit
set_option linter.unusedVariables false
set_option linter.unusedSimpArgs false

theorem keep8 {w w' : World} {g : Nat} {k ho hn wh oo on tw tn : Int} (h : w.cell? ⟨g, 0, none⟩ = some (.int .i64 k) ∧ w.cell? ⟨g, 1, none⟩ = some (.int .i64 ho) ∧ w.cell? ⟨g, 2, none⟩ = some (.int .i64 hn) ∧ w.cell? ⟨g, 3, none⟩ = some (.int .i64 wh) ∧ w.cell? ⟨g, 4, none⟩ = some (.int .i64 oo) ∧ w.cell? ⟨g, 5, none⟩ = some (.int .i64 on) ∧ w.cell? ⟨g, 6, none⟩ = some (.int .i64 tw) ∧ w.cell? ⟨g, 7, none⟩ = some (.int .i64 tn)) (hb : Below w.heap.size w w') : w'.cell? ⟨g, 0, none⟩ = some (.int .i64 k) ∧ w'.cell? ⟨g, 1, none⟩ = some (.int .i64 ho) ∧ w'.cell? ⟨g, 2, none⟩ = some (.int .i64 hn) ∧ w'.cell? ⟨g, 3, none⟩ = some (.int .i64 wh) ∧ w'.cell? ⟨g, 4, none⟩ = some (.int .i64 oo) ∧ w'.cell? ⟨g, 5, none⟩ = some (.int .i64 on) ∧ w'.cell? ⟨g, 6, none⟩ = some (.int .i64 tw) ∧ w'.cell? ⟨g, 7, none⟩ = some (.int .i64 tn) := by
  have key : ∀ (o : Nat) (v : Value), w.cell? ⟨g, o, none⟩ = some v → w'.cell? ⟨g, o, none⟩ = some v := fun o v e => (hb.cell (p := ⟨g, o, none⟩) (World.block_lt_of_cell? w ⟨g, o, none⟩ e)).trans e
  obtain ⟨h0, h1, h2, h3, h4, h5, h6, h7⟩ := h
  exact ⟨key _ _ h0, key _ _ h1, key _ _ h2, key _ _ h3, key _ _ h4, key _ _ h5, key _ _ h6, key _ _ h7⟩

set_option maxHeartbeats 400000 in
theorem without_1 (ho hn wh oo on tw tn : Int) (g : Nat) (w : World) (hS : w.cell? ⟨g, 0, none⟩ = some (.int .i64 1) ∧ w.cell? ⟨g, 1, none⟩ = some (.int .i64 ho) ∧ w.cell? ⟨g, 2, none⟩ = some (.int .i64 hn) ∧ w.cell? ⟨g, 3, none⟩ = some (.int .i64 wh) ∧ w.cell? ⟨g, 4, none⟩ = some (.int .i64 oo) ∧ w.cell? ⟨g, 5, none⟩ = some (.int .i64 on) ∧ w.cell? ⟨g, 6, none⟩ = some (.int .i64 tw) ∧ w.cell? ⟨g, 7, none⟩ = some (.int .i64 tn)) :
    Calls Tryz.prog 163 #[.agg #[.int .i64 1, .int .i64 ho, .int .i64 hn, .int .i64 wh, .int .i64 oo, .int .i64 on, .int .i64 tw, .int .i64 tn]] w fun e w' =>
      e = .returned (.agg #[.int .i64 1, .int .i64 ho, .int .i64 hn, .int .i64 0, .int .i64 oo, .int .i64 on, .int .i64 tw, .int .i64 tn]) ∧ (w'.cell? ⟨g, 0, none⟩ = some (.int .i64 1) ∧ w'.cell? ⟨g, 1, none⟩ = some (.int .i64 ho) ∧ w'.cell? ⟨g, 2, none⟩ = some (.int .i64 hn) ∧ w'.cell? ⟨g, 3, none⟩ = some (.int .i64 wh) ∧ w'.cell? ⟨g, 4, none⟩ = some (.int .i64 oo) ∧ w'.cell? ⟨g, 5, none⟩ = some (.int .i64 on) ∧ w'.cell? ⟨g, 6, none⟩ = some (.int .i64 tw) ∧ w'.cell? ⟨g, 7, none⟩ = some (.int .i64 tn)) ∧ Below w.heap.size w w' := by
  have hS' : Hid (w.cell? ⟨g, 0, none⟩ = some (.int .i64 1) ∧ w.cell? ⟨g, 1, none⟩ = some (.int .i64 ho) ∧ w.cell? ⟨g, 2, none⟩ = some (.int .i64 hn) ∧ w.cell? ⟨g, 3, none⟩ = some (.int .i64 wh) ∧ w.cell? ⟨g, 4, none⟩ = some (.int .i64 oo) ∧ w.cell? ⟨g, 5, none⟩ = some (.int .i64 on) ∧ w.cell? ⟨g, 6, none⟩ = some (.int .i64 tw) ∧ w.cell? ⟨g, 7, none⟩ = some (.int .i64 tn)) := hS
  have hg : g < w.heap.size := World.block_lt_of_cell? w ⟨g, 0, none⟩ hS.1
  clear hS
  go_enter Tryz.func163, Tryz.ntmps163
  go_wp2
  go_returns
  exact ⟨rfl, keep8 hS'.out (by go_grown), by go_grown⟩

set_option maxHeartbeats 400000 in
theorem without_2 (ho hn wh oo on tw tn : Int) (g : Nat) (w : World) (hS : w.cell? ⟨g, 0, none⟩ = some (.int .i64 2) ∧ w.cell? ⟨g, 1, none⟩ = some (.int .i64 ho) ∧ w.cell? ⟨g, 2, none⟩ = some (.int .i64 hn) ∧ w.cell? ⟨g, 3, none⟩ = some (.int .i64 wh) ∧ w.cell? ⟨g, 4, none⟩ = some (.int .i64 oo) ∧ w.cell? ⟨g, 5, none⟩ = some (.int .i64 on) ∧ w.cell? ⟨g, 6, none⟩ = some (.int .i64 tw) ∧ w.cell? ⟨g, 7, none⟩ = some (.int .i64 tn)) :
    Calls Tryz.prog 163 #[.agg #[.int .i64 2, .int .i64 ho, .int .i64 hn, .int .i64 wh, .int .i64 oo, .int .i64 on, .int .i64 tw, .int .i64 tn]] w fun e w' =>
      e = .returned (.agg #[.int .i64 2, .int .i64 ho, .int .i64 hn, .int .i64 wh, .int .i64 0, .int .i64 0, .int .i64 tw, .int .i64 tn]) ∧ (w'.cell? ⟨g, 0, none⟩ = some (.int .i64 2) ∧ w'.cell? ⟨g, 1, none⟩ = some (.int .i64 ho) ∧ w'.cell? ⟨g, 2, none⟩ = some (.int .i64 hn) ∧ w'.cell? ⟨g, 3, none⟩ = some (.int .i64 wh) ∧ w'.cell? ⟨g, 4, none⟩ = some (.int .i64 oo) ∧ w'.cell? ⟨g, 5, none⟩ = some (.int .i64 on) ∧ w'.cell? ⟨g, 6, none⟩ = some (.int .i64 tw) ∧ w'.cell? ⟨g, 7, none⟩ = some (.int .i64 tn)) ∧ Below w.heap.size w w' := by
  have hS' : Hid (w.cell? ⟨g, 0, none⟩ = some (.int .i64 2) ∧ w.cell? ⟨g, 1, none⟩ = some (.int .i64 ho) ∧ w.cell? ⟨g, 2, none⟩ = some (.int .i64 hn) ∧ w.cell? ⟨g, 3, none⟩ = some (.int .i64 wh) ∧ w.cell? ⟨g, 4, none⟩ = some (.int .i64 oo) ∧ w.cell? ⟨g, 5, none⟩ = some (.int .i64 on) ∧ w.cell? ⟨g, 6, none⟩ = some (.int .i64 tw) ∧ w.cell? ⟨g, 7, none⟩ = some (.int .i64 tn)) := hS
  have hg : g < w.heap.size := World.block_lt_of_cell? w ⟨g, 0, none⟩ hS.1
  clear hS
  go_enter Tryz.func163, Tryz.ntmps163
  go_wp2
  go_returns
  exact ⟨rfl, keep8 hS'.out (by go_grown), by go_grown⟩

set_option maxHeartbeats 400000 in
theorem without_3 (ho hn wh oo on tw tn : Int) (g : Nat) (w : World) (hS : w.cell? ⟨g, 0, none⟩ = some (.int .i64 3) ∧ w.cell? ⟨g, 1, none⟩ = some (.int .i64 ho) ∧ w.cell? ⟨g, 2, none⟩ = some (.int .i64 hn) ∧ w.cell? ⟨g, 3, none⟩ = some (.int .i64 wh) ∧ w.cell? ⟨g, 4, none⟩ = some (.int .i64 oo) ∧ w.cell? ⟨g, 5, none⟩ = some (.int .i64 on) ∧ w.cell? ⟨g, 6, none⟩ = some (.int .i64 tw) ∧ w.cell? ⟨g, 7, none⟩ = some (.int .i64 tn)) :
    Calls Tryz.prog 163 #[.agg #[.int .i64 3, .int .i64 ho, .int .i64 hn, .int .i64 wh, .int .i64 oo, .int .i64 on, .int .i64 tw, .int .i64 tn]] w fun e w' =>
      e = .returned (.agg #[.int .i64 3, .int .i64 ho, .int .i64 hn, .int .i64 wh, .int .i64 0, .int .i64 0, .int .i64 tw, .int .i64 0]) ∧ (w'.cell? ⟨g, 0, none⟩ = some (.int .i64 3) ∧ w'.cell? ⟨g, 1, none⟩ = some (.int .i64 ho) ∧ w'.cell? ⟨g, 2, none⟩ = some (.int .i64 hn) ∧ w'.cell? ⟨g, 3, none⟩ = some (.int .i64 wh) ∧ w'.cell? ⟨g, 4, none⟩ = some (.int .i64 oo) ∧ w'.cell? ⟨g, 5, none⟩ = some (.int .i64 on) ∧ w'.cell? ⟨g, 6, none⟩ = some (.int .i64 tw) ∧ w'.cell? ⟨g, 7, none⟩ = some (.int .i64 tn)) ∧ Below w.heap.size w w' := by
  have hS' : Hid (w.cell? ⟨g, 0, none⟩ = some (.int .i64 3) ∧ w.cell? ⟨g, 1, none⟩ = some (.int .i64 ho) ∧ w.cell? ⟨g, 2, none⟩ = some (.int .i64 hn) ∧ w.cell? ⟨g, 3, none⟩ = some (.int .i64 wh) ∧ w.cell? ⟨g, 4, none⟩ = some (.int .i64 oo) ∧ w.cell? ⟨g, 5, none⟩ = some (.int .i64 on) ∧ w.cell? ⟨g, 6, none⟩ = some (.int .i64 tw) ∧ w.cell? ⟨g, 7, none⟩ = some (.int .i64 tn)) := hS
  have hg : g < w.heap.size := World.block_lt_of_cell? w ⟨g, 0, none⟩ hS.1
  clear hS
  go_enter Tryz.func163, Tryz.ntmps163
  go_wp2
  go_returns
  exact ⟨rfl, keep8 hS'.out (by go_grown), by go_grown⟩

set_option maxHeartbeats 400000 in
theorem without_4 (ho hn wh oo on tw tn : Int) (g : Nat) (w : World) (hS : w.cell? ⟨g, 0, none⟩ = some (.int .i64 4) ∧ w.cell? ⟨g, 1, none⟩ = some (.int .i64 ho) ∧ w.cell? ⟨g, 2, none⟩ = some (.int .i64 hn) ∧ w.cell? ⟨g, 3, none⟩ = some (.int .i64 wh) ∧ w.cell? ⟨g, 4, none⟩ = some (.int .i64 oo) ∧ w.cell? ⟨g, 5, none⟩ = some (.int .i64 on) ∧ w.cell? ⟨g, 6, none⟩ = some (.int .i64 tw) ∧ w.cell? ⟨g, 7, none⟩ = some (.int .i64 tn)) :
    Calls Tryz.prog 163 #[.agg #[.int .i64 4, .int .i64 ho, .int .i64 hn, .int .i64 wh, .int .i64 oo, .int .i64 on, .int .i64 tw, .int .i64 tn]] w fun e w' =>
      e = .returned (.agg #[.int .i64 4, .int .i64 ho, .int .i64 hn, .int .i64 wh, .int .i64 0, .int .i64 0, .int .i64 0, .int .i64 0]) ∧ (w'.cell? ⟨g, 0, none⟩ = some (.int .i64 4) ∧ w'.cell? ⟨g, 1, none⟩ = some (.int .i64 ho) ∧ w'.cell? ⟨g, 2, none⟩ = some (.int .i64 hn) ∧ w'.cell? ⟨g, 3, none⟩ = some (.int .i64 wh) ∧ w'.cell? ⟨g, 4, none⟩ = some (.int .i64 oo) ∧ w'.cell? ⟨g, 5, none⟩ = some (.int .i64 on) ∧ w'.cell? ⟨g, 6, none⟩ = some (.int .i64 tw) ∧ w'.cell? ⟨g, 7, none⟩ = some (.int .i64 tn)) ∧ Below w.heap.size w w' := by
  have hS' : Hid (w.cell? ⟨g, 0, none⟩ = some (.int .i64 4) ∧ w.cell? ⟨g, 1, none⟩ = some (.int .i64 ho) ∧ w.cell? ⟨g, 2, none⟩ = some (.int .i64 hn) ∧ w.cell? ⟨g, 3, none⟩ = some (.int .i64 wh) ∧ w.cell? ⟨g, 4, none⟩ = some (.int .i64 oo) ∧ w.cell? ⟨g, 5, none⟩ = some (.int .i64 on) ∧ w.cell? ⟨g, 6, none⟩ = some (.int .i64 tw) ∧ w.cell? ⟨g, 7, none⟩ = some (.int .i64 tn)) := hS
  have hg : g < w.heap.size := World.block_lt_of_cell? w ⟨g, 0, none⟩ hS.1
  clear hS
  go_enter Tryz.func163, Tryz.ntmps163
  go_wp2
  go_returns
  exact ⟨rfl, keep8 hS'.out (by go_grown), by go_grown⟩

theorem below_newD {w w1 : World} {o : Obj} (h : Below (w.alloc o).drew.heap.size (w.alloc o).drew w1) : Below w.heap.size w w1 := (((Below.refl _ _).alloc (Nat.le_refl _) _).drew).trans (h.mono (by simp))

set_option maxHeartbeats 2000000 in
theorem stray_1 (ho hn wh oo on tw tn : Int) (w : World) :
    Calls Tryz.prog 147 #[.agg #[.int .i64 1, .int .i64 ho, .int .i64 hn, .int .i64 wh, .int .i64 oo, .int .i64 on, .int .i64 tw, .int .i64 tn]] w fun e w' => e = .returned (.bool (!(oo == 0 && on == 0 && tw == 0 && tn == 0))) ∧ Below w.heap.size w w' := by
  cases e1 : (oo == 0)
  · skip
    go_enter Tryz.func147, Tryz.ntmps147
    go_wp2
    go_region_held3 (fun w' => w'.cell? ⟨w.heap.size, 0, none⟩ = some (.int .i64 1) ∧ w'.cell? ⟨w.heap.size, 1, none⟩ = some (.int .i64 ho) ∧ w'.cell? ⟨w.heap.size, 2, none⟩ = some (.int .i64 hn) ∧ w'.cell? ⟨w.heap.size, 3, none⟩ = some (.int .i64 wh) ∧ w'.cell? ⟨w.heap.size, 4, none⟩ = some (.int .i64 oo) ∧ w'.cell? ⟨w.heap.size, 5, none⟩ = some (.int .i64 on) ∧ w'.cell? ⟨w.heap.size, 6, none⟩ = some (.int .i64 tw) ∧ w'.cell? ⟨w.heap.size, 7, none⟩ = some (.int .i64 tn)) (first | go_keep | exact hS) (first | (go_at_call 163; refine (without_1 ho hn wh oo on tw tn w.heap.size _ ?_).mono ?_; (first | assumption | simp [*]); rintro e w1 ⟨rfl, hS, hb⟩))
    go_wp2
    go_ret
    exact ⟨by simp, below_newD hb⟩
  · skip
    cases e2 : (on == 0)
    · skip
      go_enter Tryz.func147, Tryz.ntmps147
      go_wp2
      go_region_held3 (fun w' => w'.cell? ⟨w.heap.size, 0, none⟩ = some (.int .i64 1) ∧ w'.cell? ⟨w.heap.size, 1, none⟩ = some (.int .i64 ho) ∧ w'.cell? ⟨w.heap.size, 2, none⟩ = some (.int .i64 hn) ∧ w'.cell? ⟨w.heap.size, 3, none⟩ = some (.int .i64 wh) ∧ w'.cell? ⟨w.heap.size, 4, none⟩ = some (.int .i64 oo) ∧ w'.cell? ⟨w.heap.size, 5, none⟩ = some (.int .i64 on) ∧ w'.cell? ⟨w.heap.size, 6, none⟩ = some (.int .i64 tw) ∧ w'.cell? ⟨w.heap.size, 7, none⟩ = some (.int .i64 tn)) (first | go_keep | exact hS) (first | (go_at_call 163; refine (without_1 ho hn wh oo on tw tn w.heap.size _ ?_).mono ?_; (first | assumption | simp [*]); rintro e w1 ⟨rfl, hS, hb⟩))
      go_wp2
      go_ret
      exact ⟨by simp, below_newD hb⟩
    · skip
      cases e3 : (tw == 0)
      · skip
        go_enter Tryz.func147, Tryz.ntmps147
        go_wp2
        go_region_held3 (fun w' => w'.cell? ⟨w.heap.size, 0, none⟩ = some (.int .i64 1) ∧ w'.cell? ⟨w.heap.size, 1, none⟩ = some (.int .i64 ho) ∧ w'.cell? ⟨w.heap.size, 2, none⟩ = some (.int .i64 hn) ∧ w'.cell? ⟨w.heap.size, 3, none⟩ = some (.int .i64 wh) ∧ w'.cell? ⟨w.heap.size, 4, none⟩ = some (.int .i64 oo) ∧ w'.cell? ⟨w.heap.size, 5, none⟩ = some (.int .i64 on) ∧ w'.cell? ⟨w.heap.size, 6, none⟩ = some (.int .i64 tw) ∧ w'.cell? ⟨w.heap.size, 7, none⟩ = some (.int .i64 tn)) (first | go_keep | exact hS) (first | (go_at_call 163; refine (without_1 ho hn wh oo on tw tn w.heap.size _ ?_).mono ?_; (first | assumption | simp [*]); rintro e w1 ⟨rfl, hS, hb⟩))
        go_wp2
        go_ret
        exact ⟨by simp, below_newD hb⟩
      · skip
        cases e4 : (tn == 0)
        · skip
          go_enter Tryz.func147, Tryz.ntmps147
          go_wp2
          go_region_held3 (fun w' => w'.cell? ⟨w.heap.size, 0, none⟩ = some (.int .i64 1) ∧ w'.cell? ⟨w.heap.size, 1, none⟩ = some (.int .i64 ho) ∧ w'.cell? ⟨w.heap.size, 2, none⟩ = some (.int .i64 hn) ∧ w'.cell? ⟨w.heap.size, 3, none⟩ = some (.int .i64 wh) ∧ w'.cell? ⟨w.heap.size, 4, none⟩ = some (.int .i64 oo) ∧ w'.cell? ⟨w.heap.size, 5, none⟩ = some (.int .i64 on) ∧ w'.cell? ⟨w.heap.size, 6, none⟩ = some (.int .i64 tw) ∧ w'.cell? ⟨w.heap.size, 7, none⟩ = some (.int .i64 tn)) (first | go_keep | exact hS) (first | (go_at_call 163; refine (without_1 ho hn wh oo on tw tn w.heap.size _ ?_).mono ?_; (first | assumption | simp [*]); rintro e w1 ⟨rfl, hS, hb⟩))
          go_wp2
          go_ret
          exact ⟨by simp, below_newD hb⟩
        · skip
          go_enter Tryz.func147, Tryz.ntmps147
          go_wp2
          go_region_held3 (fun w' => w'.cell? ⟨w.heap.size, 0, none⟩ = some (.int .i64 1) ∧ w'.cell? ⟨w.heap.size, 1, none⟩ = some (.int .i64 ho) ∧ w'.cell? ⟨w.heap.size, 2, none⟩ = some (.int .i64 hn) ∧ w'.cell? ⟨w.heap.size, 3, none⟩ = some (.int .i64 wh) ∧ w'.cell? ⟨w.heap.size, 4, none⟩ = some (.int .i64 oo) ∧ w'.cell? ⟨w.heap.size, 5, none⟩ = some (.int .i64 on) ∧ w'.cell? ⟨w.heap.size, 6, none⟩ = some (.int .i64 tw) ∧ w'.cell? ⟨w.heap.size, 7, none⟩ = some (.int .i64 tn)) (first | go_keep | exact hS) (first | (go_at_call 163; refine (without_1 ho hn wh oo on tw tn w.heap.size _ ?_).mono ?_; (first | assumption | simp [*]); rintro e w1 ⟨rfl, hS, hb⟩))
          go_wp2
          go_ret
          exact ⟨by simp, below_newD hb⟩

set_option maxHeartbeats 2000000 in
theorem stray_2 (ho hn wh oo on tw tn : Int) (w : World) :
    Calls Tryz.prog 147 #[.agg #[.int .i64 2, .int .i64 ho, .int .i64 hn, .int .i64 wh, .int .i64 oo, .int .i64 on, .int .i64 tw, .int .i64 tn]] w fun e w' => e = .returned (.bool (!(wh == 0 && tw == 0 && tn == 0))) ∧ Below w.heap.size w w' := by
  cases e1 : (wh == 0)
  · skip
    go_enter Tryz.func147, Tryz.ntmps147
    go_wp2
    go_region_held3 (fun w' => w'.cell? ⟨w.heap.size, 0, none⟩ = some (.int .i64 2) ∧ w'.cell? ⟨w.heap.size, 1, none⟩ = some (.int .i64 ho) ∧ w'.cell? ⟨w.heap.size, 2, none⟩ = some (.int .i64 hn) ∧ w'.cell? ⟨w.heap.size, 3, none⟩ = some (.int .i64 wh) ∧ w'.cell? ⟨w.heap.size, 4, none⟩ = some (.int .i64 oo) ∧ w'.cell? ⟨w.heap.size, 5, none⟩ = some (.int .i64 on) ∧ w'.cell? ⟨w.heap.size, 6, none⟩ = some (.int .i64 tw) ∧ w'.cell? ⟨w.heap.size, 7, none⟩ = some (.int .i64 tn)) (first | go_keep | exact hS) (first | (go_at_call 163; refine (without_2 ho hn wh oo on tw tn w.heap.size _ ?_).mono ?_; (first | assumption | simp [*]); rintro e w1 ⟨rfl, hS, hb⟩))
    go_wp2
    go_ret
    exact ⟨by simp, below_newD hb⟩
  · skip
    cases e2 : (tw == 0)
    · skip
      go_enter Tryz.func147, Tryz.ntmps147
      go_wp2
      go_region_held3 (fun w' => w'.cell? ⟨w.heap.size, 0, none⟩ = some (.int .i64 2) ∧ w'.cell? ⟨w.heap.size, 1, none⟩ = some (.int .i64 ho) ∧ w'.cell? ⟨w.heap.size, 2, none⟩ = some (.int .i64 hn) ∧ w'.cell? ⟨w.heap.size, 3, none⟩ = some (.int .i64 wh) ∧ w'.cell? ⟨w.heap.size, 4, none⟩ = some (.int .i64 oo) ∧ w'.cell? ⟨w.heap.size, 5, none⟩ = some (.int .i64 on) ∧ w'.cell? ⟨w.heap.size, 6, none⟩ = some (.int .i64 tw) ∧ w'.cell? ⟨w.heap.size, 7, none⟩ = some (.int .i64 tn)) (first | go_keep | exact hS) (first | (go_at_call 163; refine (without_2 ho hn wh oo on tw tn w.heap.size _ ?_).mono ?_; (first | assumption | simp [*]); rintro e w1 ⟨rfl, hS, hb⟩))
      go_wp2
      go_ret
      exact ⟨by simp, below_newD hb⟩
    · skip
      cases e3 : (tn == 0)
      · skip
        go_enter Tryz.func147, Tryz.ntmps147
        go_wp2
        go_region_held3 (fun w' => w'.cell? ⟨w.heap.size, 0, none⟩ = some (.int .i64 2) ∧ w'.cell? ⟨w.heap.size, 1, none⟩ = some (.int .i64 ho) ∧ w'.cell? ⟨w.heap.size, 2, none⟩ = some (.int .i64 hn) ∧ w'.cell? ⟨w.heap.size, 3, none⟩ = some (.int .i64 wh) ∧ w'.cell? ⟨w.heap.size, 4, none⟩ = some (.int .i64 oo) ∧ w'.cell? ⟨w.heap.size, 5, none⟩ = some (.int .i64 on) ∧ w'.cell? ⟨w.heap.size, 6, none⟩ = some (.int .i64 tw) ∧ w'.cell? ⟨w.heap.size, 7, none⟩ = some (.int .i64 tn)) (first | go_keep | exact hS) (first | (go_at_call 163; refine (without_2 ho hn wh oo on tw tn w.heap.size _ ?_).mono ?_; (first | assumption | simp [*]); rintro e w1 ⟨rfl, hS, hb⟩))
        go_wp2
        go_ret
        exact ⟨by simp, below_newD hb⟩
      · skip
        go_enter Tryz.func147, Tryz.ntmps147
        go_wp2
        go_region_held3 (fun w' => w'.cell? ⟨w.heap.size, 0, none⟩ = some (.int .i64 2) ∧ w'.cell? ⟨w.heap.size, 1, none⟩ = some (.int .i64 ho) ∧ w'.cell? ⟨w.heap.size, 2, none⟩ = some (.int .i64 hn) ∧ w'.cell? ⟨w.heap.size, 3, none⟩ = some (.int .i64 wh) ∧ w'.cell? ⟨w.heap.size, 4, none⟩ = some (.int .i64 oo) ∧ w'.cell? ⟨w.heap.size, 5, none⟩ = some (.int .i64 on) ∧ w'.cell? ⟨w.heap.size, 6, none⟩ = some (.int .i64 tw) ∧ w'.cell? ⟨w.heap.size, 7, none⟩ = some (.int .i64 tn)) (first | go_keep | exact hS) (first | (go_at_call 163; refine (without_2 ho hn wh oo on tw tn w.heap.size _ ?_).mono ?_; (first | assumption | simp [*]); rintro e w1 ⟨rfl, hS, hb⟩))
        go_wp2
        go_ret
        exact ⟨by simp, below_newD hb⟩

set_option maxHeartbeats 2000000 in
theorem stray_3 (ho hn wh oo on tw tn : Int) (w : World) :
    Calls Tryz.prog 147 #[.agg #[.int .i64 3, .int .i64 ho, .int .i64 hn, .int .i64 wh, .int .i64 oo, .int .i64 on, .int .i64 tw, .int .i64 tn]] w fun e w' => e = .returned (.bool (!(wh == 0 && tw == 0))) ∧ Below w.heap.size w w' := by
  cases e1 : (wh == 0)
  · skip
    go_enter Tryz.func147, Tryz.ntmps147
    go_wp2
    go_region_held3 (fun w' => w'.cell? ⟨w.heap.size, 0, none⟩ = some (.int .i64 3) ∧ w'.cell? ⟨w.heap.size, 1, none⟩ = some (.int .i64 ho) ∧ w'.cell? ⟨w.heap.size, 2, none⟩ = some (.int .i64 hn) ∧ w'.cell? ⟨w.heap.size, 3, none⟩ = some (.int .i64 wh) ∧ w'.cell? ⟨w.heap.size, 4, none⟩ = some (.int .i64 oo) ∧ w'.cell? ⟨w.heap.size, 5, none⟩ = some (.int .i64 on) ∧ w'.cell? ⟨w.heap.size, 6, none⟩ = some (.int .i64 tw) ∧ w'.cell? ⟨w.heap.size, 7, none⟩ = some (.int .i64 tn)) (first | go_keep | exact hS) (first | (go_at_call 163; refine (without_3 ho hn wh oo on tw tn w.heap.size _ ?_).mono ?_; (first | assumption | simp [*]); rintro e w1 ⟨rfl, hS, hb⟩))
    go_wp2
    go_ret
    exact ⟨by simp, below_newD hb⟩
  · skip
    cases e2 : (tw == 0)
    · skip
      go_enter Tryz.func147, Tryz.ntmps147
      go_wp2
      go_region_held3 (fun w' => w'.cell? ⟨w.heap.size, 0, none⟩ = some (.int .i64 3) ∧ w'.cell? ⟨w.heap.size, 1, none⟩ = some (.int .i64 ho) ∧ w'.cell? ⟨w.heap.size, 2, none⟩ = some (.int .i64 hn) ∧ w'.cell? ⟨w.heap.size, 3, none⟩ = some (.int .i64 wh) ∧ w'.cell? ⟨w.heap.size, 4, none⟩ = some (.int .i64 oo) ∧ w'.cell? ⟨w.heap.size, 5, none⟩ = some (.int .i64 on) ∧ w'.cell? ⟨w.heap.size, 6, none⟩ = some (.int .i64 tw) ∧ w'.cell? ⟨w.heap.size, 7, none⟩ = some (.int .i64 tn)) (first | go_keep | exact hS) (first | (go_at_call 163; refine (without_3 ho hn wh oo on tw tn w.heap.size _ ?_).mono ?_; (first | assumption | simp [*]); rintro e w1 ⟨rfl, hS, hb⟩))
      go_wp2
      go_ret
      exact ⟨by simp, below_newD hb⟩
    · skip
      go_enter Tryz.func147, Tryz.ntmps147
      go_wp2
      go_region_held3 (fun w' => w'.cell? ⟨w.heap.size, 0, none⟩ = some (.int .i64 3) ∧ w'.cell? ⟨w.heap.size, 1, none⟩ = some (.int .i64 ho) ∧ w'.cell? ⟨w.heap.size, 2, none⟩ = some (.int .i64 hn) ∧ w'.cell? ⟨w.heap.size, 3, none⟩ = some (.int .i64 wh) ∧ w'.cell? ⟨w.heap.size, 4, none⟩ = some (.int .i64 oo) ∧ w'.cell? ⟨w.heap.size, 5, none⟩ = some (.int .i64 on) ∧ w'.cell? ⟨w.heap.size, 6, none⟩ = some (.int .i64 tw) ∧ w'.cell? ⟨w.heap.size, 7, none⟩ = some (.int .i64 tn)) (first | go_keep | exact hS) (first | (go_at_call 163; refine (without_3 ho hn wh oo on tw tn w.heap.size _ ?_).mono ?_; (first | assumption | simp [*]); rintro e w1 ⟨rfl, hS, hb⟩))
      go_wp2
      go_ret
      exact ⟨by simp, below_newD hb⟩

set_option maxHeartbeats 2000000 in
theorem stray_4 (ho hn wh oo on tw tn : Int) (w : World) :
    Calls Tryz.prog 147 #[.agg #[.int .i64 4, .int .i64 ho, .int .i64 hn, .int .i64 wh, .int .i64 oo, .int .i64 on, .int .i64 tw, .int .i64 tn]] w fun e w' => e = .returned (.bool (!(wh == 0))) ∧ Below w.heap.size w w' := by
  cases e1 : (wh == 0)
  · skip
    go_enter Tryz.func147, Tryz.ntmps147
    go_wp2
    go_region_held3 (fun w' => w'.cell? ⟨w.heap.size, 0, none⟩ = some (.int .i64 4) ∧ w'.cell? ⟨w.heap.size, 1, none⟩ = some (.int .i64 ho) ∧ w'.cell? ⟨w.heap.size, 2, none⟩ = some (.int .i64 hn) ∧ w'.cell? ⟨w.heap.size, 3, none⟩ = some (.int .i64 wh) ∧ w'.cell? ⟨w.heap.size, 4, none⟩ = some (.int .i64 oo) ∧ w'.cell? ⟨w.heap.size, 5, none⟩ = some (.int .i64 on) ∧ w'.cell? ⟨w.heap.size, 6, none⟩ = some (.int .i64 tw) ∧ w'.cell? ⟨w.heap.size, 7, none⟩ = some (.int .i64 tn)) (first | go_keep | exact hS) (first | (go_at_call 163; refine (without_4 ho hn wh oo on tw tn w.heap.size _ ?_).mono ?_; (first | assumption | simp [*]); rintro e w1 ⟨rfl, hS, hb⟩))
    go_wp2
    go_ret
    exact ⟨by simp, below_newD hb⟩
  · skip
    go_enter Tryz.func147, Tryz.ntmps147
    go_wp2
    go_region_held3 (fun w' => w'.cell? ⟨w.heap.size, 0, none⟩ = some (.int .i64 4) ∧ w'.cell? ⟨w.heap.size, 1, none⟩ = some (.int .i64 ho) ∧ w'.cell? ⟨w.heap.size, 2, none⟩ = some (.int .i64 hn) ∧ w'.cell? ⟨w.heap.size, 3, none⟩ = some (.int .i64 wh) ∧ w'.cell? ⟨w.heap.size, 4, none⟩ = some (.int .i64 oo) ∧ w'.cell? ⟨w.heap.size, 5, none⟩ = some (.int .i64 on) ∧ w'.cell? ⟨w.heap.size, 6, none⟩ = some (.int .i64 tw) ∧ w'.cell? ⟨w.heap.size, 7, none⟩ = some (.int .i64 tn)) (first | go_keep | exact hS) (first | (go_at_call 163; refine (without_4 ho hn wh oo on tw tn w.heap.size _ ?_).mono ?_; (first | assumption | simp [*]); rintro e w1 ⟨rfl, hS, hb⟩))
    go_wp2
    go_ret
    exact ⟨by simp, below_newD hb⟩

theorem hasStray_c (r : RuleI) (hk : 1 ≤ r.k ∧ r.k ≤ 4) (w : World) :
    Calls Tryz.prog 147 #[.agg #[.int .i64 r.k, .int .i64 r.ho, .int .i64 r.hn, .int .i64 r.w, .int .i64 r.oo, .int .i64 r.on, .int .i64 r.to, .int .i64 r.tn]] w fun e w' =>
      e = .returned (.bool (!bareB r)) ∧ Below w.heap.size w w' := by
  obtain ⟨k, ho, hn, wh, oo, on, tw, tn⟩ := r
  simp only at hk ⊢
  have hk' : k = 1 ∨ k = 2 ∨ k = 3 ∨ k = 4 := by omega
  rcases hk' with rfl | rfl | rfl | rfl
  · exact stray_1 ho hn wh oo on tw tn w
  · exact stray_2 ho hn wh oo on tw tn w
  · exact stray_3 ho hn wh oo on tw tn w
  · exact stray_4 ho hn wh oo on tw tn w

end Go.Proofs.YtnfolmjdicfobaaGreatDoor

namespace Go.Proofs.YtnfolmjdicfobaaGreatDoor
open Go.RowKit
set_option linter.unusedVariables false
set_option linter.unusedSimpArgs false

/-- What 'ok' is in the end, kind by kind. -/
theorem code_1 (r : RuleI) (h : r.k = 1) (hr : roleB r.ho r.hn = true) (hb : bareB r = true) : ruleCode r = if prinB r.w = true then 0 else 3 := by
  have : 1 ≤ r.k ∧ r.k ≤ 4 := by omega
  have e : hasB r = prinB r.w := by simp [hasB, h]
  simp [ruleCode, this, hr, hb, e]
  cases prinB r.w <;> rfl
theorem code_2 (r : RuleI) (h : r.k = 2) (hr : roleB r.ho r.hn = true) (hb : bareB r = true) : ruleCode r = if roleB r.oo r.on = true then 0 else 3 := by
  have : 1 ≤ r.k ∧ r.k ≤ 4 := by omega
  have e : hasB r = roleB r.oo r.on := by simp [hasB, h]
  simp [ruleCode, this, hr, hb, e]
  cases roleB r.oo r.on <;> rfl
theorem code_3 (r : RuleI) (h : r.k = 3) (hr : roleB r.ho r.hn = true) (hb : bareB r = true) : ruleCode r = if (roleB r.oo r.on && nameB r.tn) = true then 0 else 3 := by
  have : 1 ≤ r.k ∧ r.k ≤ 4 := by omega
  have e : hasB r = (roleB r.oo r.on && nameB r.tn) := by simp [hasB, h]
  simp only [ruleCode, this, hr, hb, e]
  cases roleB r.oo r.on <;> cases nameB r.tn <;> rfl
theorem code_4 (r : RuleI) (h : r.k = 4) (hr : roleB r.ho r.hn = true) (hb : bareB r = true) : ruleCode r = if (roleB r.oo r.on && roleB r.to r.tn) = true then 0 else 3 := by
  have : 1 ≤ r.k ∧ r.k ≤ 4 := by omega
  have e : hasB r = (roleB r.oo r.on && roleB r.to r.tn) := by simp [hasB, h]
  simp only [ruleCode, this, hr, hb, e]
  cases roleB r.oo r.on <;> cases roleB r.to r.tn <;> rfl

set_option maxHeartbeats 2000000 in
theorem l2Rule_c (g off : Nat) (r : RuleI) (w : World) (h : RuleAt w g off r) :
    Calls Tryz.prog 111 #[.pointer (some ⟨g, off, none⟩)] w fun e w' => e = .returned (.int .i64 (ruleCode r)) ∧ Below w.heap.size w w' := by
  have hB : Hid (∀ w' : World, Below w.heap.size w w' → 1 ≤ r.k ∧ r.k ≤ 4 → Calls Tryz.prog 143 #[.pointer (some ⟨g, off, none⟩)] w' fun e w'' => e = .returned (.bool (bareB r)) ∧ Below w'.heap.size w' w'') := fun w' hb hk => l2Bare_c g off r w' (h.below hb) hk
  have hX : Hid (RuleAt w g off r) := h
  clear h
  by_cases hk : 1 ≤ r.k ∧ r.k ≤ 4
  · have HK : Hid (1 ≤ r.k ∧ r.k ≤ 4) := hk
    cases hr : roleB r.ho r.hn
    · have E : Hid (ruleCode r = 3) := by show ruleCode r = 3; simp [ruleCode, hk, hr]
      clear hB
      obtain ⟨k, ho, hn, wh, oo, on, tw, tn⟩ := r
      have hb : Below w.heap.size w w := Below.refl _ _
      obtain ⟨h0, h1, h2, h3, h4, h5, h6, h7⟩ := hX.out.below hb
      simp only at h0 h1 h2 h3 h4 h5 h6 h7
      simp only at hk hr 
      go_enter Tryz.func111, Tryz.ntmps111
      go_wp2_with (first | (go_at_call 107; refine (l2Role_c _ _ _).mono ?_; rintro e w1 ⟨rfl, hb1⟩; replace hb := hb.trans (hb1.mono hb.size); clear h0 h1 h2 h3 h4 h5 h6 h7 hb1; obtain ⟨h0, h1, h2, h3, h4, h5, h6, h7⟩ := hX.out.below hb; simp only at h0 h1 h2 h3 h4 h5 h6 h7; (first | rw [hr])) | go_in)
      go_ret
      exact ⟨by rw [E.out]; rfl, hb⟩
    · cases hbr : bareB r
      · have E : Hid (ruleCode r = 1) := by show ruleCode r = 1; simp [ruleCode, hk, hr, hbr]
        rw [hbr] at hB
        clear hbr
        obtain ⟨k, ho, hn, wh, oo, on, tw, tn⟩ := r
        have hb : Below w.heap.size w w := Below.refl _ _
        obtain ⟨h0, h1, h2, h3, h4, h5, h6, h7⟩ := hX.out.below hb
        simp only at h0 h1 h2 h3 h4 h5 h6 h7
        simp only at hk hr 
        go_enter Tryz.func111, Tryz.ntmps111
        go_wp2_with (first | (go_at_call 107; refine (l2Role_c _ _ _).mono ?_; rintro e w1 ⟨rfl, hb1⟩; replace hb := hb.trans (hb1.mono hb.size); clear h0 h1 h2 h3 h4 h5 h6 h7 hb1; obtain ⟨h0, h1, h2, h3, h4, h5, h6, h7⟩ := hX.out.below hb; simp only at h0 h1 h2 h3 h4 h5 h6 h7; (first | rw [hr])) | (go_at_call 143; refine (hB.out _ hb HK.out).mono ?_; rintro e w1 ⟨rfl, hb1⟩; replace hb := hb.trans (hb1.mono hb.size); clear h0 h1 h2 h3 h4 h5 h6 h7 hb1; obtain ⟨h0, h1, h2, h3, h4, h5, h6, h7⟩ := hX.out.below hb; simp only at h0 h1 h2 h3 h4 h5 h6 h7) | go_in)
        go_ret
        exact ⟨by rw [E.out]; rfl, hb⟩
      · have hk' : r.k = 1 ∨ r.k = 2 ∨ r.k = 3 ∨ r.k = 4 := by omega
        rw [hbr] at hB
        rcases hk' with e | e | e | e
        · have E2 := code_1 r e hr hbr
          clear hbr
          cases hq : roleB r.oo r.on <;> cases hp : prinB r.w
          all_goals
            rw [hp] at E2
            have E : Hid (ruleCode r = _) := E2
            clear E2
            obtain ⟨k, ho, hn, wh, oo, on, tw, tn⟩ := r
            have hb : Below w.heap.size w w := Below.refl _ _
            obtain ⟨h0, h1, h2, h3, h4, h5, h6, h7⟩ := hX.out.below hb
            simp only at h0 h1 h2 h3 h4 h5 h6 h7
            simp only at hk hr hq hp e
            subst e
            go_enter Tryz.func111, Tryz.ntmps111
            go_wp2_with (first | (go_at_call 107; refine (l2Role_c _ _ _).mono ?_; rintro e w1 ⟨rfl, hb1⟩; replace hb := hb.trans (hb1.mono hb.size); clear h0 h1 h2 h3 h4 h5 h6 h7 hb1; obtain ⟨h0, h1, h2, h3, h4, h5, h6, h7⟩ := hX.out.below hb; simp only at h0 h1 h2 h3 h4 h5 h6 h7; (first | rw [hr] | rw [hq])) | (go_at_call 143; refine (hB.out _ hb HK.out).mono ?_; rintro e w1 ⟨rfl, hb1⟩; replace hb := hb.trans (hb1.mono hb.size); clear h0 h1 h2 h3 h4 h5 h6 h7 hb1; obtain ⟨h0, h1, h2, h3, h4, h5, h6, h7⟩ := hX.out.below hb; simp only at h0 h1 h2 h3 h4 h5 h6 h7) | (go_at_call 139; refine (l1Principal_c _ _).mono ?_; rintro e w1 ⟨rfl, rfl⟩; rw [hp]) | go_in)
            go_ret
            exact ⟨by rw [E.out]; rfl, hb⟩
        · have E2 := code_2 r e hr hbr
          clear hbr
          cases hq : roleB r.oo r.on
          all_goals
            rw [hq] at E2
            have E : Hid (ruleCode r = _) := E2
            clear E2
            obtain ⟨k, ho, hn, wh, oo, on, tw, tn⟩ := r
            have hb : Below w.heap.size w w := Below.refl _ _
            obtain ⟨h0, h1, h2, h3, h4, h5, h6, h7⟩ := hX.out.below hb
            simp only at h0 h1 h2 h3 h4 h5 h6 h7
            simp only at hk hr hq e
            subst e
            go_enter Tryz.func111, Tryz.ntmps111
            go_wp2_with (first | (go_at_call 107; refine (l2Role_c _ _ _).mono ?_; rintro e w1 ⟨rfl, hb1⟩; replace hb := hb.trans (hb1.mono hb.size); clear h0 h1 h2 h3 h4 h5 h6 h7 hb1; obtain ⟨h0, h1, h2, h3, h4, h5, h6, h7⟩ := hX.out.below hb; simp only at h0 h1 h2 h3 h4 h5 h6 h7; (first | rw [hr] | rw [hq])) | (go_at_call 143; refine (hB.out _ hb HK.out).mono ?_; rintro e w1 ⟨rfl, hb1⟩; replace hb := hb.trans (hb1.mono hb.size); clear h0 h1 h2 h3 h4 h5 h6 h7 hb1; obtain ⟨h0, h1, h2, h3, h4, h5, h6, h7⟩ := hX.out.below hb; simp only at h0 h1 h2 h3 h4 h5 h6 h7) | go_in)
            go_ret
            exact ⟨by rw [E.out]; rfl, hb⟩
        · have E2 := code_3 r e hr hbr
          clear hbr
          cases hq : roleB r.oo r.on <;> cases hp : nameB r.tn
          all_goals
            rw [hq, hp] at E2
            have E : Hid (ruleCode r = _) := E2
            clear E2
            obtain ⟨k, ho, hn, wh, oo, on, tw, tn⟩ := r
            have hb : Below w.heap.size w w := Below.refl _ _
            obtain ⟨h0, h1, h2, h3, h4, h5, h6, h7⟩ := hX.out.below hb
            simp only at h0 h1 h2 h3 h4 h5 h6 h7
            simp only at hk hr hq hp e
            subst e
            go_enter Tryz.func111, Tryz.ntmps111
            go_wp2_with (first | (go_at_call 107; refine (l2Role_c _ _ _).mono ?_; rintro e w1 ⟨rfl, hb1⟩; replace hb := hb.trans (hb1.mono hb.size); clear h0 h1 h2 h3 h4 h5 h6 h7 hb1; obtain ⟨h0, h1, h2, h3, h4, h5, h6, h7⟩ := hX.out.below hb; simp only at h0 h1 h2 h3 h4 h5 h6 h7; (first | rw [hr] | rw [hq])) | (go_at_call 143; refine (hB.out _ hb HK.out).mono ?_; rintro e w1 ⟨rfl, hb1⟩; replace hb := hb.trans (hb1.mono hb.size); clear h0 h1 h2 h3 h4 h5 h6 h7 hb1; obtain ⟨h0, h1, h2, h3, h4, h5, h6, h7⟩ := hX.out.below hb; simp only at h0 h1 h2 h3 h4 h5 h6 h7) | (go_at_call 140; refine (l2Name_c _ _).mono ?_; rintro e w1 ⟨rfl, rfl⟩; rw [hp]) | go_in)
            go_ret
            exact ⟨by rw [E.out]; rfl, hb⟩
        · have E2 := code_4 r e hr hbr
          clear hbr
          cases hq : roleB r.oo r.on <;> cases ht : roleB r.to r.tn
          all_goals
            rw [hq, ht] at E2
            have E : Hid (ruleCode r = _) := E2
            clear E2
            obtain ⟨k, ho, hn, wh, oo, on, tw, tn⟩ := r
            have hb : Below w.heap.size w w := Below.refl _ _
            obtain ⟨h0, h1, h2, h3, h4, h5, h6, h7⟩ := hX.out.below hb
            simp only at h0 h1 h2 h3 h4 h5 h6 h7
            simp only at hk hr hq ht e
            subst e
            go_enter Tryz.func111, Tryz.ntmps111
            go_wp2_with (first | (go_at_call 107; refine (l2Role_c _ _ _).mono ?_; rintro e w1 ⟨rfl, hb1⟩; replace hb := hb.trans (hb1.mono hb.size); clear h0 h1 h2 h3 h4 h5 h6 h7 hb1; obtain ⟨h0, h1, h2, h3, h4, h5, h6, h7⟩ := hX.out.below hb; simp only at h0 h1 h2 h3 h4 h5 h6 h7; (first | rw [hr] | rw [hq] | rw [ht])) | (go_at_call 143; refine (hB.out _ hb HK.out).mono ?_; rintro e w1 ⟨rfl, hb1⟩; replace hb := hb.trans (hb1.mono hb.size); clear h0 h1 h2 h3 h4 h5 h6 h7 hb1; obtain ⟨h0, h1, h2, h3, h4, h5, h6, h7⟩ := hX.out.below hb; simp only at h0 h1 h2 h3 h4 h5 h6 h7) | go_in)
            go_ret
            exact ⟨by rw [E.out]; rfl, hb⟩
  · have E : Hid (ruleCode r = 1) := by show ruleCode r = 1; simp [ruleCode, hk]
    clear hB
    obtain ⟨k, ho, hn, wh, oo, on, tw, tn⟩ := r
    obtain ⟨h0, h1, h2, h3, h4, h5, h6, h7⟩ := hX.out
    simp only at h0 h1 h2 h3 h4 h5 h6 h7 hk
    by_cases k1 : 1 ≤ k
    · have k4 : decide (k ≤ 4) = false := by simp; omega
      go_enter Tryz.func111, Tryz.ntmps111
      go_wp2
      go_ret
      exact ⟨by rw [E.out]; rfl, Below.refl _ _⟩
    · have k4 : decide (1 ≤ k) = false := by simp; omega
      go_enter Tryz.func111, Tryz.ntmps111
      go_wp2
      go_ret
      exact ⟨by rw [E.out]; rfl, Below.refl _ _⟩

end Go.Proofs.YtnfolmjdicfobaaGreatDoor

namespace Go.Proofs.YtnfolmjdicfobaaGreatDoor
open Go.RowKit
set_option linter.unusedVariables false
set_option linter.unusedSimpArgs false

set_option maxHeartbeats 2000000 in
theorem ruleFault_in (r : RuleI) (t : TypeId) (v : Value) (w : World) (hk : 1 ≤ r.k ∧ r.k ≤ 4)
    (HO : Hid (∀ w : World, Calls Tryz.prog 118 #[.agg #[.int .i64 r.k, .int .i64 r.ho, .int .i64 r.hn, .int .i64 r.w, .int .i64 r.oo, .int .i64 r.on, .int .i64 r.to, .int .i64 r.tn]] w fun e w' => e = .returned (.iface t v) ∧ Below w.heap.size w w'))
    (HF : Hid (∀ w : World, Calls Tryz.prog 148 #[.iface t v] w fun e w' => e = .returned (.int .i64 (if hasB r = true then 0 else 3)) ∧ Below w.heap.size w w')) :
    Calls Tryz.prog 116 #[.agg #[.int .i64 r.k, .int .i64 r.ho, .int .i64 r.hn, .int .i64 r.w, .int .i64 r.oo, .int .i64 r.on, .int .i64 r.to, .int .i64 r.tn]] w fun e w' => e = .returned (.int .i64 (ruleCode r)) ∧ Below w.heap.size w w' := by
  have hX : Hid (RuleAt (w.alloc (Obj.cells #[.int .i64 r.k, .int .i64 r.ho, .int .i64 r.hn, .int .i64 r.w, .int .i64 r.oo, .int .i64 r.on, .int .i64 r.to, .int .i64 r.tn] 81)) w.heap.size 0 r) := RuleAt.new w r _
  cases hr : roleB r.ho r.hn
  · have E : Hid (ruleCode r = 3) := by show ruleCode r = 3; simp [ruleCode, hk, hr]
    have hc : roleCode r.ho r.hn = 3 := by simp [roleCode, hr]
    have hb : Below (w.alloc (Obj.cells #[.int .i64 r.k, .int .i64 r.ho, .int .i64 r.hn, .int .i64 r.w, .int .i64 r.oo, .int .i64 r.on, .int .i64 r.to, .int .i64 r.tn] 81)).heap.size (w.alloc (Obj.cells #[.int .i64 r.k, .int .i64 r.ho, .int .i64 r.hn, .int .i64 r.w, .int .i64 r.oo, .int .i64 r.on, .int .i64 r.to, .int .i64 r.tn] 81)) (w.alloc (Obj.cells #[.int .i64 r.k, .int .i64 r.ho, .int .i64 r.hn, .int .i64 r.w, .int .i64 r.oo, .int .i64 r.on, .int .i64 r.to, .int .i64 r.tn] 81)) := Below.refl _ _
    obtain ⟨h0, h1, h2, h3, h4, h5, h6, h7⟩ := hX.out
    simp only [Nat.zero_add] at h0 h1 h2 h3 h4 h5 h6 h7
    go_enter Tryz.func116, Tryz.ntmps116
    go_wp2_with (first | (go_at_call 118; refine (HO.out _).mono ?_; rintro e w1 ⟨rfl, hb1⟩; replace hb := hb.trans (hb1.mono hb.size); clear h0 h1 h2 h3 h4 h5 h6 h7 hb1; obtain ⟨h0, h1, h2, h3, h4, h5, h6, h7⟩ := hX.out.below hb; simp only [Nat.zero_add] at h0 h1 h2 h3 h4 h5 h6 h7) | (go_at_call 105; refine (implRoleFault_c _ _ _).mono ?_; rintro e w1 ⟨rfl, hb1⟩; replace hb := hb.trans (hb1.mono hb.size); clear h0 h1 h2 h3 h4 h5 h6 h7 hb1; obtain ⟨h0, h1, h2, h3, h4, h5, h6, h7⟩ := hX.out.below hb; simp only [Nat.zero_add] at h0 h1 h2 h3 h4 h5 h6 h7; rw [hc]))
    go_ret
    exact ⟨by rw [E.out]; rfl, below_new hb⟩
  · have hc : roleCode r.ho r.hn = 0 := by simp [roleCode, hr]
    cases hbr : bareB r
    · have E : Hid (ruleCode r = 1) := by show ruleCode r = 1; simp [ruleCode, hk, hr, hbr]
      have hb : Below (w.alloc (Obj.cells #[.int .i64 r.k, .int .i64 r.ho, .int .i64 r.hn, .int .i64 r.w, .int .i64 r.oo, .int .i64 r.on, .int .i64 r.to, .int .i64 r.tn] 81)).heap.size (w.alloc (Obj.cells #[.int .i64 r.k, .int .i64 r.ho, .int .i64 r.hn, .int .i64 r.w, .int .i64 r.oo, .int .i64 r.on, .int .i64 r.to, .int .i64 r.tn] 81)) (w.alloc (Obj.cells #[.int .i64 r.k, .int .i64 r.ho, .int .i64 r.hn, .int .i64 r.w, .int .i64 r.oo, .int .i64 r.on, .int .i64 r.to, .int .i64 r.tn] 81)) := Below.refl _ _
      obtain ⟨h0, h1, h2, h3, h4, h5, h6, h7⟩ := hX.out
      simp only [Nat.zero_add] at h0 h1 h2 h3 h4 h5 h6 h7
      go_enter Tryz.func116, Tryz.ntmps116
      go_wp2_with (first | (go_at_call 118; refine (HO.out _).mono ?_; rintro e w1 ⟨rfl, hb1⟩; replace hb := hb.trans (hb1.mono hb.size); clear h0 h1 h2 h3 h4 h5 h6 h7 hb1; obtain ⟨h0, h1, h2, h3, h4, h5, h6, h7⟩ := hX.out.below hb; simp only [Nat.zero_add] at h0 h1 h2 h3 h4 h5 h6 h7) | (go_at_call 105; refine (implRoleFault_c _ _ _).mono ?_; rintro e w1 ⟨rfl, hb1⟩; replace hb := hb.trans (hb1.mono hb.size); clear h0 h1 h2 h3 h4 h5 h6 h7 hb1; obtain ⟨h0, h1, h2, h3, h4, h5, h6, h7⟩ := hX.out.below hb; simp only [Nat.zero_add] at h0 h1 h2 h3 h4 h5 h6 h7; rw [hc]) | (go_at_call 147; refine (hasStray_c r hk _).mono ?_; rintro e w1 ⟨rfl, hb1⟩; replace hb := hb.trans (hb1.mono hb.size); clear h0 h1 h2 h3 h4 h5 h6 h7 hb1; obtain ⟨h0, h1, h2, h3, h4, h5, h6, h7⟩ := hX.out.below hb; simp only [Nat.zero_add] at h0 h1 h2 h3 h4 h5 h6 h7; rw [hbr]))
      go_ret
      exact ⟨by rw [E.out]; rfl, below_new hb⟩
    · have E : Hid (ruleCode r = if hasB r = true then 0 else 3) := by show ruleCode r = if hasB r = true then 0 else 3; simp [ruleCode, hk, hr, hbr]; cases hasB r <;> rfl
      obtain ⟨c, hcc⟩ : ∃ c : Int, c = if hasB r = true then 0 else 3 := ⟨_, rfl⟩
      rw [← hcc] at HF E
      clear hcc
      have hb : Below (w.alloc (Obj.cells #[.int .i64 r.k, .int .i64 r.ho, .int .i64 r.hn, .int .i64 r.w, .int .i64 r.oo, .int .i64 r.on, .int .i64 r.to, .int .i64 r.tn] 81)).heap.size (w.alloc (Obj.cells #[.int .i64 r.k, .int .i64 r.ho, .int .i64 r.hn, .int .i64 r.w, .int .i64 r.oo, .int .i64 r.on, .int .i64 r.to, .int .i64 r.tn] 81)) (w.alloc (Obj.cells #[.int .i64 r.k, .int .i64 r.ho, .int .i64 r.hn, .int .i64 r.w, .int .i64 r.oo, .int .i64 r.on, .int .i64 r.to, .int .i64 r.tn] 81)) := Below.refl _ _
      obtain ⟨h0, h1, h2, h3, h4, h5, h6, h7⟩ := hX.out
      simp only [Nat.zero_add] at h0 h1 h2 h3 h4 h5 h6 h7
      go_enter Tryz.func116, Tryz.ntmps116
      go_wp2_with (first | (go_at_call 118; refine (HO.out _).mono ?_; rintro e w1 ⟨rfl, hb1⟩; replace hb := hb.trans (hb1.mono hb.size); clear h0 h1 h2 h3 h4 h5 h6 h7 hb1; obtain ⟨h0, h1, h2, h3, h4, h5, h6, h7⟩ := hX.out.below hb; simp only [Nat.zero_add] at h0 h1 h2 h3 h4 h5 h6 h7) | (go_at_call 105; refine (implRoleFault_c _ _ _).mono ?_; rintro e w1 ⟨rfl, hb1⟩; replace hb := hb.trans (hb1.mono hb.size); clear h0 h1 h2 h3 h4 h5 h6 h7 hb1; obtain ⟨h0, h1, h2, h3, h4, h5, h6, h7⟩ := hX.out.below hb; simp only [Nat.zero_add] at h0 h1 h2 h3 h4 h5 h6 h7; rw [hc]) | (go_at_call 147; refine (hasStray_c r hk _).mono ?_; rintro e w1 ⟨rfl, hb1⟩; replace hb := hb.trans (hb1.mono hb.size); clear h0 h1 h2 h3 h4 h5 h6 h7 hb1; obtain ⟨h0, h1, h2, h3, h4, h5, h6, h7⟩ := hX.out.below hb; simp only [Nat.zero_add] at h0 h1 h2 h3 h4 h5 h6 h7; rw [hbr]) | (go_at_call 148; refine (HF.out _).mono ?_; rintro e w1 ⟨rfl, hb1⟩; replace hb := hb.trans (hb1.mono hb.size); clear h0 h1 h2 h3 h4 h5 h6 h7 hb1; obtain ⟨h0, h1, h2, h3, h4, h5, h6, h7⟩ := hX.out.below hb; simp only [Nat.zero_add] at h0 h1 h2 h3 h4 h5 h6 h7))
      go_ret
      exact ⟨by rw [E.out]; rfl, below_new hb⟩

theorem implRuleFault_c (r : RuleI) (w : World) :
    Calls Tryz.prog 116 #[.agg #[.int .i64 r.k, .int .i64 r.ho, .int .i64 r.hn, .int .i64 r.w, .int .i64 r.oo, .int .i64 r.on, .int .i64 r.to, .int .i64 r.tn]] w fun e w' =>
      e = .returned (.int .i64 (ruleCode r)) ∧ Below w.heap.size w w' := by
  by_cases hk : 1 ≤ r.k ∧ r.k ≤ 4
  · have hk' : r.k = 1 ∨ r.k = 2 ∨ r.k = 3 ∨ r.k = 4 := by omega
    rcases hk' with e | e | e | e
    · have e2 : hasB r = prinB r.w := by simp [hasB, e]
      exact ruleFault_in r _ _ w hk (bodyOf_1 r e) (fun w => by rw [e2]; exact bodyFault_1 r.w w)
    · have e2 : hasB r = roleB r.oo r.on := by simp [hasB, e]
      exact ruleFault_in r _ _ w hk (bodyOf_2 r e) (fun w => by rw [e2]; exact bodyFault_2 r.oo r.on w)
    · have e2 : hasB r = (roleB r.oo r.on && nameB r.tn) := by simp [hasB, e]
      exact ruleFault_in r _ _ w hk (bodyOf_3 r e) (fun w => by rw [e2]; exact bodyFault_3 r.oo r.on r.tn w)
    · have e2 : hasB r = (roleB r.oo r.on && roleB r.to r.tn) := by simp [hasB, e]
      exact ruleFault_in r _ _ w hk (bodyOf_4 r e) (fun w => by rw [e2]; exact bodyFault_4 r.oo r.on r.to r.tn w)
  · have E : Hid (ruleCode r = 1) := by show ruleCode r = 1; simp [ruleCode, hk]
    go_enter Tryz.func116, Tryz.ntmps116
    go_wp2_with (first | (go_at_call 118; refine (bodyOf_0 r hk _).mono ?_; rintro e w1 ⟨rfl, hb1⟩))
    go_ret
    exact ⟨by rw [E.out]; rfl, below_new hb1⟩

end Go.Proofs.YtnfolmjdicfobaaGreatDoor

namespace Go.Proofs.YtnfolmjdicfobaaGreatDoor
open Go.RowKit
set_option linter.unusedVariables false
set_option linter.unusedSimpArgs false

/-- What stands behind the arrow. -/
def tailL (r : RuleI) : List UInt8 :=
  if r.k = 1 then [digitB r.w]
  else if r.k = 2 then [digitB r.oo, 46, digitB r.on]
  else if r.k = 3 then [digitB r.oo, 46, digitB r.on, 46, digitB r.tn]
  else [digitB r.oo, 46, digitB r.on, 32, 38, 32, digitB r.to, 46, digitB r.tn]

/-- A rule's line. -/
def lineL (r : RuleI) : List UInt8 := [digitB r.ho, 46, digitB r.hn, 32, 60, 45, 32] ++ tailL r
def lineT (r : RuleI) : ByteArray := ⟨(lineL r).toArray⟩
def tailT (r : RuleI) : ByteArray := ⟨(tailL r).toArray⟩

theorem code0 {r : RuleI} (h : ruleCode r = 0) : (1 ≤ r.k ∧ r.k ≤ 4) ∧ roleB r.ho r.hn = true ∧ bareB r = true ∧ hasB r = true := by
  unfold ruleCode at h
  split at h
  · omega
  · rename_i hk
    split at h
    · omega
    · split at h
      · omega
      · split at h
        · omega
        · rename_i h1 h2 h3
          refine ⟨by omega, ?_, ?_, ?_⟩
          · cases e : roleB r.ho r.hn <;> simp_all
          · cases e : bareB r <;> simp_all
          · cases e : hasB r <;> simp_all

theorem tail_size (r : RuleI) : (tailT r).size ≤ 9 := by
  simp only [tailT, tailL, ByteArray.size]
  split
  · simp
  · split
    · simp
    · split <;> simp

theorem tail_1 (r : RuleI) (h : r.k = 1) : tailT r = ⟨#[digitB r.w]⟩ := by simp [tailT, tailL, h]
theorem tail_2 (r : RuleI) (h : r.k = 2) : tailT r = roleT r.oo r.on := by simp [tailT, tailL, h, roleT]
theorem tail_3 (r : RuleI) (h : r.k = 3) : tailT r = roleT r.oo r.on ++ ⟨#[46]⟩ ++ ⟨#[digitB r.tn]⟩ := by
  simp [tailT, tailL, h, roleT, ByteArray.mk_append_mk]
theorem tail_4 (r : RuleI) (h : r.k = 4) : tailT r = roleT r.oo r.on ++ ⟨#[32, 38, 32]⟩ ++ roleT r.to r.tn := by
  simp [tailT, tailL, h, roleT, ByteArray.mk_append_mk]
theorem line_eq (r : RuleI) : lineT r = roleT r.ho r.hn ++ ⟨#[32, 60, 45, 32]⟩ ++ tailT r := by
  simp [lineT, lineL, tailT, roleT, ByteArray.mk_append_mk]
theorem cat_assoc (a b c : ByteArray) : a ++ b ++ c = a ++ (b ++ c) := ByteArray.append_assoc

theorem withS {P : Program} {f : Nat} {args : Array Value} {w : World} {e0 : Ending} {S : World → Prop} (K : ∀ w', Below w.heap.size w w' → S w')
    (h : Calls P f args w fun e w' => e = e0 ∧ Below w.heap.size w w') : Calls P f args w fun e w' => e = e0 ∧ S w' := h.mono fun e w' hh => ⟨hh.1, K w' hh.2⟩

theorem keepS3 {g : Nat} {x0 x1 x2 : Int} {w0 w w' : World} (h : w.cell? ⟨g, 0, none⟩ = some (.int .i64 x0) ∧ w.cell? ⟨g, 1, none⟩ = some (.int .i64 x1) ∧ w.cell? ⟨g, 2, none⟩ = some (.int .i64 x2) ∧ Below w0.heap.size w0 w) (hb : Below w.heap.size w w') : w'.cell? ⟨g, 0, none⟩ = some (.int .i64 x0) ∧ w'.cell? ⟨g, 1, none⟩ = some (.int .i64 x1) ∧ w'.cell? ⟨g, 2, none⟩ = some (.int .i64 x2) ∧ Below w0.heap.size w0 w' := by
  have key : ∀ (o : Nat) (v : Value), w.cell? ⟨g, o, none⟩ = some v → w'.cell? ⟨g, o, none⟩ = some v := fun o v e => (hb.cell (p := ⟨g, o, none⟩) (World.block_lt_of_cell? w ⟨g, o, none⟩ e)).trans e
  obtain ⟨h0, h1, h2, hB⟩ := h
  exact ⟨key _ _ h0, key _ _ h1, key _ _ h2, hB.trans (hb.mono hB.size)⟩

theorem keepS4 {g : Nat} {x0 x1 x2 x3 : Int} {w0 w w' : World} (h : w.cell? ⟨g, 0, none⟩ = some (.int .i64 x0) ∧ w.cell? ⟨g, 1, none⟩ = some (.int .i64 x1) ∧ w.cell? ⟨g, 2, none⟩ = some (.int .i64 x2) ∧ w.cell? ⟨g, 3, none⟩ = some (.int .i64 x3) ∧ Below w0.heap.size w0 w) (hb : Below w.heap.size w w') : w'.cell? ⟨g, 0, none⟩ = some (.int .i64 x0) ∧ w'.cell? ⟨g, 1, none⟩ = some (.int .i64 x1) ∧ w'.cell? ⟨g, 2, none⟩ = some (.int .i64 x2) ∧ w'.cell? ⟨g, 3, none⟩ = some (.int .i64 x3) ∧ Below w0.heap.size w0 w' := by
  have key : ∀ (o : Nat) (v : Value), w.cell? ⟨g, o, none⟩ = some v → w'.cell? ⟨g, o, none⟩ = some v := fun o v e => (hb.cell (p := ⟨g, o, none⟩) (World.block_lt_of_cell? w ⟨g, o, none⟩ e)).trans e
  obtain ⟨h0, h1, h2, h3, hB⟩ := h
  exact ⟨key _ _ h0, key _ _ h1, key _ _ h2, key _ _ h3, hB.trans (hb.mono hB.size)⟩

theorem keepS8 {g : Nat} {x0 x1 x2 x3 x4 x5 x6 x7 : Int} {w0 w w' : World} (h : w.cell? ⟨g, 0, none⟩ = some (.int .i64 x0) ∧ w.cell? ⟨g, 1, none⟩ = some (.int .i64 x1) ∧ w.cell? ⟨g, 2, none⟩ = some (.int .i64 x2) ∧ w.cell? ⟨g, 3, none⟩ = some (.int .i64 x3) ∧ w.cell? ⟨g, 4, none⟩ = some (.int .i64 x4) ∧ w.cell? ⟨g, 5, none⟩ = some (.int .i64 x5) ∧ w.cell? ⟨g, 6, none⟩ = some (.int .i64 x6) ∧ w.cell? ⟨g, 7, none⟩ = some (.int .i64 x7) ∧ Below w0.heap.size w0 w) (hb : Below w.heap.size w w') : w'.cell? ⟨g, 0, none⟩ = some (.int .i64 x0) ∧ w'.cell? ⟨g, 1, none⟩ = some (.int .i64 x1) ∧ w'.cell? ⟨g, 2, none⟩ = some (.int .i64 x2) ∧ w'.cell? ⟨g, 3, none⟩ = some (.int .i64 x3) ∧ w'.cell? ⟨g, 4, none⟩ = some (.int .i64 x4) ∧ w'.cell? ⟨g, 5, none⟩ = some (.int .i64 x5) ∧ w'.cell? ⟨g, 6, none⟩ = some (.int .i64 x6) ∧ w'.cell? ⟨g, 7, none⟩ = some (.int .i64 x7) ∧ Below w0.heap.size w0 w' := by
  have key : ∀ (o : Nat) (v : Value), w.cell? ⟨g, o, none⟩ = some v → w'.cell? ⟨g, o, none⟩ = some v := fun o v e => (hb.cell (p := ⟨g, o, none⟩) (World.block_lt_of_cell? w ⟨g, o, none⟩ e)).trans e
  obtain ⟨h0, h1, h2, h3, h4, h5, h6, h7, hB⟩ := h
  exact ⟨key _ _ h0, key _ _ h1, key _ _ h2, key _ _ h3, key _ _ h4, key _ _ h5, key _ _ h6, key _ _ h7, hB.trans (hb.mono hB.size)⟩

end Go.Proofs.YtnfolmjdicfobaaGreatDoor
