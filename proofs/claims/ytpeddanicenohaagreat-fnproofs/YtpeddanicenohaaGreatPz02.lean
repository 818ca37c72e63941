/-
  CONTRACTS on rules in impl: withoutBody, hasStray.
  Conditions: each contract bears its own.
  CONTRACT of impl.RuleFault.
  Conditions: none.
  CONTRACT: impl.PolicyFault.
  Conditions: each contract bears its own.
  CONTRACT: impl.RolesIn, what it gathers.
  Conditions: each contract bears its own.
-/
import Derived.Test.YtpeddanicenohaaGreatRule0
import Derived.Deep.RegionHeld3
import Derived.Test.YtpeddanicenohaaGreatPz01
import Derived.Test.YtpeddanicenohaaGreatRule1
import Derived.Laws.AppendOwnNone
namespace Go.Proofs.YtpeddanicenohaaGreat
open Go.RowKit
set_option linter.unusedVariables false
set_option linter.unusedSimpArgs false

theorem keep8 {w w' : World} {g : Nat} {k ho hn wh oo on tw tn : Int} (h : w.cell? ⟨g, 0, none⟩ = some (.int .i64 k) ∧ w.cell? ⟨g, 1, none⟩ = some (.int .i64 ho) ∧ w.cell? ⟨g, 2, none⟩ = some (.int .i64 hn) ∧ w.cell? ⟨g, 3, none⟩ = some (.int .i64 wh) ∧ w.cell? ⟨g, 4, none⟩ = some (.int .i64 oo) ∧ w.cell? ⟨g, 5, none⟩ = some (.int .i64 on) ∧ w.cell? ⟨g, 6, none⟩ = some (.int .i64 tw) ∧ w.cell? ⟨g, 7, none⟩ = some (.int .i64 tn)) (hb : Below w.heap.size w w') : w'.cell? ⟨g, 0, none⟩ = some (.int .i64 k) ∧ w'.cell? ⟨g, 1, none⟩ = some (.int .i64 ho) ∧ w'.cell? ⟨g, 2, none⟩ = some (.int .i64 hn) ∧ w'.cell? ⟨g, 3, none⟩ = some (.int .i64 wh) ∧ w'.cell? ⟨g, 4, none⟩ = some (.int .i64 oo) ∧ w'.cell? ⟨g, 5, none⟩ = some (.int .i64 on) ∧ w'.cell? ⟨g, 6, none⟩ = some (.int .i64 tw) ∧ w'.cell? ⟨g, 7, none⟩ = some (.int .i64 tn) := by
  have key : ∀ (o : Nat) (v : Value), w.cell? ⟨g, o, none⟩ = some v → w'.cell? ⟨g, o, none⟩ = some v := fun o v e => (hb.cell (p := ⟨g, o, none⟩) (World.block_lt_of_cell? w ⟨g, o, none⟩ e)).trans e
  obtain ⟨h0, h1, h2, h3, h4, h5, h6, h7⟩ := h
  exact ⟨key _ _ h0, key _ _ h1, key _ _ h2, key _ _ h3, key _ _ h4, key _ _ h5, key _ _ h6, key _ _ h7⟩

set_option maxHeartbeats 400000 in
theorem without_1 (ho hn wh oo on tw tn : Int) (g : Nat) (w : World) (hS : w.cell? ⟨g, 0, none⟩ = some (.int .i64 1) ∧ w.cell? ⟨g, 1, none⟩ = some (.int .i64 ho) ∧ w.cell? ⟨g, 2, none⟩ = some (.int .i64 hn) ∧ w.cell? ⟨g, 3, none⟩ = some (.int .i64 wh) ∧ w.cell? ⟨g, 4, none⟩ = some (.int .i64 oo) ∧ w.cell? ⟨g, 5, none⟩ = some (.int .i64 on) ∧ w.cell? ⟨g, 6, none⟩ = some (.int .i64 tw) ∧ w.cell? ⟨g, 7, none⟩ = some (.int .i64 tn)) :
    Calls Tryz.prog 74 #[.agg #[.int .i64 1, .int .i64 ho, .int .i64 hn, .int .i64 wh, .int .i64 oo, .int .i64 on, .int .i64 tw, .int .i64 tn]] w fun e w' =>
      e = .returned (.agg #[.int .i64 1, .int .i64 ho, .int .i64 hn, .int .i64 0, .int .i64 oo, .int .i64 on, .int .i64 tw, .int .i64 tn]) ∧ (w'.cell? ⟨g, 0, none⟩ = some (.int .i64 1) ∧ w'.cell? ⟨g, 1, none⟩ = some (.int .i64 ho) ∧ w'.cell? ⟨g, 2, none⟩ = some (.int .i64 hn) ∧ w'.cell? ⟨g, 3, none⟩ = some (.int .i64 wh) ∧ w'.cell? ⟨g, 4, none⟩ = some (.int .i64 oo) ∧ w'.cell? ⟨g, 5, none⟩ = some (.int .i64 on) ∧ w'.cell? ⟨g, 6, none⟩ = some (.int .i64 tw) ∧ w'.cell? ⟨g, 7, none⟩ = some (.int .i64 tn)) ∧ Below w.heap.size w w' := by
  have hS' : Hid (w.cell? ⟨g, 0, none⟩ = some (.int .i64 1) ∧ w.cell? ⟨g, 1, none⟩ = some (.int .i64 ho) ∧ w.cell? ⟨g, 2, none⟩ = some (.int .i64 hn) ∧ w.cell? ⟨g, 3, none⟩ = some (.int .i64 wh) ∧ w.cell? ⟨g, 4, none⟩ = some (.int .i64 oo) ∧ w.cell? ⟨g, 5, none⟩ = some (.int .i64 on) ∧ w.cell? ⟨g, 6, none⟩ = some (.int .i64 tw) ∧ w.cell? ⟨g, 7, none⟩ = some (.int .i64 tn)) := hS
  have hg : g < w.heap.size := World.block_lt_of_cell? w ⟨g, 0, none⟩ hS.1
  clear hS
  go_enter Tryz.func74, Tryz.ntmps74
  go_wp2
  go_returns
  exact ⟨rfl, keep8 hS'.out (by go_grown), by go_grown⟩

set_option maxHeartbeats 400000 in
theorem without_2 (ho hn wh oo on tw tn : Int) (g : Nat) (w : World) (hS : w.cell? ⟨g, 0, none⟩ = some (.int .i64 2) ∧ w.cell? ⟨g, 1, none⟩ = some (.int .i64 ho) ∧ w.cell? ⟨g, 2, none⟩ = some (.int .i64 hn) ∧ w.cell? ⟨g, 3, none⟩ = some (.int .i64 wh) ∧ w.cell? ⟨g, 4, none⟩ = some (.int .i64 oo) ∧ w.cell? ⟨g, 5, none⟩ = some (.int .i64 on) ∧ w.cell? ⟨g, 6, none⟩ = some (.int .i64 tw) ∧ w.cell? ⟨g, 7, none⟩ = some (.int .i64 tn)) :
    Calls Tryz.prog 74 #[.agg #[.int .i64 2, .int .i64 ho, .int .i64 hn, .int .i64 wh, .int .i64 oo, .int .i64 on, .int .i64 tw, .int .i64 tn]] w fun e w' =>
      e = .returned (.agg #[.int .i64 2, .int .i64 ho, .int .i64 hn, .int .i64 wh, .int .i64 0, .int .i64 0, .int .i64 tw, .int .i64 tn]) ∧ (w'.cell? ⟨g, 0, none⟩ = some (.int .i64 2) ∧ w'.cell? ⟨g, 1, none⟩ = some (.int .i64 ho) ∧ w'.cell? ⟨g, 2, none⟩ = some (.int .i64 hn) ∧ w'.cell? ⟨g, 3, none⟩ = some (.int .i64 wh) ∧ w'.cell? ⟨g, 4, none⟩ = some (.int .i64 oo) ∧ w'.cell? ⟨g, 5, none⟩ = some (.int .i64 on) ∧ w'.cell? ⟨g, 6, none⟩ = some (.int .i64 tw) ∧ w'.cell? ⟨g, 7, none⟩ = some (.int .i64 tn)) ∧ Below w.heap.size w w' := by
  have hS' : Hid (w.cell? ⟨g, 0, none⟩ = some (.int .i64 2) ∧ w.cell? ⟨g, 1, none⟩ = some (.int .i64 ho) ∧ w.cell? ⟨g, 2, none⟩ = some (.int .i64 hn) ∧ w.cell? ⟨g, 3, none⟩ = some (.int .i64 wh) ∧ w.cell? ⟨g, 4, none⟩ = some (.int .i64 oo) ∧ w.cell? ⟨g, 5, none⟩ = some (.int .i64 on) ∧ w.cell? ⟨g, 6, none⟩ = some (.int .i64 tw) ∧ w.cell? ⟨g, 7, none⟩ = some (.int .i64 tn)) := hS
  have hg : g < w.heap.size := World.block_lt_of_cell? w ⟨g, 0, none⟩ hS.1
  clear hS
  go_enter Tryz.func74, Tryz.ntmps74
  go_wp2
  go_returns
  exact ⟨rfl, keep8 hS'.out (by go_grown), by go_grown⟩

set_option maxHeartbeats 400000 in
theorem without_3 (ho hn wh oo on tw tn : Int) (g : Nat) (w : World) (hS : w.cell? ⟨g, 0, none⟩ = some (.int .i64 3) ∧ w.cell? ⟨g, 1, none⟩ = some (.int .i64 ho) ∧ w.cell? ⟨g, 2, none⟩ = some (.int .i64 hn) ∧ w.cell? ⟨g, 3, none⟩ = some (.int .i64 wh) ∧ w.cell? ⟨g, 4, none⟩ = some (.int .i64 oo) ∧ w.cell? ⟨g, 5, none⟩ = some (.int .i64 on) ∧ w.cell? ⟨g, 6, none⟩ = some (.int .i64 tw) ∧ w.cell? ⟨g, 7, none⟩ = some (.int .i64 tn)) :
    Calls Tryz.prog 74 #[.agg #[.int .i64 3, .int .i64 ho, .int .i64 hn, .int .i64 wh, .int .i64 oo, .int .i64 on, .int .i64 tw, .int .i64 tn]] w fun e w' =>
      e = .returned (.agg #[.int .i64 3, .int .i64 ho, .int .i64 hn, .int .i64 wh, .int .i64 0, .int .i64 0, .int .i64 tw, .int .i64 0]) ∧ (w'.cell? ⟨g, 0, none⟩ = some (.int .i64 3) ∧ w'.cell? ⟨g, 1, none⟩ = some (.int .i64 ho) ∧ w'.cell? ⟨g, 2, none⟩ = some (.int .i64 hn) ∧ w'.cell? ⟨g, 3, none⟩ = some (.int .i64 wh) ∧ w'.cell? ⟨g, 4, none⟩ = some (.int .i64 oo) ∧ w'.cell? ⟨g, 5, none⟩ = some (.int .i64 on) ∧ w'.cell? ⟨g, 6, none⟩ = some (.int .i64 tw) ∧ w'.cell? ⟨g, 7, none⟩ = some (.int .i64 tn)) ∧ Below w.heap.size w w' := by
  have hS' : Hid (w.cell? ⟨g, 0, none⟩ = some (.int .i64 3) ∧ w.cell? ⟨g, 1, none⟩ = some (.int .i64 ho) ∧ w.cell? ⟨g, 2, none⟩ = some (.int .i64 hn) ∧ w.cell? ⟨g, 3, none⟩ = some (.int .i64 wh) ∧ w.cell? ⟨g, 4, none⟩ = some (.int .i64 oo) ∧ w.cell? ⟨g, 5, none⟩ = some (.int .i64 on) ∧ w.cell? ⟨g, 6, none⟩ = some (.int .i64 tw) ∧ w.cell? ⟨g, 7, none⟩ = some (.int .i64 tn)) := hS
  have hg : g < w.heap.size := World.block_lt_of_cell? w ⟨g, 0, none⟩ hS.1
  clear hS
  go_enter Tryz.func74, Tryz.ntmps74
  go_wp2
  go_returns
  exact ⟨rfl, keep8 hS'.out (by go_grown), by go_grown⟩

set_option maxHeartbeats 400000 in
theorem without_4 (ho hn wh oo on tw tn : Int) (g : Nat) (w : World) (hS : w.cell? ⟨g, 0, none⟩ = some (.int .i64 4) ∧ w.cell? ⟨g, 1, none⟩ = some (.int .i64 ho) ∧ w.cell? ⟨g, 2, none⟩ = some (.int .i64 hn) ∧ w.cell? ⟨g, 3, none⟩ = some (.int .i64 wh) ∧ w.cell? ⟨g, 4, none⟩ = some (.int .i64 oo) ∧ w.cell? ⟨g, 5, none⟩ = some (.int .i64 on) ∧ w.cell? ⟨g, 6, none⟩ = some (.int .i64 tw) ∧ w.cell? ⟨g, 7, none⟩ = some (.int .i64 tn)) :
    Calls Tryz.prog 74 #[.agg #[.int .i64 4, .int .i64 ho, .int .i64 hn, .int .i64 wh, .int .i64 oo, .int .i64 on, .int .i64 tw, .int .i64 tn]] w fun e w' =>
      e = .returned (.agg #[.int .i64 4, .int .i64 ho, .int .i64 hn, .int .i64 wh, .int .i64 0, .int .i64 0, .int .i64 0, .int .i64 0]) ∧ (w'.cell? ⟨g, 0, none⟩ = some (.int .i64 4) ∧ w'.cell? ⟨g, 1, none⟩ = some (.int .i64 ho) ∧ w'.cell? ⟨g, 2, none⟩ = some (.int .i64 hn) ∧ w'.cell? ⟨g, 3, none⟩ = some (.int .i64 wh) ∧ w'.cell? ⟨g, 4, none⟩ = some (.int .i64 oo) ∧ w'.cell? ⟨g, 5, none⟩ = some (.int .i64 on) ∧ w'.cell? ⟨g, 6, none⟩ = some (.int .i64 tw) ∧ w'.cell? ⟨g, 7, none⟩ = some (.int .i64 tn)) ∧ Below w.heap.size w w' := by
  have hS' : Hid (w.cell? ⟨g, 0, none⟩ = some (.int .i64 4) ∧ w.cell? ⟨g, 1, none⟩ = some (.int .i64 ho) ∧ w.cell? ⟨g, 2, none⟩ = some (.int .i64 hn) ∧ w.cell? ⟨g, 3, none⟩ = some (.int .i64 wh) ∧ w.cell? ⟨g, 4, none⟩ = some (.int .i64 oo) ∧ w.cell? ⟨g, 5, none⟩ = some (.int .i64 on) ∧ w.cell? ⟨g, 6, none⟩ = some (.int .i64 tw) ∧ w.cell? ⟨g, 7, none⟩ = some (.int .i64 tn)) := hS
  have hg : g < w.heap.size := World.block_lt_of_cell? w ⟨g, 0, none⟩ hS.1
  clear hS
  go_enter Tryz.func74, Tryz.ntmps74
  go_wp2
  go_returns
  exact ⟨rfl, keep8 hS'.out (by go_grown), by go_grown⟩

theorem below_newD {w w1 : World} {o : Obj} (h : Below (w.alloc o).drew.heap.size (w.alloc o).drew w1) : Below w.heap.size w w1 := (((Below.refl _ _).alloc (Nat.le_refl _) _).drew).trans (h.mono (by simp))

set_option maxHeartbeats 2000000 in
theorem stray_1 (ho hn wh oo on tw tn : Int) (w : World) :
    Calls Tryz.prog 57 #[.agg #[.int .i64 1, .int .i64 ho, .int .i64 hn, .int .i64 wh, .int .i64 oo, .int .i64 on, .int .i64 tw, .int .i64 tn]] w fun e w' => e = .returned (.bool (!(oo == 0 && on == 0 && tw == 0 && tn == 0))) ∧ Below w.heap.size w w' := by
  cases e1 : (oo == 0)
  · skip
    go_enter Tryz.func57, Tryz.ntmps57
    go_wp2
    go_region_held3 (fun w' => w'.cell? ⟨w.heap.size, 0, none⟩ = some (.int .i64 1) ∧ w'.cell? ⟨w.heap.size, 1, none⟩ = some (.int .i64 ho) ∧ w'.cell? ⟨w.heap.size, 2, none⟩ = some (.int .i64 hn) ∧ w'.cell? ⟨w.heap.size, 3, none⟩ = some (.int .i64 wh) ∧ w'.cell? ⟨w.heap.size, 4, none⟩ = some (.int .i64 oo) ∧ w'.cell? ⟨w.heap.size, 5, none⟩ = some (.int .i64 on) ∧ w'.cell? ⟨w.heap.size, 6, none⟩ = some (.int .i64 tw) ∧ w'.cell? ⟨w.heap.size, 7, none⟩ = some (.int .i64 tn)) (first | go_keep | exact hS) (first | (go_at_call 74; refine (without_1 ho hn wh oo on tw tn w.heap.size _ ?_).mono ?_; (first | assumption | simp [*]); rintro e w1 ⟨rfl, hS, hb⟩))
    go_wp2
    go_ret
    exact ⟨by simp, below_newD hb⟩
  · skip
    cases e2 : (on == 0)
    · skip
      go_enter Tryz.func57, Tryz.ntmps57
      go_wp2
      go_region_held3 (fun w' => w'.cell? ⟨w.heap.size, 0, none⟩ = some (.int .i64 1) ∧ w'.cell? ⟨w.heap.size, 1, none⟩ = some (.int .i64 ho) ∧ w'.cell? ⟨w.heap.size, 2, none⟩ = some (.int .i64 hn) ∧ w'.cell? ⟨w.heap.size, 3, none⟩ = some (.int .i64 wh) ∧ w'.cell? ⟨w.heap.size, 4, none⟩ = some (.int .i64 oo) ∧ w'.cell? ⟨w.heap.size, 5, none⟩ = some (.int .i64 on) ∧ w'.cell? ⟨w.heap.size, 6, none⟩ = some (.int .i64 tw) ∧ w'.cell? ⟨w.heap.size, 7, none⟩ = some (.int .i64 tn)) (first | go_keep | exact hS) (first | (go_at_call 74; refine (without_1 ho hn wh oo on tw tn w.heap.size _ ?_).mono ?_; (first | assumption | simp [*]); rintro e w1 ⟨rfl, hS, hb⟩))
      go_wp2
      go_ret
      exact ⟨by simp, below_newD hb⟩
    · skip
      cases e3 : (tw == 0)
      · skip
        go_enter Tryz.func57, Tryz.ntmps57
        go_wp2
        go_region_held3 (fun w' => w'.cell? ⟨w.heap.size, 0, none⟩ = some (.int .i64 1) ∧ w'.cell? ⟨w.heap.size, 1, none⟩ = some (.int .i64 ho) ∧ w'.cell? ⟨w.heap.size, 2, none⟩ = some (.int .i64 hn) ∧ w'.cell? ⟨w.heap.size, 3, none⟩ = some (.int .i64 wh) ∧ w'.cell? ⟨w.heap.size, 4, none⟩ = some (.int .i64 oo) ∧ w'.cell? ⟨w.heap.size, 5, none⟩ = some (.int .i64 on) ∧ w'.cell? ⟨w.heap.size, 6, none⟩ = some (.int .i64 tw) ∧ w'.cell? ⟨w.heap.size, 7, none⟩ = some (.int .i64 tn)) (first | go_keep | exact hS) (first | (go_at_call 74; refine (without_1 ho hn wh oo on tw tn w.heap.size _ ?_).mono ?_; (first | assumption | simp [*]); rintro e w1 ⟨rfl, hS, hb⟩))
        go_wp2
        go_ret
        exact ⟨by simp, below_newD hb⟩
      · skip
        cases e4 : (tn == 0)
        · skip
          go_enter Tryz.func57, Tryz.ntmps57
          go_wp2
          go_region_held3 (fun w' => w'.cell? ⟨w.heap.size, 0, none⟩ = some (.int .i64 1) ∧ w'.cell? ⟨w.heap.size, 1, none⟩ = some (.int .i64 ho) ∧ w'.cell? ⟨w.heap.size, 2, none⟩ = some (.int .i64 hn) ∧ w'.cell? ⟨w.heap.size, 3, none⟩ = some (.int .i64 wh) ∧ w'.cell? ⟨w.heap.size, 4, none⟩ = some (.int .i64 oo) ∧ w'.cell? ⟨w.heap.size, 5, none⟩ = some (.int .i64 on) ∧ w'.cell? ⟨w.heap.size, 6, none⟩ = some (.int .i64 tw) ∧ w'.cell? ⟨w.heap.size, 7, none⟩ = some (.int .i64 tn)) (first | go_keep | exact hS) (first | (go_at_call 74; refine (without_1 ho hn wh oo on tw tn w.heap.size _ ?_).mono ?_; (first | assumption | simp [*]); rintro e w1 ⟨rfl, hS, hb⟩))
          go_wp2
          go_ret
          exact ⟨by simp, below_newD hb⟩
        · skip
          go_enter Tryz.func57, Tryz.ntmps57
          go_wp2
          go_region_held3 (fun w' => w'.cell? ⟨w.heap.size, 0, none⟩ = some (.int .i64 1) ∧ w'.cell? ⟨w.heap.size, 1, none⟩ = some (.int .i64 ho) ∧ w'.cell? ⟨w.heap.size, 2, none⟩ = some (.int .i64 hn) ∧ w'.cell? ⟨w.heap.size, 3, none⟩ = some (.int .i64 wh) ∧ w'.cell? ⟨w.heap.size, 4, none⟩ = some (.int .i64 oo) ∧ w'.cell? ⟨w.heap.size, 5, none⟩ = some (.int .i64 on) ∧ w'.cell? ⟨w.heap.size, 6, none⟩ = some (.int .i64 tw) ∧ w'.cell? ⟨w.heap.size, 7, none⟩ = some (.int .i64 tn)) (first | go_keep | exact hS) (first | (go_at_call 74; refine (without_1 ho hn wh oo on tw tn w.heap.size _ ?_).mono ?_; (first | assumption | simp [*]); rintro e w1 ⟨rfl, hS, hb⟩))
          go_wp2
          go_ret
          exact ⟨by simp, below_newD hb⟩

set_option maxHeartbeats 2000000 in
theorem stray_2 (ho hn wh oo on tw tn : Int) (w : World) :
    Calls Tryz.prog 57 #[.agg #[.int .i64 2, .int .i64 ho, .int .i64 hn, .int .i64 wh, .int .i64 oo, .int .i64 on, .int .i64 tw, .int .i64 tn]] w fun e w' => e = .returned (.bool (!(wh == 0 && tw == 0 && tn == 0))) ∧ Below w.heap.size w w' := by
  cases e1 : (wh == 0)
  · skip
    go_enter Tryz.func57, Tryz.ntmps57
    go_wp2
    go_region_held3 (fun w' => w'.cell? ⟨w.heap.size, 0, none⟩ = some (.int .i64 2) ∧ w'.cell? ⟨w.heap.size, 1, none⟩ = some (.int .i64 ho) ∧ w'.cell? ⟨w.heap.size, 2, none⟩ = some (.int .i64 hn) ∧ w'.cell? ⟨w.heap.size, 3, none⟩ = some (.int .i64 wh) ∧ w'.cell? ⟨w.heap.size, 4, none⟩ = some (.int .i64 oo) ∧ w'.cell? ⟨w.heap.size, 5, none⟩ = some (.int .i64 on) ∧ w'.cell? ⟨w.heap.size, 6, none⟩ = some (.int .i64 tw) ∧ w'.cell? ⟨w.heap.size, 7, none⟩ = some (.int .i64 tn)) (first | go_keep | exact hS) (first | (go_at_call 74; refine (without_2 ho hn wh oo on tw tn w.heap.size _ ?_).mono ?_; (first | assumption | simp [*]); rintro e w1 ⟨rfl, hS, hb⟩))
    go_wp2
    go_ret
    exact ⟨by simp, below_newD hb⟩
  · skip
    cases e2 : (tw == 0)
    · skip
      go_enter Tryz.func57, Tryz.ntmps57
      go_wp2
      go_region_held3 (fun w' => w'.cell? ⟨w.heap.size, 0, none⟩ = some (.int .i64 2) ∧ w'.cell? ⟨w.heap.size, 1, none⟩ = some (.int .i64 ho) ∧ w'.cell? ⟨w.heap.size, 2, none⟩ = some (.int .i64 hn) ∧ w'.cell? ⟨w.heap.size, 3, none⟩ = some (.int .i64 wh) ∧ w'.cell? ⟨w.heap.size, 4, none⟩ = some (.int .i64 oo) ∧ w'.cell? ⟨w.heap.size, 5, none⟩ = some (.int .i64 on) ∧ w'.cell? ⟨w.heap.size, 6, none⟩ = some (.int .i64 tw) ∧ w'.cell? ⟨w.heap.size, 7, none⟩ = some (.int .i64 tn)) (first | go_keep | exact hS) (first | (go_at_call 74; refine (without_2 ho hn wh oo on tw tn w.heap.size _ ?_).mono ?_; (first | assumption | simp [*]); rintro e w1 ⟨rfl, hS, hb⟩))
      go_wp2
      go_ret
      exact ⟨by simp, below_newD hb⟩
    · skip
      cases e3 : (tn == 0)
      · skip
        go_enter Tryz.func57, Tryz.ntmps57
        go_wp2
        go_region_held3 (fun w' => w'.cell? ⟨w.heap.size, 0, none⟩ = some (.int .i64 2) ∧ w'.cell? ⟨w.heap.size, 1, none⟩ = some (.int .i64 ho) ∧ w'.cell? ⟨w.heap.size, 2, none⟩ = some (.int .i64 hn) ∧ w'.cell? ⟨w.heap.size, 3, none⟩ = some (.int .i64 wh) ∧ w'.cell? ⟨w.heap.size, 4, none⟩ = some (.int .i64 oo) ∧ w'.cell? ⟨w.heap.size, 5, none⟩ = some (.int .i64 on) ∧ w'.cell? ⟨w.heap.size, 6, none⟩ = some (.int .i64 tw) ∧ w'.cell? ⟨w.heap.size, 7, none⟩ = some (.int .i64 tn)) (first | go_keep | exact hS) (first | (go_at_call 74; refine (without_2 ho hn wh oo on tw tn w.heap.size _ ?_).mono ?_; (first | assumption | simp [*]); rintro e w1 ⟨rfl, hS, hb⟩))
        go_wp2
        go_ret
        exact ⟨by simp, below_newD hb⟩
      · skip
        go_enter Tryz.func57, Tryz.ntmps57
        go_wp2
        go_region_held3 (fun w' => w'.cell? ⟨w.heap.size, 0, none⟩ = some (.int .i64 2) ∧ w'.cell? ⟨w.heap.size, 1, none⟩ = some (.int .i64 ho) ∧ w'.cell? ⟨w.heap.size, 2, none⟩ = some (.int .i64 hn) ∧ w'.cell? ⟨w.heap.size, 3, none⟩ = some (.int .i64 wh) ∧ w'.cell? ⟨w.heap.size, 4, none⟩ = some (.int .i64 oo) ∧ w'.cell? ⟨w.heap.size, 5, none⟩ = some (.int .i64 on) ∧ w'.cell? ⟨w.heap.size, 6, none⟩ = some (.int .i64 tw) ∧ w'.cell? ⟨w.heap.size, 7, none⟩ = some (.int .i64 tn)) (first | go_keep | exact hS) (first | (go_at_call 74; refine (without_2 ho hn wh oo on tw tn w.heap.size _ ?_).mono ?_; (first | assumption | simp [*]); rintro e w1 ⟨rfl, hS, hb⟩))
        go_wp2
        go_ret
        exact ⟨by simp, below_newD hb⟩

set_option maxHeartbeats 2000000 in
theorem stray_3 (ho hn wh oo on tw tn : Int) (w : World) :
    Calls Tryz.prog 57 #[.agg #[.int .i64 3, .int .i64 ho, .int .i64 hn, .int .i64 wh, .int .i64 oo, .int .i64 on, .int .i64 tw, .int .i64 tn]] w fun e w' => e = .returned (.bool (!(wh == 0 && tw == 0))) ∧ Below w.heap.size w w' := by
  cases e1 : (wh == 0)
  · skip
    go_enter Tryz.func57, Tryz.ntmps57
    go_wp2
    go_region_held3 (fun w' => w'.cell? ⟨w.heap.size, 0, none⟩ = some (.int .i64 3) ∧ w'.cell? ⟨w.heap.size, 1, none⟩ = some (.int .i64 ho) ∧ w'.cell? ⟨w.heap.size, 2, none⟩ = some (.int .i64 hn) ∧ w'.cell? ⟨w.heap.size, 3, none⟩ = some (.int .i64 wh) ∧ w'.cell? ⟨w.heap.size, 4, none⟩ = some (.int .i64 oo) ∧ w'.cell? ⟨w.heap.size, 5, none⟩ = some (.int .i64 on) ∧ w'.cell? ⟨w.heap.size, 6, none⟩ = some (.int .i64 tw) ∧ w'.cell? ⟨w.heap.size, 7, none⟩ = some (.int .i64 tn)) (first | go_keep | exact hS) (first | (go_at_call 74; refine (without_3 ho hn wh oo on tw tn w.heap.size _ ?_).mono ?_; (first | assumption | simp [*]); rintro e w1 ⟨rfl, hS, hb⟩))
    go_wp2
    go_ret
    exact ⟨by simp, below_newD hb⟩
  · skip
    cases e2 : (tw == 0)
    · skip
      go_enter Tryz.func57, Tryz.ntmps57
      go_wp2
      go_region_held3 (fun w' => w'.cell? ⟨w.heap.size, 0, none⟩ = some (.int .i64 3) ∧ w'.cell? ⟨w.heap.size, 1, none⟩ = some (.int .i64 ho) ∧ w'.cell? ⟨w.heap.size, 2, none⟩ = some (.int .i64 hn) ∧ w'.cell? ⟨w.heap.size, 3, none⟩ = some (.int .i64 wh) ∧ w'.cell? ⟨w.heap.size, 4, none⟩ = some (.int .i64 oo) ∧ w'.cell? ⟨w.heap.size, 5, none⟩ = some (.int .i64 on) ∧ w'.cell? ⟨w.heap.size, 6, none⟩ = some (.int .i64 tw) ∧ w'.cell? ⟨w.heap.size, 7, none⟩ = some (.int .i64 tn)) (first | go_keep | exact hS) (first | (go_at_call 74; refine (without_3 ho hn wh oo on tw tn w.heap.size _ ?_).mono ?_; (first | assumption | simp [*]); rintro e w1 ⟨rfl, hS, hb⟩))
      go_wp2
      go_ret
      exact ⟨by simp, below_newD hb⟩
    · skip
      go_enter Tryz.func57, Tryz.ntmps57
      go_wp2
      go_region_held3 (fun w' => w'.cell? ⟨w.heap.size, 0, none⟩ = some (.int .i64 3) ∧ w'.cell? ⟨w.heap.size, 1, none⟩ = some (.int .i64 ho) ∧ w'.cell? ⟨w.heap.size, 2, none⟩ = some (.int .i64 hn) ∧ w'.cell? ⟨w.heap.size, 3, none⟩ = some (.int .i64 wh) ∧ w'.cell? ⟨w.heap.size, 4, none⟩ = some (.int .i64 oo) ∧ w'.cell? ⟨w.heap.size, 5, none⟩ = some (.int .i64 on) ∧ w'.cell? ⟨w.heap.size, 6, none⟩ = some (.int .i64 tw) ∧ w'.cell? ⟨w.heap.size, 7, none⟩ = some (.int .i64 tn)) (first | go_keep | exact hS) (first | (go_at_call 74; refine (without_3 ho hn wh oo on tw tn w.heap.size _ ?_).mono ?_; (first | assumption | simp [*]); rintro e w1 ⟨rfl, hS, hb⟩))
      go_wp2
      go_ret
      exact ⟨by simp, below_newD hb⟩

set_option maxHeartbeats 2000000 in
theorem stray_4 (ho hn wh oo on tw tn : Int) (w : World) :
    Calls Tryz.prog 57 #[.agg #[.int .i64 4, .int .i64 ho, .int .i64 hn, .int .i64 wh, .int .i64 oo, .int .i64 on, .int .i64 tw, .int .i64 tn]] w fun e w' => e = .returned (.bool (!(wh == 0))) ∧ Below w.heap.size w w' := by
  cases e1 : (wh == 0)
  · skip
    go_enter Tryz.func57, Tryz.ntmps57
    go_wp2
    go_region_held3 (fun w' => w'.cell? ⟨w.heap.size, 0, none⟩ = some (.int .i64 4) ∧ w'.cell? ⟨w.heap.size, 1, none⟩ = some (.int .i64 ho) ∧ w'.cell? ⟨w.heap.size, 2, none⟩ = some (.int .i64 hn) ∧ w'.cell? ⟨w.heap.size, 3, none⟩ = some (.int .i64 wh) ∧ w'.cell? ⟨w.heap.size, 4, none⟩ = some (.int .i64 oo) ∧ w'.cell? ⟨w.heap.size, 5, none⟩ = some (.int .i64 on) ∧ w'.cell? ⟨w.heap.size, 6, none⟩ = some (.int .i64 tw) ∧ w'.cell? ⟨w.heap.size, 7, none⟩ = some (.int .i64 tn)) (first | go_keep | exact hS) (first | (go_at_call 74; refine (without_4 ho hn wh oo on tw tn w.heap.size _ ?_).mono ?_; (first | assumption | simp [*]); rintro e w1 ⟨rfl, hS, hb⟩))
    go_wp2
    go_ret
    exact ⟨by simp, below_newD hb⟩
  · skip
    go_enter Tryz.func57, Tryz.ntmps57
    go_wp2
    go_region_held3 (fun w' => w'.cell? ⟨w.heap.size, 0, none⟩ = some (.int .i64 4) ∧ w'.cell? ⟨w.heap.size, 1, none⟩ = some (.int .i64 ho) ∧ w'.cell? ⟨w.heap.size, 2, none⟩ = some (.int .i64 hn) ∧ w'.cell? ⟨w.heap.size, 3, none⟩ = some (.int .i64 wh) ∧ w'.cell? ⟨w.heap.size, 4, none⟩ = some (.int .i64 oo) ∧ w'.cell? ⟨w.heap.size, 5, none⟩ = some (.int .i64 on) ∧ w'.cell? ⟨w.heap.size, 6, none⟩ = some (.int .i64 tw) ∧ w'.cell? ⟨w.heap.size, 7, none⟩ = some (.int .i64 tn)) (first | go_keep | exact hS) (first | (go_at_call 74; refine (without_4 ho hn wh oo on tw tn w.heap.size _ ?_).mono ?_; (first | assumption | simp [*]); rintro e w1 ⟨rfl, hS, hb⟩))
    go_wp2
    go_ret
    exact ⟨by simp, below_newD hb⟩

theorem hasStray_c (r : RuleI) (hk : 1 ≤ r.k ∧ r.k ≤ 4) (w : World) :
    Calls Tryz.prog 57 #[.agg #[.int .i64 r.k, .int .i64 r.ho, .int .i64 r.hn, .int .i64 r.w, .int .i64 r.oo, .int .i64 r.on, .int .i64 r.to, .int .i64 r.tn]] w fun e w' =>
      e = .returned (.bool (!bareB r)) ∧ Below w.heap.size w w' := by
  obtain ⟨k, ho, hn, wh, oo, on, tw, tn⟩ := r
  simp only at hk ⊢
  have hk' : k = 1 ∨ k = 2 ∨ k = 3 ∨ k = 4 := by omega
  rcases hk' with rfl | rfl | rfl | rfl
  · exact stray_1 ho hn wh oo on tw tn w
  · exact stray_2 ho hn wh oo on tw tn w
  · exact stray_3 ho hn wh oo on tw tn w
  · exact stray_4 ho hn wh oo on tw tn w

end Go.Proofs.YtpeddanicenohaaGreat

namespace Go.Proofs.YtpeddanicenohaaGreat
open Go.RowKit
set_option linter.unusedVariables false
set_option linter.unusedSimpArgs false

set_option maxHeartbeats 2000000 in
theorem ruleFault_in (r : RuleI) (t : TypeId) (v : Value) (w : World) (hk : 1 ≤ r.k ∧ r.k ≤ 4)
    (HO : Hid (∀ w : World, Calls Tryz.prog 56 #[.agg #[.int .i64 r.k, .int .i64 r.ho, .int .i64 r.hn, .int .i64 r.w, .int .i64 r.oo, .int .i64 r.on, .int .i64 r.to, .int .i64 r.tn]] w fun e w' => e = .returned (.iface t v) ∧ Below w.heap.size w w'))
    (HF : Hid (∀ w : World, Calls Tryz.prog 58 #[.iface t v] w fun e w' => e = .returned (.int .i64 (if hasB r = true then 0 else 3)) ∧ Below w.heap.size w w')) :
    Calls Tryz.prog 35 #[.agg #[.int .i64 r.k, .int .i64 r.ho, .int .i64 r.hn, .int .i64 r.w, .int .i64 r.oo, .int .i64 r.on, .int .i64 r.to, .int .i64 r.tn]] w fun e w' => e = .returned (.int .i64 (ruleCode r)) ∧ Below w.heap.size w w' := by
  have hX : Hid (RuleAt (w.alloc (Obj.cells #[.int .i64 r.k, .int .i64 r.ho, .int .i64 r.hn, .int .i64 r.w, .int .i64 r.oo, .int .i64 r.on, .int .i64 r.to, .int .i64 r.tn] 35)) w.heap.size 0 r) := RuleAt.new w r _
  cases hr : roleB r.ho r.hn
  · have E : Hid (ruleCode r = 3) := by show ruleCode r = 3; simp [ruleCode, hk, hr]
    have hc : roleCode r.ho r.hn = 3 := by simp [roleCode, hr]
    have hb : Below (w.alloc (Obj.cells #[.int .i64 r.k, .int .i64 r.ho, .int .i64 r.hn, .int .i64 r.w, .int .i64 r.oo, .int .i64 r.on, .int .i64 r.to, .int .i64 r.tn] 35)).heap.size (w.alloc (Obj.cells #[.int .i64 r.k, .int .i64 r.ho, .int .i64 r.hn, .int .i64 r.w, .int .i64 r.oo, .int .i64 r.on, .int .i64 r.to, .int .i64 r.tn] 35)) (w.alloc (Obj.cells #[.int .i64 r.k, .int .i64 r.ho, .int .i64 r.hn, .int .i64 r.w, .int .i64 r.oo, .int .i64 r.on, .int .i64 r.to, .int .i64 r.tn] 35)) := Below.refl _ _
    obtain ⟨h0, h1, h2, h3, h4, h5, h6, h7⟩ := hX.out
    simp only [Nat.zero_add] at h0 h1 h2 h3 h4 h5 h6 h7
    go_enter Tryz.func35, Tryz.ntmps35
    go_wp2_with (first | (go_at_call 56; refine (HO.out _).mono ?_; rintro e w1 ⟨rfl, hb1⟩; replace hb := hb.trans (hb1.mono hb.size); clear h0 h1 h2 h3 h4 h5 h6 h7 hb1; obtain ⟨h0, h1, h2, h3, h4, h5, h6, h7⟩ := hX.out.below hb; simp only [Nat.zero_add] at h0 h1 h2 h3 h4 h5 h6 h7) | (go_at_call 14; refine (implRoleFault_c _ _ _).mono ?_; rintro e w1 ⟨rfl, hb1⟩; replace hb := hb.trans (hb1.mono hb.size); clear h0 h1 h2 h3 h4 h5 h6 h7 hb1; obtain ⟨h0, h1, h2, h3, h4, h5, h6, h7⟩ := hX.out.below hb; simp only [Nat.zero_add] at h0 h1 h2 h3 h4 h5 h6 h7; rw [hc]))
    go_ret
    exact ⟨by rw [E.out]; rfl, below_new hb⟩
  · have hc : roleCode r.ho r.hn = 0 := by simp [roleCode, hr]
    cases hbr : bareB r
    · have E : Hid (ruleCode r = 1) := by show ruleCode r = 1; simp [ruleCode, hk, hr, hbr]
      have hb : Below (w.alloc (Obj.cells #[.int .i64 r.k, .int .i64 r.ho, .int .i64 r.hn, .int .i64 r.w, .int .i64 r.oo, .int .i64 r.on, .int .i64 r.to, .int .i64 r.tn] 35)).heap.size (w.alloc (Obj.cells #[.int .i64 r.k, .int .i64 r.ho, .int .i64 r.hn, .int .i64 r.w, .int .i64 r.oo, .int .i64 r.on, .int .i64 r.to, .int .i64 r.tn] 35)) (w.alloc (Obj.cells #[.int .i64 r.k, .int .i64 r.ho, .int .i64 r.hn, .int .i64 r.w, .int .i64 r.oo, .int .i64 r.on, .int .i64 r.to, .int .i64 r.tn] 35)) := Below.refl _ _
      obtain ⟨h0, h1, h2, h3, h4, h5, h6, h7⟩ := hX.out
      simp only [Nat.zero_add] at h0 h1 h2 h3 h4 h5 h6 h7
      go_enter Tryz.func35, Tryz.ntmps35
      go_wp2_with (first | (go_at_call 56; refine (HO.out _).mono ?_; rintro e w1 ⟨rfl, hb1⟩; replace hb := hb.trans (hb1.mono hb.size); clear h0 h1 h2 h3 h4 h5 h6 h7 hb1; obtain ⟨h0, h1, h2, h3, h4, h5, h6, h7⟩ := hX.out.below hb; simp only [Nat.zero_add] at h0 h1 h2 h3 h4 h5 h6 h7) | (go_at_call 14; refine (implRoleFault_c _ _ _).mono ?_; rintro e w1 ⟨rfl, hb1⟩; replace hb := hb.trans (hb1.mono hb.size); clear h0 h1 h2 h3 h4 h5 h6 h7 hb1; obtain ⟨h0, h1, h2, h3, h4, h5, h6, h7⟩ := hX.out.below hb; simp only [Nat.zero_add] at h0 h1 h2 h3 h4 h5 h6 h7; rw [hc]) | (go_at_call 57; refine (hasStray_c r hk _).mono ?_; rintro e w1 ⟨rfl, hb1⟩; replace hb := hb.trans (hb1.mono hb.size); clear h0 h1 h2 h3 h4 h5 h6 h7 hb1; obtain ⟨h0, h1, h2, h3, h4, h5, h6, h7⟩ := hX.out.below hb; simp only [Nat.zero_add] at h0 h1 h2 h3 h4 h5 h6 h7; rw [hbr]))
      go_ret
      exact ⟨by rw [E.out]; rfl, below_new hb⟩
    · have E : Hid (ruleCode r = if hasB r = true then 0 else 3) := by show ruleCode r = if hasB r = true then 0 else 3; simp [ruleCode, hk, hr, hbr]; cases hasB r <;> rfl
      obtain ⟨c, hcc⟩ : ∃ c : Int, c = if hasB r = true then 0 else 3 := ⟨_, rfl⟩
      rw [← hcc] at HF E
      clear hcc
      have hb : Below (w.alloc (Obj.cells #[.int .i64 r.k, .int .i64 r.ho, .int .i64 r.hn, .int .i64 r.w, .int .i64 r.oo, .int .i64 r.on, .int .i64 r.to, .int .i64 r.tn] 35)).heap.size (w.alloc (Obj.cells #[.int .i64 r.k, .int .i64 r.ho, .int .i64 r.hn, .int .i64 r.w, .int .i64 r.oo, .int .i64 r.on, .int .i64 r.to, .int .i64 r.tn] 35)) (w.alloc (Obj.cells #[.int .i64 r.k, .int .i64 r.ho, .int .i64 r.hn, .int .i64 r.w, .int .i64 r.oo, .int .i64 r.on, .int .i64 r.to, .int .i64 r.tn] 35)) := Below.refl _ _
      obtain ⟨h0, h1, h2, h3, h4, h5, h6, h7⟩ := hX.out
      simp only [Nat.zero_add] at h0 h1 h2 h3 h4 h5 h6 h7
      go_enter Tryz.func35, Tryz.ntmps35
      go_wp2_with (first | (go_at_call 56; refine (HO.out _).mono ?_; rintro e w1 ⟨rfl, hb1⟩; replace hb := hb.trans (hb1.mono hb.size); clear h0 h1 h2 h3 h4 h5 h6 h7 hb1; obtain ⟨h0, h1, h2, h3, h4, h5, h6, h7⟩ := hX.out.below hb; simp only [Nat.zero_add] at h0 h1 h2 h3 h4 h5 h6 h7) | (go_at_call 14; refine (implRoleFault_c _ _ _).mono ?_; rintro e w1 ⟨rfl, hb1⟩; replace hb := hb.trans (hb1.mono hb.size); clear h0 h1 h2 h3 h4 h5 h6 h7 hb1; obtain ⟨h0, h1, h2, h3, h4, h5, h6, h7⟩ := hX.out.below hb; simp only [Nat.zero_add] at h0 h1 h2 h3 h4 h5 h6 h7; rw [hc]) | (go_at_call 57; refine (hasStray_c r hk _).mono ?_; rintro e w1 ⟨rfl, hb1⟩; replace hb := hb.trans (hb1.mono hb.size); clear h0 h1 h2 h3 h4 h5 h6 h7 hb1; obtain ⟨h0, h1, h2, h3, h4, h5, h6, h7⟩ := hX.out.below hb; simp only [Nat.zero_add] at h0 h1 h2 h3 h4 h5 h6 h7; rw [hbr]) | (go_at_call 58; refine (HF.out _).mono ?_; rintro e w1 ⟨rfl, hb1⟩; replace hb := hb.trans (hb1.mono hb.size); clear h0 h1 h2 h3 h4 h5 h6 h7 hb1; obtain ⟨h0, h1, h2, h3, h4, h5, h6, h7⟩ := hX.out.below hb; simp only [Nat.zero_add] at h0 h1 h2 h3 h4 h5 h6 h7))
      go_ret
      exact ⟨by rw [E.out]; rfl, below_new hb⟩

theorem implRuleFault_c (r : RuleI) (w : World) :
    Calls Tryz.prog 35 #[.agg #[.int .i64 r.k, .int .i64 r.ho, .int .i64 r.hn, .int .i64 r.w, .int .i64 r.oo, .int .i64 r.on, .int .i64 r.to, .int .i64 r.tn]] w fun e w' =>
      e = .returned (.int .i64 (ruleCode r)) ∧ Below w.heap.size w w' := by
  by_cases hk : 1 ≤ r.k ∧ r.k ≤ 4
  · have hk' : r.k = 1 ∨ r.k = 2 ∨ r.k = 3 ∨ r.k = 4 := by omega
    rcases hk' with e | e | e | e
    · have e2 : hasB r = prinB r.w := by simp [hasB, e]
      exact ruleFault_in r _ _ w hk (bodyOf_1 r e) (fun w => by rw [e2]; exact bodyFault_1 r.w w)
    · have e2 : hasB r = roleB r.oo r.on := by simp [hasB, e]
      exact ruleFault_in r _ _ w hk (bodyOf_2 r e) (fun w => by rw [e2]; exact bodyFault_2 r.oo r.on w)
    · have e2 : hasB r = (roleB r.oo r.on && nameB r.tn) := by simp [hasB, e]
      exact ruleFault_in r _ _ w hk (bodyOf_3 r e) (fun w => by rw [e2]; exact bodyFault_3 r.oo r.on r.tn w)
    · have e2 : hasB r = (roleB r.oo r.on && roleB r.to r.tn) := by simp [hasB, e]
      exact ruleFault_in r _ _ w hk (bodyOf_4 r e) (fun w => by rw [e2]; exact bodyFault_4 r.oo r.on r.to r.tn w)
  · have E : Hid (ruleCode r = 1) := by show ruleCode r = 1; simp [ruleCode, hk]
    go_enter Tryz.func35, Tryz.ntmps35
    go_wp2_with (first | (go_at_call 56; refine (bodyOf_0 r hk _).mono ?_; rintro e w1 ⟨rfl, hb1⟩))
    go_ret
    exact ⟨by rw [E.out]; rfl, below_new hb1⟩

end Go.Proofs.YtpeddanicenohaaGreat

namespace Go.Proofs.YtpeddanicenohaaGreat
open Go.RowKit
set_option linter.unusedVariables false
set_option linter.unusedSimpArgs false

set_option maxHeartbeats 1000000 in
theorem polFault_many (a : Option Addr) (n cap : Nat) (w : World) (hn : n ≤ 1048576) (h16 : 16 < n) :
    Calls Tryz.prog 13 #[.slice a n cap] w fun e w' => e = .returned (.int .i64 2) ∧ Below w.heap.size w w' := by
  have h' : (16 : Int) < (n : Int) := by omega
  go_enter Tryz.func13, Tryz.ntmps13
  go_wp2
  go_ret
  exact ⟨rfl, Below.refl _ _⟩

set_option maxHeartbeats 2000000 in
theorem polFault_few (a : Option Addr) (n cap : Nat) (zs : List RuleI) (c : Int) (w : World) (h16 : n ≤ 16) (hcap : n ≤ cap) (hcm : cap ≤ maxLen) (h : RulesIn w a n zs) (hc : polTo zs n = c) :
    Calls Tryz.prog 13 #[.slice a n cap] w fun e w' => e = .returned (.int .i64 c) ∧ Below w.heap.size w w' := by
  have H : Hid (RulesIn w a n zs) := h
  have hz : Hid (zs.length = n) := h.1
  have HC : Hid (polTo zs n = c) := hc
  clear h hc
  have h' : ¬ ((16 : Int) < (n : Int)) := by omega
  go_enter Tryz.func13, Tryz.ntmps13
  go_wp2
  go_loopw [11] (fun i wr => ∃ k : Nat, k ≤ n ∧ i = .int .i64 (k : Int) ∧ polTo zs k = 0 ∧ Below w.heap.size w wr) (fun i _ => n - (intOf i).toNat)
  case atStart => exact ⟨0, Nat.zero_le _, rfl, rfl, Below.refl _ _⟩
  case round =>
    obtain ⟨k, hk, rfl, hp, hnx⟩ := hrel
    have HP : Hid (polTo zs k = 0) := hp
    clear hp
    by_cases hlt : k < n
    · obtain ⟨b, off, r, rfl, hs, hr⟩ := H.out.at hlt
      have HS : Hid (zs[k]? = some r) := hs
      clear hs
      obtain ⟨h0, h1, h2, h3, h4, h5, h6, h7⟩ := hr.below hnx
      clear hr
      have hlt' : (k : Int) < (n : Int) := by omega
      go_wp2_with fail
      refine (implRuleFault_c r _).mono ?_
      rintro e w1 ⟨rfl, hb1⟩
      have hz1 := hb1.size
      simp only [World.size_alloc] at hz1
      have hnx1 : Below w.heap.size w w1 := hnx.trans ((below_new hb1).mono hnx.size)
      have hlt1 : wr.heap.size < w1.heap.size := by omega
      have hR : Hid (RuleAt w1 wr.heap.size 0 r) := (RuleAt.new wr r _).below hb1
      clear h0 h1 h2 h3 h4 h5 h6 h7 hb1
      by_cases hcode : ruleCode r = 0
      · rw [hcode]
        have HO : Hid (ruleCode r = 0) := hcode
        clear hcode
        have HX : Hid (RulesIn w1 (some ⟨b, off, none⟩) k (zs.take k)) := (H.out.cut hk).below hnx1
        have hkc : (k : Int) ≤ (cap : Int) := by omega
        have hk0 : (0 : Int) ≤ (k : Int) := by omega
        obtain ⟨h0, h1, h2, h3, h4, h5, h6, h7⟩ := hR.out
        simp only [Nat.zero_add] at h0 h1 h2 h3 h4 h5 h6 h7
        obtain ⟨t, ht⟩ : ∃ t, t = decide (r ∈ zs.take k) := ⟨_, rfl⟩
        have HC2 : Hid (∀ w2 : World, (∀ b o, b < w1.heap.size → w2.cell? ⟨b, o, none⟩ = w1.cell? ⟨b, o, none⟩) ∧ Below w1.heap.size w1 w2 → Calls Tryz.prog 36 #[.slice (some ⟨b, off, none⟩) k cap, .agg #[.int .i64 r.k, .int .i64 r.ho, .int .i64 r.hn, .int .i64 r.w, .int .i64 r.oo, .int .i64 r.on, .int .i64 r.to, .int .i64 r.tn]] w2 fun e w' => e = .returned (.bool t) ∧ Below w2.heap.size w2 w') := fun w2 hb => by rw [ht]; exact slContains_c _ _ _ _ r w2 (by omega) (HX.out.below hb.2)
        have HT : Hid (t = decide (r ∈ zs.take k)) := ht
        clear ht
        cases t
        · have HN : Hid (polTo zs (k + 1) = 0) := polTo_good zs k r HS.out HP.out HO.out (by simpa using HT.out)
          go_wp2
          go_region_held3 (fun w' => (∀ b o, b < w1.heap.size → w'.cell? ⟨b, o, none⟩ = w1.cell? ⟨b, o, none⟩) ∧ Below w1.heap.size w1 w') (first | exact hS | exact kp_drew _)
            (first | (go_at_call 36; refine (HC2.out _ (by assumption)).mono ?_; rintro e w' ⟨rfl, hb2⟩; have hS := kp_step (by assumption) hb2))
          go_wp2
          exact ⟨⟨k + 1, by omega, by go_num, HN.out, hnx1.trans (hS.2.mono hnx1.size)⟩, by simp [intOf]; omega⟩
        · have HI : Hid (c = 6) := HC.out.symm.trans (polTo_stay zs (k + 1) n 6 (by decide) (polTo_same zs k r HS.out HP.out HO.out (by simpa using HT.out)) (by omega))
          go_wp2
          go_region_held3 (fun w' => (∀ b o, b < w1.heap.size → w'.cell? ⟨b, o, none⟩ = w1.cell? ⟨b, o, none⟩) ∧ Below w1.heap.size w1 w') (first | exact hS | exact kp_drew _)
            (first | (go_at_call 36; refine (HC2.out _ (by assumption)).mono ?_; rintro e w' ⟨rfl, hb2⟩; have hS := kp_step (by assumption) hb2))
          go_wp2
          go_ret
          exact ⟨by rw [HI.out]; rfl, hnx1.trans (hS.2.mono hnx1.size)⟩
      · have E : Hid (c = ruleCode r) := (HC.out.symm.trans (polTo_stay zs (k + 1) n _ hcode (polTo_bad zs k r HS.out HP.out hcode) (by omega)))
        obtain ⟨d, hd⟩ : ∃ d, d = ruleCode r := ⟨_, rfl⟩
        rw [← hd] at hcode E ⊢
        clear hd
        have hne : (d != 0) = true := by simpa using hcode
        go_wp2
        go_ret
        exact ⟨by rw [E.out]; rfl, hnx1⟩
    · have hkn : k = n := by omega
      subst hkn
      have E : Hid (c = 0) := HC.out.symm.trans HP.out
      go_wp2
      go_ret
      exact ⟨by rw [E.out]; rfl, hnx⟩

theorem implPolicyFault_c (a : Option Addr) (n cap : Nat) (zs : List RuleI) (w : World) (hn : n ≤ 1048576) (hcap : n ≤ cap) (hcm : cap ≤ maxLen) (h : RulesIn w a n zs) :
    Calls Tryz.prog 13 #[.slice a n cap] w fun e w' => e = .returned (.int .i64 (polCode zs)) ∧ Below w.heap.size w w' := by
  have hz := h.1
  by_cases h16 : 16 < n
  · have e : polCode zs = 2 := by simp [polCode, hz, h16]
    rw [e]
    exact polFault_many a n cap w hn h16
  · have e : polCode zs = polTo zs n := by simp [polCode, hz, h16]
    rw [e]
    exact polFault_few a n cap zs _ w (by omega) hcap hcm h rfl

end Go.Proofs.YtpeddanicenohaaGreat

namespace Go.Proofs.YtpeddanicenohaaGreat
open Go.RowKit
set_option linter.unusedVariables false
set_option linter.unusedSimpArgs false

theorem polTo_zero {zs : List RuleI} {n : Nat} (h : polTo zs n = 0) : ∀ j r, j < n → zs[j]? = some r → ruleCode r = 0 := by
  induction n with
  | zero => intro j r hj; omega
  | succ n ih =>
    intro j r hj hr
    have h0 : polTo zs n = 0 := by
      by_cases q : polTo zs n = 0
      · exact q
      · have := polTo_stay zs n (n + 1) _ q rfl (by omega); rw [this] at h; exact absurd h q
    by_cases e : j = n
    · subst e
      by_cases q : ruleCode r = 0
      · exact q
      · have := polTo_bad zs j r hr h0 q; rw [this] at h; exact absurd h q
    · exact ih h0 j r (by omega) hr

theorem kinds_of {zs : List RuleI} {n : Nat} (h : polTo zs n = 0) {j : Nat} {r : RuleI} (hj : j < n) (hr : zs[j]? = some r) : r.k = 1 ∨ r.k = 2 ∨ r.k = 3 ∨ r.k = 4 := by
  have h0 := polTo_zero h j r hj hr
  unfold ruleCode at h0
  split at h0
  · simp at h0
  · rename_i q
    simp at q
    omega

/-- What a body's roles answers: a new slice that holds them. -/
def GivesNew (f : Nat) (v : Value) (xs : List RoI) : Prop := ∀ w : World, Calls Tryz.prog f #[v] w fun e w' => ∃ g : Nat, e = .returned (.slice (some ⟨g, 0, none⟩) xs.length xs.length) ∧ (∀ j u, (flat2 xs)[j]? = some u → w'.cell? ((⟨g, 0, none⟩ : Addr).add j) = some u) ∧ Below w.heap.size w w'

set_option maxHeartbeats 400000 in
theorem roles_1 (x : Int) (w : World) : Calls Tryz.prog 117 #[.agg #[.int .i64 x]] w fun e w' => e = .returned (.slice none 0 0) ∧ Below w.heap.size w w' := by
  go_enter Tryz.func117, Tryz.ntmps117
  go_wp2
  go_ret
  exact ⟨rfl, by go_grown⟩

theorem news_1 {w' : World} {g : Nat} {o n : Int} (h0 : w'.cell? ⟨g, 0, none⟩ = some (.int .i64 o)) (h1 : w'.cell? ⟨g, 1, none⟩ = some (.int .i64 n)) : ∀ j u, (flat2 [(o, n)])[j]? = some u → w'.cell? ((⟨g, 0, none⟩ : Addr).add j) = some u := by
  intro j u hj
  rw [Go.WideShapes.add_plain, Nat.zero_add]
  match j, hj with
  | 0, hj => simp [flat2] at hj; subst hj; exact h0
  | 1, hj => simp [flat2] at hj; subst hj; exact h1

theorem news_2 {w' : World} {g : Nat} {o n p m : Int} (h0 : w'.cell? ⟨g, 0, none⟩ = some (.int .i64 o)) (h1 : w'.cell? ⟨g, 1, none⟩ = some (.int .i64 n)) (h2 : w'.cell? ⟨g, 2, none⟩ = some (.int .i64 p)) (h3 : w'.cell? ⟨g, 3, none⟩ = some (.int .i64 m)) : ∀ j u, (flat2 [(o, n), (p, m)])[j]? = some u → w'.cell? ((⟨g, 0, none⟩ : Addr).add j) = some u := by
  intro j u hj
  rw [Go.WideShapes.add_plain, Nat.zero_add]
  match j, hj with
  | 0, hj => simp [flat2] at hj; subst hj; exact h0
  | 1, hj => simp [flat2] at hj; subst hj; exact h1
  | 2, hj => simp [flat2] at hj; subst hj; exact h2
  | 3, hj => simp [flat2] at hj; subst hj; exact h3

set_option maxHeartbeats 400000 in
theorem roles_2 (o n : Int) : GivesNew 118 (.agg #[.int .i64 o, .int .i64 n]) [(o, n)] := by
  intro w
  go_enter Tryz.func118, Tryz.ntmps118
  go_wp2
  go_ret
  exact ⟨_, rfl, news_1 (by simp) (by simp), by go_grown⟩

set_option maxHeartbeats 400000 in
theorem roles_3 (o n d : Int) : GivesNew 119 (.agg #[.int .i64 o, .int .i64 n, .int .i64 d]) [(o, n)] := by
  intro w
  go_enter Tryz.func119, Tryz.ntmps119
  go_wp2
  go_ret
  exact ⟨_, rfl, news_1 (by simp) (by simp), by go_grown⟩

set_option maxHeartbeats 400000 in
theorem roles_4 (o n p m : Int) : GivesNew 120 (.agg #[.int .i64 o, .int .i64 n, .int .i64 p, .int .i64 m]) [(o, n), (p, m)] := by
  intro w
  go_enter Tryz.func120, Tryz.ntmps120
  go_wp2
  try go_quiet (fail)
  go_wp2
  go_ret
  first
    | exact ⟨_, rfl, news_2 (by simp) (by simp) (by simp) (by simp), by go_grown⟩
    | exact ⟨_, rfl, news_2 (by simp [go_sem]) (by simp [go_sem]) (by simp [go_sem]) (by simp [go_sem]), bdN (by go_grown) _⟩

/-- What SortFunc does to a row of roles. -/
def Sorts : Prop := ∀ (g cap B : Nat) (xs : List RoI) (w : World), Owns2 w B (.slice (some ⟨g, 0, none⟩) xs.length cap) xs → xs.length ≤ 1000 → Calls Tryz.prog 71 #[.slice (some ⟨g, 0, none⟩) xs.length cap, .func (.func 49) #[] #[]] w fun e w' =>
  e = .returned (.tuple #[]) ∧ ∃ ys : List RoI, ys.length = xs.length ∧ SameM ys xs ∧ ys.Pairwise (fun a b => ltR b a = false) ∧ Owns2 w' B (.slice (some ⟨g, 0, none⟩) xs.length cap) ys ∧ Below B w w'

end Go.Proofs.YtpeddanicenohaaGreat
