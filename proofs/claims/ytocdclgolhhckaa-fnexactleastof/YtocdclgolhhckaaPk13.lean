/-
  CONTRACTS on rules in impl: bodyFault, kind 4.
  Conditions: each contract bears its own.
  CONTRACTS on rules in impl: withoutBody, hasStray.
  Conditions: each contract bears its own.
  CONTRACT of impl.RuleFault.
  Conditions: none.
-/
import Derived.Test.YtocdclgolhhckaaPk10
import Derived.Test.YtocdclgolhhckaaPk03
import Derived.Deep.RegionHeld3
import Derived.Test.YtocdclgolhhckaaPk12
import Derived.Test.YtocdclgolhhckaaPk11
namespace Go.Proofs.Ytocdclgolhhckaa
open Go.RowKit
set_option linter.unusedVariables false
set_option linter.unusedSimpArgs false
attribute [local go_sem] ta11 ta12 ta13 ta14 ta21 ta22 ta23 ta24 ta31 ta32 ta33 ta34 ta41 ta42 ta43 ta44

set_option maxHeartbeats 400000 in
theorem bodyFault_4 (o n p m : Int) (w : World) :
    Calls Try.prog 122 #[.iface 168 (.agg #[.int .i64 o, .int .i64 n, .int .i64 p, .int .i64 m])] w fun e w' =>
      e = .returned (.int .i64 (if (roleB o n && roleB p m) = true then 0 else 3)) ∧ Below w.heap.size w w' := by
  cases hr : roleB o n
  · have hc : roleCode o n = 3 := by simp [roleCode, hr]
    go_enter Try.func122, Try.ntmps122
    go_wp2
    refine wp_loop_rounds 3 ?_
    rw [rounds_succ]
    go_wp2_with (first | (go_at_call 60; refine (implRoleFault_c _ _ _).mono ?_; rintro e w1 ⟨rfl, hb1⟩; rw [hc]) | go_in)
    go_ret
    exact ⟨rfl, below_new3 hb1⟩
  · have hc : roleCode o n = 0 := by simp [roleCode, hr]
    cases hp : roleB p m
    all_goals
      have hd : roleCode p m = if roleB p m = true then 0 else 3 := rfl
      simp only [hp, if_true, Bool.false_eq_true, if_false] at hd
      go_enter Try.func122, Try.ntmps122
      go_wp2
      refine wp_loop_rounds 3 ?_
      rw [rounds_succ]
      go_wp2_with (first | (go_at_call 60; refine (implRoleFault_c _ _ _).mono ?_; rintro e w1 ⟨rfl, hb1⟩; rw [hc]) | go_in)
      rw [rounds_succ]
      have hz1 := hb1.size
      simp only [World.size_alloc] at hz1
      have hlt : w.heap.size + 1 < w1.heap.size := by omega
      have q0 : w1.cell? ⟨w.heap.size + 1, 2, none⟩ = some (.int .i64 p) := by rw [(bcell2 hb1).1 (w.heap.size + 1) 2 (by simp)]; go_cell
      have q1 : w1.cell? ⟨w.heap.size + 1, 3, none⟩ = some (.int .i64 m) := by rw [(bcell2 hb1).1 (w.heap.size + 1) 3 (by simp)]; go_cell
      go_wp2_with (first | (go_at_call 60; refine (implRoleFault_c _ _ _).mono ?_; rintro e w2 ⟨rfl, hb2⟩; rw [hd]) | go_in)
      first
        | (go_ret; exact ⟨rfl, (below_new3 hb1).trans ((below_new hb2).mono (by omega))⟩)
        | (rw [rounds_succ]; go_wp2; go_ret; exact ⟨rfl, (below_new3 hb1).trans ((below_new hb2).mono (by omega))⟩)

end Go.Proofs.Ytocdclgolhhckaa

namespace Go.Proofs.Ytocdclgolhhckaa
open Go.RowKit
set_option linter.unusedVariables false
set_option linter.unusedSimpArgs false

theorem keep8 {w w' : World} {g : Nat} {k ho hn wh oo on tw tn : Int} (h : w.cell? ⟨g, 0, none⟩ = some (.int .i64 k) ∧ w.cell? ⟨g, 1, none⟩ = some (.int .i64 ho) ∧ w.cell? ⟨g, 2, none⟩ = some (.int .i64 hn) ∧ w.cell? ⟨g, 3, none⟩ = some (.int .i64 wh) ∧ w.cell? ⟨g, 4, none⟩ = some (.int .i64 oo) ∧ w.cell? ⟨g, 5, none⟩ = some (.int .i64 on) ∧ w.cell? ⟨g, 6, none⟩ = some (.int .i64 tw) ∧ w.cell? ⟨g, 7, none⟩ = some (.int .i64 tn)) (hb : Below w.heap.size w w') : w'.cell? ⟨g, 0, none⟩ = some (.int .i64 k) ∧ w'.cell? ⟨g, 1, none⟩ = some (.int .i64 ho) ∧ w'.cell? ⟨g, 2, none⟩ = some (.int .i64 hn) ∧ w'.cell? ⟨g, 3, none⟩ = some (.int .i64 wh) ∧ w'.cell? ⟨g, 4, none⟩ = some (.int .i64 oo) ∧ w'.cell? ⟨g, 5, none⟩ = some (.int .i64 on) ∧ w'.cell? ⟨g, 6, none⟩ = some (.int .i64 tw) ∧ w'.cell? ⟨g, 7, none⟩ = some (.int .i64 tn) := by
  have key : ∀ (o : Nat) (v : Value), w.cell? ⟨g, o, none⟩ = some v → w'.cell? ⟨g, o, none⟩ = some v := fun o v e => (hb.cell (p := ⟨g, o, none⟩) (World.block_lt_of_cell? w ⟨g, o, none⟩ e)).trans e
  obtain ⟨h0, h1, h2, h3, h4, h5, h6, h7⟩ := h
  exact ⟨key _ _ h0, key _ _ h1, key _ _ h2, key _ _ h3, key _ _ h4, key _ _ h5, key _ _ h6, key _ _ h7⟩

set_option maxHeartbeats 400000 in
theorem without_1 (ho hn wh oo on tw tn : Int) (g : Nat) (w : World) (hS : w.cell? ⟨g, 0, none⟩ = some (.int .i64 1) ∧ w.cell? ⟨g, 1, none⟩ = some (.int .i64 ho) ∧ w.cell? ⟨g, 2, none⟩ = some (.int .i64 hn) ∧ w.cell? ⟨g, 3, none⟩ = some (.int .i64 wh) ∧ w.cell? ⟨g, 4, none⟩ = some (.int .i64 oo) ∧ w.cell? ⟨g, 5, none⟩ = some (.int .i64 on) ∧ w.cell? ⟨g, 6, none⟩ = some (.int .i64 tw) ∧ w.cell? ⟨g, 7, none⟩ = some (.int .i64 tn)) :
    Calls Try.prog 134 #[.agg #[.int .i64 1, .int .i64 ho, .int .i64 hn, .int .i64 wh, .int .i64 oo, .int .i64 on, .int .i64 tw, .int .i64 tn]] w fun e w' =>
      e = .returned (.agg #[.int .i64 1, .int .i64 ho, .int .i64 hn, .int .i64 0, .int .i64 oo, .int .i64 on, .int .i64 tw, .int .i64 tn]) ∧ (w'.cell? ⟨g, 0, none⟩ = some (.int .i64 1) ∧ w'.cell? ⟨g, 1, none⟩ = some (.int .i64 ho) ∧ w'.cell? ⟨g, 2, none⟩ = some (.int .i64 hn) ∧ w'.cell? ⟨g, 3, none⟩ = some (.int .i64 wh) ∧ w'.cell? ⟨g, 4, none⟩ = some (.int .i64 oo) ∧ w'.cell? ⟨g, 5, none⟩ = some (.int .i64 on) ∧ w'.cell? ⟨g, 6, none⟩ = some (.int .i64 tw) ∧ w'.cell? ⟨g, 7, none⟩ = some (.int .i64 tn)) ∧ Below w.heap.size w w' := by
  have hS' : Hid (w.cell? ⟨g, 0, none⟩ = some (.int .i64 1) ∧ w.cell? ⟨g, 1, none⟩ = some (.int .i64 ho) ∧ w.cell? ⟨g, 2, none⟩ = some (.int .i64 hn) ∧ w.cell? ⟨g, 3, none⟩ = some (.int .i64 wh) ∧ w.cell? ⟨g, 4, none⟩ = some (.int .i64 oo) ∧ w.cell? ⟨g, 5, none⟩ = some (.int .i64 on) ∧ w.cell? ⟨g, 6, none⟩ = some (.int .i64 tw) ∧ w.cell? ⟨g, 7, none⟩ = some (.int .i64 tn)) := hS
  have hg : g < w.heap.size := World.block_lt_of_cell? w ⟨g, 0, none⟩ hS.1
  clear hS
  go_enter Try.func134, Try.ntmps134
  go_wp2
  go_returns
  exact ⟨rfl, keep8 hS'.out (by go_grown), by go_grown⟩

set_option maxHeartbeats 400000 in
theorem without_2 (ho hn wh oo on tw tn : Int) (g : Nat) (w : World) (hS : w.cell? ⟨g, 0, none⟩ = some (.int .i64 2) ∧ w.cell? ⟨g, 1, none⟩ = some (.int .i64 ho) ∧ w.cell? ⟨g, 2, none⟩ = some (.int .i64 hn) ∧ w.cell? ⟨g, 3, none⟩ = some (.int .i64 wh) ∧ w.cell? ⟨g, 4, none⟩ = some (.int .i64 oo) ∧ w.cell? ⟨g, 5, none⟩ = some (.int .i64 on) ∧ w.cell? ⟨g, 6, none⟩ = some (.int .i64 tw) ∧ w.cell? ⟨g, 7, none⟩ = some (.int .i64 tn)) :
    Calls Try.prog 134 #[.agg #[.int .i64 2, .int .i64 ho, .int .i64 hn, .int .i64 wh, .int .i64 oo, .int .i64 on, .int .i64 tw, .int .i64 tn]] w fun e w' =>
      e = .returned (.agg #[.int .i64 2, .int .i64 ho, .int .i64 hn, .int .i64 wh, .int .i64 0, .int .i64 0, .int .i64 tw, .int .i64 tn]) ∧ (w'.cell? ⟨g, 0, none⟩ = some (.int .i64 2) ∧ w'.cell? ⟨g, 1, none⟩ = some (.int .i64 ho) ∧ w'.cell? ⟨g, 2, none⟩ = some (.int .i64 hn) ∧ w'.cell? ⟨g, 3, none⟩ = some (.int .i64 wh) ∧ w'.cell? ⟨g, 4, none⟩ = some (.int .i64 oo) ∧ w'.cell? ⟨g, 5, none⟩ = some (.int .i64 on) ∧ w'.cell? ⟨g, 6, none⟩ = some (.int .i64 tw) ∧ w'.cell? ⟨g, 7, none⟩ = some (.int .i64 tn)) ∧ Below w.heap.size w w' := by
  have hS' : Hid (w.cell? ⟨g, 0, none⟩ = some (.int .i64 2) ∧ w.cell? ⟨g, 1, none⟩ = some (.int .i64 ho) ∧ w.cell? ⟨g, 2, none⟩ = some (.int .i64 hn) ∧ w.cell? ⟨g, 3, none⟩ = some (.int .i64 wh) ∧ w.cell? ⟨g, 4, none⟩ = some (.int .i64 oo) ∧ w.cell? ⟨g, 5, none⟩ = some (.int .i64 on) ∧ w.cell? ⟨g, 6, none⟩ = some (.int .i64 tw) ∧ w.cell? ⟨g, 7, none⟩ = some (.int .i64 tn)) := hS
  have hg : g < w.heap.size := World.block_lt_of_cell? w ⟨g, 0, none⟩ hS.1
  clear hS
  go_enter Try.func134, Try.ntmps134
  go_wp2
  go_returns
  exact ⟨rfl, keep8 hS'.out (by go_grown), by go_grown⟩

set_option maxHeartbeats 400000 in
theorem without_3 (ho hn wh oo on tw tn : Int) (g : Nat) (w : World) (hS : w.cell? ⟨g, 0, none⟩ = some (.int .i64 3) ∧ w.cell? ⟨g, 1, none⟩ = some (.int .i64 ho) ∧ w.cell? ⟨g, 2, none⟩ = some (.int .i64 hn) ∧ w.cell? ⟨g, 3, none⟩ = some (.int .i64 wh) ∧ w.cell? ⟨g, 4, none⟩ = some (.int .i64 oo) ∧ w.cell? ⟨g, 5, none⟩ = some (.int .i64 on) ∧ w.cell? ⟨g, 6, none⟩ = some (.int .i64 tw) ∧ w.cell? ⟨g, 7, none⟩ = some (.int .i64 tn)) :
    Calls Try.prog 134 #[.agg #[.int .i64 3, .int .i64 ho, .int .i64 hn, .int .i64 wh, .int .i64 oo, .int .i64 on, .int .i64 tw, .int .i64 tn]] w fun e w' =>
      e = .returned (.agg #[.int .i64 3, .int .i64 ho, .int .i64 hn, .int .i64 wh, .int .i64 0, .int .i64 0, .int .i64 tw, .int .i64 0]) ∧ (w'.cell? ⟨g, 0, none⟩ = some (.int .i64 3) ∧ w'.cell? ⟨g, 1, none⟩ = some (.int .i64 ho) ∧ w'.cell? ⟨g, 2, none⟩ = some (.int .i64 hn) ∧ w'.cell? ⟨g, 3, none⟩ = some (.int .i64 wh) ∧ w'.cell? ⟨g, 4, none⟩ = some (.int .i64 oo) ∧ w'.cell? ⟨g, 5, none⟩ = some (.int .i64 on) ∧ w'.cell? ⟨g, 6, none⟩ = some (.int .i64 tw) ∧ w'.cell? ⟨g, 7, none⟩ = some (.int .i64 tn)) ∧ Below w.heap.size w w' := by
  have hS' : Hid (w.cell? ⟨g, 0, none⟩ = some (.int .i64 3) ∧ w.cell? ⟨g, 1, none⟩ = some (.int .i64 ho) ∧ w.cell? ⟨g, 2, none⟩ = some (.int .i64 hn) ∧ w.cell? ⟨g, 3, none⟩ = some (.int .i64 wh) ∧ w.cell? ⟨g, 4, none⟩ = some (.int .i64 oo) ∧ w.cell? ⟨g, 5, none⟩ = some (.int .i64 on) ∧ w.cell? ⟨g, 6, none⟩ = some (.int .i64 tw) ∧ w.cell? ⟨g, 7, none⟩ = some (.int .i64 tn)) := hS
  have hg : g < w.heap.size := World.block_lt_of_cell? w ⟨g, 0, none⟩ hS.1
  clear hS
  go_enter Try.func134, Try.ntmps134
  go_wp2
  go_returns
  exact ⟨rfl, keep8 hS'.out (by go_grown), by go_grown⟩

set_option maxHeartbeats 400000 in
theorem without_4 (ho hn wh oo on tw tn : Int) (g : Nat) (w : World) (hS : w.cell? ⟨g, 0, none⟩ = some (.int .i64 4) ∧ w.cell? ⟨g, 1, none⟩ = some (.int .i64 ho) ∧ w.cell? ⟨g, 2, none⟩ = some (.int .i64 hn) ∧ w.cell? ⟨g, 3, none⟩ = some (.int .i64 wh) ∧ w.cell? ⟨g, 4, none⟩ = some (.int .i64 oo) ∧ w.cell? ⟨g, 5, none⟩ = some (.int .i64 on) ∧ w.cell? ⟨g, 6, none⟩ = some (.int .i64 tw) ∧ w.cell? ⟨g, 7, none⟩ = some (.int .i64 tn)) :
    Calls Try.prog 134 #[.agg #[.int .i64 4, .int .i64 ho, .int .i64 hn, .int .i64 wh, .int .i64 oo, .int .i64 on, .int .i64 tw, .int .i64 tn]] w fun e w' =>
      e = .returned (.agg #[.int .i64 4, .int .i64 ho, .int .i64 hn, .int .i64 wh, .int .i64 0, .int .i64 0, .int .i64 0, .int .i64 0]) ∧ (w'.cell? ⟨g, 0, none⟩ = some (.int .i64 4) ∧ w'.cell? ⟨g, 1, none⟩ = some (.int .i64 ho) ∧ w'.cell? ⟨g, 2, none⟩ = some (.int .i64 hn) ∧ w'.cell? ⟨g, 3, none⟩ = some (.int .i64 wh) ∧ w'.cell? ⟨g, 4, none⟩ = some (.int .i64 oo) ∧ w'.cell? ⟨g, 5, none⟩ = some (.int .i64 on) ∧ w'.cell? ⟨g, 6, none⟩ = some (.int .i64 tw) ∧ w'.cell? ⟨g, 7, none⟩ = some (.int .i64 tn)) ∧ Below w.heap.size w w' := by
  have hS' : Hid (w.cell? ⟨g, 0, none⟩ = some (.int .i64 4) ∧ w.cell? ⟨g, 1, none⟩ = some (.int .i64 ho) ∧ w.cell? ⟨g, 2, none⟩ = some (.int .i64 hn) ∧ w.cell? ⟨g, 3, none⟩ = some (.int .i64 wh) ∧ w.cell? ⟨g, 4, none⟩ = some (.int .i64 oo) ∧ w.cell? ⟨g, 5, none⟩ = some (.int .i64 on) ∧ w.cell? ⟨g, 6, none⟩ = some (.int .i64 tw) ∧ w.cell? ⟨g, 7, none⟩ = some (.int .i64 tn)) := hS
  have hg : g < w.heap.size := World.block_lt_of_cell? w ⟨g, 0, none⟩ hS.1
  clear hS
  go_enter Try.func134, Try.ntmps134
  go_wp2
  go_returns
  exact ⟨rfl, keep8 hS'.out (by go_grown), by go_grown⟩

theorem below_newD {w w1 : World} {o : Obj} (h : Below (w.alloc o).drew.heap.size (w.alloc o).drew w1) : Below w.heap.size w w1 := (((Below.refl _ _).alloc (Nat.le_refl _) _).drew).trans (h.mono (by simp))

set_option maxHeartbeats 2000000 in
theorem stray_1 (ho hn wh oo on tw tn : Int) (w : World) :
    Calls Try.prog 121 #[.agg #[.int .i64 1, .int .i64 ho, .int .i64 hn, .int .i64 wh, .int .i64 oo, .int .i64 on, .int .i64 tw, .int .i64 tn]] w fun e w' => e = .returned (.bool (!(oo == 0 && on == 0 && tw == 0 && tn == 0))) ∧ Below w.heap.size w w' := by
  cases e1 : (oo == 0)
  · skip
    go_enter Try.func121, Try.ntmps121
    go_wp2
    go_region_held3 (fun w' => w'.cell? ⟨w.heap.size, 0, none⟩ = some (.int .i64 1) ∧ w'.cell? ⟨w.heap.size, 1, none⟩ = some (.int .i64 ho) ∧ w'.cell? ⟨w.heap.size, 2, none⟩ = some (.int .i64 hn) ∧ w'.cell? ⟨w.heap.size, 3, none⟩ = some (.int .i64 wh) ∧ w'.cell? ⟨w.heap.size, 4, none⟩ = some (.int .i64 oo) ∧ w'.cell? ⟨w.heap.size, 5, none⟩ = some (.int .i64 on) ∧ w'.cell? ⟨w.heap.size, 6, none⟩ = some (.int .i64 tw) ∧ w'.cell? ⟨w.heap.size, 7, none⟩ = some (.int .i64 tn)) (first | go_keep | exact hS) (first | (go_at_call 134; refine (without_1 ho hn wh oo on tw tn w.heap.size _ ?_).mono ?_; (first | assumption | simp [*]); rintro e w1 ⟨rfl, hS, hb⟩))
    go_wp2
    go_ret
    exact ⟨by simp, below_newD hb⟩
  · skip
    cases e2 : (on == 0)
    · skip
      go_enter Try.func121, Try.ntmps121
      go_wp2
      go_region_held3 (fun w' => w'.cell? ⟨w.heap.size, 0, none⟩ = some (.int .i64 1) ∧ w'.cell? ⟨w.heap.size, 1, none⟩ = some (.int .i64 ho) ∧ w'.cell? ⟨w.heap.size, 2, none⟩ = some (.int .i64 hn) ∧ w'.cell? ⟨w.heap.size, 3, none⟩ = some (.int .i64 wh) ∧ w'.cell? ⟨w.heap.size, 4, none⟩ = some (.int .i64 oo) ∧ w'.cell? ⟨w.heap.size, 5, none⟩ = some (.int .i64 on) ∧ w'.cell? ⟨w.heap.size, 6, none⟩ = some (.int .i64 tw) ∧ w'.cell? ⟨w.heap.size, 7, none⟩ = some (.int .i64 tn)) (first | go_keep | exact hS) (first | (go_at_call 134; refine (without_1 ho hn wh oo on tw tn w.heap.size _ ?_).mono ?_; (first | assumption | simp [*]); rintro e w1 ⟨rfl, hS, hb⟩))
      go_wp2
      go_ret
      exact ⟨by simp, below_newD hb⟩
    · skip
      cases e3 : (tw == 0)
      · skip
        go_enter Try.func121, Try.ntmps121
        go_wp2
        go_region_held3 (fun w' => w'.cell? ⟨w.heap.size, 0, none⟩ = some (.int .i64 1) ∧ w'.cell? ⟨w.heap.size, 1, none⟩ = some (.int .i64 ho) ∧ w'.cell? ⟨w.heap.size, 2, none⟩ = some (.int .i64 hn) ∧ w'.cell? ⟨w.heap.size, 3, none⟩ = some (.int .i64 wh) ∧ w'.cell? ⟨w.heap.size, 4, none⟩ = some (.int .i64 oo) ∧ w'.cell? ⟨w.heap.size, 5, none⟩ = some (.int .i64 on) ∧ w'.cell? ⟨w.heap.size, 6, none⟩ = some (.int .i64 tw) ∧ w'.cell? ⟨w.heap.size, 7, none⟩ = some (.int .i64 tn)) (first | go_keep | exact hS) (first | (go_at_call 134; refine (without_1 ho hn wh oo on tw tn w.heap.size _ ?_).mono ?_; (first | assumption | simp [*]); rintro e w1 ⟨rfl, hS, hb⟩))
        go_wp2
        go_ret
        exact ⟨by simp, below_newD hb⟩
      · skip
        cases e4 : (tn == 0)
        · skip
          go_enter Try.func121, Try.ntmps121
          go_wp2
          go_region_held3 (fun w' => w'.cell? ⟨w.heap.size, 0, none⟩ = some (.int .i64 1) ∧ w'.cell? ⟨w.heap.size, 1, none⟩ = some (.int .i64 ho) ∧ w'.cell? ⟨w.heap.size, 2, none⟩ = some (.int .i64 hn) ∧ w'.cell? ⟨w.heap.size, 3, none⟩ = some (.int .i64 wh) ∧ w'.cell? ⟨w.heap.size, 4, none⟩ = some (.int .i64 oo) ∧ w'.cell? ⟨w.heap.size, 5, none⟩ = some (.int .i64 on) ∧ w'.cell? ⟨w.heap.size, 6, none⟩ = some (.int .i64 tw) ∧ w'.cell? ⟨w.heap.size, 7, none⟩ = some (.int .i64 tn)) (first | go_keep | exact hS) (first | (go_at_call 134; refine (without_1 ho hn wh oo on tw tn w.heap.size _ ?_).mono ?_; (first | assumption | simp [*]); rintro e w1 ⟨rfl, hS, hb⟩))
          go_wp2
          go_ret
          exact ⟨by simp, below_newD hb⟩
        · skip
          go_enter Try.func121, Try.ntmps121
          go_wp2
          go_region_held3 (fun w' => w'.cell? ⟨w.heap.size, 0, none⟩ = some (.int .i64 1) ∧ w'.cell? ⟨w.heap.size, 1, none⟩ = some (.int .i64 ho) ∧ w'.cell? ⟨w.heap.size, 2, none⟩ = some (.int .i64 hn) ∧ w'.cell? ⟨w.heap.size, 3, none⟩ = some (.int .i64 wh) ∧ w'.cell? ⟨w.heap.size, 4, none⟩ = some (.int .i64 oo) ∧ w'.cell? ⟨w.heap.size, 5, none⟩ = some (.int .i64 on) ∧ w'.cell? ⟨w.heap.size, 6, none⟩ = some (.int .i64 tw) ∧ w'.cell? ⟨w.heap.size, 7, none⟩ = some (.int .i64 tn)) (first | go_keep | exact hS) (first | (go_at_call 134; refine (without_1 ho hn wh oo on tw tn w.heap.size _ ?_).mono ?_; (first | assumption | simp [*]); rintro e w1 ⟨rfl, hS, hb⟩))
          go_wp2
          go_ret
          exact ⟨by simp, below_newD hb⟩

set_option maxHeartbeats 2000000 in
theorem stray_2 (ho hn wh oo on tw tn : Int) (w : World) :
    Calls Try.prog 121 #[.agg #[.int .i64 2, .int .i64 ho, .int .i64 hn, .int .i64 wh, .int .i64 oo, .int .i64 on, .int .i64 tw, .int .i64 tn]] w fun e w' => e = .returned (.bool (!(wh == 0 && tw == 0 && tn == 0))) ∧ Below w.heap.size w w' := by
  cases e1 : (wh == 0)
  · skip
    go_enter Try.func121, Try.ntmps121
    go_wp2
    go_region_held3 (fun w' => w'.cell? ⟨w.heap.size, 0, none⟩ = some (.int .i64 2) ∧ w'.cell? ⟨w.heap.size, 1, none⟩ = some (.int .i64 ho) ∧ w'.cell? ⟨w.heap.size, 2, none⟩ = some (.int .i64 hn) ∧ w'.cell? ⟨w.heap.size, 3, none⟩ = some (.int .i64 wh) ∧ w'.cell? ⟨w.heap.size, 4, none⟩ = some (.int .i64 oo) ∧ w'.cell? ⟨w.heap.size, 5, none⟩ = some (.int .i64 on) ∧ w'.cell? ⟨w.heap.size, 6, none⟩ = some (.int .i64 tw) ∧ w'.cell? ⟨w.heap.size, 7, none⟩ = some (.int .i64 tn)) (first | go_keep | exact hS) (first | (go_at_call 134; refine (without_2 ho hn wh oo on tw tn w.heap.size _ ?_).mono ?_; (first | assumption | simp [*]); rintro e w1 ⟨rfl, hS, hb⟩))
    go_wp2
    go_ret
    exact ⟨by simp, below_newD hb⟩
  · skip
    cases e2 : (tw == 0)
    · skip
      go_enter Try.func121, Try.ntmps121
      go_wp2
      go_region_held3 (fun w' => w'.cell? ⟨w.heap.size, 0, none⟩ = some (.int .i64 2) ∧ w'.cell? ⟨w.heap.size, 1, none⟩ = some (.int .i64 ho) ∧ w'.cell? ⟨w.heap.size, 2, none⟩ = some (.int .i64 hn) ∧ w'.cell? ⟨w.heap.size, 3, none⟩ = some (.int .i64 wh) ∧ w'.cell? ⟨w.heap.size, 4, none⟩ = some (.int .i64 oo) ∧ w'.cell? ⟨w.heap.size, 5, none⟩ = some (.int .i64 on) ∧ w'.cell? ⟨w.heap.size, 6, none⟩ = some (.int .i64 tw) ∧ w'.cell? ⟨w.heap.size, 7, none⟩ = some (.int .i64 tn)) (first | go_keep | exact hS) (first | (go_at_call 134; refine (without_2 ho hn wh oo on tw tn w.heap.size _ ?_).mono ?_; (first | assumption | simp [*]); rintro e w1 ⟨rfl, hS, hb⟩))
      go_wp2
      go_ret
      exact ⟨by simp, below_newD hb⟩
    · skip
      cases e3 : (tn == 0)
      · skip
        go_enter Try.func121, Try.ntmps121
        go_wp2
        go_region_held3 (fun w' => w'.cell? ⟨w.heap.size, 0, none⟩ = some (.int .i64 2) ∧ w'.cell? ⟨w.heap.size, 1, none⟩ = some (.int .i64 ho) ∧ w'.cell? ⟨w.heap.size, 2, none⟩ = some (.int .i64 hn) ∧ w'.cell? ⟨w.heap.size, 3, none⟩ = some (.int .i64 wh) ∧ w'.cell? ⟨w.heap.size, 4, none⟩ = some (.int .i64 oo) ∧ w'.cell? ⟨w.heap.size, 5, none⟩ = some (.int .i64 on) ∧ w'.cell? ⟨w.heap.size, 6, none⟩ = some (.int .i64 tw) ∧ w'.cell? ⟨w.heap.size, 7, none⟩ = some (.int .i64 tn)) (first | go_keep | exact hS) (first | (go_at_call 134; refine (without_2 ho hn wh oo on tw tn w.heap.size _ ?_).mono ?_; (first | assumption | simp [*]); rintro e w1 ⟨rfl, hS, hb⟩))
        go_wp2
        go_ret
        exact ⟨by simp, below_newD hb⟩
      · skip
        go_enter Try.func121, Try.ntmps121
        go_wp2
        go_region_held3 (fun w' => w'.cell? ⟨w.heap.size, 0, none⟩ = some (.int .i64 2) ∧ w'.cell? ⟨w.heap.size, 1, none⟩ = some (.int .i64 ho) ∧ w'.cell? ⟨w.heap.size, 2, none⟩ = some (.int .i64 hn) ∧ w'.cell? ⟨w.heap.size, 3, none⟩ = some (.int .i64 wh) ∧ w'.cell? ⟨w.heap.size, 4, none⟩ = some (.int .i64 oo) ∧ w'.cell? ⟨w.heap.size, 5, none⟩ = some (.int .i64 on) ∧ w'.cell? ⟨w.heap.size, 6, none⟩ = some (.int .i64 tw) ∧ w'.cell? ⟨w.heap.size, 7, none⟩ = some (.int .i64 tn)) (first | go_keep | exact hS) (first | (go_at_call 134; refine (without_2 ho hn wh oo on tw tn w.heap.size _ ?_).mono ?_; (first | assumption | simp [*]); rintro e w1 ⟨rfl, hS, hb⟩))
        go_wp2
        go_ret
        exact ⟨by simp, below_newD hb⟩

set_option maxHeartbeats 2000000 in
theorem stray_3 (ho hn wh oo on tw tn : Int) (w : World) :
    Calls Try.prog 121 #[.agg #[.int .i64 3, .int .i64 ho, .int .i64 hn, .int .i64 wh, .int .i64 oo, .int .i64 on, .int .i64 tw, .int .i64 tn]] w fun e w' => e = .returned (.bool (!(wh == 0 && tw == 0))) ∧ Below w.heap.size w w' := by
  cases e1 : (wh == 0)
  · skip
    go_enter Try.func121, Try.ntmps121
    go_wp2
    go_region_held3 (fun w' => w'.cell? ⟨w.heap.size, 0, none⟩ = some (.int .i64 3) ∧ w'.cell? ⟨w.heap.size, 1, none⟩ = some (.int .i64 ho) ∧ w'.cell? ⟨w.heap.size, 2, none⟩ = some (.int .i64 hn) ∧ w'.cell? ⟨w.heap.size, 3, none⟩ = some (.int .i64 wh) ∧ w'.cell? ⟨w.heap.size, 4, none⟩ = some (.int .i64 oo) ∧ w'.cell? ⟨w.heap.size, 5, none⟩ = some (.int .i64 on) ∧ w'.cell? ⟨w.heap.size, 6, none⟩ = some (.int .i64 tw) ∧ w'.cell? ⟨w.heap.size, 7, none⟩ = some (.int .i64 tn)) (first | go_keep | exact hS) (first | (go_at_call 134; refine (without_3 ho hn wh oo on tw tn w.heap.size _ ?_).mono ?_; (first | assumption | simp [*]); rintro e w1 ⟨rfl, hS, hb⟩))
    go_wp2
    go_ret
    exact ⟨by simp, below_newD hb⟩
  · skip
    cases e2 : (tw == 0)
    · skip
      go_enter Try.func121, Try.ntmps121
      go_wp2
      go_region_held3 (fun w' => w'.cell? ⟨w.heap.size, 0, none⟩ = some (.int .i64 3) ∧ w'.cell? ⟨w.heap.size, 1, none⟩ = some (.int .i64 ho) ∧ w'.cell? ⟨w.heap.size, 2, none⟩ = some (.int .i64 hn) ∧ w'.cell? ⟨w.heap.size, 3, none⟩ = some (.int .i64 wh) ∧ w'.cell? ⟨w.heap.size, 4, none⟩ = some (.int .i64 oo) ∧ w'.cell? ⟨w.heap.size, 5, none⟩ = some (.int .i64 on) ∧ w'.cell? ⟨w.heap.size, 6, none⟩ = some (.int .i64 tw) ∧ w'.cell? ⟨w.heap.size, 7, none⟩ = some (.int .i64 tn)) (first | go_keep | exact hS) (first | (go_at_call 134; refine (without_3 ho hn wh oo on tw tn w.heap.size _ ?_).mono ?_; (first | assumption | simp [*]); rintro e w1 ⟨rfl, hS, hb⟩))
      go_wp2
      go_ret
      exact ⟨by simp, below_newD hb⟩
    · skip
      go_enter Try.func121, Try.ntmps121
      go_wp2
      go_region_held3 (fun w' => w'.cell? ⟨w.heap.size, 0, none⟩ = some (.int .i64 3) ∧ w'.cell? ⟨w.heap.size, 1, none⟩ = some (.int .i64 ho) ∧ w'.cell? ⟨w.heap.size, 2, none⟩ = some (.int .i64 hn) ∧ w'.cell? ⟨w.heap.size, 3, none⟩ = some (.int .i64 wh) ∧ w'.cell? ⟨w.heap.size, 4, none⟩ = some (.int .i64 oo) ∧ w'.cell? ⟨w.heap.size, 5, none⟩ = some (.int .i64 on) ∧ w'.cell? ⟨w.heap.size, 6, none⟩ = some (.int .i64 tw) ∧ w'.cell? ⟨w.heap.size, 7, none⟩ = some (.int .i64 tn)) (first | go_keep | exact hS) (first | (go_at_call 134; refine (without_3 ho hn wh oo on tw tn w.heap.size _ ?_).mono ?_; (first | assumption | simp [*]); rintro e w1 ⟨rfl, hS, hb⟩))
      go_wp2
      go_ret
      exact ⟨by simp, below_newD hb⟩

set_option maxHeartbeats 2000000 in
theorem stray_4 (ho hn wh oo on tw tn : Int) (w : World) :
    Calls Try.prog 121 #[.agg #[.int .i64 4, .int .i64 ho, .int .i64 hn, .int .i64 wh, .int .i64 oo, .int .i64 on, .int .i64 tw, .int .i64 tn]] w fun e w' => e = .returned (.bool (!(wh == 0))) ∧ Below w.heap.size w w' := by
  cases e1 : (wh == 0)
  · skip
    go_enter Try.func121, Try.ntmps121
    go_wp2
    go_region_held3 (fun w' => w'.cell? ⟨w.heap.size, 0, none⟩ = some (.int .i64 4) ∧ w'.cell? ⟨w.heap.size, 1, none⟩ = some (.int .i64 ho) ∧ w'.cell? ⟨w.heap.size, 2, none⟩ = some (.int .i64 hn) ∧ w'.cell? ⟨w.heap.size, 3, none⟩ = some (.int .i64 wh) ∧ w'.cell? ⟨w.heap.size, 4, none⟩ = some (.int .i64 oo) ∧ w'.cell? ⟨w.heap.size, 5, none⟩ = some (.int .i64 on) ∧ w'.cell? ⟨w.heap.size, 6, none⟩ = some (.int .i64 tw) ∧ w'.cell? ⟨w.heap.size, 7, none⟩ = some (.int .i64 tn)) (first | go_keep | exact hS) (first | (go_at_call 134; refine (without_4 ho hn wh oo on tw tn w.heap.size _ ?_).mono ?_; (first | assumption | simp [*]); rintro e w1 ⟨rfl, hS, hb⟩))
    go_wp2
    go_ret
    exact ⟨by simp, below_newD hb⟩
  · skip
    go_enter Try.func121, Try.ntmps121
    go_wp2
    go_region_held3 (fun w' => w'.cell? ⟨w.heap.size, 0, none⟩ = some (.int .i64 4) ∧ w'.cell? ⟨w.heap.size, 1, none⟩ = some (.int .i64 ho) ∧ w'.cell? ⟨w.heap.size, 2, none⟩ = some (.int .i64 hn) ∧ w'.cell? ⟨w.heap.size, 3, none⟩ = some (.int .i64 wh) ∧ w'.cell? ⟨w.heap.size, 4, none⟩ = some (.int .i64 oo) ∧ w'.cell? ⟨w.heap.size, 5, none⟩ = some (.int .i64 on) ∧ w'.cell? ⟨w.heap.size, 6, none⟩ = some (.int .i64 tw) ∧ w'.cell? ⟨w.heap.size, 7, none⟩ = some (.int .i64 tn)) (first | go_keep | exact hS) (first | (go_at_call 134; refine (without_4 ho hn wh oo on tw tn w.heap.size _ ?_).mono ?_; (first | assumption | simp [*]); rintro e w1 ⟨rfl, hS, hb⟩))
    go_wp2
    go_ret
    exact ⟨by simp, below_newD hb⟩

theorem hasStray_c (r : RuleI) (hk : 1 ≤ r.k ∧ r.k ≤ 4) (w : World) :
    Calls Try.prog 121 #[.agg #[.int .i64 r.k, .int .i64 r.ho, .int .i64 r.hn, .int .i64 r.w, .int .i64 r.oo, .int .i64 r.on, .int .i64 r.to, .int .i64 r.tn]] w fun e w' =>
      e = .returned (.bool (!bareB r)) ∧ Below w.heap.size w w' := by
  obtain ⟨k, ho, hn, wh, oo, on, tw, tn⟩ := r
  simp only at hk ⊢
  have hk' : k = 1 ∨ k = 2 ∨ k = 3 ∨ k = 4 := by omega
  rcases hk' with rfl | rfl | rfl | rfl
  · exact stray_1 ho hn wh oo on tw tn w
  · exact stray_2 ho hn wh oo on tw tn w
  · exact stray_3 ho hn wh oo on tw tn w
  · exact stray_4 ho hn wh oo on tw tn w

end Go.Proofs.Ytocdclgolhhckaa

namespace Go.Proofs.Ytocdclgolhhckaa
open Go.RowKit
set_option linter.unusedVariables false
set_option linter.unusedSimpArgs false

set_option maxHeartbeats 2000000 in
theorem ruleFault_in (r : RuleI) (t : TypeId) (v : Value) (w : World) (hk : 1 ≤ r.k ∧ r.k ≤ 4)
    (HO : Hid (∀ w : World, Calls Try.prog 120 #[.agg #[.int .i64 r.k, .int .i64 r.ho, .int .i64 r.hn, .int .i64 r.w, .int .i64 r.oo, .int .i64 r.on, .int .i64 r.to, .int .i64 r.tn]] w fun e w' => e = .returned (.iface t v) ∧ Below w.heap.size w w'))
    (HF : Hid (∀ w : World, Calls Try.prog 122 #[.iface t v] w fun e w' => e = .returned (.int .i64 (if hasB r = true then 0 else 3)) ∧ Below w.heap.size w w')) :
    Calls Try.prog 96 #[.agg #[.int .i64 r.k, .int .i64 r.ho, .int .i64 r.hn, .int .i64 r.w, .int .i64 r.oo, .int .i64 r.on, .int .i64 r.to, .int .i64 r.tn]] w fun e w' => e = .returned (.int .i64 (ruleCode r)) ∧ Below w.heap.size w w' := by
  have hX : Hid (RuleAt (w.alloc (Obj.cells #[.int .i64 r.k, .int .i64 r.ho, .int .i64 r.hn, .int .i64 r.w, .int .i64 r.oo, .int .i64 r.on, .int .i64 r.to, .int .i64 r.tn] 80)) w.heap.size 0 r) := RuleAt.new w r _
  cases hr : roleB r.ho r.hn
  · have E : Hid (ruleCode r = 3) := by show ruleCode r = 3; simp [ruleCode, hk, hr]
    have hc : roleCode r.ho r.hn = 3 := by simp [roleCode, hr]
    have hb : Below (w.alloc (Obj.cells #[.int .i64 r.k, .int .i64 r.ho, .int .i64 r.hn, .int .i64 r.w, .int .i64 r.oo, .int .i64 r.on, .int .i64 r.to, .int .i64 r.tn] 80)).heap.size (w.alloc (Obj.cells #[.int .i64 r.k, .int .i64 r.ho, .int .i64 r.hn, .int .i64 r.w, .int .i64 r.oo, .int .i64 r.on, .int .i64 r.to, .int .i64 r.tn] 80)) (w.alloc (Obj.cells #[.int .i64 r.k, .int .i64 r.ho, .int .i64 r.hn, .int .i64 r.w, .int .i64 r.oo, .int .i64 r.on, .int .i64 r.to, .int .i64 r.tn] 80)) := Below.refl _ _
    obtain ⟨h0, h1, h2, h3, h4, h5, h6, h7⟩ := hX.out
    simp only [Nat.zero_add] at h0 h1 h2 h3 h4 h5 h6 h7
    go_enter Try.func96, Try.ntmps96
    go_wp2_with (first | (go_at_call 120; refine (HO.out _).mono ?_; rintro e w1 ⟨rfl, hb1⟩; replace hb := hb.trans (hb1.mono hb.size); clear h0 h1 h2 h3 h4 h5 h6 h7 hb1; obtain ⟨h0, h1, h2, h3, h4, h5, h6, h7⟩ := hX.out.below hb; simp only [Nat.zero_add] at h0 h1 h2 h3 h4 h5 h6 h7) | (go_at_call 60; refine (implRoleFault_c _ _ _).mono ?_; rintro e w1 ⟨rfl, hb1⟩; replace hb := hb.trans (hb1.mono hb.size); clear h0 h1 h2 h3 h4 h5 h6 h7 hb1; obtain ⟨h0, h1, h2, h3, h4, h5, h6, h7⟩ := hX.out.below hb; simp only [Nat.zero_add] at h0 h1 h2 h3 h4 h5 h6 h7; rw [hc]))
    go_ret
    exact ⟨by rw [E.out]; rfl, below_new hb⟩
  · have hc : roleCode r.ho r.hn = 0 := by simp [roleCode, hr]
    cases hbr : bareB r
    · have E : Hid (ruleCode r = 1) := by show ruleCode r = 1; simp [ruleCode, hk, hr, hbr]
      have hb : Below (w.alloc (Obj.cells #[.int .i64 r.k, .int .i64 r.ho, .int .i64 r.hn, .int .i64 r.w, .int .i64 r.oo, .int .i64 r.on, .int .i64 r.to, .int .i64 r.tn] 80)).heap.size (w.alloc (Obj.cells #[.int .i64 r.k, .int .i64 r.ho, .int .i64 r.hn, .int .i64 r.w, .int .i64 r.oo, .int .i64 r.on, .int .i64 r.to, .int .i64 r.tn] 80)) (w.alloc (Obj.cells #[.int .i64 r.k, .int .i64 r.ho, .int .i64 r.hn, .int .i64 r.w, .int .i64 r.oo, .int .i64 r.on, .int .i64 r.to, .int .i64 r.tn] 80)) := Below.refl _ _
      obtain ⟨h0, h1, h2, h3, h4, h5, h6, h7⟩ := hX.out
      simp only [Nat.zero_add] at h0 h1 h2 h3 h4 h5 h6 h7
      go_enter Try.func96, Try.ntmps96
      go_wp2_with (first | (go_at_call 120; refine (HO.out _).mono ?_; rintro e w1 ⟨rfl, hb1⟩; replace hb := hb.trans (hb1.mono hb.size); clear h0 h1 h2 h3 h4 h5 h6 h7 hb1; obtain ⟨h0, h1, h2, h3, h4, h5, h6, h7⟩ := hX.out.below hb; simp only [Nat.zero_add] at h0 h1 h2 h3 h4 h5 h6 h7) | (go_at_call 60; refine (implRoleFault_c _ _ _).mono ?_; rintro e w1 ⟨rfl, hb1⟩; replace hb := hb.trans (hb1.mono hb.size); clear h0 h1 h2 h3 h4 h5 h6 h7 hb1; obtain ⟨h0, h1, h2, h3, h4, h5, h6, h7⟩ := hX.out.below hb; simp only [Nat.zero_add] at h0 h1 h2 h3 h4 h5 h6 h7; rw [hc]) | (go_at_call 121; refine (hasStray_c r hk _).mono ?_; rintro e w1 ⟨rfl, hb1⟩; replace hb := hb.trans (hb1.mono hb.size); clear h0 h1 h2 h3 h4 h5 h6 h7 hb1; obtain ⟨h0, h1, h2, h3, h4, h5, h6, h7⟩ := hX.out.below hb; simp only [Nat.zero_add] at h0 h1 h2 h3 h4 h5 h6 h7; rw [hbr]))
      go_ret
      exact ⟨by rw [E.out]; rfl, below_new hb⟩
    · have E : Hid (ruleCode r = if hasB r = true then 0 else 3) := by show ruleCode r = if hasB r = true then 0 else 3; simp [ruleCode, hk, hr, hbr]; cases hasB r <;> rfl
      obtain ⟨c, hcc⟩ : ∃ c : Int, c = if hasB r = true then 0 else 3 := ⟨_, rfl⟩
      rw [← hcc] at HF E
      clear hcc
      have hb : Below (w.alloc (Obj.cells #[.int .i64 r.k, .int .i64 r.ho, .int .i64 r.hn, .int .i64 r.w, .int .i64 r.oo, .int .i64 r.on, .int .i64 r.to, .int .i64 r.tn] 80)).heap.size (w.alloc (Obj.cells #[.int .i64 r.k, .int .i64 r.ho, .int .i64 r.hn, .int .i64 r.w, .int .i64 r.oo, .int .i64 r.on, .int .i64 r.to, .int .i64 r.tn] 80)) (w.alloc (Obj.cells #[.int .i64 r.k, .int .i64 r.ho, .int .i64 r.hn, .int .i64 r.w, .int .i64 r.oo, .int .i64 r.on, .int .i64 r.to, .int .i64 r.tn] 80)) := Below.refl _ _
      obtain ⟨h0, h1, h2, h3, h4, h5, h6, h7⟩ := hX.out
      simp only [Nat.zero_add] at h0 h1 h2 h3 h4 h5 h6 h7
      go_enter Try.func96, Try.ntmps96
      go_wp2_with (first | (go_at_call 120; refine (HO.out _).mono ?_; rintro e w1 ⟨rfl, hb1⟩; replace hb := hb.trans (hb1.mono hb.size); clear h0 h1 h2 h3 h4 h5 h6 h7 hb1; obtain ⟨h0, h1, h2, h3, h4, h5, h6, h7⟩ := hX.out.below hb; simp only [Nat.zero_add] at h0 h1 h2 h3 h4 h5 h6 h7) | (go_at_call 60; refine (implRoleFault_c _ _ _).mono ?_; rintro e w1 ⟨rfl, hb1⟩; replace hb := hb.trans (hb1.mono hb.size); clear h0 h1 h2 h3 h4 h5 h6 h7 hb1; obtain ⟨h0, h1, h2, h3, h4, h5, h6, h7⟩ := hX.out.below hb; simp only [Nat.zero_add] at h0 h1 h2 h3 h4 h5 h6 h7; rw [hc]) | (go_at_call 121; refine (hasStray_c r hk _).mono ?_; rintro e w1 ⟨rfl, hb1⟩; replace hb := hb.trans (hb1.mono hb.size); clear h0 h1 h2 h3 h4 h5 h6 h7 hb1; obtain ⟨h0, h1, h2, h3, h4, h5, h6, h7⟩ := hX.out.below hb; simp only [Nat.zero_add] at h0 h1 h2 h3 h4 h5 h6 h7; rw [hbr]) | (go_at_call 122; refine (HF.out _).mono ?_; rintro e w1 ⟨rfl, hb1⟩; replace hb := hb.trans (hb1.mono hb.size); clear h0 h1 h2 h3 h4 h5 h6 h7 hb1; obtain ⟨h0, h1, h2, h3, h4, h5, h6, h7⟩ := hX.out.below hb; simp only [Nat.zero_add] at h0 h1 h2 h3 h4 h5 h6 h7))
      go_ret
      exact ⟨by rw [E.out]; rfl, below_new hb⟩

theorem implRuleFault_c (r : RuleI) (w : World) :
    Calls Try.prog 96 #[.agg #[.int .i64 r.k, .int .i64 r.ho, .int .i64 r.hn, .int .i64 r.w, .int .i64 r.oo, .int .i64 r.on, .int .i64 r.to, .int .i64 r.tn]] w fun e w' =>
      e = .returned (.int .i64 (ruleCode r)) ∧ Below w.heap.size w w' := by
  by_cases hk : 1 ≤ r.k ∧ r.k ≤ 4
  · have hk' : r.k = 1 ∨ r.k = 2 ∨ r.k = 3 ∨ r.k = 4 := by omega
    rcases hk' with e | e | e | e
    · have e2 : hasB r = prinB r.w := by simp [hasB, e]
      exact ruleFault_in r _ _ w hk (bodyOf_1 r e) (fun w => by rw [e2]; exact bodyFault_1 r.w w)
    · have e2 : hasB r = roleB r.oo r.on := by simp [hasB, e]
      exact ruleFault_in r _ _ w hk (bodyOf_2 r e) (fun w => by rw [e2]; exact bodyFault_2 r.oo r.on w)
    · have e2 : hasB r = (roleB r.oo r.on && nameB r.tn) := by simp [hasB, e]
      exact ruleFault_in r _ _ w hk (bodyOf_3 r e) (fun w => by rw [e2]; exact bodyFault_3 r.oo r.on r.tn w)
    · have e2 : hasB r = (roleB r.oo r.on && roleB r.to r.tn) := by simp [hasB, e]
      exact ruleFault_in r _ _ w hk (bodyOf_4 r e) (fun w => by rw [e2]; exact bodyFault_4 r.oo r.on r.to r.tn w)
  · have E : Hid (ruleCode r = 1) := by show ruleCode r = 1; simp [ruleCode, hk]
    go_enter Try.func96, Try.ntmps96
    go_wp2_with (first | (go_at_call 120; refine (bodyOf_0 r hk _).mono ?_; rintro e w1 ⟨rfl, hb1⟩))
    go_ret
    exact ⟨by rw [E.out]; rfl, below_new hb1⟩

end Go.Proofs.Ytocdclgolhhckaa
