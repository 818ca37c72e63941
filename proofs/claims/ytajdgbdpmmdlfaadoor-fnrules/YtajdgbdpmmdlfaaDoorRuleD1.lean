/-
  CONTRACT of impl.ruleOfDigits.
  Conditions: each contract bears its own.
-/
import Derived.Test.YtajdgbdpmmdlfaaDoorBack1
import Derived.Deep.RegionHeld3
import Derived.BigRegion
namespace Go.Proofs.YtajdgbdpmmdlfaaDoor
open Go.RowKit
set_option linter.unusedVariables false
set_option linter.unusedSimpArgs false

set_option maxRecDepth 20000 in
set_option maxHeartbeats 2000000 in
theorem ruleOf_3 (g cap : Nat) (a b c : Int) (w : World) (h : w.cell? ⟨g, 0, none⟩ = some (.int .i64 a) ∧ w.cell? ⟨g, 1, none⟩ = some (.int .i64 b) ∧ w.cell? ⟨g, 2, none⟩ = some (.int .i64 c)) :
    Calls Tryd.prog 55 #[.slice (some ⟨g, 0, none⟩) 3 cap] w fun e w' => e = .returned (.agg #[.int .i64 1, .int .i64 a, .int .i64 b, .int .i64 c, .int .i64 0, .int .i64 0, .int .i64 0, .int .i64 0]) ∧ Below w.heap.size w w' := by
  obtain ⟨h0, h1, h2⟩ := h
  have hg : g < w.heap.size := World.block_lt_of_cell? w ⟨g, 0, none⟩ h0
  go_enter Tryd.func55, Tryd.ntmps55
  go_wp2
  go_region_held3 (fun w' => w'.cell? ⟨g, 0, none⟩ = some (.int .i64 a) ∧ w'.cell? ⟨g, 1, none⟩ = some (.int .i64 b) ∧ w'.cell? ⟨g, 2, none⟩ = some (.int .i64 c) ∧ Below w.heap.size w w') (exact ⟨by go_cell, by go_cell, by go_cell, by go_grown⟩) (fail)
  go_wp2
  go_returns
  exact ⟨rfl, by go_grown⟩

set_option maxRecDepth 20000 in
set_option maxHeartbeats 2000000 in
theorem ruleOf_4 (g cap : Nat) (a b c d : Int) (w : World) (h : w.cell? ⟨g, 0, none⟩ = some (.int .i64 a) ∧ w.cell? ⟨g, 1, none⟩ = some (.int .i64 b) ∧ w.cell? ⟨g, 2, none⟩ = some (.int .i64 c) ∧ w.cell? ⟨g, 3, none⟩ = some (.int .i64 d)) :
    Calls Tryd.prog 55 #[.slice (some ⟨g, 0, none⟩) 4 cap] w fun e w' => e = .returned (.agg #[.int .i64 2, .int .i64 a, .int .i64 b, .int .i64 0, .int .i64 c, .int .i64 d, .int .i64 0, .int .i64 0]) ∧ Below w.heap.size w w' := by
  obtain ⟨h0, h1, h2, h3⟩ := h
  have hg : g < w.heap.size := World.block_lt_of_cell? w ⟨g, 0, none⟩ h0
  go_enter Tryd.func55, Tryd.ntmps55
  go_wp2
  go_region_held3 (fun w' => w'.cell? ⟨g, 0, none⟩ = some (.int .i64 a) ∧ w'.cell? ⟨g, 1, none⟩ = some (.int .i64 b) ∧ w'.cell? ⟨g, 2, none⟩ = some (.int .i64 c) ∧ w'.cell? ⟨g, 3, none⟩ = some (.int .i64 d) ∧ Below w.heap.size w w') (exact ⟨by go_cell, by go_cell, by go_cell, by go_cell, by go_grown⟩) (fail)
  go_wp2
  go_returns
  exact ⟨rfl, by go_grown⟩

set_option maxRecDepth 20000 in
set_option maxHeartbeats 2000000 in
theorem ruleOf_5 (g cap : Nat) (a b c d p : Int) (w : World) (h : w.cell? ⟨g, 0, none⟩ = some (.int .i64 a) ∧ w.cell? ⟨g, 1, none⟩ = some (.int .i64 b) ∧ w.cell? ⟨g, 2, none⟩ = some (.int .i64 c) ∧ w.cell? ⟨g, 3, none⟩ = some (.int .i64 d) ∧ w.cell? ⟨g, 4, none⟩ = some (.int .i64 p)) :
    Calls Tryd.prog 55 #[.slice (some ⟨g, 0, none⟩) 5 cap] w fun e w' => e = .returned (.agg #[.int .i64 3, .int .i64 a, .int .i64 b, .int .i64 0, .int .i64 c, .int .i64 d, .int .i64 0, .int .i64 p]) ∧ Below w.heap.size w w' := by
  obtain ⟨h0, h1, h2, h3, h4⟩ := h
  have hg : g < w.heap.size := World.block_lt_of_cell? w ⟨g, 0, none⟩ h0
  go_enter Tryd.func55, Tryd.ntmps55
  go_wp2
  go_region_held3 (fun w' => w'.cell? ⟨g, 0, none⟩ = some (.int .i64 a) ∧ w'.cell? ⟨g, 1, none⟩ = some (.int .i64 b) ∧ w'.cell? ⟨g, 2, none⟩ = some (.int .i64 c) ∧ w'.cell? ⟨g, 3, none⟩ = some (.int .i64 d) ∧ w'.cell? ⟨g, 4, none⟩ = some (.int .i64 p) ∧ Below w.heap.size w w') (exact ⟨by go_cell, by go_cell, by go_cell, by go_cell, by go_cell, by go_grown⟩) (fail)
  go_wp2
  go_returns
  exact ⟨rfl, by go_grown⟩

set_option maxRecDepth 20000 in
set_option maxHeartbeats 2000000 in
theorem ruleOf_6 (g cap : Nat) (a b c d p f : Int) (w : World) (h : w.cell? ⟨g, 0, none⟩ = some (.int .i64 a) ∧ w.cell? ⟨g, 1, none⟩ = some (.int .i64 b) ∧ w.cell? ⟨g, 2, none⟩ = some (.int .i64 c) ∧ w.cell? ⟨g, 3, none⟩ = some (.int .i64 d) ∧ w.cell? ⟨g, 4, none⟩ = some (.int .i64 p) ∧ w.cell? ⟨g, 5, none⟩ = some (.int .i64 f)) :
    Calls Tryd.prog 55 #[.slice (some ⟨g, 0, none⟩) 6 cap] w fun e w' => e = .returned (.agg #[.int .i64 4, .int .i64 a, .int .i64 b, .int .i64 0, .int .i64 c, .int .i64 d, .int .i64 p, .int .i64 f]) ∧ Below w.heap.size w w' := by
  obtain ⟨h0, h1, h2, h3, h4, h5⟩ := h
  have hg : g < w.heap.size := World.block_lt_of_cell? w ⟨g, 0, none⟩ h0
  go_enter Tryd.func55, Tryd.ntmps55
  go_wp2
  go_region_held3 (fun w' => w'.cell? ⟨g, 0, none⟩ = some (.int .i64 a) ∧ w'.cell? ⟨g, 1, none⟩ = some (.int .i64 b) ∧ w'.cell? ⟨g, 2, none⟩ = some (.int .i64 c) ∧ w'.cell? ⟨g, 3, none⟩ = some (.int .i64 d) ∧ w'.cell? ⟨g, 4, none⟩ = some (.int .i64 p) ∧ w'.cell? ⟨g, 5, none⟩ = some (.int .i64 f) ∧ Below w.heap.size w w') (exact ⟨by go_cell, by go_cell, by go_cell, by go_cell, by go_cell, by go_cell, by go_grown⟩) (fail)
  go_wp2
  go_returns
  exact ⟨rfl, by go_grown⟩

set_option maxRecDepth 20000 in
set_option maxHeartbeats 1000000 in
theorem ruleOf_none (a : Option Addr) (n cap : Nat) (w : World) (h : n < 3 ∨ 6 < n) (hn : n ≤ 1048576) :
    Calls Tryd.prog 55 #[.slice a n cap] w fun e w' => e = .returned (.agg #[.int .i64 0, .int .i64 0, .int .i64 0, .int .i64 0, .int .i64 0, .int .i64 0, .int .i64 0, .int .i64 0]) ∧ Below w.heap.size w w' := by
  have e3 : ((n : Int) == 3) = false := by simp; omega
  have e4 : ((n : Int) == 4) = false := by simp; omega
  have e5 : ((n : Int) == 5) = false := by simp; omega
  have e6 : ((n : Int) == 6) = false := by simp; omega
  clear h
  go_enter Tryd.func55, Tryd.ntmps55
  go_wp2
  go_returns
  exact ⟨rfl, by go_grown⟩

theorem ruleOf_c (a : Option Addr) (cap B : Nat) (ds : List Int) (w : World) (hn : ds.length ≤ 1048576) (hown : w.ownsRow B 2 1 (.slice a ds.length cap) ds.length (ds.map (Value.int .i64))) :
    Calls Tryd.prog 55 #[.slice a ds.length cap] w fun e w' => e = .returned (.agg #[.int .i64 (ruleOfD ds).k, .int .i64 (ruleOfD ds).ho, .int .i64 (ruleOfD ds).hn, .int .i64 (ruleOfD ds).w, .int .i64 (ruleOfD ds).oo, .int .i64 (ruleOfD ds).on, .int .i64 (ruleOfD ds).to, .int .i64 (ruleOfD ds).tn]) ∧ Below w.heap.size w w' := by
  have key : ∀ g, a = some ⟨g, 0, none⟩ → ∀ k x, ds[k]? = some x → w.cell? ⟨g, k, none⟩ = some (.int .i64 x) := by
    rintro g rfl k x hx
    have hk : k < ds.length := (List.getElem?_eq_some_iff.1 hx).1
    rw [hown.cellAt k (by omega)]
    simp [hx]
  have hg : 0 < ds.length → ∃ g, a = some ⟨g, 0, none⟩ := by
    intro hp
    rcases hown.2 with ⟨h', h0⟩ | ⟨g, cp, cur, h', _⟩
    · omega
    · simp only [Value.slice.injEq] at h'
      exact ⟨g, h'.1⟩
  match ds, hn, key, hg with
  | [], hn, _, _ => exact ruleOf_none a _ cap w (by simp) hn
  | [_], hn, _, _ => exact ruleOf_none a _ cap w (by simp) hn
  | [_, _], hn, _, _ => exact ruleOf_none a _ cap w (by simp) hn
  | [x, y, z], _, key, hg =>
    obtain ⟨g, rfl⟩ := hg (by simp)
    exact ruleOf_3 g cap x y z w ⟨key g rfl 0 _ rfl, key g rfl 1 _ rfl, key g rfl 2 _ rfl⟩
  | [x, y, z, u], _, key, hg =>
    obtain ⟨g, rfl⟩ := hg (by simp)
    exact ruleOf_4 g cap x y z u w ⟨key g rfl 0 _ rfl, key g rfl 1 _ rfl, key g rfl 2 _ rfl, key g rfl 3 _ rfl⟩
  | [x, y, z, u, v], _, key, hg =>
    obtain ⟨g, rfl⟩ := hg (by simp)
    exact ruleOf_5 g cap x y z u v w ⟨key g rfl 0 _ rfl, key g rfl 1 _ rfl, key g rfl 2 _ rfl, key g rfl 3 _ rfl, key g rfl 4 _ rfl⟩
  | [x, y, z, u, v, s], _, key, hg =>
    obtain ⟨g, rfl⟩ := hg (by simp)
    exact ruleOf_6 g cap x y z u v s w ⟨key g rfl 0 _ rfl, key g rfl 1 _ rfl, key g rfl 2 _ rfl, key g rfl 3 _ rfl, key g rfl 4 _ rfl, key g rfl 5 _ rfl⟩
  | x :: y :: z :: u :: v :: s :: q :: r, hn, _, _ => exact ruleOf_none a _ cap w (by simp) hn

end Go.Proofs.YtajdgbdpmmdlfaaDoor
