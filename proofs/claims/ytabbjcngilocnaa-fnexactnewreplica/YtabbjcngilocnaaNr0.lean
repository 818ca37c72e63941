/-
  CONTRACTS: NewReplica of both programs; results of replicas that said nothing, compared and marked.
  Conditions: each contract bears its own.
-/
import Derived.Test.YtabbjcngilocnaaRe1
import Derived.WalkKit
import Derived.ProofKit
import Derived.Outline
import Derived.Handy
import Derived.WalkSmall
import Derived.BigQuiet
import Derived.Deep.QuietTactic
import Derived.Deep.RegionHeld3
namespace Go.Proofs.Ytabbjcngilocnaa
open Go.RowKit
set_option linter.unusedVariables false
set_option linter.unusedSimpArgs false

def GivesN (fn : Nat) (id c i : Int) (w : World) : Prop := Calls Try.prog fn #[.int .i64 id] w fun e w' => e = .returned (.agg #[.int .i64 c, .int .i64 i, .int .i64 0, .slice none 0 0, .slice none 0 0]) ∧ Below w.heap.size w w'

set_option maxRecDepth 20000 in
set_option maxHeartbeats 1000000 in
theorem specNew_ok (id : Int) (w : World) (h1 : 1 ≤ id) (h2 : id ≤ 7) : GivesN 4 id 0 id w := by
  unfold GivesN
  go_enter Try.func4, Try.ntmps4
  go_wp2_with go_in
  go_returns
  exact ⟨rfl, by go_grown⟩

set_option maxRecDepth 20000 in
set_option maxHeartbeats 1000000 in
theorem specNew_low (id : Int) (w : World) (h1 : id < 1) : GivesN 4 id 3 0 w := by
  unfold GivesN
  go_enter Try.func4, Try.ntmps4
  go_wp2_with go_in
  go_returns
  exact ⟨rfl, by go_grown⟩

set_option maxRecDepth 20000 in
set_option maxHeartbeats 1000000 in
theorem specNew_high (id : Int) (w : World) (h1 : 7 < id) : GivesN 4 id 3 0 w := by
  have h0 : decide (1 ≤ id) = true := decide_eq_true (by omega)
  have h2 : decide (id ≤ 7) = false := decide_eq_false (by omega)
  have h3 : ¬ id ≤ 7 := by omega
  clear h1
  unfold GivesN
  go_enter Try.func4, Try.ntmps4
  go_wp2_with go_in
  go_returns
  exact ⟨rfl, by go_grown⟩

set_option maxRecDepth 20000 in
set_option maxHeartbeats 1000000 in
theorem implNew_ok (id : Int) (w : World) (h1 : 1 ≤ id) (h2 : id ≤ 7) : GivesN 5 id 0 id w := by
  unfold GivesN
  go_enter Try.func5, Try.ntmps5
  go_wp2_with go_in
  go_returns
  exact ⟨rfl, by go_grown⟩

set_option maxRecDepth 20000 in
set_option maxHeartbeats 1000000 in
theorem implNew_low (id : Int) (w : World) (h1 : id < 1) : GivesN 5 id 3 0 w := by
  unfold GivesN
  go_enter Try.func5, Try.ntmps5
  go_wp2_with go_in
  go_returns
  exact ⟨rfl, by go_grown⟩

set_option maxRecDepth 20000 in
set_option maxHeartbeats 1000000 in
theorem implNew_high (id : Int) (w : World) (h1 : 7 < id) : GivesN 5 id 3 0 w := by
  have h0 : decide (1 ≤ id) = true := decide_eq_true (by omega)
  have h2 : decide (id ≤ 7) = false := decide_eq_false (by omega)
  have h3 : ¬ id ≤ 7 := by omega
  clear h1
  unfold GivesN
  go_enter Try.func5, Try.ntmps5
  go_wp2_with go_in
  go_returns
  exact ⟨rfl, by go_grown⟩

theorem stNone (w : World) : StIn w none 0 [] := ⟨rfl, fun h => by omega⟩
theorem lkNone (w : World) : LkIn w none 0 [] := ⟨rfl, fun h => by omega⟩

theorem eqNone_c (c i : Int) (w : World) : Calls Try.prog 6 #[.agg #[.int .i64 c, .int .i64 i, .int .i64 0, .slice none 0 0, .slice none 0 0], .agg #[.int .i64 c, .int .i64 i, .int .i64 0, .slice none 0 0, .slice none 0 0]] w fun e w' => e = .returned (.bool true) ∧ Below w.heap.size w w' :=
  eqReplicaR_c c i 0 none none 0 0 0 [] none none 0 0 0 [] w (by omega) (by omega) (stNone w) (stNone w) (lkNone w) (lkNone w)

theorem below_of_none {w w' : World} (h : w.grownBy w' (Value.slice none 0 0).ownBlock) : Below w.heap.size w w' := ⟨h.os, h.tape, h.output, h.size, fun i hi => h.block i hi (by simp [Value.ownBlock])⟩

set_option maxRecDepth 20000 in
set_option maxHeartbeats 1000000 in
theorem markNone0_c (i : Int) (w : World) : Calls Try.prog 13 #[.agg #[.int .i64 i, .int .i64 0, .slice none 0 0, .slice none 0 0], .int .i64 1] w fun e w' => e = .returned (.int .i64 1) ∧ Below w.heap.size w w' := by
  obtain ⟨V, hV⟩ : ∃ V, V = w.alloc (.cells #[.int .i64 i, .int .i64 0, .slice none 0 0, .slice none 0 0] 25) := ⟨_, rfl⟩
  have B0 : Below w.heap.size w V := by rw [hV]; exact (Below.refl _ _).alloc (Nat.le_refl _) _
  have x3 : Hid (V.cell? ⟨w.heap.size, 3, none⟩ = some (.slice none 0 0) ∧ w.heap.size < V.heap.size) := by rw [hV]; exact ⟨by simp, by simp⟩
  go_enter Try.func13, Try.ntmps13
  go_wp2_with fail
  rw [← hV]
  clear hV
  refine (markStatements_c 0 none 0 0 [] _ rfl (by omega) (World.ownsRow_nil _ _ _ _)).mono ?_
  rintro e w1 ⟨rfl, _, hg1⟩
  have hb1 := below_of_none hg1
  have x := (hb1.cell (p := ⟨w.heap.size, 3, none⟩) x3.out.2).trans x3.out.1
  have hl : w.heap.size < w1.heap.size := by have := x3.out.2; have := hb1.size; omega
  have B1 := B0.trans (hb1.mono B0.size)
  clear hg1 hb1
  go_wp2_with fail
  refine (markLocks_c 0 none 0 0 [] _ rfl (by omega) (World.ownsRow_nil _ _ _ _)).mono ?_
  rintro e w2 ⟨rfl, _, hg2⟩
  have hb2 := below_of_none hg2
  clear hg2 x hl
  go_wp2
  go_ret
  exact ⟨rfl, B1.trans (hb2.mono B1.size)⟩

set_option maxRecDepth 20000 in
set_option maxHeartbeats 1000000 in
theorem markNone_c (c i : Int) (w : World) : Calls Try.prog 7 #[.agg #[.int .i64 c, .int .i64 i, .int .i64 0, .slice none 0 0, .slice none 0 0], .int .i64 1] w fun e w' => e = .returned (.int .i64 1) ∧ Below w.heap.size w w' := by
  go_enter Try.func7, Try.ntmps7
  go_wp2_with fail
  refine (markNone0_c i _).mono ?_
  rintro e w1 ⟨rfl, hb1⟩
  go_wp2
  go_ret
  exact ⟨rfl, below_new hb1⟩

set_option maxRecDepth 20000 in
set_option maxHeartbeats 1000000 in
theorem heldNone0_c (i : Int) (w : World) : Calls Try.prog 14 #[.agg #[.int .i64 i, .int .i64 0, .slice none 0 0, .slice none 0 0], .int .i64 1] w fun e w' => e = .returned (.int .i64 1) ∧ Below w.heap.size w w' := by
  go_enter Try.func14, Try.ntmps14
  go_wp2_with fail
  refine (heldStatements_c none 0 0 _ (by omega) (fun k p e => by simp [mkSt] at e)).mono ?_
  rintro e w1 ⟨rfl, rfl⟩
  go_wp2_with fail
  refine (heldLocks_c none 0 0 _ (by omega) (fun k p e => by simp [mkLk] at e)).mono ?_
  rintro e w2 ⟨rfl, rfl⟩
  go_wp2
  go_ret
  exact ⟨rfl, by go_grown⟩

set_option maxRecDepth 20000 in
set_option maxHeartbeats 1000000 in
theorem heldNone_c (c i : Int) (w : World) : Calls Try.prog 8 #[.agg #[.int .i64 c, .int .i64 i, .int .i64 0, .slice none 0 0, .slice none 0 0], .int .i64 1] w fun e w' => e = .returned (.int .i64 1) ∧ Below w.heap.size w w' := by
  go_enter Try.func8, Try.ntmps8
  go_wp2_with fail
  refine (heldNone0_c i _).mono ?_
  rintro e w1 ⟨rfl, hb1⟩
  go_wp2
  go_ret
  exact ⟨rfl, below_new hb1⟩

/-- A box of a result. -/
structure NBox (w : World) (b : Nat) (c i : Int) : Prop where
  x0 : w.cell? ⟨b, 0, none⟩ = some (.int .i64 c)
  x1 : w.cell? ⟨b, 1, none⟩ = some (.int .i64 i)
  x2 : w.cell? ⟨b, 2, none⟩ = some (.int .i64 0)
  x3 : w.cell? ⟨b, 3, none⟩ = some (.slice none 0 0)
  x4 : w.cell? ⟨b, 4, none⟩ = some (.slice none 0 0)

theorem NBox.below {w w' : World} {b : Nat} {c i : Int} (h : NBox w b c i) (hb : Below w.heap.size w w') : NBox w' b c i := by
  have hl := World.block_lt_of_cell? w ⟨b, 0, none⟩ h.x0
  exact ⟨(hb.cell (p := ⟨b, 0, none⟩) hl).trans h.x0, (hb.cell (p := ⟨b, 1, none⟩) hl).trans h.x1, (hb.cell (p := ⟨b, 2, none⟩) hl).trans h.x2, (hb.cell (p := ⟨b, 3, none⟩) hl).trans h.x3, (hb.cell (p := ⟨b, 4, none⟩) hl).trans h.x4⟩

theorem NBox.new (w : World) (c i : Int) (t : TypeId) : NBox (w.alloc (.cells #[.int .i64 c, .int .i64 i, .int .i64 0, .slice none 0 0, .slice none 0 0] t)) w.heap.size c i := ⟨by simp, by simp, by simp, by simp, by simp⟩

end Go.Proofs.Ytabbjcngilocnaa
