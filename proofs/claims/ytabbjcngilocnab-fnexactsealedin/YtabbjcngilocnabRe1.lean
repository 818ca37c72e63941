/-
  CONTRACTS: two replicas that are alike, compared; results of replicas.
  Conditions: each contract bears its own.
-/
import Derived.Test.YtabbjcngilocnabStM
import Derived.Test.YtabbjcngilocnabLkM
namespace Go.Proofs.Ytabbjcngilocnab
open Go.RowKit
set_option linter.unusedVariables false
set_option linter.unusedSimpArgs false

set_option maxRecDepth 20000 in
set_option maxHeartbeats 1000000 in
theorem eqReplica_same (i u : Int) (sa sa' : Option Addr) (n c c' : Nat) (ss : List StI) (la la' : Option Addr) (m d d' : Nat) (ls : List LkI) (w : World) (hn : n ≤ 1048576) (hm : m ≤ 1048576) (h1 : StIn w sa n ss) (h2 : StIn w sa' n ss) (h3 : LkIn w la m ls) (h4 : LkIn w la' m ls) :
    Calls Try.prog 8 #[.agg #[.int .i64 i, .int .i64 u, .slice sa n c, .slice la m d], .agg #[.int .i64 i, .int .i64 u, .slice sa' n c', .slice la' m d']] w fun e w' => e = .returned (.bool true) ∧ Below w.heap.size w w' := by
  obtain ⟨V, hV⟩ : ∃ V, V = (w.alloc (.cells #[.int .i64 i, .int .i64 u, .slice sa n c, .slice la m d] 31)).alloc (.cells #[.int .i64 i, .int .i64 u, .slice sa' n c', .slice la' m d'] 31) := ⟨_, rfl⟩
  have B0 : Below w.heap.size w V := by rw [hV]; exact ((Below.refl _ _).alloc (Nat.le_refl _) _).alloc (by simp) _
  have x2 : V.cell? ⟨w.heap.size, 3, none⟩ = some (.slice la m d) := by rw [hV]; simp
  have y2 : V.cell? ⟨w.heap.size + 1, 3, none⟩ = some (.slice la' m d') := by rw [hV]; simp
  have hz : V.heap.size = w.heap.size + 1 + 1 := by rw [hV]; simp
  have HS : Hid (Calls Try.prog 15 #[.slice sa n c, .slice sa' n c'] V fun e w' => e = .returned (.bool true) ∧ Below V.heap.size V w') := eqStatements_same sa sa' n c c' ss V hn (h1.below B0) (h2.below B0)
  have HL : Hid (∀ w2, Below w.heap.size w w2 → Calls Try.prog 16 #[.slice la m d, .slice la' m d'] w2 fun e w' => e = .returned (.bool true) ∧ Below w2.heap.size w2 w') := fun w2 hb => eqLocks_same la la' m d d' ls w2 hm (h3.below hb) (h4.below hb)
  have XX : Hid (V.cell? ⟨w.heap.size, 3, none⟩ = some (.slice la m d) ∧ V.cell? ⟨w.heap.size + 1, 3, none⟩ = some (.slice la' m d') ∧ V.heap.size = w.heap.size + 1 + 1) := ⟨x2, y2, hz⟩
  clear h1 h2 h3 h4 x2 y2 hz
  go_enter Try.func8, Try.ntmps8
  go_wp2_with fail
  rw [← hV]
  clear hV
  refine HS.out.mono ?_
  rintro e w1 ⟨rfl, hb1⟩
  obtain ⟨x3, y3, hz⟩ := XX.out
  have x3 := (hb1.cell (p := ⟨w.heap.size, 3, none⟩) (by show w.heap.size < V.heap.size; omega)).trans x3
  have y3 := (hb1.cell (p := ⟨w.heap.size + 1, 3, none⟩) (by show w.heap.size + 1 < V.heap.size; omega)).trans y3
  have B1 := B0.trans (hb1.mono B0.size)
  have l1 : w.heap.size < w1.heap.size := by have := hb1.size; omega
  have l2 : w.heap.size + 1 < w1.heap.size := by have := hb1.size; omega
  clear hz hb1
  go_wp2_with fail
  refine (HL.out _ B1).mono ?_
  rintro e w2 ⟨rfl, hb2⟩
  clear x3 y3 l1 l2
  go_wp2
  go_ret
  exact ⟨rfl, B1.trans (hb2.mono B1.size)⟩

end Go.Proofs.Ytabbjcngilocnab
