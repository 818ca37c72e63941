/-
  CONTRACTS: UnpackStatement of the document's program.
  Conditions: each contract bears its own.
-/
import Derived.Test.YtnlmoapopdchkaaDoorSt9
namespace Go.Proofs.YtnlmoapopdchkaaDoor
open Go.RowKit
set_option linter.unusedVariables false
set_option linter.unusedSimpArgs false

/-- What l7Unpack tells. -/
def GivesV (a : Option Addr) (n cap : Nat) (x : StI) (t : Bool) (w : World) : Prop := Calls Tryd.prog 24 #[.slice a n cap] w fun e w' => e = .returned (.tuple #[.agg #[.int .i64 x.k, .int .i64 x.e, .int .i64 x.f, .int .i64 x.s, .int .i64 x.n], .bool t]) ∧ Below w.heap.size w w'

set_option maxRecDepth 20000 in
set_option maxHeartbeats 2000000 in
theorem l7Unpack_len (a : Option Addr) (n cap : Nat) (w : World) (hn : n ≠ 6) : GivesV a n cap noSt false w := by
  have hn' : ((n : Int) != 6) = true := by simp; omega
  unfold GivesV
  go_enter Tryd.func24, Tryd.ntmps24
  go_wp2_with fail
  refine bodyPost_ret (v := .tuple #[.agg #[.int .i64 0, .int .i64 0, .int .i64 0, .int .i64 0, .int .i64 0], .bool false]) (by simp [results, Tryd.results24, go_sem]) rfl ⟨rfl, ?_⟩
  go_grown

set_option maxRecDepth 20000 in
set_option maxHeartbeats 4000000 in
theorem l7Unpack_ok (b off cap : Nat) (z0 z1 z2 z3 z4 z5 : Int) (w : World) (h : IntIn w (some ⟨b, off, none⟩) 6 [z0, z1, z2, z3, z4, z5]) (hk : stCode ⟨z0, z1, z2, z3, z4⟩ = 0) :
    GivesV (some ⟨b, off, none⟩) 6 cap ⟨z0, z1, z2, z3, z4⟩ (lastW ⟨z0, z1, z2, z3, z4⟩ == z5) w := by
  have HC : Hid (stCode ⟨z0, z1, z2, z3, z4⟩ = 0) := hk
  clear hk
  obtain ⟨b', off', e', hc⟩ := h.2 (by omega)
  cases e'
  have hb : b < w.heap.size := World.block_lt_of_cell? w ⟨b, off, none⟩ (hc 0 z0 rfl)
  obtain ⟨W, hW⟩ : ∃ W, W = w.alloc (.cells #[.int .i64 0, .int .i64 0, .int .i64 0, .int .i64 0, .int .i64 0] 47) := ⟨_, rfl⟩
  have HW : Hid (W = w.alloc (.cells #[.int .i64 0, .int .i64 0, .int .i64 0, .int .i64 0, .int .i64 0] 47)) := hW
  have B0 : Below w.heap.size w W := by rw [hW]; exact (Below.refl _ _).alloc (Nat.le_refl _) _
  have zW : W.heap.size = w.heap.size + 1 := by rw [hW]; simp
  have hzW : w.heap.size < W.heap.size := by omega
  have X0 : Hid (StAt W w.heap.size 0 noSt ∧ ∀ j, W.frozen? ⟨w.heap.size, j, none⟩ = false) := by rw [hW]; exact ⟨by simp [StAt, noSt], fun j => by simp [go_sem]⟩
  have y0 : W.cell? ⟨b, off, none⟩ = some (.int .i64 z0) := (B0.cell (p := ⟨b, off, none⟩) hb).trans (hc 0 z0 rfl)
  have y1 : W.cell? ⟨b, off + 1, none⟩ = some (.int .i64 z1) := (B0.cell (p := ⟨b, off + 1, none⟩) hb).trans (hc 1 z1 rfl)
  have y2 : W.cell? ⟨b, off + 2, none⟩ = some (.int .i64 z2) := (B0.cell (p := ⟨b, off + 2, none⟩) hb).trans (hc 2 z2 rfl)
  have y3 : W.cell? ⟨b, off + 3, none⟩ = some (.int .i64 z3) := (B0.cell (p := ⟨b, off + 3, none⟩) hb).trans (hc 3 z3 rfl)
  have y4 : W.cell? ⟨b, off + 4, none⟩ = some (.int .i64 z4) := (B0.cell (p := ⟨b, off + 4, none⟩) hb).trans (hc 4 z4 rfl)
  have y5 : W.cell? ⟨b, off + 5, none⟩ = some (.int .i64 z5) := (B0.cell (p := ⟨b, off + 5, none⟩) hb).trans (hc 5 z5 rfl)
  clear h hc hW zW
  unfold GivesV
  go_enter Tryd.func24, Tryd.ntmps24
  go_wp2_with fail
  rw [← HW.out]
  refine wp_region_held_drew (S := fun w' => w'.cell? ⟨b, off, none⟩ = some (.int .i64 z0) ∧ w'.cell? ⟨b, off + 1, none⟩ = some (.int .i64 z1) ∧ w'.cell? ⟨b, off + 2, none⟩ = some (.int .i64 z2) ∧ w'.cell? ⟨b, off + 3, none⟩ = some (.int .i64 z3) ∧ w'.cell? ⟨b, off + 4, none⟩ = some (.int .i64 z4) ∧ w'.cell? ⟨b, off + 5, none⟩ = some (.int .i64 z5)) (by kernel_rfl) (⟨y0, y1, y2, y3, y4, y5⟩) (fun hHeld => ?_)
  refine wpAnyH_take (i := 0) (v := ?_) rfl (by kernel_rfl) (by kernel_rfl) (by kernel_rfl) (fun _ _ _ h => h) (Or.inl ⟨by kernel_rfl, ?_⟩) (by assumption) ?_
  rotate_left 1
  · intro w hSw; (try dsimp only at hSw); go_simp; try (with_reducible rfl)
  try simp only [Act.put, List.getElem_toArray, List.getElem_cons_succ, List.getElem_cons_zero, List.setIfInBounds_toArray, List.set_cons_zero, List.set_cons_succ]
  refine wpAnyH_take (i := 1) (v := ?_) rfl (by kernel_rfl) (by kernel_rfl) (by kernel_rfl) (fun _ _ _ h => h) (Or.inl ⟨by kernel_rfl, ?_⟩) (by assumption) ?_
  rotate_left 1
  · intro w hSw; (try dsimp only at hSw); go_simp; try (with_reducible rfl)
  try simp only [Act.put, List.getElem_toArray, List.getElem_cons_succ, List.getElem_cons_zero, List.setIfInBounds_toArray, List.set_cons_zero, List.set_cons_succ]
  refine wpAnyH_take (i := 2) (v := ?_) rfl (by kernel_rfl) (by kernel_rfl) (by kernel_rfl) (fun _ _ _ h => h) (Or.inl ⟨by kernel_rfl, ?_⟩) (by assumption) ?_
  rotate_left 1
  · intro w hSw; (try dsimp only at hSw); go_simp; try (with_reducible rfl)
  try simp only [Act.put, List.getElem_toArray, List.getElem_cons_succ, List.getElem_cons_zero, List.setIfInBounds_toArray, List.set_cons_zero, List.set_cons_succ]
  refine wpAnyH_take (i := 3) (v := ?_) rfl (by kernel_rfl) (by kernel_rfl) (by kernel_rfl) (fun _ _ _ h => h) (Or.inl ⟨by kernel_rfl, ?_⟩) (by assumption) ?_
  rotate_left 1
  · intro w hSw; (try dsimp only at hSw); go_simp; try (with_reducible rfl)
  try simp only [Act.put, List.getElem_toArray, List.getElem_cons_succ, List.getElem_cons_zero, List.setIfInBounds_toArray, List.set_cons_zero, List.set_cons_succ]
  refine wpAnyH_take (i := 4) (v := ?_) rfl (by kernel_rfl) (by kernel_rfl) (by kernel_rfl) (fun _ _ _ h => h) (Or.inl ⟨by kernel_rfl, ?_⟩) (by assumption) ?_
  rotate_left 1
  · intro w hSw; (try dsimp only at hSw); go_simp; try (with_reducible rfl)
  try simp only [Act.put, List.getElem_toArray, List.getElem_cons_succ, List.getElem_cons_zero, List.setIfInBounds_toArray, List.set_cons_zero, List.set_cons_succ]
  refine wpAnyH_take (i := 5) (v := ?_) rfl (by kernel_rfl) (by kernel_rfl) (by kernel_rfl) (fun _ _ _ h => h) (Or.inl ⟨by kernel_rfl, ?_⟩) (by assumption) ?_
  rotate_left 1
  · intro w hSw; (try dsimp only at hSw); go_simp; try (with_reducible rfl)
  try simp only [Act.put, List.getElem_toArray, List.getElem_cons_succ, List.getElem_cons_zero, List.setIfInBounds_toArray, List.set_cons_zero, List.set_cons_succ]
  refine wpAnyH_take (i := 6) (v := ?_) rfl (by kernel_rfl) (by kernel_rfl) (by kernel_rfl) (fun _ _ _ h => h) (Or.inl ⟨by kernel_rfl, ?_⟩) (by assumption) ?_
  rotate_left 1
  · intro w hSw; (try dsimp only at hSw); go_simp; try (with_reducible rfl)
  try simp only [Act.put, List.getElem_toArray, List.getElem_cons_succ, List.getElem_cons_zero, List.setIfInBounds_toArray, List.set_cons_zero, List.set_cons_succ]
  refine wpAnyH_take (i := 7) (v := ?_) rfl (by kernel_rfl) (by kernel_rfl) (by kernel_rfl) (fun _ _ _ h => h) (Or.inl ⟨by kernel_rfl, ?_⟩) (by assumption) ?_
  rotate_left 1
  · intro w hSw; (try dsimp only at hSw); go_simp; try (with_reducible rfl)
  try simp only [Act.put, List.getElem_toArray, List.getElem_cons_succ, List.getElem_cons_zero, List.setIfInBounds_toArray, List.set_cons_zero, List.set_cons_succ]
  refine wpAnyH_take (i := 8) (v := ?_) rfl (by kernel_rfl) (by kernel_rfl) (by kernel_rfl) (fun _ _ _ h => h) (Or.inl ⟨by kernel_rfl, ?_⟩) (by assumption) ?_
  rotate_left 1
  · intro w hSw; (try dsimp only at hSw); go_simp; try (with_reducible rfl)
  try simp only [Act.put, List.getElem_toArray, List.getElem_cons_succ, List.getElem_cons_zero, List.setIfInBounds_toArray, List.set_cons_zero, List.set_cons_succ]
  refine wpAnyH_take (i := 9) (v := ?_) rfl (by kernel_rfl) (by kernel_rfl) (by kernel_rfl) (fun _ _ _ h => h) (Or.inl ⟨by kernel_rfl, ?_⟩) (by assumption) ?_
  rotate_left 1
  · intro w hSw; (try dsimp only at hSw); go_simp; try (with_reducible rfl)
  try simp only [Act.put, List.getElem_toArray, List.getElem_cons_succ, List.getElem_cons_zero, List.setIfInBounds_toArray, List.set_cons_zero, List.set_cons_succ]
  refine wpAnyH_take (i := 10) (v := ?_) rfl (by kernel_rfl) (by kernel_rfl) (by kernel_rfl) (fun _ _ _ h => h) (Or.inl ⟨by kernel_rfl, ?_⟩) (by assumption) ?_
  rotate_left 1
  · intro w hSw; (try dsimp only at hSw); go_simp; try (with_reducible rfl)
  try simp only [Act.put, List.getElem_toArray, List.getElem_cons_succ, List.getElem_cons_zero, List.setIfInBounds_toArray, List.set_cons_zero, List.set_cons_succ]
  refine wpAnyH_take (i := 11) (v := ?_) rfl (by kernel_rfl) (by kernel_rfl) (by kernel_rfl) (fun _ _ _ h => h) (Or.inl ⟨by kernel_rfl, ?_⟩) (by assumption) ?_
  rotate_left 1
  · intro w hSw; (try dsimp only at hSw); go_simp; try (with_reducible rfl)
  try simp only [Act.put, List.getElem_toArray, List.getElem_cons_succ, List.getElem_cons_zero, List.setIfInBounds_toArray, List.set_cons_zero, List.set_cons_succ]
  refine wpAnyH_take (i := 12) (v := ?_) rfl (by kernel_rfl) (by kernel_rfl) (by kernel_rfl) (fun _ _ _ h => h) (Or.inl ⟨by kernel_rfl, ?_⟩) (by assumption) ?_
  rotate_left 1
  · intro w hSw; (try dsimp only at hSw); go_simp; try (with_reducible rfl)
  try simp only [Act.put, List.getElem_toArray, List.getElem_cons_succ, List.getElem_cons_zero, List.setIfInBounds_toArray, List.set_cons_zero, List.set_cons_succ]
  refine wpAnyH_take (i := 13) (v := ?_) rfl (by kernel_rfl) (by kernel_rfl) (by kernel_rfl) (fun _ _ _ h => h) (Or.inl ⟨by kernel_rfl, ?_⟩) (by assumption) ?_
  rotate_left 1
  · intro w hSw; (try dsimp only at hSw); go_simp; try (with_reducible rfl)
  try simp only [Act.put, List.getElem_toArray, List.getElem_cons_succ, List.getElem_cons_zero, List.setIfInBounds_toArray, List.set_cons_zero, List.set_cons_succ]
  refine wpAnyH_take (i := 14) (v := ?_) rfl (by kernel_rfl) (by kernel_rfl) (by kernel_rfl) (fun _ _ _ h => h) (Or.inl ⟨by kernel_rfl, ?_⟩) (by assumption) ?_
  rotate_left 1
  · intro w hSw; (try dsimp only at hSw); go_simp; try (with_reducible rfl)
  try simp only [Act.put, List.getElem_toArray, List.getElem_cons_succ, List.getElem_cons_zero, List.setIfInBounds_toArray, List.set_cons_zero, List.set_cons_succ]
  refine wpAnyH_take (i := 15) (v := ?_) rfl (by kernel_rfl) (by kernel_rfl) (by kernel_rfl) (fun _ _ _ h => h) (Or.inl ⟨by kernel_rfl, ?_⟩) (by assumption) ?_
  rotate_left 1
  · intro w hSw; (try dsimp only at hSw); go_simp; try (with_reducible rfl)
  try simp only [Act.put, List.getElem_toArray, List.getElem_cons_succ, List.getElem_cons_zero, List.setIfInBounds_toArray, List.set_cons_zero, List.set_cons_succ]
  refine wpAnyH_ready (rs := [16]) (by kernel_rfl) (by simp) ?_
  refine AllReadyH.cons rfl (fun K hK => ?_) AllReadyH.nil
  go_simp
  have hS : (fun w' => w'.cell? ⟨b, off, none⟩ = some (.int .i64 z0) ∧ w'.cell? ⟨b, off + 1, none⟩ = some (.int .i64 z1) ∧ w'.cell? ⟨b, off + 2, none⟩ = some (.int .i64 z2) ∧ w'.cell? ⟨b, off + 3, none⟩ = some (.int .i64 z3) ∧ w'.cell? ⟨b, off + 4, none⟩ = some (.int .i64 z4) ∧ w'.cell? ⟨b, off + 5, none⟩ = some (.int .i64 z5)) (W.drew.alloc (.cells #[.int .i64 0, .int .i64 0, .int .i64 0, .int .i64 0, .int .i64 0] 47)) := ⟨(World.cell?_alloc_lt _ _ ⟨b, off, none⟩ (by simp; omega)).trans y0, (World.cell?_alloc_lt _ _ ⟨b, off + 1, none⟩ (by simp; omega)).trans y1, (World.cell?_alloc_lt _ _ ⟨b, off + 2, none⟩ (by simp; omega)).trans y2, (World.cell?_alloc_lt _ _ ⟨b, off + 3, none⟩ (by simp; omega)).trans y3, (World.cell?_alloc_lt _ _ ⟨b, off + 4, none⟩ (by simp; omega)).trans y4, (World.cell?_alloc_lt _ _ ⟨b, off + 5, none⟩ (by simp; omega)).trans y5⟩
  refine hK.out _ _ hS (fun hHeld => ?_)
  clear hK K
  try simp only [Act.put, List.getElem_toArray, List.getElem_cons_succ, List.getElem_cons_zero, List.setIfInBounds_toArray, List.set_cons_zero, List.set_cons_succ]
  refine wpAnyH_ready (rs := [17]) (by kernel_rfl) (by simp) ?_
  refine AllReadyH.cons rfl (fun K hK => ?_) AllReadyH.nil
  go_simp
  have hS : (fun w' => w'.cell? ⟨b, off, none⟩ = some (.int .i64 z0) ∧ w'.cell? ⟨b, off + 1, none⟩ = some (.int .i64 z1) ∧ w'.cell? ⟨b, off + 2, none⟩ = some (.int .i64 z2) ∧ w'.cell? ⟨b, off + 3, none⟩ = some (.int .i64 z3) ∧ w'.cell? ⟨b, off + 4, none⟩ = some (.int .i64 z4) ∧ w'.cell? ⟨b, off + 5, none⟩ = some (.int .i64 z5)) (W.drew.alloc (.cells #[.int .i64 z0, .int .i64 z1, .int .i64 z2, .int .i64 z3, .int .i64 z4] 47)) := ⟨(World.cell?_alloc_lt _ _ ⟨b, off, none⟩ (by simp; omega)).trans y0, (World.cell?_alloc_lt _ _ ⟨b, off + 1, none⟩ (by simp; omega)).trans y1, (World.cell?_alloc_lt _ _ ⟨b, off + 2, none⟩ (by simp; omega)).trans y2, (World.cell?_alloc_lt _ _ ⟨b, off + 3, none⟩ (by simp; omega)).trans y3, (World.cell?_alloc_lt _ _ ⟨b, off + 4, none⟩ (by simp; omega)).trans y4, (World.cell?_alloc_lt _ _ ⟨b, off + 5, none⟩ (by simp; omega)).trans y5⟩
  refine hK.out _ _ hS (fun hHeld => ?_)
  clear hK K
  try simp only [Act.put, List.getElem_toArray, List.getElem_cons_succ, List.getElem_cons_zero, List.setIfInBounds_toArray, List.set_cons_zero, List.set_cons_succ]
  refine wpAnyH_done (by kernel_rfl) ?_ _
  have Z1 : Hid (StAt ((W.alloc (.cells #[.int .i64 z0, .int .i64 z1, .int .i64 z2, .int .i64 z3, .int .i64 z4] 47)).drew) W.heap.size 0 ⟨z0, z1, z2, z3, z4⟩) := StAt.new W ⟨z0, z1, z2, z3, z4⟩ _
  have B1 : Below W.heap.size W ((W.alloc (.cells #[.int .i64 z0, .int .i64 z1, .int .i64 z2, .int .i64 z3, .int .i64 z4] 47)).drew) := ((Below.refl _ _).alloc (Nat.le_refl _) _).drew
  have hz1 : W.heap.size < ((W.alloc (.cells #[.int .i64 z0, .int .i64 z1, .int .i64 z2, .int .i64 z3, .int .i64 z4] 47)).drew).heap.size := by simp
  have X1 : Hid (StAt ((W.alloc (.cells #[.int .i64 z0, .int .i64 z1, .int .i64 z2, .int .i64 z3, .int .i64 z4] 47)).drew) w.heap.size 0 noSt ∧ ∀ j, ((W.alloc (.cells #[.int .i64 z0, .int .i64 z1, .int .i64 z2, .int .i64 z3, .int .i64 z4] 47)).drew).frozen? ⟨w.heap.size, j, none⟩ = false) := ⟨X0.out.1.below B1 hzW, fun j => (B1.frozen (p := ⟨w.heap.size, j, none⟩) hzW).trans (X0.out.2 j)⟩
  have C1 : Hid (Below w.heap.size w ((W.alloc (.cells #[.int .i64 z0, .int .i64 z1, .int .i64 z2, .int .i64 z3, .int .i64 z4] 47)).drew)) := B0.trans (B1.mono (by omega))
  have Y1 : Hid ((fun w' => w'.cell? ⟨b, off, none⟩ = some (.int .i64 z0) ∧ w'.cell? ⟨b, off + 1, none⟩ = some (.int .i64 z1) ∧ w'.cell? ⟨b, off + 2, none⟩ = some (.int .i64 z2) ∧ w'.cell? ⟨b, off + 3, none⟩ = some (.int .i64 z3) ∧ w'.cell? ⟨b, off + 4, none⟩ = some (.int .i64 z4) ∧ w'.cell? ⟨b, off + 5, none⟩ = some (.int .i64 z5)) ((W.alloc (.cells #[.int .i64 z0, .int .i64 z1, .int .i64 z2, .int .i64 z3, .int .i64 z4] 47)).drew)) := hS
  go_wp2_with fail
  clear hHeld hS y0 y1 y2 y3 y4 y5 X0 B1
  generalize (W.alloc (.cells #[.int .i64 z0, .int .i64 z1, .int .i64 z2, .int .i64 z3, .int .i64 z4] 47)).drew = V at Z1 X1 C1 hz1 Y1 ⊢
  have hbV : b < V.heap.size := by have := C1.out.size; omega
  have hqV := hz1
  generalize hq : W.heap.size = q at Z1 hz1 hqV hzW ⊢
  obtain ⟨u0, u1, u2, u3, u4⟩ := Z1.out
  simp only [Nat.zero_add] at u0 u1 u2 u3 u4
  obtain ⟨⟨d0, d1, d2, d3, d4⟩, hf⟩ := X1.out
  simp only [Nat.zero_add] at d0 d1 d2 d3 d4
  have hwq : w.heap.size ≠ q := by omega
  have hwb : b ≠ w.heap.size := by omega
  have hwV : w.heap.size < V.heap.size := by omega
  simp only [noSt] at d0 d1 d2 d3 d4
  refine wp_region_held_drew (S := fun w' => (w'.cell? ⟨b, off, none⟩ = some (.int .i64 z0) ∧ w'.cell? ⟨b, off + 1, none⟩ = some (.int .i64 z1) ∧ w'.cell? ⟨b, off + 2, none⟩ = some (.int .i64 z2) ∧ w'.cell? ⟨b, off + 3, none⟩ = some (.int .i64 z3) ∧ w'.cell? ⟨b, off + 4, none⟩ = some (.int .i64 z4) ∧ w'.cell? ⟨b, off + 5, none⟩ = some (.int .i64 z5)) ∧ w'.cell? ⟨q, 0, none⟩ = some (.int .i64 z0) ∧ w'.cell? ⟨q, 1, none⟩ = some (.int .i64 z1) ∧ w'.cell? ⟨q, 2, none⟩ = some (.int .i64 z2) ∧ w'.cell? ⟨q, 3, none⟩ = some (.int .i64 z3) ∧ w'.cell? ⟨q, 4, none⟩ = some (.int .i64 z4)) (by kernel_rfl) (⟨Y1.out, u0, u1, u2, u3, u4⟩) (fun hHeld => ?_)
  refine wpAnyH_take (i := 0) (v := ?_) rfl (by kernel_rfl) (by kernel_rfl) (by kernel_rfl) (fun _ _ _ h => h) (Or.inl ⟨by kernel_rfl, ?_⟩) (by assumption) ?_
  rotate_left 1
  · intro w hSw; (try dsimp only at hSw); go_simp; try (with_reducible rfl)
  try simp only [Act.put, List.getElem_toArray, List.getElem_cons_succ, List.getElem_cons_zero, List.setIfInBounds_toArray, List.set_cons_zero, List.set_cons_succ]
  refine wpAnyH_ready (rs := [1]) (by kernel_rfl) (by simp) ?_
  refine AllReadyH.cons rfl (fun K hK => ?_) AllReadyH.nil
  go_simp
  refine (l7Fault_c q 0 ⟨z0, z1, z2, z3, z4⟩ _ ⟨hHeld.2.1, hHeld.2.2.1, hHeld.2.2.2.1, hHeld.2.2.2.2.1, hHeld.2.2.2.2.2⟩).mono ?_
  rintro e w' ⟨rfl, rfl⟩
  rw [HC.out]
  have hS := hHeld
  refine hK.out _ _ hS (fun hHeld => ?_)
  clear hK K
  try simp only [Act.put, List.getElem_toArray, List.getElem_cons_succ, List.getElem_cons_zero, List.setIfInBounds_toArray, List.set_cons_zero, List.set_cons_succ]
  refine wpAnyH_take (i := 2) (v := ?_) rfl (by kernel_rfl) (by kernel_rfl) (by kernel_rfl) (fun _ _ _ h => h) (Or.inl ⟨by kernel_rfl, ?_⟩) (by assumption) ?_
  rotate_left 1
  · intro w hSw; (try dsimp only at hSw); go_simp; try (with_reducible rfl)
  try simp only [Act.put, List.getElem_toArray, List.getElem_cons_succ, List.getElem_cons_zero, List.setIfInBounds_toArray, List.set_cons_zero, List.set_cons_succ]
  refine wpAnyH_take (i := 3) (v := ?_) rfl (by kernel_rfl) (by kernel_rfl) (by kernel_rfl) (fun _ _ _ h => h) (Or.inl ⟨by kernel_rfl, ?_⟩) (by assumption) ?_
  rotate_left 1
  · intro w hSw; (try dsimp only at hSw); go_simp; try (with_reducible rfl)
  try simp only [Act.put, List.getElem_toArray, List.getElem_cons_succ, List.getElem_cons_zero, List.setIfInBounds_toArray, List.set_cons_zero, List.set_cons_succ]
  refine wpAnyH_take (i := 7) (v := ?_) rfl (by kernel_rfl) (by kernel_rfl) (by kernel_rfl) (fun _ _ _ h => h) (Or.inl ⟨by kernel_rfl, ?_⟩) (by assumption) ?_
  rotate_left 1
  · intro w hSw; (try dsimp only at hSw); go_simp; try (with_reducible rfl)
  try simp only [Act.put, List.getElem_toArray, List.getElem_cons_succ, List.getElem_cons_zero, List.setIfInBounds_toArray, List.set_cons_zero, List.set_cons_succ]
  refine wpAnyH_take (i := 8) (v := ?_) rfl (by kernel_rfl) (by kernel_rfl) (by kernel_rfl) (fun _ _ _ h => h) (Or.inl ⟨by kernel_rfl, ?_⟩) (by assumption) ?_
  rotate_left 1
  · intro w hSw; (try dsimp only at hSw); go_simp; try (with_reducible rfl)
  try simp only [Act.put, List.getElem_toArray, List.getElem_cons_succ, List.getElem_cons_zero, List.setIfInBounds_toArray, List.set_cons_zero, List.set_cons_succ]
  refine wpAnyH_take (i := 9) (v := ?_) rfl (by kernel_rfl) (by kernel_rfl) (by kernel_rfl) (fun _ _ _ h => h) (Or.inl ⟨by kernel_rfl, ?_⟩) (by assumption) ?_
  rotate_left 1
  · intro w hSw; (try dsimp only at hSw); go_simp; try (with_reducible rfl)
  try simp only [Act.put, List.getElem_toArray, List.getElem_cons_succ, List.getElem_cons_zero, List.setIfInBounds_toArray, List.set_cons_zero, List.set_cons_succ]
  refine wpAnyH_ready (rs := [4]) (by kernel_rfl) (by simp) ?_
  refine AllReadyH.cons rfl (fun K hK => ?_) AllReadyH.nil
  go_simp
  refine (l7Pack_c q 0 ⟨z0, z1, z2, z3, z4⟩ _ ⟨hHeld.2.1, hHeld.2.2.1, hHeld.2.2.2.1, hHeld.2.2.2.2.1, hHeld.2.2.2.2.2⟩ HC.out).mono ?_
  rintro e w4 ⟨rfl, hown, hb4⟩
  have hl5 : w4.cell? ⟨V.heap.size, 5, none⟩ = some (.int .i64 (lastW ⟨z0, z1, z2, z3, z4⟩)) := (hown.cellAt 5 (by omega)).trans rfl
  have hb4' : Below V.heap.size V w4 := ((Below.refl _ _).drew).trans hb4
  have hS : (fun w' => (w'.cell? ⟨b, off, none⟩ = some (.int .i64 z0) ∧ w'.cell? ⟨b, off + 1, none⟩ = some (.int .i64 z1) ∧ w'.cell? ⟨b, off + 2, none⟩ = some (.int .i64 z2) ∧ w'.cell? ⟨b, off + 3, none⟩ = some (.int .i64 z3) ∧ w'.cell? ⟨b, off + 4, none⟩ = some (.int .i64 z4) ∧ w'.cell? ⟨b, off + 5, none⟩ = some (.int .i64 z5)) ∧ w'.cell? ⟨q, 0, none⟩ = some (.int .i64 z0) ∧ w'.cell? ⟨q, 1, none⟩ = some (.int .i64 z1) ∧ w'.cell? ⟨q, 2, none⟩ = some (.int .i64 z2) ∧ w'.cell? ⟨q, 3, none⟩ = some (.int .i64 z3) ∧ w'.cell? ⟨q, 4, none⟩ = some (.int .i64 z4)) w4 := ⟨⟨(hb4'.cell (p := ⟨b, off, none⟩) hbV).trans hHeld.1.1, (hb4'.cell (p := ⟨b, off + 1, none⟩) hbV).trans hHeld.1.2.1, (hb4'.cell (p := ⟨b, off + 2, none⟩) hbV).trans hHeld.1.2.2.1, (hb4'.cell (p := ⟨b, off + 3, none⟩) hbV).trans hHeld.1.2.2.2.1, (hb4'.cell (p := ⟨b, off + 4, none⟩) hbV).trans hHeld.1.2.2.2.2.1, (hb4'.cell (p := ⟨b, off + 5, none⟩) hbV).trans hHeld.1.2.2.2.2.2⟩, (hb4'.cell (p := ⟨q, 0, none⟩) hqV).trans hHeld.2.1, (hb4'.cell (p := ⟨q, 1, none⟩) hqV).trans hHeld.2.2.1, (hb4'.cell (p := ⟨q, 2, none⟩) hqV).trans hHeld.2.2.2.1, (hb4'.cell (p := ⟨q, 3, none⟩) hqV).trans hHeld.2.2.2.2.1, (hb4'.cell (p := ⟨q, 4, none⟩) hqV).trans hHeld.2.2.2.2.2⟩
  clear hown hb4
  have e0 : w4.cell? ⟨w.heap.size, 0, none⟩ = some (.int .i64 0) := (hb4'.cell (p := ⟨w.heap.size, 0, none⟩) hwV).trans d0
  have e1 : w4.cell? ⟨w.heap.size, 1, none⟩ = some (.int .i64 0) := (hb4'.cell (p := ⟨w.heap.size, 1, none⟩) hwV).trans d1
  have e2 : w4.cell? ⟨w.heap.size, 2, none⟩ = some (.int .i64 0) := (hb4'.cell (p := ⟨w.heap.size, 2, none⟩) hwV).trans d2
  have e3 : w4.cell? ⟨w.heap.size, 3, none⟩ = some (.int .i64 0) := (hb4'.cell (p := ⟨w.heap.size, 3, none⟩) hwV).trans d3
  have e4 : w4.cell? ⟨w.heap.size, 4, none⟩ = some (.int .i64 0) := (hb4'.cell (p := ⟨w.heap.size, 4, none⟩) hwV).trans d4
  have g0 : w4.frozen? ⟨w.heap.size, 0, none⟩ = false := (hb4'.frozen (p := ⟨w.heap.size, 0, none⟩) hwV).trans (hf 0)
  have g1 : w4.frozen? ⟨w.heap.size, 1, none⟩ = false := (hb4'.frozen (p := ⟨w.heap.size, 1, none⟩) hwV).trans (hf 1)
  have g2 : w4.frozen? ⟨w.heap.size, 2, none⟩ = false := (hb4'.frozen (p := ⟨w.heap.size, 2, none⟩) hwV).trans (hf 2)
  have g3 : w4.frozen? ⟨w.heap.size, 3, none⟩ = false := (hb4'.frozen (p := ⟨w.heap.size, 3, none⟩) hwV).trans (hf 3)
  have g4 : w4.frozen? ⟨w.heap.size, 4, none⟩ = false := (hb4'.frozen (p := ⟨w.heap.size, 4, none⟩) hwV).trans (hf 4)
  refine hK.out _ _ hS (fun hHeld => ?_)
  clear hK K
  try simp only [Act.put, List.getElem_toArray, List.getElem_cons_succ, List.getElem_cons_zero, List.setIfInBounds_toArray, List.set_cons_zero, List.set_cons_succ]
  refine wpAnyH_take (i := 5) (v := ?_) rfl (by kernel_rfl) (by kernel_rfl) (by kernel_rfl) (fun _ _ _ h => h) (Or.inl ⟨by kernel_rfl, ?_⟩) (by assumption) ?_
  rotate_left 1
  · intro w hSw; (try dsimp only at hSw); go_simp; try (with_reducible rfl)
  try simp only [Act.put, List.getElem_toArray, List.getElem_cons_succ, List.getElem_cons_zero, List.setIfInBounds_toArray, List.set_cons_zero, List.set_cons_succ]
  refine wpAnyH_ready (rs := [6, 12]) (by kernel_rfl) (by simp) ?_
  refine AllReadyH.cons rfl (fun K hK => ?_) (AllReadyH.cons rfl (fun K hK => ?_) AllReadyH.nil)
  · go_simp
    have hS := hHeld
    refine hK.out _ _ hS (fun hHeld => ?_)
    clear hK K
    try simp only [Act.put, List.getElem_toArray, List.getElem_cons_succ, List.getElem_cons_zero, List.setIfInBounds_toArray, List.set_cons_zero, List.set_cons_succ]
    refine wpAnyH_take (i := 10) (v := ?_) rfl (by kernel_rfl) (by kernel_rfl) (by kernel_rfl) (fun _ _ _ h => h) (Or.inl ⟨by kernel_rfl, ?_⟩) (by assumption) ?_
    rotate_left 1
    · intro w hSw; (try dsimp only at hSw); go_simp; try (with_reducible rfl)
    try simp only [Act.put, List.getElem_toArray, List.getElem_cons_succ, List.getElem_cons_zero, List.setIfInBounds_toArray, List.set_cons_zero, List.set_cons_succ]
    refine wpAnyH_take (i := 11) (v := ?_) rfl (by kernel_rfl) (by kernel_rfl) (by kernel_rfl) (fun _ _ _ h => h) (Or.inl ⟨by kernel_rfl, ?_⟩) (by assumption) ?_
    rotate_left 1
    · intro w hSw; (try dsimp only at hSw); go_simp; try (with_reducible rfl)
    try simp only [Act.put, List.getElem_toArray, List.getElem_cons_succ, List.getElem_cons_zero, List.setIfInBounds_toArray, List.set_cons_zero, List.set_cons_succ]
    refine wpAnyH_ready (rs := [12]) (by kernel_rfl) (by simp) ?_
    refine AllReadyH.cons rfl (fun K hK => ?_) AllReadyH.nil
    go_simp
    have hS : (fun w' => (w'.cell? ⟨b, off, none⟩ = some (.int .i64 z0) ∧ w'.cell? ⟨b, off + 1, none⟩ = some (.int .i64 z1) ∧ w'.cell? ⟨b, off + 2, none⟩ = some (.int .i64 z2) ∧ w'.cell? ⟨b, off + 3, none⟩ = some (.int .i64 z3) ∧ w'.cell? ⟨b, off + 4, none⟩ = some (.int .i64 z4) ∧ w'.cell? ⟨b, off + 5, none⟩ = some (.int .i64 z5)) ∧ w'.cell? ⟨q, 0, none⟩ = some (.int .i64 z0) ∧ w'.cell? ⟨q, 1, none⟩ = some (.int .i64 z1) ∧ w'.cell? ⟨q, 2, none⟩ = some (.int .i64 z2) ∧ w'.cell? ⟨q, 3, none⟩ = some (.int .i64 z3) ∧ w'.cell? ⟨q, 4, none⟩ = some (.int .i64 z4)) (StPut w4 w.heap.size 0 ⟨z0, z1, z2, z3, z4⟩) := ⟨⟨(StPut_other w4 w.heap.size 0 ⟨z0, z1, z2, z3, z4⟩ ⟨b, off, none⟩ (fun j hj e => by have e2 := congrArg Addr.block e; simp only at e2; omega)).trans hHeld.1.1, (StPut_other w4 w.heap.size 0 ⟨z0, z1, z2, z3, z4⟩ ⟨b, off + 1, none⟩ (fun j hj e => by have e2 := congrArg Addr.block e; simp only at e2; omega)).trans hHeld.1.2.1, (StPut_other w4 w.heap.size 0 ⟨z0, z1, z2, z3, z4⟩ ⟨b, off + 2, none⟩ (fun j hj e => by have e2 := congrArg Addr.block e; simp only at e2; omega)).trans hHeld.1.2.2.1, (StPut_other w4 w.heap.size 0 ⟨z0, z1, z2, z3, z4⟩ ⟨b, off + 3, none⟩ (fun j hj e => by have e2 := congrArg Addr.block e; simp only at e2; omega)).trans hHeld.1.2.2.2.1, (StPut_other w4 w.heap.size 0 ⟨z0, z1, z2, z3, z4⟩ ⟨b, off + 4, none⟩ (fun j hj e => by have e2 := congrArg Addr.block e; simp only at e2; omega)).trans hHeld.1.2.2.2.2.1, (StPut_other w4 w.heap.size 0 ⟨z0, z1, z2, z3, z4⟩ ⟨b, off + 5, none⟩ (fun j hj e => by have e2 := congrArg Addr.block e; simp only at e2; omega)).trans hHeld.1.2.2.2.2.2⟩, (StPut_other w4 w.heap.size 0 ⟨z0, z1, z2, z3, z4⟩ ⟨q, 0, none⟩ (fun j hj e => by have e2 := congrArg Addr.block e; simp only at e2; omega)).trans hHeld.2.1, (StPut_other w4 w.heap.size 0 ⟨z0, z1, z2, z3, z4⟩ ⟨q, 1, none⟩ (fun j hj e => by have e2 := congrArg Addr.block e; simp only at e2; omega)).trans hHeld.2.2.1, (StPut_other w4 w.heap.size 0 ⟨z0, z1, z2, z3, z4⟩ ⟨q, 2, none⟩ (fun j hj e => by have e2 := congrArg Addr.block e; simp only at e2; omega)).trans hHeld.2.2.2.1, (StPut_other w4 w.heap.size 0 ⟨z0, z1, z2, z3, z4⟩ ⟨q, 3, none⟩ (fun j hj e => by have e2 := congrArg Addr.block e; simp only at e2; omega)).trans hHeld.2.2.2.2.1, (StPut_other w4 w.heap.size 0 ⟨z0, z1, z2, z3, z4⟩ ⟨q, 4, none⟩ (fun j hj e => by have e2 := congrArg Addr.block e; simp only at e2; omega)).trans hHeld.2.2.2.2.2⟩
    have hl6 : (StPut w4 w.heap.size 0 ⟨z0, z1, z2, z3, z4⟩).cell? ⟨V.heap.size, 5, none⟩ = some (.int .i64 (lastW ⟨z0, z1, z2, z3, z4⟩)) := (StPut_other w4 w.heap.size 0 ⟨z0, z1, z2, z3, z4⟩ ⟨V.heap.size, 5, none⟩ (fun j hj e => by have e2 := congrArg Addr.block e; simp only at e2; omega)).trans hl5
    refine hK.out _ _ hS (fun hHeld => ?_)
    clear hK K
    try simp only [Act.put, List.getElem_toArray, List.getElem_cons_succ, List.getElem_cons_zero, List.setIfInBounds_toArray, List.set_cons_zero, List.set_cons_succ]
    refine wpAnyH_ready (rs := [13]) (by kernel_rfl) (by simp) ?_
    refine AllReadyH.cons rfl (fun K hK => ?_) AllReadyH.nil
    go_simp
    refine hK.out _ _ (by assumption) (fun hHeld => ?_)
    clear hK K
    try simp only [Act.put, List.getElem_toArray, List.getElem_cons_succ, List.getElem_cons_zero, List.setIfInBounds_toArray, List.set_cons_zero, List.set_cons_succ]
    refine wpAnyH_done (by kernel_rfl) ?_ _
    go_wp2_with fail
    refine bodyPost_ret (v := .tuple #[.agg #[.int .i64 z0, .int .i64 z1, .int .i64 z2, .int .i64 z3, .int .i64 z4], .bool (lastW ⟨z0, z1, z2, z3, z4⟩ == z5)]) (by simp [results, Tryd.results24, go_sem, e0, e1, e2, e3, e4]) rfl ⟨rfl, ?_⟩
    exact (C1.out.trans (hb4'.mono C1.out.size)).setCell (Nat.le_refl _) _ |>.setCell (Nat.le_refl _) _ |>.setCell (Nat.le_refl _) _ |>.setCell (Nat.le_refl _) _ |>.setCell (Nat.le_refl _) _
  · go_simp
    have hS : (fun w' => (w'.cell? ⟨b, off, none⟩ = some (.int .i64 z0) ∧ w'.cell? ⟨b, off + 1, none⟩ = some (.int .i64 z1) ∧ w'.cell? ⟨b, off + 2, none⟩ = some (.int .i64 z2) ∧ w'.cell? ⟨b, off + 3, none⟩ = some (.int .i64 z3) ∧ w'.cell? ⟨b, off + 4, none⟩ = some (.int .i64 z4) ∧ w'.cell? ⟨b, off + 5, none⟩ = some (.int .i64 z5)) ∧ w'.cell? ⟨q, 0, none⟩ = some (.int .i64 z0) ∧ w'.cell? ⟨q, 1, none⟩ = some (.int .i64 z1) ∧ w'.cell? ⟨q, 2, none⟩ = some (.int .i64 z2) ∧ w'.cell? ⟨q, 3, none⟩ = some (.int .i64 z3) ∧ w'.cell? ⟨q, 4, none⟩ = some (.int .i64 z4)) (StPut w4 w.heap.size 0 ⟨z0, z1, z2, z3, z4⟩) := ⟨⟨(StPut_other w4 w.heap.size 0 ⟨z0, z1, z2, z3, z4⟩ ⟨b, off, none⟩ (fun j hj e => by have e2 := congrArg Addr.block e; simp only at e2; omega)).trans hHeld.1.1, (StPut_other w4 w.heap.size 0 ⟨z0, z1, z2, z3, z4⟩ ⟨b, off + 1, none⟩ (fun j hj e => by have e2 := congrArg Addr.block e; simp only at e2; omega)).trans hHeld.1.2.1, (StPut_other w4 w.heap.size 0 ⟨z0, z1, z2, z3, z4⟩ ⟨b, off + 2, none⟩ (fun j hj e => by have e2 := congrArg Addr.block e; simp only at e2; omega)).trans hHeld.1.2.2.1, (StPut_other w4 w.heap.size 0 ⟨z0, z1, z2, z3, z4⟩ ⟨b, off + 3, none⟩ (fun j hj e => by have e2 := congrArg Addr.block e; simp only at e2; omega)).trans hHeld.1.2.2.2.1, (StPut_other w4 w.heap.size 0 ⟨z0, z1, z2, z3, z4⟩ ⟨b, off + 4, none⟩ (fun j hj e => by have e2 := congrArg Addr.block e; simp only at e2; omega)).trans hHeld.1.2.2.2.2.1, (StPut_other w4 w.heap.size 0 ⟨z0, z1, z2, z3, z4⟩ ⟨b, off + 5, none⟩ (fun j hj e => by have e2 := congrArg Addr.block e; simp only at e2; omega)).trans hHeld.1.2.2.2.2.2⟩, (StPut_other w4 w.heap.size 0 ⟨z0, z1, z2, z3, z4⟩ ⟨q, 0, none⟩ (fun j hj e => by have e2 := congrArg Addr.block e; simp only at e2; omega)).trans hHeld.2.1, (StPut_other w4 w.heap.size 0 ⟨z0, z1, z2, z3, z4⟩ ⟨q, 1, none⟩ (fun j hj e => by have e2 := congrArg Addr.block e; simp only at e2; omega)).trans hHeld.2.2.1, (StPut_other w4 w.heap.size 0 ⟨z0, z1, z2, z3, z4⟩ ⟨q, 2, none⟩ (fun j hj e => by have e2 := congrArg Addr.block e; simp only at e2; omega)).trans hHeld.2.2.2.1, (StPut_other w4 w.heap.size 0 ⟨z0, z1, z2, z3, z4⟩ ⟨q, 3, none⟩ (fun j hj e => by have e2 := congrArg Addr.block e; simp only at e2; omega)).trans hHeld.2.2.2.2.1, (StPut_other w4 w.heap.size 0 ⟨z0, z1, z2, z3, z4⟩ ⟨q, 4, none⟩ (fun j hj e => by have e2 := congrArg Addr.block e; simp only at e2; omega)).trans hHeld.2.2.2.2.2⟩
    have hl6 : (StPut w4 w.heap.size 0 ⟨z0, z1, z2, z3, z4⟩).cell? ⟨V.heap.size, 5, none⟩ = some (.int .i64 (lastW ⟨z0, z1, z2, z3, z4⟩)) := (StPut_other w4 w.heap.size 0 ⟨z0, z1, z2, z3, z4⟩ ⟨V.heap.size, 5, none⟩ (fun j hj e => by have e2 := congrArg Addr.block e; simp only at e2; omega)).trans hl5
    refine hK.out _ _ hS (fun hHeld => ?_)
    clear hK K
    try simp only [Act.put, List.getElem_toArray, List.getElem_cons_succ, List.getElem_cons_zero, List.setIfInBounds_toArray, List.set_cons_zero, List.set_cons_succ]
    refine wpAnyH_ready (rs := [6]) (by kernel_rfl) (by simp) ?_
    refine AllReadyH.cons rfl (fun K hK => ?_) AllReadyH.nil
    go_simp
    have hS := hHeld
    refine hK.out _ _ hS (fun hHeld => ?_)
    clear hK K
    try simp only [Act.put, List.getElem_toArray, List.getElem_cons_succ, List.getElem_cons_zero, List.setIfInBounds_toArray, List.set_cons_zero, List.set_cons_succ]
    refine wpAnyH_take (i := 10) (v := ?_) rfl (by kernel_rfl) (by kernel_rfl) (by kernel_rfl) (fun _ _ _ h => h) (Or.inl ⟨by kernel_rfl, ?_⟩) (by assumption) ?_
    rotate_left 1
    · intro w hSw; (try dsimp only at hSw); go_simp; try (with_reducible rfl)
    try simp only [Act.put, List.getElem_toArray, List.getElem_cons_succ, List.getElem_cons_zero, List.setIfInBounds_toArray, List.set_cons_zero, List.set_cons_succ]
    refine wpAnyH_take (i := 11) (v := ?_) rfl (by kernel_rfl) (by kernel_rfl) (by kernel_rfl) (fun _ _ _ h => h) (Or.inl ⟨by kernel_rfl, ?_⟩) (by assumption) ?_
    rotate_left 1
    · intro w hSw; (try dsimp only at hSw); go_simp; try (with_reducible rfl)
    try simp only [Act.put, List.getElem_toArray, List.getElem_cons_succ, List.getElem_cons_zero, List.setIfInBounds_toArray, List.set_cons_zero, List.set_cons_succ]
    refine wpAnyH_ready (rs := [13]) (by kernel_rfl) (by simp) ?_
    refine AllReadyH.cons rfl (fun K hK => ?_) AllReadyH.nil
    go_simp
    refine hK.out _ _ (by assumption) (fun hHeld => ?_)
    clear hK K
    try simp only [Act.put, List.getElem_toArray, List.getElem_cons_succ, List.getElem_cons_zero, List.setIfInBounds_toArray, List.set_cons_zero, List.set_cons_succ]
    refine wpAnyH_done (by kernel_rfl) ?_ _
    go_wp2_with fail
    refine bodyPost_ret (v := .tuple #[.agg #[.int .i64 z0, .int .i64 z1, .int .i64 z2, .int .i64 z3, .int .i64 z4], .bool (lastW ⟨z0, z1, z2, z3, z4⟩ == z5)]) (by simp [results, Tryd.results24, go_sem, e0, e1, e2, e3, e4]) rfl ⟨rfl, ?_⟩
    exact (C1.out.trans (hb4'.mono C1.out.size)).setCell (Nat.le_refl _) _ |>.setCell (Nat.le_refl _) _ |>.setCell (Nat.le_refl _) _ |>.setCell (Nat.le_refl _) _ |>.setCell (Nat.le_refl _) _

set_option maxRecDepth 20000 in
set_option maxHeartbeats 4000000 in
theorem l7Unpack_bad (b off cap : Nat) (z0 z1 z2 z3 z4 z5 : Int) (w : World) (h : IntIn w (some ⟨b, off, none⟩) 6 [z0, z1, z2, z3, z4, z5]) (c : Int) (hk : stCode ⟨z0, z1, z2, z3, z4⟩ = c) (h0 : c ≠ 0) :
    GivesV (some ⟨b, off, none⟩) 6 cap ⟨z0, z1, z2, z3, z4⟩ false w := by
  have HC : Hid (stCode ⟨z0, z1, z2, z3, z4⟩ = c) := hk
  have hcb : (c == 0) = false := by simpa using h0
  clear hk h0
  obtain ⟨b', off', e', hc⟩ := h.2 (by omega)
  cases e'
  have hb : b < w.heap.size := World.block_lt_of_cell? w ⟨b, off, none⟩ (hc 0 z0 rfl)
  obtain ⟨W, hW⟩ : ∃ W, W = w.alloc (.cells #[.int .i64 0, .int .i64 0, .int .i64 0, .int .i64 0, .int .i64 0] 47) := ⟨_, rfl⟩
  have HW : Hid (W = w.alloc (.cells #[.int .i64 0, .int .i64 0, .int .i64 0, .int .i64 0, .int .i64 0] 47)) := hW
  have B0 : Below w.heap.size w W := by rw [hW]; exact (Below.refl _ _).alloc (Nat.le_refl _) _
  have zW : W.heap.size = w.heap.size + 1 := by rw [hW]; simp
  have hzW : w.heap.size < W.heap.size := by omega
  have X0 : Hid (StAt W w.heap.size 0 noSt ∧ ∀ j, W.frozen? ⟨w.heap.size, j, none⟩ = false) := by rw [hW]; exact ⟨by simp [StAt, noSt], fun j => by simp [go_sem]⟩
  have y0 : W.cell? ⟨b, off, none⟩ = some (.int .i64 z0) := (B0.cell (p := ⟨b, off, none⟩) hb).trans (hc 0 z0 rfl)
  have y1 : W.cell? ⟨b, off + 1, none⟩ = some (.int .i64 z1) := (B0.cell (p := ⟨b, off + 1, none⟩) hb).trans (hc 1 z1 rfl)
  have y2 : W.cell? ⟨b, off + 2, none⟩ = some (.int .i64 z2) := (B0.cell (p := ⟨b, off + 2, none⟩) hb).trans (hc 2 z2 rfl)
  have y3 : W.cell? ⟨b, off + 3, none⟩ = some (.int .i64 z3) := (B0.cell (p := ⟨b, off + 3, none⟩) hb).trans (hc 3 z3 rfl)
  have y4 : W.cell? ⟨b, off + 4, none⟩ = some (.int .i64 z4) := (B0.cell (p := ⟨b, off + 4, none⟩) hb).trans (hc 4 z4 rfl)
  have y5 : W.cell? ⟨b, off + 5, none⟩ = some (.int .i64 z5) := (B0.cell (p := ⟨b, off + 5, none⟩) hb).trans (hc 5 z5 rfl)
  clear h hc hW zW
  unfold GivesV
  go_enter Tryd.func24, Tryd.ntmps24
  go_wp2_with fail
  rw [← HW.out]
  refine wp_region_held_drew (S := fun w' => w'.cell? ⟨b, off, none⟩ = some (.int .i64 z0) ∧ w'.cell? ⟨b, off + 1, none⟩ = some (.int .i64 z1) ∧ w'.cell? ⟨b, off + 2, none⟩ = some (.int .i64 z2) ∧ w'.cell? ⟨b, off + 3, none⟩ = some (.int .i64 z3) ∧ w'.cell? ⟨b, off + 4, none⟩ = some (.int .i64 z4) ∧ w'.cell? ⟨b, off + 5, none⟩ = some (.int .i64 z5)) (by kernel_rfl) (⟨y0, y1, y2, y3, y4, y5⟩) (fun hHeld => ?_)
  refine wpAnyH_take (i := 0) (v := ?_) rfl (by kernel_rfl) (by kernel_rfl) (by kernel_rfl) (fun _ _ _ h => h) (Or.inl ⟨by kernel_rfl, ?_⟩) (by assumption) ?_
  rotate_left 1
  · intro w hSw; (try dsimp only at hSw); go_simp; try (with_reducible rfl)
  try simp only [Act.put, List.getElem_toArray, List.getElem_cons_succ, List.getElem_cons_zero, List.setIfInBounds_toArray, List.set_cons_zero, List.set_cons_succ]
  refine wpAnyH_take (i := 1) (v := ?_) rfl (by kernel_rfl) (by kernel_rfl) (by kernel_rfl) (fun _ _ _ h => h) (Or.inl ⟨by kernel_rfl, ?_⟩) (by assumption) ?_
  rotate_left 1
  · intro w hSw; (try dsimp only at hSw); go_simp; try (with_reducible rfl)
  try simp only [Act.put, List.getElem_toArray, List.getElem_cons_succ, List.getElem_cons_zero, List.setIfInBounds_toArray, List.set_cons_zero, List.set_cons_succ]
  refine wpAnyH_take (i := 2) (v := ?_) rfl (by kernel_rfl) (by kernel_rfl) (by kernel_rfl) (fun _ _ _ h => h) (Or.inl ⟨by kernel_rfl, ?_⟩) (by assumption) ?_
  rotate_left 1
  · intro w hSw; (try dsimp only at hSw); go_simp; try (with_reducible rfl)
  try simp only [Act.put, List.getElem_toArray, List.getElem_cons_succ, List.getElem_cons_zero, List.setIfInBounds_toArray, List.set_cons_zero, List.set_cons_succ]
  refine wpAnyH_take (i := 3) (v := ?_) rfl (by kernel_rfl) (by kernel_rfl) (by kernel_rfl) (fun _ _ _ h => h) (Or.inl ⟨by kernel_rfl, ?_⟩) (by assumption) ?_
  rotate_left 1
  · intro w hSw; (try dsimp only at hSw); go_simp; try (with_reducible rfl)
  try simp only [Act.put, List.getElem_toArray, List.getElem_cons_succ, List.getElem_cons_zero, List.setIfInBounds_toArray, List.set_cons_zero, List.set_cons_succ]
  refine wpAnyH_take (i := 4) (v := ?_) rfl (by kernel_rfl) (by kernel_rfl) (by kernel_rfl) (fun _ _ _ h => h) (Or.inl ⟨by kernel_rfl, ?_⟩) (by assumption) ?_
  rotate_left 1
  · intro w hSw; (try dsimp only at hSw); go_simp; try (with_reducible rfl)
  try simp only [Act.put, List.getElem_toArray, List.getElem_cons_succ, List.getElem_cons_zero, List.setIfInBounds_toArray, List.set_cons_zero, List.set_cons_succ]
  refine wpAnyH_take (i := 5) (v := ?_) rfl (by kernel_rfl) (by kernel_rfl) (by kernel_rfl) (fun _ _ _ h => h) (Or.inl ⟨by kernel_rfl, ?_⟩) (by assumption) ?_
  rotate_left 1
  · intro w hSw; (try dsimp only at hSw); go_simp; try (with_reducible rfl)
  try simp only [Act.put, List.getElem_toArray, List.getElem_cons_succ, List.getElem_cons_zero, List.setIfInBounds_toArray, List.set_cons_zero, List.set_cons_succ]
  refine wpAnyH_take (i := 6) (v := ?_) rfl (by kernel_rfl) (by kernel_rfl) (by kernel_rfl) (fun _ _ _ h => h) (Or.inl ⟨by kernel_rfl, ?_⟩) (by assumption) ?_
  rotate_left 1
  · intro w hSw; (try dsimp only at hSw); go_simp; try (with_reducible rfl)
  try simp only [Act.put, List.getElem_toArray, List.getElem_cons_succ, List.getElem_cons_zero, List.setIfInBounds_toArray, List.set_cons_zero, List.set_cons_succ]
  refine wpAnyH_take (i := 7) (v := ?_) rfl (by kernel_rfl) (by kernel_rfl) (by kernel_rfl) (fun _ _ _ h => h) (Or.inl ⟨by kernel_rfl, ?_⟩) (by assumption) ?_
  rotate_left 1
  · intro w hSw; (try dsimp only at hSw); go_simp; try (with_reducible rfl)
  try simp only [Act.put, List.getElem_toArray, List.getElem_cons_succ, List.getElem_cons_zero, List.setIfInBounds_toArray, List.set_cons_zero, List.set_cons_succ]
  refine wpAnyH_take (i := 8) (v := ?_) rfl (by kernel_rfl) (by kernel_rfl) (by kernel_rfl) (fun _ _ _ h => h) (Or.inl ⟨by kernel_rfl, ?_⟩) (by assumption) ?_
  rotate_left 1
  · intro w hSw; (try dsimp only at hSw); go_simp; try (with_reducible rfl)
  try simp only [Act.put, List.getElem_toArray, List.getElem_cons_succ, List.getElem_cons_zero, List.setIfInBounds_toArray, List.set_cons_zero, List.set_cons_succ]
  refine wpAnyH_take (i := 9) (v := ?_) rfl (by kernel_rfl) (by kernel_rfl) (by kernel_rfl) (fun _ _ _ h => h) (Or.inl ⟨by kernel_rfl, ?_⟩) (by assumption) ?_
  rotate_left 1
  · intro w hSw; (try dsimp only at hSw); go_simp; try (with_reducible rfl)
  try simp only [Act.put, List.getElem_toArray, List.getElem_cons_succ, List.getElem_cons_zero, List.setIfInBounds_toArray, List.set_cons_zero, List.set_cons_succ]
  refine wpAnyH_take (i := 10) (v := ?_) rfl (by kernel_rfl) (by kernel_rfl) (by kernel_rfl) (fun _ _ _ h => h) (Or.inl ⟨by kernel_rfl, ?_⟩) (by assumption) ?_
  rotate_left 1
  · intro w hSw; (try dsimp only at hSw); go_simp; try (with_reducible rfl)
  try simp only [Act.put, List.getElem_toArray, List.getElem_cons_succ, List.getElem_cons_zero, List.setIfInBounds_toArray, List.set_cons_zero, List.set_cons_succ]
  refine wpAnyH_take (i := 11) (v := ?_) rfl (by kernel_rfl) (by kernel_rfl) (by kernel_rfl) (fun _ _ _ h => h) (Or.inl ⟨by kernel_rfl, ?_⟩) (by assumption) ?_
  rotate_left 1
  · intro w hSw; (try dsimp only at hSw); go_simp; try (with_reducible rfl)
  try simp only [Act.put, List.getElem_toArray, List.getElem_cons_succ, List.getElem_cons_zero, List.setIfInBounds_toArray, List.set_cons_zero, List.set_cons_succ]
  refine wpAnyH_take (i := 12) (v := ?_) rfl (by kernel_rfl) (by kernel_rfl) (by kernel_rfl) (fun _ _ _ h => h) (Or.inl ⟨by kernel_rfl, ?_⟩) (by assumption) ?_
  rotate_left 1
  · intro w hSw; (try dsimp only at hSw); go_simp; try (with_reducible rfl)
  try simp only [Act.put, List.getElem_toArray, List.getElem_cons_succ, List.getElem_cons_zero, List.setIfInBounds_toArray, List.set_cons_zero, List.set_cons_succ]
  refine wpAnyH_take (i := 13) (v := ?_) rfl (by kernel_rfl) (by kernel_rfl) (by kernel_rfl) (fun _ _ _ h => h) (Or.inl ⟨by kernel_rfl, ?_⟩) (by assumption) ?_
  rotate_left 1
  · intro w hSw; (try dsimp only at hSw); go_simp; try (with_reducible rfl)
  try simp only [Act.put, List.getElem_toArray, List.getElem_cons_succ, List.getElem_cons_zero, List.setIfInBounds_toArray, List.set_cons_zero, List.set_cons_succ]
  refine wpAnyH_take (i := 14) (v := ?_) rfl (by kernel_rfl) (by kernel_rfl) (by kernel_rfl) (fun _ _ _ h => h) (Or.inl ⟨by kernel_rfl, ?_⟩) (by assumption) ?_
  rotate_left 1
  · intro w hSw; (try dsimp only at hSw); go_simp; try (with_reducible rfl)
  try simp only [Act.put, List.getElem_toArray, List.getElem_cons_succ, List.getElem_cons_zero, List.setIfInBounds_toArray, List.set_cons_zero, List.set_cons_succ]
  refine wpAnyH_take (i := 15) (v := ?_) rfl (by kernel_rfl) (by kernel_rfl) (by kernel_rfl) (fun _ _ _ h => h) (Or.inl ⟨by kernel_rfl, ?_⟩) (by assumption) ?_
  rotate_left 1
  · intro w hSw; (try dsimp only at hSw); go_simp; try (with_reducible rfl)
  try simp only [Act.put, List.getElem_toArray, List.getElem_cons_succ, List.getElem_cons_zero, List.setIfInBounds_toArray, List.set_cons_zero, List.set_cons_succ]
  refine wpAnyH_ready (rs := [16]) (by kernel_rfl) (by simp) ?_
  refine AllReadyH.cons rfl (fun K hK => ?_) AllReadyH.nil
  go_simp
  have hS : (fun w' => w'.cell? ⟨b, off, none⟩ = some (.int .i64 z0) ∧ w'.cell? ⟨b, off + 1, none⟩ = some (.int .i64 z1) ∧ w'.cell? ⟨b, off + 2, none⟩ = some (.int .i64 z2) ∧ w'.cell? ⟨b, off + 3, none⟩ = some (.int .i64 z3) ∧ w'.cell? ⟨b, off + 4, none⟩ = some (.int .i64 z4) ∧ w'.cell? ⟨b, off + 5, none⟩ = some (.int .i64 z5)) (W.drew.alloc (.cells #[.int .i64 0, .int .i64 0, .int .i64 0, .int .i64 0, .int .i64 0] 47)) := ⟨(World.cell?_alloc_lt _ _ ⟨b, off, none⟩ (by simp; omega)).trans y0, (World.cell?_alloc_lt _ _ ⟨b, off + 1, none⟩ (by simp; omega)).trans y1, (World.cell?_alloc_lt _ _ ⟨b, off + 2, none⟩ (by simp; omega)).trans y2, (World.cell?_alloc_lt _ _ ⟨b, off + 3, none⟩ (by simp; omega)).trans y3, (World.cell?_alloc_lt _ _ ⟨b, off + 4, none⟩ (by simp; omega)).trans y4, (World.cell?_alloc_lt _ _ ⟨b, off + 5, none⟩ (by simp; omega)).trans y5⟩
  refine hK.out _ _ hS (fun hHeld => ?_)
  clear hK K
  try simp only [Act.put, List.getElem_toArray, List.getElem_cons_succ, List.getElem_cons_zero, List.setIfInBounds_toArray, List.set_cons_zero, List.set_cons_succ]
  refine wpAnyH_ready (rs := [17]) (by kernel_rfl) (by simp) ?_
  refine AllReadyH.cons rfl (fun K hK => ?_) AllReadyH.nil
  go_simp
  have hS : (fun w' => w'.cell? ⟨b, off, none⟩ = some (.int .i64 z0) ∧ w'.cell? ⟨b, off + 1, none⟩ = some (.int .i64 z1) ∧ w'.cell? ⟨b, off + 2, none⟩ = some (.int .i64 z2) ∧ w'.cell? ⟨b, off + 3, none⟩ = some (.int .i64 z3) ∧ w'.cell? ⟨b, off + 4, none⟩ = some (.int .i64 z4) ∧ w'.cell? ⟨b, off + 5, none⟩ = some (.int .i64 z5)) (W.drew.alloc (.cells #[.int .i64 z0, .int .i64 z1, .int .i64 z2, .int .i64 z3, .int .i64 z4] 47)) := ⟨(World.cell?_alloc_lt _ _ ⟨b, off, none⟩ (by simp; omega)).trans y0, (World.cell?_alloc_lt _ _ ⟨b, off + 1, none⟩ (by simp; omega)).trans y1, (World.cell?_alloc_lt _ _ ⟨b, off + 2, none⟩ (by simp; omega)).trans y2, (World.cell?_alloc_lt _ _ ⟨b, off + 3, none⟩ (by simp; omega)).trans y3, (World.cell?_alloc_lt _ _ ⟨b, off + 4, none⟩ (by simp; omega)).trans y4, (World.cell?_alloc_lt _ _ ⟨b, off + 5, none⟩ (by simp; omega)).trans y5⟩
  refine hK.out _ _ hS (fun hHeld => ?_)
  clear hK K
  try simp only [Act.put, List.getElem_toArray, List.getElem_cons_succ, List.getElem_cons_zero, List.setIfInBounds_toArray, List.set_cons_zero, List.set_cons_succ]
  refine wpAnyH_done (by kernel_rfl) ?_ _
  have Z1 : Hid (StAt ((W.alloc (.cells #[.int .i64 z0, .int .i64 z1, .int .i64 z2, .int .i64 z3, .int .i64 z4] 47)).drew) W.heap.size 0 ⟨z0, z1, z2, z3, z4⟩) := StAt.new W ⟨z0, z1, z2, z3, z4⟩ _
  have B1 : Below W.heap.size W ((W.alloc (.cells #[.int .i64 z0, .int .i64 z1, .int .i64 z2, .int .i64 z3, .int .i64 z4] 47)).drew) := ((Below.refl _ _).alloc (Nat.le_refl _) _).drew
  have hz1 : W.heap.size < ((W.alloc (.cells #[.int .i64 z0, .int .i64 z1, .int .i64 z2, .int .i64 z3, .int .i64 z4] 47)).drew).heap.size := by simp
  have X1 : Hid (StAt ((W.alloc (.cells #[.int .i64 z0, .int .i64 z1, .int .i64 z2, .int .i64 z3, .int .i64 z4] 47)).drew) w.heap.size 0 noSt ∧ ∀ j, ((W.alloc (.cells #[.int .i64 z0, .int .i64 z1, .int .i64 z2, .int .i64 z3, .int .i64 z4] 47)).drew).frozen? ⟨w.heap.size, j, none⟩ = false) := ⟨X0.out.1.below B1 hzW, fun j => (B1.frozen (p := ⟨w.heap.size, j, none⟩) hzW).trans (X0.out.2 j)⟩
  have C1 : Hid (Below w.heap.size w ((W.alloc (.cells #[.int .i64 z0, .int .i64 z1, .int .i64 z2, .int .i64 z3, .int .i64 z4] 47)).drew)) := B0.trans (B1.mono (by omega))
  have Y1 : Hid ((fun w' => w'.cell? ⟨b, off, none⟩ = some (.int .i64 z0) ∧ w'.cell? ⟨b, off + 1, none⟩ = some (.int .i64 z1) ∧ w'.cell? ⟨b, off + 2, none⟩ = some (.int .i64 z2) ∧ w'.cell? ⟨b, off + 3, none⟩ = some (.int .i64 z3) ∧ w'.cell? ⟨b, off + 4, none⟩ = some (.int .i64 z4) ∧ w'.cell? ⟨b, off + 5, none⟩ = some (.int .i64 z5)) ((W.alloc (.cells #[.int .i64 z0, .int .i64 z1, .int .i64 z2, .int .i64 z3, .int .i64 z4] 47)).drew)) := hS
  go_wp2_with fail
  clear hHeld hS y0 y1 y2 y3 y4 y5 X0 B1
  generalize (W.alloc (.cells #[.int .i64 z0, .int .i64 z1, .int .i64 z2, .int .i64 z3, .int .i64 z4] 47)).drew = V at Z1 X1 C1 hz1 Y1 ⊢
  have hbV : b < V.heap.size := by have := C1.out.size; omega
  have hqV := hz1
  generalize hq : W.heap.size = q at Z1 hz1 hqV hzW ⊢
  obtain ⟨u0, u1, u2, u3, u4⟩ := Z1.out
  simp only [Nat.zero_add] at u0 u1 u2 u3 u4
  obtain ⟨⟨d0, d1, d2, d3, d4⟩, hf⟩ := X1.out
  simp only [Nat.zero_add] at d0 d1 d2 d3 d4
  have hwq : w.heap.size ≠ q := by omega
  have hwb : b ≠ w.heap.size := by omega
  have hwV : w.heap.size < V.heap.size := by omega
  simp only [noSt] at d0 d1 d2 d3 d4
  refine wp_region_held_drew (S := fun w' => (w'.cell? ⟨b, off, none⟩ = some (.int .i64 z0) ∧ w'.cell? ⟨b, off + 1, none⟩ = some (.int .i64 z1) ∧ w'.cell? ⟨b, off + 2, none⟩ = some (.int .i64 z2) ∧ w'.cell? ⟨b, off + 3, none⟩ = some (.int .i64 z3) ∧ w'.cell? ⟨b, off + 4, none⟩ = some (.int .i64 z4) ∧ w'.cell? ⟨b, off + 5, none⟩ = some (.int .i64 z5)) ∧ w'.cell? ⟨q, 0, none⟩ = some (.int .i64 z0) ∧ w'.cell? ⟨q, 1, none⟩ = some (.int .i64 z1) ∧ w'.cell? ⟨q, 2, none⟩ = some (.int .i64 z2) ∧ w'.cell? ⟨q, 3, none⟩ = some (.int .i64 z3) ∧ w'.cell? ⟨q, 4, none⟩ = some (.int .i64 z4)) (by kernel_rfl) (⟨Y1.out, u0, u1, u2, u3, u4⟩) (fun hHeld => ?_)
  refine wpAnyH_take (i := 0) (v := ?_) rfl (by kernel_rfl) (by kernel_rfl) (by kernel_rfl) (fun _ _ _ h => h) (Or.inl ⟨by kernel_rfl, ?_⟩) (by assumption) ?_
  rotate_left 1
  · intro w hSw; (try dsimp only at hSw); go_simp; try (with_reducible rfl)
  try simp only [Act.put, List.getElem_toArray, List.getElem_cons_succ, List.getElem_cons_zero, List.setIfInBounds_toArray, List.set_cons_zero, List.set_cons_succ]
  refine wpAnyH_ready (rs := [1]) (by kernel_rfl) (by simp) ?_
  refine AllReadyH.cons rfl (fun K hK => ?_) AllReadyH.nil
  go_simp
  refine (l7Fault_c q 0 ⟨z0, z1, z2, z3, z4⟩ _ ⟨hHeld.2.1, hHeld.2.2.1, hHeld.2.2.2.1, hHeld.2.2.2.2.1, hHeld.2.2.2.2.2⟩).mono ?_
  rintro e w' ⟨rfl, rfl⟩
  rw [HC.out]
  have hS := hHeld
  refine hK.out _ _ hS (fun hHeld => ?_)
  clear hK K
  try simp only [Act.put, List.getElem_toArray, List.getElem_cons_succ, List.getElem_cons_zero, List.setIfInBounds_toArray, List.set_cons_zero, List.set_cons_succ]
  refine wpAnyH_take (i := 2) (v := ?_) rfl (by kernel_rfl) (by kernel_rfl) (by kernel_rfl) (fun _ _ _ h => h) (Or.inl ⟨by kernel_rfl, ?_⟩) (by assumption) ?_
  rotate_left 1
  · intro w hSw; (try dsimp only at hSw); go_simp; try (with_reducible rfl)
  try simp only [Act.put, List.getElem_toArray, List.getElem_cons_succ, List.getElem_cons_zero, List.setIfInBounds_toArray, List.set_cons_zero, List.set_cons_succ]
  refine wpAnyH_take (i := 3) (v := ?_) rfl (by kernel_rfl) (by kernel_rfl) (by kernel_rfl) (fun _ _ _ h => h) (Or.inl ⟨by kernel_rfl, ?_⟩) (by assumption) ?_
  rotate_left 1
  · intro w hSw; (try dsimp only at hSw); go_simp; try (with_reducible rfl)
  try simp only [Act.put, List.getElem_toArray, List.getElem_cons_succ, List.getElem_cons_zero, List.setIfInBounds_toArray, List.set_cons_zero, List.set_cons_succ]
  refine wpAnyH_take (i := 4) (v := undef) rfl (by kernel_rfl) (by kernel_rfl) (by kernel_rfl) (fun _ _ _ h => h) (Or.inr ⟨by kernel_rfl, rfl⟩) (by assumption) ?_
  try simp only [Act.put, List.getElem_toArray, List.getElem_cons_succ, List.getElem_cons_zero, List.setIfInBounds_toArray, List.set_cons_zero, List.set_cons_succ]
  refine wpAnyH_take (i := 5) (v := undef) rfl (by kernel_rfl) (by kernel_rfl) (by kernel_rfl) (fun _ _ _ h => h) (Or.inr ⟨by kernel_rfl, rfl⟩) (by assumption) ?_
  try simp only [Act.put, List.getElem_toArray, List.getElem_cons_succ, List.getElem_cons_zero, List.setIfInBounds_toArray, List.set_cons_zero, List.set_cons_succ]
  refine wpAnyH_take (i := 6) (v := undef) rfl (by kernel_rfl) (by kernel_rfl) (by kernel_rfl) (fun _ _ _ h => h) (Or.inr ⟨by kernel_rfl, rfl⟩) (by assumption) ?_
  try simp only [Act.put, List.getElem_toArray, List.getElem_cons_succ, List.getElem_cons_zero, List.setIfInBounds_toArray, List.set_cons_zero, List.set_cons_succ]
  refine wpAnyH_take (i := 7) (v := undef) rfl (by kernel_rfl) (by kernel_rfl) (by kernel_rfl) (fun _ _ _ h => h) (Or.inr ⟨by kernel_rfl, rfl⟩) (by assumption) ?_
  try simp only [Act.put, List.getElem_toArray, List.getElem_cons_succ, List.getElem_cons_zero, List.setIfInBounds_toArray, List.set_cons_zero, List.set_cons_succ]
  refine wpAnyH_take (i := 8) (v := undef) rfl (by kernel_rfl) (by kernel_rfl) (by kernel_rfl) (fun _ _ _ h => h) (Or.inr ⟨by kernel_rfl, rfl⟩) (by assumption) ?_
  try simp only [Act.put, List.getElem_toArray, List.getElem_cons_succ, List.getElem_cons_zero, List.setIfInBounds_toArray, List.set_cons_zero, List.set_cons_succ]
  refine wpAnyH_take (i := 9) (v := undef) rfl (by kernel_rfl) (by kernel_rfl) (by kernel_rfl) (fun _ _ _ h => h) (Or.inr ⟨by kernel_rfl, rfl⟩) (by assumption) ?_
  try simp only [Act.put, List.getElem_toArray, List.getElem_cons_succ, List.getElem_cons_zero, List.setIfInBounds_toArray, List.set_cons_zero, List.set_cons_succ]
  refine wpAnyH_take (i := 10) (v := undef) rfl (by kernel_rfl) (by kernel_rfl) (by kernel_rfl) (fun _ _ _ h => h) (Or.inr ⟨by kernel_rfl, rfl⟩) (by assumption) ?_
  try simp only [Act.put, List.getElem_toArray, List.getElem_cons_succ, List.getElem_cons_zero, List.setIfInBounds_toArray, List.set_cons_zero, List.set_cons_succ]
  refine wpAnyH_take (i := 11) (v := ?_) rfl (by kernel_rfl) (by kernel_rfl) (by kernel_rfl) (fun _ _ _ h => h) (Or.inl ⟨by kernel_rfl, ?_⟩) (by assumption) ?_
  rotate_left 1
  · intro w hSw; (try dsimp only at hSw); go_simp; try (with_reducible rfl)
  try simp only [Act.put, List.getElem_toArray, List.getElem_cons_succ, List.getElem_cons_zero, List.setIfInBounds_toArray, List.set_cons_zero, List.set_cons_succ]
  refine wpAnyH_ready (rs := [12]) (by kernel_rfl) (by simp) ?_
  refine AllReadyH.cons rfl (fun K hK => ?_) AllReadyH.nil
  go_simp
  have f0 := hf 0
  have f1 := hf 1
  have f2 := hf 2
  have f3 := hf 3
  have f4 := hf 4
  have hS : (fun w' => (w'.cell? ⟨b, off, none⟩ = some (.int .i64 z0) ∧ w'.cell? ⟨b, off + 1, none⟩ = some (.int .i64 z1) ∧ w'.cell? ⟨b, off + 2, none⟩ = some (.int .i64 z2) ∧ w'.cell? ⟨b, off + 3, none⟩ = some (.int .i64 z3) ∧ w'.cell? ⟨b, off + 4, none⟩ = some (.int .i64 z4) ∧ w'.cell? ⟨b, off + 5, none⟩ = some (.int .i64 z5)) ∧ w'.cell? ⟨q, 0, none⟩ = some (.int .i64 z0) ∧ w'.cell? ⟨q, 1, none⟩ = some (.int .i64 z1) ∧ w'.cell? ⟨q, 2, none⟩ = some (.int .i64 z2) ∧ w'.cell? ⟨q, 3, none⟩ = some (.int .i64 z3) ∧ w'.cell? ⟨q, 4, none⟩ = some (.int .i64 z4)) (StPut V.drew w.heap.size 0 ⟨z0, z1, z2, z3, z4⟩) := ⟨⟨(StPut_other V.drew w.heap.size 0 ⟨z0, z1, z2, z3, z4⟩ ⟨b, off, none⟩ (fun j hj e => by have e2 := congrArg Addr.block e; simp only at e2; omega)).trans hHeld.1.1, (StPut_other V.drew w.heap.size 0 ⟨z0, z1, z2, z3, z4⟩ ⟨b, off + 1, none⟩ (fun j hj e => by have e2 := congrArg Addr.block e; simp only at e2; omega)).trans hHeld.1.2.1, (StPut_other V.drew w.heap.size 0 ⟨z0, z1, z2, z3, z4⟩ ⟨b, off + 2, none⟩ (fun j hj e => by have e2 := congrArg Addr.block e; simp only at e2; omega)).trans hHeld.1.2.2.1, (StPut_other V.drew w.heap.size 0 ⟨z0, z1, z2, z3, z4⟩ ⟨b, off + 3, none⟩ (fun j hj e => by have e2 := congrArg Addr.block e; simp only at e2; omega)).trans hHeld.1.2.2.2.1, (StPut_other V.drew w.heap.size 0 ⟨z0, z1, z2, z3, z4⟩ ⟨b, off + 4, none⟩ (fun j hj e => by have e2 := congrArg Addr.block e; simp only at e2; omega)).trans hHeld.1.2.2.2.2.1, (StPut_other V.drew w.heap.size 0 ⟨z0, z1, z2, z3, z4⟩ ⟨b, off + 5, none⟩ (fun j hj e => by have e2 := congrArg Addr.block e; simp only at e2; omega)).trans hHeld.1.2.2.2.2.2⟩, (StPut_other V.drew w.heap.size 0 ⟨z0, z1, z2, z3, z4⟩ ⟨q, 0, none⟩ (fun j hj e => by have e2 := congrArg Addr.block e; simp only at e2; omega)).trans hHeld.2.1, (StPut_other V.drew w.heap.size 0 ⟨z0, z1, z2, z3, z4⟩ ⟨q, 1, none⟩ (fun j hj e => by have e2 := congrArg Addr.block e; simp only at e2; omega)).trans hHeld.2.2.1, (StPut_other V.drew w.heap.size 0 ⟨z0, z1, z2, z3, z4⟩ ⟨q, 2, none⟩ (fun j hj e => by have e2 := congrArg Addr.block e; simp only at e2; omega)).trans hHeld.2.2.2.1, (StPut_other V.drew w.heap.size 0 ⟨z0, z1, z2, z3, z4⟩ ⟨q, 3, none⟩ (fun j hj e => by have e2 := congrArg Addr.block e; simp only at e2; omega)).trans hHeld.2.2.2.2.1, (StPut_other V.drew w.heap.size 0 ⟨z0, z1, z2, z3, z4⟩ ⟨q, 4, none⟩ (fun j hj e => by have e2 := congrArg Addr.block e; simp only at e2; omega)).trans hHeld.2.2.2.2.2⟩
  refine hK.out _ _ hS (fun hHeld => ?_)
  clear hK K
  try simp only [Act.put, List.getElem_toArray, List.getElem_cons_succ, List.getElem_cons_zero, List.setIfInBounds_toArray, List.set_cons_zero, List.set_cons_succ]
  refine wpAnyH_ready (rs := [13]) (by kernel_rfl) (by simp) ?_
  refine AllReadyH.cons rfl (fun K hK => ?_) AllReadyH.nil
  go_simp
  refine hK.out _ _ (by assumption) (fun hHeld => ?_)
  clear hK K
  try simp only [Act.put, List.getElem_toArray, List.getElem_cons_succ, List.getElem_cons_zero, List.setIfInBounds_toArray, List.set_cons_zero, List.set_cons_succ]
  refine wpAnyH_done (by kernel_rfl) ?_ _
  go_wp2_with fail
  refine bodyPost_ret (v := .tuple #[.agg #[.int .i64 z0, .int .i64 z1, .int .i64 z2, .int .i64 z3, .int .i64 z4], .bool false]) (by simp [results, Tryd.results24, go_sem, d0, d1, d2, d3, d4]) rfl ⟨rfl, ?_⟩
  exact (C1.out.drew).setCell (Nat.le_refl _) _ |>.setCell (Nat.le_refl _) _ |>.setCell (Nat.le_refl _) _ |>.setCell (Nat.le_refl _) _ |>.setCell (Nat.le_refl _) _

theorem pack_iff {z0 z1 z2 z3 z4 z5 : Int} (h : stCode ⟨z0, z1, z2, z3, z4⟩ = 0) : packV ⟨z0, z1, z2, z3, z4⟩ = [z0, z1, z2, z3, z4, z5] ↔ lastW ⟨z0, z1, z2, z3, z4⟩ = z5 := by
  unfold packV
  rw [if_pos h]
  simp [packL]

theorem l7Unpack_c (a : Option Addr) (n cap : Nat) (zs : List Int) (w : World) (h : IntIn w a n zs) : ∃ x, GivesV a n cap x (unpB zs).isSome w ∧ ((unpB zs).isSome = true → x = unpS zs) := by
  by_cases h6 : n = 6
  · subst h6
    obtain ⟨z0, z1, z2, z3, z4, z5, rfl⟩ := six_list h.1
    obtain ⟨b, off, rfl, _⟩ := h.2 (by omega)
    refine ⟨⟨z0, z1, z2, z3, z4⟩, ?_, ?_⟩
    · by_cases hk : stCode ⟨z0, z1, z2, z3, z4⟩ = 0
      · have h1 := l7Unpack_ok b off cap z0 z1 z2 z3 z4 z5 w h hk
        by_cases q : lastW ⟨z0, z1, z2, z3, z4⟩ = z5
        · have e1 : unpB [z0, z1, z2, z3, z4, z5] = some ⟨z0, z1, z2, z3, z4⟩ := if_pos ((pack_iff hk).2 q)
          rw [e1]
          rw [show (lastW ⟨z0, z1, z2, z3, z4⟩ == z5) = true by simp [q]] at h1
          exact h1
        · have e1 : unpB [z0, z1, z2, z3, z4, z5] = none := if_neg (fun e => q ((pack_iff hk).1 e))
          rw [e1]
          rw [show (lastW ⟨z0, z1, z2, z3, z4⟩ == z5) = false by simp [q]] at h1
          exact h1
      · have h1 := l7Unpack_bad b off cap z0 z1 z2 z3 z4 z5 w h _ rfl hk
        have e1 : unpB [z0, z1, z2, z3, z4, z5] = none := if_neg (fun e => by unfold packV at e; rw [if_neg hk] at e; cases e)
        rw [e1]
        exact h1
    · intro hs
      unfold unpS
      cases q : unpB [z0, z1, z2, z3, z4, z5] with
      | none => rw [q] at hs; cases hs
      | some y =>
        have q2 : (if packV ⟨z0, z1, z2, z3, z4⟩ = [z0, z1, z2, z3, z4, z5] then some (⟨z0, z1, z2, z3, z4⟩ : StI) else none) = some y := q
        split at q2
        · exact Option.some.inj q2
        · cases q2
  · have e1 : unpB zs = none := unp_len (by rw [h.1]; exact h6)
    rw [e1]
    exact ⟨noSt, l7Unpack_len a n cap w h6, fun k => (by cases k)⟩



end Go.Proofs.YtnlmoapopdchkaaDoor
