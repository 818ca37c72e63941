/-
  CONTRACTS: impl.statementOf and UnpackStatement of both programs.
  Conditions: the variable errUnreadable holds an error.
-/
import Derived.Test.YtnlmoapopdchkaaDoorSt8
namespace Go.Proofs.YtnlmoapopdchkaaDoor
open Go.RowKit
set_option linter.unusedVariables false
set_option linter.unusedSimpArgs false

/-- What the reading of words tells. -/
def SOut (t : Bool) (x : StI) (e : Ending) : Prop := (t = true → e = .returned (.agg #[.int .i64 x.k, .int .i64 x.e, .int .i64 x.f, .int .i64 x.s, .int .i64 x.n])) ∧ (t = false → Panics e)

/-- The words that PackStatement would tell. -/
def packV (x : StI) : List Int := if stCode x = 0 then packL x else []

theorem implPackV (x : StI) (w : World) : ∃ c, GivesPk 41 x c (packV x) w := by
  by_cases h : stCode x = 0
  · exact ⟨0, by unfold packV; rw [if_pos h]; exact implPack_ok x w h⟩
  · exact ⟨stCode x, by unfold packV; rw [if_neg h]; exact implPack_bad x _ w rfl h⟩

theorem packV_len (x : StI) : (packV x).length ≤ 6 := by
  unfold packV
  split
  · simp [packL]
  · simp

set_option maxRecDepth 20000 in
set_option maxHeartbeats 2000000 in
theorem statementOf_len (a : Option Addr) (n cap : Nat) (w : World) (hn : n ≠ 6) (hE : ErrAt 0 w) : Calls Tryd.prog 33 #[.slice a n cap] w fun e w' => Panics e ∧ Below w.heap.size w w' := by
  have HE : Hid (ErrAt 0 w) := hE
  have hn' : ((n : Int) == 6) = false := by simp; omega
  clear hE
  go_enter Tryd.func33, Tryd.ntmps33
  go_wp2_with fail
  refine (demand_bad _ (HE.out.below ((Below.refl _ _).alloc (Nat.le_refl _) _))).mono ?_
  rintro e w' ⟨⟨u, pv, rfl⟩, rfl⟩
  go_wp2_with fail
  exact ⟨rfl, ⟨_, _, rfl⟩, by go_grown⟩

set_option maxRecDepth 20000 in
set_option maxHeartbeats 4000000 in
theorem statementOf_six (b off cap : Nat) (z0 z1 z2 z3 z4 z5 : Int) (t : Bool) (w : World) (h : IntIn w (some ⟨b, off, none⟩) 6 [z0, z1, z2, z3, z4, z5]) (hE : ErrAt 0 w) (ht : decide (packV ⟨z0, z1, z2, z3, z4⟩ = [z0, z1, z2, z3, z4, z5]) = t) :
    Calls Tryd.prog 33 #[.slice (some ⟨b, off, none⟩) 6 cap] w fun e w' => SOut t ⟨z0, z1, z2, z3, z4⟩ e ∧ Below w.heap.size w w' := by
  have HI : Hid (IntIn w (some ⟨b, off, none⟩) 6 [z0, z1, z2, z3, z4, z5]) := h
  have HE : Hid (ErrAt 0 w) := hE
  have HT : Hid (decide (packV ⟨z0, z1, z2, z3, z4⟩ = [z0, z1, z2, z3, z4, z5]) = t) := ht
  obtain ⟨b', off', e', hc⟩ := h.2 (by omega)
  cases e'
  have hb : b < w.heap.size := World.block_lt_of_cell? w ⟨b, off, none⟩ (hc 0 z0 rfl)
  obtain ⟨W, hW⟩ : ∃ W, W = w.alloc (.cells #[.int .i64 0, .int .i64 0, .int .i64 0, .int .i64 0, .int .i64 0] 47) := ⟨_, rfl⟩
  have HW : Hid (W = w.alloc (.cells #[.int .i64 0, .int .i64 0, .int .i64 0, .int .i64 0, .int .i64 0] 47)) := hW
  have B0 : Below w.heap.size w W := by rw [hW]; exact (Below.refl _ _).alloc (Nat.le_refl _) _
  have zW : W.heap.size = w.heap.size + 1 := by rw [hW]; simp
  have HZW : Hid (W.heap.size = w.heap.size + 1) := zW
  have hzW : w.heap.size < W.heap.size := by omega
  have X0 : Hid (StAt W w.heap.size 0 noSt ∧ ∀ j, W.frozen? ⟨w.heap.size, j, none⟩ = false) := by rw [hW]; exact ⟨by simp [StAt, noSt], fun j => by simp [go_sem]⟩
  have y0 : W.cell? ⟨b, off, none⟩ = some (.int .i64 z0) := (B0.cell (p := ⟨b, off, none⟩) hb).trans (hc 0 z0 rfl)
  have y1 : W.cell? ⟨b, off + 1, none⟩ = some (.int .i64 z1) := (B0.cell (p := ⟨b, off + 1, none⟩) hb).trans (hc 1 z1 rfl)
  have y2 : W.cell? ⟨b, off + 2, none⟩ = some (.int .i64 z2) := (B0.cell (p := ⟨b, off + 2, none⟩) hb).trans (hc 2 z2 rfl)
  have y3 : W.cell? ⟨b, off + 3, none⟩ = some (.int .i64 z3) := (B0.cell (p := ⟨b, off + 3, none⟩) hb).trans (hc 3 z3 rfl)
  have y4 : W.cell? ⟨b, off + 4, none⟩ = some (.int .i64 z4) := (B0.cell (p := ⟨b, off + 4, none⟩) hb).trans (hc 4 z4 rfl)
  have y5 : W.cell? ⟨b, off + 5, none⟩ = some (.int .i64 z5) := (B0.cell (p := ⟨b, off + 5, none⟩) hb).trans (hc 5 z5 rfl)
  clear h hE ht hc hW zW
  go_enter Tryd.func33, Tryd.ntmps33
  go_wp2_with fail
  rw [← HW.out]
  refine (demand_ok _).mono ?_
  rintro e w' ⟨rfl, rfl⟩
  go_wp2_with fail
  refine wp_region_held_drew (S := fun w' => w'.cell? ⟨b, off, none⟩ = some (.int .i64 z0) ∧ w'.cell? ⟨b, off + 1, none⟩ = some (.int .i64 z1) ∧ w'.cell? ⟨b, off + 2, none⟩ = some (.int .i64 z2) ∧ w'.cell? ⟨b, off + 3, none⟩ = some (.int .i64 z3) ∧ w'.cell? ⟨b, off + 4, none⟩ = some (.int .i64 z4) ∧ w'.cell? ⟨b, off + 5, none⟩ = some (.int .i64 z5)) (by kernel_rfl) (⟨y0, y1, y2, y3, y4, y5⟩) (fun hHeld => ?_)
  refine wpAnyH_take (i := 0) (v := ?_) rfl (by kernel_rfl) (by kernel_rfl) (by kernel_rfl) (fun _ _ _ h => h) (Or.inl ⟨by kernel_rfl, ?_⟩) (by assumption) ?_
  rotate_left 1
  · intro w hSw; (try dsimp only at hSw); go_simp; try (with_reducible rfl)
  try simp only [Act.put, List.getElem_toArray, List.getElem_cons_succ, List.getElem_cons_zero, List.setIfInBounds_toArray, List.set_cons_zero, List.set_cons_succ]
  refine wpAnyH_take (i := 1) (v := ?_) rfl (by kernel_rfl) (by kernel_rfl) (by kernel_rfl) (fun _ _ _ h => h) (Or.inl ⟨by kernel_rfl, ?_⟩) (by assumption) ?_
  rotate_left 1
  · intro w hSw; (try dsimp only at hSw); go_simp; try (with_reducible rfl)
  try simp only [Act.put, List.getElem_toArray, List.getElem_cons_succ, List.getElem_cons_zero, List.setIfInBounds_toArray, List.set_cons_zero, List.set_cons_succ]
  refine wpAnyH_take (i := 2) (v := ?_) rfl (by kernel_rfl) (by kernel_rfl) (by kernel_rfl) (fun _ _ _ h => h) (Or.inl ⟨by kernel_rfl, ?_⟩) (by assumption) ?_
  rotate_left 1
  · intro w hSw; (try dsimp only at hSw); go_simp; try (with_reducible rfl)
  try simp only [Act.put, List.getElem_toArray, List.getElem_cons_succ, List.getElem_cons_zero, List.setIfInBounds_toArray, List.set_cons_zero, List.set_cons_succ]
  refine wpAnyH_take (i := 3) (v := ?_) rfl (by kernel_rfl) (by kernel_rfl) (by kernel_rfl) (fun _ _ _ h => h) (Or.inl ⟨by kernel_rfl, ?_⟩) (by assumption) ?_
  rotate_left 1
  · intro w hSw; (try dsimp only at hSw); go_simp; try (with_reducible rfl)
  try simp only [Act.put, List.getElem_toArray, List.getElem_cons_succ, List.getElem_cons_zero, List.setIfInBounds_toArray, List.set_cons_zero, List.set_cons_succ]
  refine wpAnyH_take (i := 4) (v := ?_) rfl (by kernel_rfl) (by kernel_rfl) (by kernel_rfl) (fun _ _ _ h => h) (Or.inl ⟨by kernel_rfl, ?_⟩) (by assumption) ?_
  rotate_left 1
  · intro w hSw; (try dsimp only at hSw); go_simp; try (with_reducible rfl)
  try simp only [Act.put, List.getElem_toArray, List.getElem_cons_succ, List.getElem_cons_zero, List.setIfInBounds_toArray, List.set_cons_zero, List.set_cons_succ]
  refine wpAnyH_take (i := 5) (v := ?_) rfl (by kernel_rfl) (by kernel_rfl) (by kernel_rfl) (fun _ _ _ h => h) (Or.inl ⟨by kernel_rfl, ?_⟩) (by assumption) ?_
  rotate_left 1
  · intro w hSw; (try dsimp only at hSw); go_simp; try (with_reducible rfl)
  try simp only [Act.put, List.getElem_toArray, List.getElem_cons_succ, List.getElem_cons_zero, List.setIfInBounds_toArray, List.set_cons_zero, List.set_cons_succ]
  refine wpAnyH_take (i := 6) (v := ?_) rfl (by kernel_rfl) (by kernel_rfl) (by kernel_rfl) (fun _ _ _ h => h) (Or.inl ⟨by kernel_rfl, ?_⟩) (by assumption) ?_
  rotate_left 1
  · intro w hSw; (try dsimp only at hSw); go_simp; try (with_reducible rfl)
  try simp only [Act.put, List.getElem_toArray, List.getElem_cons_succ, List.getElem_cons_zero, List.setIfInBounds_toArray, List.set_cons_zero, List.set_cons_succ]
  refine wpAnyH_take (i := 7) (v := ?_) rfl (by kernel_rfl) (by kernel_rfl) (by kernel_rfl) (fun _ _ _ h => h) (Or.inl ⟨by kernel_rfl, ?_⟩) (by assumption) ?_
  rotate_left 1
  · intro w hSw; (try dsimp only at hSw); go_simp; try (with_reducible rfl)
  try simp only [Act.put, List.getElem_toArray, List.getElem_cons_succ, List.getElem_cons_zero, List.setIfInBounds_toArray, List.set_cons_zero, List.set_cons_succ]
  refine wpAnyH_take (i := 8) (v := ?_) rfl (by kernel_rfl) (by kernel_rfl) (by kernel_rfl) (fun _ _ _ h => h) (Or.inl ⟨by kernel_rfl, ?_⟩) (by assumption) ?_
  rotate_left 1
  · intro w hSw; (try dsimp only at hSw); go_simp; try (with_reducible rfl)
  try simp only [Act.put, List.getElem_toArray, List.getElem_cons_succ, List.getElem_cons_zero, List.setIfInBounds_toArray, List.set_cons_zero, List.set_cons_succ]
  refine wpAnyH_take (i := 9) (v := ?_) rfl (by kernel_rfl) (by kernel_rfl) (by kernel_rfl) (fun _ _ _ h => h) (Or.inl ⟨by kernel_rfl, ?_⟩) (by assumption) ?_
  rotate_left 1
  · intro w hSw; (try dsimp only at hSw); go_simp; try (with_reducible rfl)
  try simp only [Act.put, List.getElem_toArray, List.getElem_cons_succ, List.getElem_cons_zero, List.setIfInBounds_toArray, List.set_cons_zero, List.set_cons_succ]
  refine wpAnyH_take (i := 10) (v := ?_) rfl (by kernel_rfl) (by kernel_rfl) (by kernel_rfl) (fun _ _ _ h => h) (Or.inl ⟨by kernel_rfl, ?_⟩) (by assumption) ?_
  rotate_left 1
  · intro w hSw; (try dsimp only at hSw); go_simp; try (with_reducible rfl)
  try simp only [Act.put, List.getElem_toArray, List.getElem_cons_succ, List.getElem_cons_zero, List.setIfInBounds_toArray, List.set_cons_zero, List.set_cons_succ]
  refine wpAnyH_take (i := 11) (v := ?_) rfl (by kernel_rfl) (by kernel_rfl) (by kernel_rfl) (fun _ _ _ h => h) (Or.inl ⟨by kernel_rfl, ?_⟩) (by assumption) ?_
  rotate_left 1
  · intro w hSw; (try dsimp only at hSw); go_simp; try (with_reducible rfl)
  try simp only [Act.put, List.getElem_toArray, List.getElem_cons_succ, List.getElem_cons_zero, List.setIfInBounds_toArray, List.set_cons_zero, List.set_cons_succ]
  refine wpAnyH_take (i := 12) (v := ?_) rfl (by kernel_rfl) (by kernel_rfl) (by kernel_rfl) (fun _ _ _ h => h) (Or.inl ⟨by kernel_rfl, ?_⟩) (by assumption) ?_
  rotate_left 1
  · intro w hSw; (try dsimp only at hSw); go_simp; try (with_reducible rfl)
  try simp only [Act.put, List.getElem_toArray, List.getElem_cons_succ, List.getElem_cons_zero, List.setIfInBounds_toArray, List.set_cons_zero, List.set_cons_succ]
  refine wpAnyH_take (i := 13) (v := ?_) rfl (by kernel_rfl) (by kernel_rfl) (by kernel_rfl) (fun _ _ _ h => h) (Or.inl ⟨by kernel_rfl, ?_⟩) (by assumption) ?_
  rotate_left 1
  · intro w hSw; (try dsimp only at hSw); go_simp; try (with_reducible rfl)
  try simp only [Act.put, List.getElem_toArray, List.getElem_cons_succ, List.getElem_cons_zero, List.setIfInBounds_toArray, List.set_cons_zero, List.set_cons_succ]
  refine wpAnyH_take (i := 14) (v := ?_) rfl (by kernel_rfl) (by kernel_rfl) (by kernel_rfl) (fun _ _ _ h => h) (Or.inl ⟨by kernel_rfl, ?_⟩) (by assumption) ?_
  rotate_left 1
  · intro w hSw; (try dsimp only at hSw); go_simp; try (with_reducible rfl)
  try simp only [Act.put, List.getElem_toArray, List.getElem_cons_succ, List.getElem_cons_zero, List.setIfInBounds_toArray, List.set_cons_zero, List.set_cons_succ]
  refine wpAnyH_take (i := 15) (v := ?_) rfl (by kernel_rfl) (by kernel_rfl) (by kernel_rfl) (fun _ _ _ h => h) (Or.inl ⟨by kernel_rfl, ?_⟩) (by assumption) ?_
  rotate_left 1
  · intro w hSw; (try dsimp only at hSw); go_simp; try (with_reducible rfl)
  try simp only [Act.put, List.getElem_toArray, List.getElem_cons_succ, List.getElem_cons_zero, List.setIfInBounds_toArray, List.set_cons_zero, List.set_cons_succ]
  refine wpAnyH_ready (rs := [16]) (by kernel_rfl) (by simp) ?_
  refine AllReadyH.cons rfl (fun K hK => ?_) AllReadyH.nil
  go_simp
  have hS : (fun w' => w'.cell? ⟨b, off, none⟩ = some (.int .i64 z0) ∧ w'.cell? ⟨b, off + 1, none⟩ = some (.int .i64 z1) ∧ w'.cell? ⟨b, off + 2, none⟩ = some (.int .i64 z2) ∧ w'.cell? ⟨b, off + 3, none⟩ = some (.int .i64 z3) ∧ w'.cell? ⟨b, off + 4, none⟩ = some (.int .i64 z4) ∧ w'.cell? ⟨b, off + 5, none⟩ = some (.int .i64 z5)) (W.drew.alloc (.cells #[.int .i64 0, .int .i64 0, .int .i64 0, .int .i64 0, .int .i64 0] 47)) := ⟨(World.cell?_alloc_lt _ _ ⟨b, off, none⟩ (by simp; omega)).trans y0, (World.cell?_alloc_lt _ _ ⟨b, off + 1, none⟩ (by simp; omega)).trans y1, (World.cell?_alloc_lt _ _ ⟨b, off + 2, none⟩ (by simp; omega)).trans y2, (World.cell?_alloc_lt _ _ ⟨b, off + 3, none⟩ (by simp; omega)).trans y3, (World.cell?_alloc_lt _ _ ⟨b, off + 4, none⟩ (by simp; omega)).trans y4, (World.cell?_alloc_lt _ _ ⟨b, off + 5, none⟩ (by simp; omega)).trans y5⟩
  refine hK.out _ _ hS (fun hHeld => ?_)
  clear hK K
  try simp only [Act.put, List.getElem_toArray, List.getElem_cons_succ, List.getElem_cons_zero, List.setIfInBounds_toArray, List.set_cons_zero, List.set_cons_succ]
  refine wpAnyH_ready (rs := [17]) (by kernel_rfl) (by simp) ?_
  refine AllReadyH.cons rfl (fun K hK => ?_) AllReadyH.nil
  go_simp
  have hS : (fun w' => w'.cell? ⟨b, off, none⟩ = some (.int .i64 z0) ∧ w'.cell? ⟨b, off + 1, none⟩ = some (.int .i64 z1) ∧ w'.cell? ⟨b, off + 2, none⟩ = some (.int .i64 z2) ∧ w'.cell? ⟨b, off + 3, none⟩ = some (.int .i64 z3) ∧ w'.cell? ⟨b, off + 4, none⟩ = some (.int .i64 z4) ∧ w'.cell? ⟨b, off + 5, none⟩ = some (.int .i64 z5)) (W.drew.alloc (.cells #[.int .i64 z0, .int .i64 z1, .int .i64 z2, .int .i64 z3, .int .i64 z4] 47)) := ⟨(World.cell?_alloc_lt _ _ ⟨b, off, none⟩ (by simp; omega)).trans y0, (World.cell?_alloc_lt _ _ ⟨b, off + 1, none⟩ (by simp; omega)).trans y1, (World.cell?_alloc_lt _ _ ⟨b, off + 2, none⟩ (by simp; omega)).trans y2, (World.cell?_alloc_lt _ _ ⟨b, off + 3, none⟩ (by simp; omega)).trans y3, (World.cell?_alloc_lt _ _ ⟨b, off + 4, none⟩ (by simp; omega)).trans y4, (World.cell?_alloc_lt _ _ ⟨b, off + 5, none⟩ (by simp; omega)).trans y5⟩
  refine hK.out _ _ hS (fun hHeld => ?_)
  clear hK K
  try simp only [Act.put, List.getElem_toArray, List.getElem_cons_succ, List.getElem_cons_zero, List.setIfInBounds_toArray, List.set_cons_zero, List.set_cons_succ]
  refine wpAnyH_done (by kernel_rfl) ?_ _
  have Z1 : Hid (StAt ((W.alloc (.cells #[.int .i64 z0, .int .i64 z1, .int .i64 z2, .int .i64 z3, .int .i64 z4] 47)).drew) W.heap.size 0 ⟨z0, z1, z2, z3, z4⟩) := StAt.new W ⟨z0, z1, z2, z3, z4⟩ _
  have B1 : Below W.heap.size W ((W.alloc (.cells #[.int .i64 z0, .int .i64 z1, .int .i64 z2, .int .i64 z3, .int .i64 z4] 47)).drew) := ((Below.refl _ _).alloc (Nat.le_refl _) _).drew
  have hz1 : W.heap.size < ((W.alloc (.cells #[.int .i64 z0, .int .i64 z1, .int .i64 z2, .int .i64 z3, .int .i64 z4] 47)).drew).heap.size := by simp
  have X1 : Hid (StAt ((W.alloc (.cells #[.int .i64 z0, .int .i64 z1, .int .i64 z2, .int .i64 z3, .int .i64 z4] 47)).drew) w.heap.size 0 noSt ∧ ∀ j, ((W.alloc (.cells #[.int .i64 z0, .int .i64 z1, .int .i64 z2, .int .i64 z3, .int .i64 z4] 47)).drew).frozen? ⟨w.heap.size, j, none⟩ = false) := ⟨X0.out.1.below B1 hzW, fun j => (B1.frozen (p := ⟨w.heap.size, j, none⟩) hzW).trans (X0.out.2 j)⟩
  have C1 : Hid (Below w.heap.size w ((W.alloc (.cells #[.int .i64 z0, .int .i64 z1, .int .i64 z2, .int .i64 z3, .int .i64 z4] 47)).drew)) := B0.trans (B1.mono (by omega))
  go_wp2_with fail
  clear hHeld y0 y1 y2 y3 y4 y5 X0 B1
  generalize (W.alloc (.cells #[.int .i64 z0, .int .i64 z1, .int .i64 z2, .int .i64 z3, .int .i64 z4] 47)).drew = V at Z1 X1 C1 hz1 ⊢
  obtain ⟨c, hP⟩ := implPackV ⟨z0, z1, z2, z3, z4⟩ V
  refine hP.mono ?_
  clear hP
  rintro e w2 ⟨a2, cap2, rfl, hown, hb2⟩
  obtain ⟨L, hL⟩ : ∃ L, packV ⟨z0, z1, z2, z3, z4⟩ = L := ⟨_, rfl⟩
  have hLl : L.length ≤ 6 := by rw [← hL]; exact packV_len _
  rw [hL] at hown HT ⊢
  have HO : Hid (IntIn w2 a2 L.length L) := owns_ints rfl hown
  have hb02 : Below w.heap.size w w2 := C1.out.trans (hb2.mono C1.out.size)
  have HI2 : Hid (IntIn w2 (some ⟨b, off, none⟩) 6 [z0, z1, z2, z3, z4, z5]) := HI.out.below hb02
  have Z2 : Hid (StAt w2 W.heap.size 0 ⟨z0, z1, z2, z3, z4⟩) := Z1.out.below hb2 hz1
  have hzv : w.heap.size < V.heap.size := by omega
  have X2 : Hid (StAt w2 w.heap.size 0 noSt ∧ ∀ j, w2.frozen? ⟨w.heap.size, j, none⟩ = false) := ⟨X1.out.1.below hb2 hzv, fun j => (hb2.frozen (p := ⟨w.heap.size, j, none⟩) hzv).trans (X1.out.2 j)⟩
  have C2 : Hid (Below w.heap.size w w2) := hb02
  have hz2 := hb2.size
  have hz2' : W.heap.size < w2.heap.size := by omega
  have E2 : Hid (ErrAt 0 w2) := HE.out.below hb02
  have hfl : ∀ w : World, _ := fun w => Tryd.fld69 c (.slice a2 L.length cap2) w
  clear hown hb2 hb02 hL Z1 X1 C1
  go_wp2_with fail
  refine (slEqWords_c a2 (some ⟨b, off, none⟩) L.length 6 cap2 cap L [z0, z1, z2, z3, z4, z5] w2 (by omega) (by omega) HO.out HI2.out).mono ?_
  rintro e w3 ⟨rfl, hb3⟩
  rw [HT.out]
  have Z3 : Hid (StAt w3 W.heap.size 0 ⟨z0, z1, z2, z3, z4⟩) := Z2.out.below hb3 hz2'
  have X3 : Hid (StAt w3 w.heap.size 0 noSt ∧ ∀ j, w3.frozen? ⟨w.heap.size, j, none⟩ = false) := ⟨X2.out.1.below hb3 (by omega), fun j => (hb3.frozen (p := ⟨w.heap.size, j, none⟩) (by simp only; omega)).trans (X2.out.2 j)⟩
  have C3 : Hid (Below w.heap.size w w3) := C2.out.trans (hb3.mono C2.out.size)
  have E3 : Hid (ErrAt 0 w3) := E2.out.below hb3
  have hz3 := hb3.size
  clear hb3 HT HO HI2 Z2 X2 C2 E2 hfl
  cases t
  · go_wp2_with fail
    refine (demand_bad _ E3.out).mono ?_
    rintro e w' ⟨⟨u, pv, rfl⟩, rfl⟩
    go_wp2_with fail
    exact ⟨rfl, ⟨fun h => (by cases h), fun _ => ⟨_, _, rfl⟩⟩, C3.out⟩
  · go_wp2_with fail
    refine (demand_ok _).mono ?_
    rintro e w' ⟨rfl, rfl⟩
    obtain ⟨x0, x1, x2, x3, x4⟩ := Z3.out
    obtain ⟨⟨d0, d1, d2, d3, d4⟩, hf⟩ := X3.out
    simp only [Nat.zero_add] at x0 x1 x2 x3 x4 d0 d1 d2 d3 d4
    have f0 := hf 0
    have f1 := hf 1
    have f2 := hf 2
    have f3 := hf 3
    have f4 := hf 4
    clear hf
    go_wp2_with fail
    refine bodyPost_ret (v := .agg #[.int .i64 z0, .int .i64 z1, .int .i64 z2, .int .i64 z3, .int .i64 z4]) (by simp [results, Tryd.results33, go_sem, d0, d1, d2, d3, d4]) rfl ⟨⟨fun _ => rfl, fun h => by cases h⟩, ?_⟩
    exact C3.out.setCell (Nat.le_refl _) _ |>.setCell (Nat.le_refl _) _ |>.setCell (Nat.le_refl _) _ |>.setCell (Nat.le_refl _) _ |>.setCell (Nat.le_refl _) _

/-- Some words are those of a statement: which. -/
def unpB (zs : List Int) : Option StI := match zs with
  | [z0, z1, z2, z3, z4, z5] => if packV ⟨z0, z1, z2, z3, z4⟩ = [z0, z1, z2, z3, z4, z5] then some ⟨z0, z1, z2, z3, z4⟩ else none
  | _ => none

def unpC (zs : List Int) : Int := if (unpB zs).isSome = true then 0 else 5

def unpS (zs : List Int) : StI := (unpB zs).getD noSt

theorem unp_len {zs : List Int} (h : zs.length ≠ 6) : unpB zs = none := by
  unfold unpB
  split
  · simp at h
  · rfl

theorem six_list {zs : List Int} (h : zs.length = 6) : ∃ z0 z1 z2 z3 z4 z5, zs = [z0, z1, z2, z3, z4, z5] := by
  match zs, h with
  | [z0, z1, z2, z3, z4, z5], _ => exact ⟨z0, z1, z2, z3, z4, z5, rfl⟩

theorem statementOf_c (a : Option Addr) (n cap : Nat) (zs : List Int) (w : World) (h : IntIn w a n zs) (hE : ErrAt 0 w) :
    Calls Tryd.prog 33 #[.slice a n cap] w fun e w' => SOut (unpB zs).isSome (unpS zs) e ∧ Below w.heap.size w w' := by
  by_cases h6 : n = 6
  · subst h6
    obtain ⟨z0, z1, z2, z3, z4, z5, rfl⟩ := six_list h.1
    obtain ⟨b, off, rfl, _⟩ := h.2 (by omega)
    have h1 := statementOf_six b off cap z0 z1 z2 z3 z4 z5 _ w h hE rfl
    by_cases q : packV ⟨z0, z1, z2, z3, z4⟩ = [z0, z1, z2, z3, z4, z5]
    · have e1 : unpB [z0, z1, z2, z3, z4, z5] = some ⟨z0, z1, z2, z3, z4⟩ := if_pos q
      rw [decide_eq_true q] at h1
      unfold unpS
      rw [e1]
      exact h1
    · have e1 : unpB [z0, z1, z2, z3, z4, z5] = none := if_neg q
      rw [decide_eq_false q] at h1
      rw [e1]
      exact h1.mono fun e w' hh => ⟨⟨fun k => (by cases k), fun _ => hh.1.2 rfl⟩, hh.2⟩
  · have e1 : unpB zs = none := unp_len (by rw [h.1]; exact h6)
    rw [e1]
    exact (statementOf_len a n cap w h6 hE).mono fun e w' hh => ⟨⟨fun k => (by cases k), fun _ => hh.1⟩, hh.2⟩

/-- A slice lies in a box of its own. -/
def SlBox (w : World) (b : Nat) (v : Value) : Prop := w.cell? ⟨b, 0, none⟩ = some v

set_option maxRecDepth 20000 in
set_option maxHeartbeats 2000000 in
theorem unpack1_ok (b : Nat) (a : Option Addr) (n cap : Nat) (zs : List Int) (x : StI) (w : World) (hx : w.cell? ⟨b, 0, none⟩ = some (.slice a n cap)) (h : IntIn w a n zs) (hE : ErrAt 0 w) (hu : unpB zs = some x) :
    Calls Tryd.prog 32 #[.pointer (some ⟨b, 0, none⟩)] w fun e w' => e = .returned (.agg #[.int .i64 x.k, .int .i64 x.e, .int .i64 x.f, .int .i64 x.s, .int .i64 x.n]) ∧ Below w.heap.size w w' := by
  have B0 : Below w.heap.size w (w.alloc (.cells #[.int .i64 0, .int .i64 0, .int .i64 0, .int .i64 0, .int .i64 0] 47)) := (Below.refl _ _).alloc (Nat.le_refl _) _
  have hbl : b < w.heap.size := World.block_lt_of_cell? w ⟨b, 0, none⟩ hx
  have HC := statementOf_c a n cap zs _ (h.below B0) (hE.below B0)
  have HCC : Hid (Calls Tryd.prog 33 #[.slice a n cap] (w.alloc (.cells #[.int .i64 0, .int .i64 0, .int .i64 0, .int .i64 0, .int .i64 0] 47)) fun e w' => e = .returned (.agg #[.int .i64 x.k, .int .i64 x.e, .int .i64 x.f, .int .i64 x.s, .int .i64 x.n]) ∧ Below (w.heap.size + 1) (w.alloc (.cells #[.int .i64 0, .int .i64 0, .int .i64 0, .int .i64 0, .int .i64 0] 47)) w') := HC.mono fun e w' hh => ⟨by have := hh.1.1 (by rw [hu]; rfl); unfold unpS at this; rw [hu] at this; exact this, by have := hh.2; simpa using this⟩
  clear HC h hE hu B0
  go_enter Tryd.func32, Tryd.ntmps32
  go_wp2_with fail
  refine HCC.out.mono ?_
  rintro e w1 ⟨rfl, hb1⟩
  have hz := hb1.size
  simp only [World.size_alloc] at hz
  have hw : w.heap.size < w1.heap.size := by omega
  have d : ∀ j, j < 5 → w1.cell? ⟨w.heap.size, j, none⟩ = some (.int .i64 0) := fun j hj => (hb1.cell (p := ⟨w.heap.size, j, none⟩) (by simp)).trans (by
    match j, hj with
    | 0, _ => simp
    | 1, _ => simp
    | 2, _ => simp
    | 3, _ => simp
    | 4, _ => simp)
  have f : ∀ j, w1.frozen? ⟨w.heap.size, j, none⟩ = false := fun j => (hb1.frozen (p := ⟨w.heap.size, j, none⟩) (by simp)).trans (by simp [go_sem])
  have d0 := d 0 (by omega)
  have d1 := d 1 (by omega)
  have d2 := d 2 (by omega)
  have d3 := d 3 (by omega)
  have d4 := d 4 (by omega)
  have f0 := f 0
  have f1 := f 1
  have f2 := f 2
  have f3 := f 3
  have f4 := f 4
  have B1 : Below w.heap.size w w1 := ((Below.refl _ _).alloc (Nat.le_refl _) _).trans (hb1.mono (by omega))
  clear d f hb1
  go_wp2_with fail
  refine bodyPost_ret (v := .agg #[.int .i64 x.k, .int .i64 x.e, .int .i64 x.f, .int .i64 x.s, .int .i64 x.n]) (by simp [results, Tryd.results32, go_sem, d0, d1, d2, d3, d4]) rfl ⟨rfl, ?_⟩
  exact B1.setCell (Nat.le_refl _) _ |>.setCell (Nat.le_refl _) _ |>.setCell (Nat.le_refl _) _ |>.setCell (Nat.le_refl _) _ |>.setCell (Nat.le_refl _) _

set_option maxRecDepth 20000 in
set_option maxHeartbeats 2000000 in
theorem unpack1_bad (b : Nat) (a : Option Addr) (n cap : Nat) (zs : List Int) (w : World) (hx : w.cell? ⟨b, 0, none⟩ = some (.slice a n cap)) (h : IntIn w a n zs) (hE : ErrAt 0 w) (hu : unpB zs = none) :
    Calls Tryd.prog 32 #[.pointer (some ⟨b, 0, none⟩)] w fun e w' => Panics e ∧ Below w.heap.size w w' := by
  have B0 : Below w.heap.size w (w.alloc (.cells #[.int .i64 0, .int .i64 0, .int .i64 0, .int .i64 0, .int .i64 0] 47)) := (Below.refl _ _).alloc (Nat.le_refl _) _
  have hbl : b < w.heap.size := World.block_lt_of_cell? w ⟨b, 0, none⟩ hx
  have HC := statementOf_c a n cap zs _ (h.below B0) (hE.below B0)
  have HCC : Hid (Calls Tryd.prog 33 #[.slice a n cap] (w.alloc (.cells #[.int .i64 0, .int .i64 0, .int .i64 0, .int .i64 0, .int .i64 0] 47)) fun e w' => Panics e ∧ Below (w.heap.size + 1) (w.alloc (.cells #[.int .i64 0, .int .i64 0, .int .i64 0, .int .i64 0, .int .i64 0] 47)) w') := HC.mono fun e w' hh => ⟨hh.1.2 (by rw [hu]; rfl), by have := hh.2; simpa using this⟩
  clear HC h hE hu B0
  go_enter Tryd.func32, Tryd.ntmps32
  go_wp2_with fail
  refine HCC.out.mono ?_
  rintro e w1 ⟨⟨u, pv, rfl⟩, hb1⟩
  go_wp2_with fail
  exact ⟨rfl, ⟨_, _, rfl⟩, ((Below.refl _ _).alloc (Nat.le_refl _) _).trans (hb1.mono (by omega))⟩

def GivesU (f : Nat) (a : Option Addr) (n cap : Nat) (c : Int) (x : StI) (w : World) : Prop := Calls Tryd.prog f #[.slice a n cap] w fun e w' => e = .returned (.agg #[.int .i64 c, .int .i64 x.k, .int .i64 x.e, .int .i64 x.f, .int .i64 x.s, .int .i64 x.n]) ∧ Below w.heap.size w w'

theorem enter73 (cap : Array Value) (w : World) : (callFunc 32 cap).run Tryd.prog w = .ok (.enter 32 cap) w := by kernel_rfl

set_option maxRecDepth 20000 in
set_option maxHeartbeats 2000000 in
theorem implUnpack_c (a : Option Addr) (n cap : Nat) (zs : List Int) (w : World) (h : IntIn w a n zs) (hE : ErrAt 0 w) : GivesU 25 a n cap (unpC zs) (unpS zs) w := by
  obtain ⟨W, hW⟩ : ∃ W, W = (w.alloc (.cells #[.slice a n cap] 22)).alloc (.cells #[.int .i64 0, .int .i64 0, .int .i64 0, .int .i64 0, .int .i64 0, .int .i64 0] 51) := ⟨_, rfl⟩
  have HW : Hid (W = (w.alloc (.cells #[.slice a n cap] 22)).alloc (.cells #[.int .i64 0, .int .i64 0, .int .i64 0, .int .i64 0, .int .i64 0, .int .i64 0] 51)) := hW
  have B0 : Below w.heap.size w W := by rw [hW]; exact ((Below.refl _ _).alloc (Nat.le_refl _) _).alloc (by simp) _
  have X0 : W.cell? ⟨w.heap.size, 0, none⟩ = some (.slice a n cap) := by rw [hW]; go_cell
  have R0 : Hid (SRes W (w.heap.size + 1) 0 noSt) := by rw [hW, show w.heap.size + 1 = (w.alloc (.cells #[.slice a n cap] 22)).heap.size by simp]; exact SRes.new _ _
  have HB0 : Hid (Below w.heap.size w W) := B0
  have hI := h.below B0
  have hE0 := hE.below B0
  have HK : Hid (Calls Tryd.prog 31 #[.func (.func 32) #[] #[.pointer (some ⟨w.heap.size, 0, none⟩)]] W fun e w' => e = .returned (.agg #[.int .i64 (unpC zs), .int .i64 (unpS zs).k, .int .i64 (unpS zs).e, .int .i64 (unpS zs).f, .int .i64 (unpS zs).s, .int .i64 (unpS zs).n]) ∧ Below W.heap.size W w') := by
    cases hu : unpB zs with
    | some x =>
      have e1 : unpC zs = 0 := by unfold unpC; rw [hu]; rfl
      have e2 : unpS zs = x := by unfold unpS; rw [hu]; rfl
      show Calls _ _ _ _ _
      rw [e1, e2]
      exact readOrTell_ok 32 _ x W (enter73 _) (fun w2 hb => unpack1_ok _ a n cap zs x w2 ((hb.cell (p := ⟨w.heap.size, 0, none⟩) (World.block_lt_of_cell? W ⟨w.heap.size, 0, none⟩ X0)).trans X0) (hI.below hb) (hE0.below hb) hu)
    | none =>
      have e1 : unpC zs = 5 := by unfold unpC; rw [hu]; rfl
      have e2 : unpS zs = noSt := by unfold unpS; rw [hu]; rfl
      show Calls _ _ _ _ _
      rw [e1, e2]
      exact readOrTell_bad 32 _ W (enter73 _) (fun w2 hb => unpack1_bad _ a n cap zs w2 ((hb.cell (p := ⟨w.heap.size, 0, none⟩) (World.block_lt_of_cell? W ⟨w.heap.size, 0, none⟩ X0)).trans X0) (hI.below hb) (hE0.below hb) hu)
  have hmf : ∀ (fn : Fn) (first cap : Array Value) (w : World), (Instr.makeFunc fn first cap).run Tryd.prog w = .ok (.func fn first cap) w := fun _ _ _ _ => rfl
  obtain ⟨x, hx⟩ : ∃ x, unpS zs = x := ⟨_, rfl⟩
  obtain ⟨c, hc⟩ : ∃ c, unpC zs = c := ⟨_, rfl⟩
  rw [hx, hc] at HK ⊢
  clear hI hE0 h hE hW B0 X0 hx hc
  unfold GivesU
  go_enter Tryd.func25, Tryd.ntmps25
  go_wp2_with fail
  rw [← HW.out]
  refine HK.out.mono ?_
  rintro e w1 ⟨rfl, hb1⟩
  have R1 := R0.out.below hb1
  have B1 : Hid (Below w.heap.size w (SPut w1 (w.heap.size + 1) c x)) := SPut_below (HB0.out.trans (hb1.mono HB0.out.size)) (by omega) c x
  have R2 : Hid (SRes (SPut w1 (w.heap.size + 1) c x) (w.heap.size + 1) c x) := SPut_at R1
  obtain ⟨⟨d0, d1, d2, d3, d4, d5⟩, hf⟩ := R1
  have f0 := hf 0
  have f1 := hf 1
  have f2 := hf 2
  have f3 := hf 3
  have f4 := hf 4
  have f5 := hf 5
  clear hf hb1
  go_wp2_with fail
  obtain ⟨⟨c0, c1, c2, c3, c4, c5⟩, _⟩ := R2.out
  exact bodyPost_ret (v := .agg #[.int .i64 c, .int .i64 x.k, .int .i64 x.e, .int .i64 x.f, .int .i64 x.s, .int .i64 x.n]) (by simp [results, Tryd.results25, go_sem, c0, c1, c2, c3, c4, c5]) rfl ⟨rfl, B1.out⟩

end Go.Proofs.YtnlmoapopdchkaaDoor
