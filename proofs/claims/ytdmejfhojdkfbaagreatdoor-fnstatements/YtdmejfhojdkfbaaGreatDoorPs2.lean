/-
  CONTRACTS: spec.l7Parse and spec.ParseStatement.
  Conditions: the text has at most 1<<20 bytes.
-/
import Derived.Test.YtdmejfhojdkfbaaGreatDoorPs1
namespace Go.Proofs.YtdmejfhojdkfbaaGreatDoor
open Go.RowKit
set_option linter.unusedVariables false
set_option linter.unusedSimpArgs false

set_option maxRecDepth 20000 in
set_option maxHeartbeats 4000000 in
theorem l7Parse_few (t : ByteArray) (w : World) (ht : t.size ≤ 1048576) (hn3 : (cutB t 32).length ≠ 3) (hn4 : (cutB t 32).length ≠ 4) (y : StI) (hy : y = ⟨0, 0, 0, 0, 0⟩) : GivesPS t y false w := by
  obtain ⟨W, hW⟩ : ∃ W, W = w.alloc (.cells #[.int .i64 0, .int .i64 0, .int .i64 0, .int .i64 0, .int .i64 0] 26) := ⟨_, rfl⟩
  have HW : Hid (W = w.alloc (.cells #[.int .i64 0, .int .i64 0, .int .i64 0, .int .i64 0, .int .i64 0] 26)) := hW
  have B0 : Below w.heap.size w W := by rw [hW]; exact (Below.refl _ _).alloc (Nat.le_refl _) _
  have zW : W.heap.size = w.heap.size + 1 := by rw [hW]; simp
  have X0 : Hid (StAt W w.heap.size 0 ⟨0, 0, 0, 0, 0⟩ ∧ ∀ j, W.frozen? ⟨w.heap.size, j, none⟩ = false) := by rw [hW]; exact ⟨by simp [StAt], fun j => by simp [go_sem]⟩
  obtain ⟨ws, hws⟩ : ∃ ws, cutB t 32 = ws := ⟨_, rfl⟩
  have HL : Hid (Calls Tryz.prog 57 #[.string t, .int .u8 32] W fun e w' => ∃ g cap, e = .returned (.slice (some ⟨g, 0, none⟩) ws.length cap) ∧ w'.ownsRow W.heap.size 9 1 (.slice (some ⟨g, 0, none⟩) ws.length cap) ws.length (ws.map Value.string) ∧ Below W.heap.size W w') := by
    have := l2Cut_c t 32 W ht
    rw [hws] at this
    exact this
  have HSZ : Hid (∀ (j : Nat) (b : ByteArray), ws[j]? = some b → b.size ≤ 1048576) := fun j b e => Nat.le_trans (cut_size t 32 j b (by rw [hws]; exact e)) ht
  rw [hws] at hn3 hn4
  have h3 : ((ws.length : Int) == 3) = false := by simp; omega
  have h4 : ((ws.length : Int) == 4) = false := by simp; omega
  clear hn3 hn4
  have HC : Hid (stCode y = 1) := by rw [hy]; exact rfl
  have hkb : ((1 : Int) == 0) = false := rfl
  have HY : Hid (y = ⟨0, 0, 0, 0, 0⟩) := hy
  clear hy
  clear hW
  unfold GivesPS
  go_enter Tryz.func31, Tryz.ntmps31
  go_wp2_with fail
  rw [← HW.out]
  refine HL.out.mono ?_
  rintro e w1 ⟨g, cap, rfl, hown, hb1⟩
  obtain ⟨V, hV⟩ : ∃ V, V = w1.alloc (.cells #[.int .i64 0, .int .i64 0, .int .i64 0, .int .i64 0, .int .i64 0] 26) := ⟨_, rfl⟩
  have PV : Hid (PP w V g w1.heap.size ws ⟨0, 0, 0, 0, 0⟩) := by
    have hgl : W.heap.size ≤ g ∧ g < w1.heap.size := hown.lt g rfl
    have A1 : Below w1.heap.size w1 V := by rw [hV]; exact (Below.refl _ _).alloc (Nat.le_refl _) _
    have hb : Below W.heap.size W V := hb1.trans (A1.mono hb1.size)
    refine ⟨B0.trans (hb.mono B0.size), fun k x e => ?_, by rw [hV]; simp [StAt], fun j => by rw [hV]; simp [go_sem], ⟨_, X0.out.1.below hb (by omega)⟩, fun j => (hb.frozen (p := ⟨w.heap.size, j, none⟩) (by show w.heap.size < W.heap.size; omega)).trans (X0.out.2 j), by omega, hgl.2, by rw [hV]; simp⟩
    have hk : k < ws.length := by
      by_cases q : k < ws.length
      · exact q
      · rw [List.getElem?_eq_none (by omega)] at e; cases e
    refine (A1.cell (p := ⟨g, k, none⟩) hgl.2).trans ?_
    rw [hown.cellAt k (by omega), List.getElem?_map, e]
    rfl
  clear hown hb1 HL X0 B0 zW
  go_upto_region 3 with fail
  rw [← hV]
  clear hV HW
  generalize w1.heap.size = q at PV ⊢
  have PX : Hid (PP w V g q ws y) := by rw [HY.out]; exact PV.out
  go_upto_region 12 with fail
  clear PV 
  generalize V = X at PX ⊢
  have hgl := PX.out.gl
  have hgq := PX.out.gq
  have hql := PX.out.ql
  have hwX : w.heap.size < X.heap.size := by omega
  have hwq : w.heap.size ≠ q := by omega
  obtain ⟨s0, s1, s2, s3, s4⟩ := PX.out.st
  simp only [Nat.zero_add] at s0 s1 s2 s3 s4
  obtain ⟨z, r0, r1, r2, r3, r4⟩ := PX.out.rs
  simp only [Nat.zero_add] at r0 r1 r2 r3 r4
  have e0 := PX.out.rf 0
  have e1 := PX.out.rf 1
  have e2 := PX.out.rf 2
  have e3 := PX.out.rf 3
  have e4 := PX.out.rf 4
  refine wp_region_held_drew (S := fun w' => (w'.cell? ⟨q, 0, none⟩ = some (.int .i64 (y : StI).k) ∧ w'.cell? ⟨q, 1, none⟩ = some (.int .i64 (y : StI).e) ∧ w'.cell? ⟨q, 2, none⟩ = some (.int .i64 (y : StI).f) ∧ w'.cell? ⟨q, 3, none⟩ = some (.int .i64 (y : StI).s) ∧ w'.cell? ⟨q, 4, none⟩ = some (.int .i64 (y : StI).n)) ∧ PP w w' g q ws y) (by kernel_rfl) (⟨⟨s0, s1, s2, s3, s4⟩, PX.out.drew⟩) (fun hHeld => ?_)
  refine wpAnyH_take (i := 0) (v := ?_) rfl (by kernel_rfl) (by kernel_rfl) (by kernel_rfl) (fun _ _ _ h => h) (Or.inl ⟨by kernel_rfl, ?_⟩) (by assumption) ?_
  rotate_left 1
  · intro w hSw; (try dsimp only at hSw); go_simp; try (with_reducible rfl)
  try simp only [Act.put, List.getElem_toArray, List.getElem_cons_succ, List.getElem_cons_zero, List.setIfInBounds_toArray, List.set_cons_zero, List.set_cons_succ]
  refine wpAnyH_ready (rs := [1]) (by kernel_rfl) (by simp) ?_
  refine AllReadyH.cons rfl (fun K hK => ?_) AllReadyH.nil
  go_simp
  refine (l7Fault_c q 0 y _ hHeld.2.st).mono ?_
  rintro e w' ⟨rfl, rfl⟩
  rw [HC.out]
  have hS := hHeld
  refine hK.out _ _ hS (fun hHeld => ?_)
  clear hK K
  try simp only [Act.put, List.getElem_toArray, List.getElem_cons_succ, List.getElem_cons_zero, List.setIfInBounds_toArray, List.set_cons_zero, List.set_cons_succ]
  refine wpAnyH_take (i := 2) (v := ?_) rfl (by kernel_rfl) (by kernel_rfl) (by kernel_rfl) (fun _ _ _ h => h) (Or.inl ⟨by kernel_rfl, ?_⟩) (by assumption) ?_
  rotate_left 1
  · intro w hSw; (try dsimp only at hSw); go_simp; try (with_reducible rfl)
  try simp only [Act.put, List.getElem_toArray, List.getElem_cons_succ, List.getElem_cons_zero, List.setIfInBounds_toArray, List.set_cons_zero, List.set_cons_succ]
  refine wpAnyH_take (i := 3) (v := ?_) rfl (by kernel_rfl) (by kernel_rfl) (by kernel_rfl) (fun _ _ _ h => h) (Or.inl ⟨by kernel_rfl, ?_⟩) (by assumption) ?_
  rotate_left 1
  · intro w hSw; (try dsimp only at hSw); go_simp; try (with_reducible rfl)
  try simp only [Act.put, List.getElem_toArray, List.getElem_cons_succ, List.getElem_cons_zero, List.setIfInBounds_toArray, List.set_cons_zero, List.set_cons_succ]
  refine wpAnyH_take (i := 4) (v := undef) rfl (by kernel_rfl) (by kernel_rfl) (by kernel_rfl) (fun _ _ _ h => h) (Or.inr ⟨by kernel_rfl, rfl⟩) (by assumption) ?_
  try simp only [Act.put, List.getElem_toArray, List.getElem_cons_succ, List.getElem_cons_zero, List.setIfInBounds_toArray, List.set_cons_zero, List.set_cons_succ]
  refine wpAnyH_take (i := 5) (v := undef) rfl (by kernel_rfl) (by kernel_rfl) (by kernel_rfl) (fun _ _ _ h => h) (Or.inr ⟨by kernel_rfl, rfl⟩) (by assumption) ?_
  try simp only [Act.put, List.getElem_toArray, List.getElem_cons_succ, List.getElem_cons_zero, List.setIfInBounds_toArray, List.set_cons_zero, List.set_cons_succ]
  refine wpAnyH_take (i := 6) (v := undef) rfl (by kernel_rfl) (by kernel_rfl) (by kernel_rfl) (fun _ _ _ h => h) (Or.inr ⟨by kernel_rfl, rfl⟩) (by assumption) ?_
  try simp only [Act.put, List.getElem_toArray, List.getElem_cons_succ, List.getElem_cons_zero, List.setIfInBounds_toArray, List.set_cons_zero, List.set_cons_succ]
  refine wpAnyH_take (i := 7) (v := ?_) rfl (by kernel_rfl) (by kernel_rfl) (by kernel_rfl) (fun _ _ _ h => h) (Or.inl ⟨by kernel_rfl, ?_⟩) (by assumption) ?_
  rotate_left 1
  · intro w hSw; (try dsimp only at hSw); go_simp; try (with_reducible rfl)
  try simp only [Act.put, List.getElem_toArray, List.getElem_cons_succ, List.getElem_cons_zero, List.setIfInBounds_toArray, List.set_cons_zero, List.set_cons_succ]
  refine wpAnyH_ready (rs := [8]) (by kernel_rfl) (by simp) ?_
  refine AllReadyH.cons rfl (fun K hK => ?_) AllReadyH.nil
  go_simp
  have pS := (PX.out.told y).1.drew
  have hS : (fun w' => (w'.cell? ⟨q, 0, none⟩ = some (.int .i64 (y : StI).k) ∧ w'.cell? ⟨q, 1, none⟩ = some (.int .i64 (y : StI).e) ∧ w'.cell? ⟨q, 2, none⟩ = some (.int .i64 (y : StI).f) ∧ w'.cell? ⟨q, 3, none⟩ = some (.int .i64 (y : StI).s) ∧ w'.cell? ⟨q, 4, none⟩ = some (.int .i64 (y : StI).n)) ∧ PP w w' g q ws y) (StPut X w.heap.size 0 y).drew := ⟨by obtain ⟨q0, q1, q2, q3, q4⟩ := pS.st; simp only [Nat.zero_add] at q0 q1 q2 q3 q4; exact ⟨q0, q1, q2, q3, q4⟩, pS⟩
  dsimp only [StPut] at hS pS
  refine hK.out _ _ hS (fun hHeld => ?_)
  clear hK K
  try simp only [Act.put, List.getElem_toArray, List.getElem_cons_succ, List.getElem_cons_zero, List.setIfInBounds_toArray, List.set_cons_zero, List.set_cons_succ]
  refine wpAnyH_ready (rs := [9]) (by kernel_rfl) (by simp) ?_
  refine AllReadyH.cons rfl (fun K hK => ?_) AllReadyH.nil
  go_simp
  refine hK.out _ _ (by assumption) (fun hHeld => ?_)
  clear hK K
  try simp only [Act.put, List.getElem_toArray, List.getElem_cons_succ, List.getElem_cons_zero, List.setIfInBounds_toArray, List.set_cons_zero, List.set_cons_succ]
  refine wpAnyH_done (by kernel_rfl) ?_ _
  go_wp2_with fail
  refine bodyPost_ret (v := .tuple #[.agg #[.int .i64 y.k, .int .i64 y.e, .int .i64 y.f, .int .i64 y.s, .int .i64 y.n], .bool false]) (by simp [results, Tryz.results31, go_sem, r0, r1, r2, r3, r4]) rfl ⟨rfl, hS.2.bl⟩

set_option maxRecDepth 20000 in
set_option maxHeartbeats 4000000 in
theorem l7Parse_long (t : ByteArray) (w : World) (ht : t.size ≤ 1048576) (a b c : ByteArray) (hc : cutB t 32 = [a, b, c]) (hc1 : c.size ≠ 1) (y : StI) (hy : y = ⟨0, 0, 0, 0, 0⟩) : GivesPS t y false w := by
  obtain ⟨W, hW⟩ : ∃ W, W = w.alloc (.cells #[.int .i64 0, .int .i64 0, .int .i64 0, .int .i64 0, .int .i64 0] 26) := ⟨_, rfl⟩
  have HW : Hid (W = w.alloc (.cells #[.int .i64 0, .int .i64 0, .int .i64 0, .int .i64 0, .int .i64 0] 26)) := hW
  have B0 : Below w.heap.size w W := by rw [hW]; exact (Below.refl _ _).alloc (Nat.le_refl _) _
  have zW : W.heap.size = w.heap.size + 1 := by rw [hW]; simp
  have X0 : Hid (StAt W w.heap.size 0 ⟨0, 0, 0, 0, 0⟩ ∧ ∀ j, W.frozen? ⟨w.heap.size, j, none⟩ = false) := by rw [hW]; exact ⟨by simp [StAt], fun j => by simp [go_sem]⟩
  obtain ⟨ws, hws⟩ : ∃ ws, cutB t 32 = ws := ⟨_, rfl⟩
  have HL : Hid (Calls Tryz.prog 57 #[.string t, .int .u8 32] W fun e w' => ∃ g cap, e = .returned (.slice (some ⟨g, 0, none⟩) ws.length cap) ∧ w'.ownsRow W.heap.size 9 1 (.slice (some ⟨g, 0, none⟩) ws.length cap) ws.length (ws.map Value.string) ∧ Below W.heap.size W w') := by
    have := l2Cut_c t 32 W ht
    rw [hws] at this
    exact this
  have HSZ : Hid (∀ (j : Nat) (b : ByteArray), ws[j]? = some b → b.size ≤ 1048576) := fun j b e => Nat.le_trans (cut_size t 32 j b (by rw [hws]; exact e)) ht
  have HC2 : Hid (ws[2]? = some c) := by rw [← hws, hc]; exact rfl
  have hn3 : ws.length = 3 := by rw [← hws, hc]; rfl
  have h1 : ((c.size : Int) == 1) = false := by simp; omega
  clear hc hc1
  have HC : Hid (stCode y = 1) := by rw [hy]; exact rfl
  have hkb : ((1 : Int) == 0) = false := rfl
  have HY : Hid (y = ⟨0, 0, 0, 0, 0⟩) := hy
  clear hy
  clear hW
  unfold GivesPS
  go_enter Tryz.func31, Tryz.ntmps31
  go_wp2_with fail
  rw [← HW.out]
  refine HL.out.mono ?_
  rintro e w1 ⟨g, cap, rfl, hown, hb1⟩
  obtain ⟨V, hV⟩ : ∃ V, V = w1.alloc (.cells #[.int .i64 0, .int .i64 0, .int .i64 0, .int .i64 0, .int .i64 0] 26) := ⟨_, rfl⟩
  have PV : Hid (PP w V g w1.heap.size ws ⟨0, 0, 0, 0, 0⟩) := by
    have hgl : W.heap.size ≤ g ∧ g < w1.heap.size := hown.lt g rfl
    have A1 : Below w1.heap.size w1 V := by rw [hV]; exact (Below.refl _ _).alloc (Nat.le_refl _) _
    have hb : Below W.heap.size W V := hb1.trans (A1.mono hb1.size)
    refine ⟨B0.trans (hb.mono B0.size), fun k x e => ?_, by rw [hV]; simp [StAt], fun j => by rw [hV]; simp [go_sem], ⟨_, X0.out.1.below hb (by omega)⟩, fun j => (hb.frozen (p := ⟨w.heap.size, j, none⟩) (by show w.heap.size < W.heap.size; omega)).trans (X0.out.2 j), by omega, hgl.2, by rw [hV]; simp⟩
    have hk : k < ws.length := by
      by_cases q : k < ws.length
      · exact q
      · rw [List.getElem?_eq_none (by omega)] at e; cases e
    refine (A1.cell (p := ⟨g, k, none⟩) hgl.2).trans ?_
    rw [hown.cellAt k (by omega), List.getElem?_map, e]
    rfl
  clear hown hb1 HL X0 B0 zW
  go_upto_region 3 with fail
  rw [← hV]
  clear hV HW
  generalize w1.heap.size = q at PV ⊢
  have PX : Hid (PP w V g q ws y) := by rw [HY.out]; exact PV.out
  have hgV : g < V.heap.size := by have := PV.out.gq; have := PV.out.ql; omega
  have x2 := PV.out.wd 2 c HC2.out
  try rw [hn3]
  go_upto_region 12 with fail
  clear PV x2 hgV
  generalize V = X at PX ⊢
  have hgl := PX.out.gl
  have hgq := PX.out.gq
  have hql := PX.out.ql
  have hwX : w.heap.size < X.heap.size := by omega
  have hwq : w.heap.size ≠ q := by omega
  obtain ⟨s0, s1, s2, s3, s4⟩ := PX.out.st
  simp only [Nat.zero_add] at s0 s1 s2 s3 s4
  obtain ⟨z, r0, r1, r2, r3, r4⟩ := PX.out.rs
  simp only [Nat.zero_add] at r0 r1 r2 r3 r4
  have e0 := PX.out.rf 0
  have e1 := PX.out.rf 1
  have e2 := PX.out.rf 2
  have e3 := PX.out.rf 3
  have e4 := PX.out.rf 4
  refine wp_region_held_drew (S := fun w' => (w'.cell? ⟨q, 0, none⟩ = some (.int .i64 (y : StI).k) ∧ w'.cell? ⟨q, 1, none⟩ = some (.int .i64 (y : StI).e) ∧ w'.cell? ⟨q, 2, none⟩ = some (.int .i64 (y : StI).f) ∧ w'.cell? ⟨q, 3, none⟩ = some (.int .i64 (y : StI).s) ∧ w'.cell? ⟨q, 4, none⟩ = some (.int .i64 (y : StI).n)) ∧ PP w w' g q ws y) (by kernel_rfl) (⟨⟨s0, s1, s2, s3, s4⟩, PX.out.drew⟩) (fun hHeld => ?_)
  refine wpAnyH_take (i := 0) (v := ?_) rfl (by kernel_rfl) (by kernel_rfl) (by kernel_rfl) (fun _ _ _ h => h) (Or.inl ⟨by kernel_rfl, ?_⟩) (by assumption) ?_
  rotate_left 1
  · intro w hSw; (try dsimp only at hSw); go_simp; try (with_reducible rfl)
  try simp only [Act.put, List.getElem_toArray, List.getElem_cons_succ, List.getElem_cons_zero, List.setIfInBounds_toArray, List.set_cons_zero, List.set_cons_succ]
  refine wpAnyH_ready (rs := [1]) (by kernel_rfl) (by simp) ?_
  refine AllReadyH.cons rfl (fun K hK => ?_) AllReadyH.nil
  go_simp
  refine (l7Fault_c q 0 y _ hHeld.2.st).mono ?_
  rintro e w' ⟨rfl, rfl⟩
  rw [HC.out]
  have hS := hHeld
  refine hK.out _ _ hS (fun hHeld => ?_)
  clear hK K
  try simp only [Act.put, List.getElem_toArray, List.getElem_cons_succ, List.getElem_cons_zero, List.setIfInBounds_toArray, List.set_cons_zero, List.set_cons_succ]
  refine wpAnyH_take (i := 2) (v := ?_) rfl (by kernel_rfl) (by kernel_rfl) (by kernel_rfl) (fun _ _ _ h => h) (Or.inl ⟨by kernel_rfl, ?_⟩) (by assumption) ?_
  rotate_left 1
  · intro w hSw; (try dsimp only at hSw); go_simp; try (with_reducible rfl)
  try simp only [Act.put, List.getElem_toArray, List.getElem_cons_succ, List.getElem_cons_zero, List.setIfInBounds_toArray, List.set_cons_zero, List.set_cons_succ]
  refine wpAnyH_take (i := 3) (v := ?_) rfl (by kernel_rfl) (by kernel_rfl) (by kernel_rfl) (fun _ _ _ h => h) (Or.inl ⟨by kernel_rfl, ?_⟩) (by assumption) ?_
  rotate_left 1
  · intro w hSw; (try dsimp only at hSw); go_simp; try (with_reducible rfl)
  try simp only [Act.put, List.getElem_toArray, List.getElem_cons_succ, List.getElem_cons_zero, List.setIfInBounds_toArray, List.set_cons_zero, List.set_cons_succ]
  refine wpAnyH_take (i := 4) (v := undef) rfl (by kernel_rfl) (by kernel_rfl) (by kernel_rfl) (fun _ _ _ h => h) (Or.inr ⟨by kernel_rfl, rfl⟩) (by assumption) ?_
  try simp only [Act.put, List.getElem_toArray, List.getElem_cons_succ, List.getElem_cons_zero, List.setIfInBounds_toArray, List.set_cons_zero, List.set_cons_succ]
  refine wpAnyH_take (i := 5) (v := undef) rfl (by kernel_rfl) (by kernel_rfl) (by kernel_rfl) (fun _ _ _ h => h) (Or.inr ⟨by kernel_rfl, rfl⟩) (by assumption) ?_
  try simp only [Act.put, List.getElem_toArray, List.getElem_cons_succ, List.getElem_cons_zero, List.setIfInBounds_toArray, List.set_cons_zero, List.set_cons_succ]
  refine wpAnyH_take (i := 6) (v := undef) rfl (by kernel_rfl) (by kernel_rfl) (by kernel_rfl) (fun _ _ _ h => h) (Or.inr ⟨by kernel_rfl, rfl⟩) (by assumption) ?_
  try simp only [Act.put, List.getElem_toArray, List.getElem_cons_succ, List.getElem_cons_zero, List.setIfInBounds_toArray, List.set_cons_zero, List.set_cons_succ]
  refine wpAnyH_take (i := 7) (v := ?_) rfl (by kernel_rfl) (by kernel_rfl) (by kernel_rfl) (fun _ _ _ h => h) (Or.inl ⟨by kernel_rfl, ?_⟩) (by assumption) ?_
  rotate_left 1
  · intro w hSw; (try dsimp only at hSw); go_simp; try (with_reducible rfl)
  try simp only [Act.put, List.getElem_toArray, List.getElem_cons_succ, List.getElem_cons_zero, List.setIfInBounds_toArray, List.set_cons_zero, List.set_cons_succ]
  refine wpAnyH_ready (rs := [8]) (by kernel_rfl) (by simp) ?_
  refine AllReadyH.cons rfl (fun K hK => ?_) AllReadyH.nil
  go_simp
  have pS := (PX.out.told y).1.drew
  have hS : (fun w' => (w'.cell? ⟨q, 0, none⟩ = some (.int .i64 (y : StI).k) ∧ w'.cell? ⟨q, 1, none⟩ = some (.int .i64 (y : StI).e) ∧ w'.cell? ⟨q, 2, none⟩ = some (.int .i64 (y : StI).f) ∧ w'.cell? ⟨q, 3, none⟩ = some (.int .i64 (y : StI).s) ∧ w'.cell? ⟨q, 4, none⟩ = some (.int .i64 (y : StI).n)) ∧ PP w w' g q ws y) (StPut X w.heap.size 0 y).drew := ⟨by obtain ⟨q0, q1, q2, q3, q4⟩ := pS.st; simp only [Nat.zero_add] at q0 q1 q2 q3 q4; exact ⟨q0, q1, q2, q3, q4⟩, pS⟩
  dsimp only [StPut] at hS pS
  refine hK.out _ _ hS (fun hHeld => ?_)
  clear hK K
  try simp only [Act.put, List.getElem_toArray, List.getElem_cons_succ, List.getElem_cons_zero, List.setIfInBounds_toArray, List.set_cons_zero, List.set_cons_succ]
  refine wpAnyH_ready (rs := [9]) (by kernel_rfl) (by simp) ?_
  refine AllReadyH.cons rfl (fun K hK => ?_) AllReadyH.nil
  go_simp
  refine hK.out _ _ (by assumption) (fun hHeld => ?_)
  clear hK K
  try simp only [Act.put, List.getElem_toArray, List.getElem_cons_succ, List.getElem_cons_zero, List.setIfInBounds_toArray, List.set_cons_zero, List.set_cons_succ]
  refine wpAnyH_done (by kernel_rfl) ?_ _
  go_wp2_with fail
  refine bodyPost_ret (v := .tuple #[.agg #[.int .i64 y.k, .int .i64 y.e, .int .i64 y.f, .int .i64 y.s, .int .i64 y.n], .bool false]) (by simp [results, Tryz.results31, go_sem, r0, r1, r2, r3, r4]) rfl ⟨rfl, hS.2.bl⟩

/-- Did the words tell a statement whose text this is? -/
def parB (t : ByteArray) (y : StI) : Bool := decide (stCode y = 0) && ((stText y).toList == t.toList)

theorem l7Parse_c (t : ByteArray) (w : World) (ht : t.size ≤ 1048576) : GivesPS t (parS (cutB t 32)) (parB t (parS (cutB t 32))) w := by
  have bad : ∀ y, stCode y ≠ 0 → parB t y = false := fun y h => by unfold parB; rw [decide_eq_false h, Bool.false_and]
  have ok : ∀ y, stCode y = 0 → parB t y = ((stText y).toList == t.toList) := fun y h => by unfold parB; rw [decide_eq_true h, Bool.true_and]
  by_cases h3 : (cutB t 32).length = 3
  · obtain ⟨a, b, c, hc⟩ : ∃ a b c, cutB t 32 = [a, b, c] := by
      match hh : cutB t 32, h3 with
      | [a, b, c], _ => exact ⟨a, b, c, rfl⟩
    by_cases hc1 : c.size = 1
    · by_cases ha : a = takeT
      · have hy : parS (cutB t 32) = ⟨4, digI b, 0, 0, digI c⟩ := by rw [hc]; show (if c.size = 1 then _ else _) = _; rw [if_pos hc1, if_pos ha]
        by_cases hk : stCode (parS (cutB t 32)) = 0
        · rw [ok _ hk]
          exact l7Parse_take_ok t w ht a b c hc hc1 _ _ rfl rfl ha _ hy hk _ rfl
        · rw [bad _ hk]
          exact l7Parse_take_bad t w ht a b c hc hc1 _ _ rfl rfl ha _ hy _ rfl hk
      · have hy : parS (cutB t 32) = ⟨3, digI b, 0, 0, digI c⟩ := by rw [hc]; show (if c.size = 1 then _ else _) = _; rw [if_pos hc1, if_neg ha]
        by_cases hk : stCode (parS (cutB t 32)) = 0
        · rw [ok _ hk]
          exact l7Parse_next_ok t w ht a b c hc hc1 _ _ rfl rfl ha _ hy hk _ rfl
        · rw [bad _ hk]
          exact l7Parse_next_bad t w ht a b c hc hc1 _ _ rfl rfl ha _ hy _ rfl hk
    · have hy : parS (cutB t 32) = ⟨0, 0, 0, 0, 0⟩ := by rw [hc]; show (if c.size = 1 then _ else _) = _; rw [if_neg hc1]
      rw [bad _ (by rw [hy]; decide)]
      exact l7Parse_long t w ht a b c hc hc1 _ hy
  · by_cases h4 : (cutB t 32).length = 4
    · obtain ⟨a, b, c, d, hc⟩ : ∃ a b c d, cutB t 32 = [a, b, c, d] := by
        match hh : cutB t 32, h4 with
        | [a, b, c, d], _ => exact ⟨a, b, c, d, rfl⟩
      by_cases ha : a = revT
      · have hy : parS (cutB t 32) = ⟨2, digI b, digI c, setT d, 0⟩ := by rw [hc]; show StI.mk (if a = revT then 2 else 1) _ _ _ _ = _; rw [if_pos ha]
        by_cases hk : stCode (parS (cutB t 32)) = 0
        · rw [ok _ hk]
          exact l7Parse_rev_ok t w ht a b c d hc _ _ _ rfl rfl rfl ha _ hy hk _ rfl
        · rw [bad _ hk]
          exact l7Parse_rev_bad t w ht a b c d hc _ _ _ rfl rfl rfl ha _ hy _ rfl hk
      · have hy : parS (cutB t 32) = ⟨1, digI b, digI c, setT d, 0⟩ := by rw [hc]; show StI.mk (if a = revT then 2 else 1) _ _ _ _ = _; rw [if_neg ha]
        by_cases hk : stCode (parS (cutB t 32)) = 0
        · rw [ok _ hk]
          exact l7Parse_iss_ok t w ht a b c d hc _ _ _ rfl rfl rfl ha _ hy hk _ rfl
        · rw [bad _ hk]
          exact l7Parse_iss_bad t w ht a b c d hc _ _ _ rfl rfl rfl ha _ hy _ rfl hk
    · have hy : parS (cutB t 32) = ⟨0, 0, 0, 0, 0⟩ := by
        match hh : cutB t 32, h3, h4 with
        | [], _, _ => rfl
        | [_], _, _ => rfl
        | [_, _], _, _ => rfl
        | [_, _, _], h, _ => exact absurd rfl h
        | [_, _, _, _], _, h => exact absurd rfl h
        | _ :: _ :: _ :: _ :: _ :: _, _, _ => rfl
      rw [bad _ (by rw [hy]; decide)]
      exact l7Parse_few t w ht h3 h4 _ hy

/-- The words of a text tell the statement whose text it is. -/
theorem par_reads {t : ByteArray} {c : Int} {y : StI} (h : ReadsS t c y) : (c = 0 ∧ parB t (parS (cutB t 32)) = true ∧ parS (cutB t 32) = y) ∨ (c = 5 ∧ parB t (parS (cutB t 32)) = false ∧ y = ⟨0, 0, 0, 0, 0⟩) := by
  rcases h with ⟨hc, h0, ht⟩ | ⟨hc, hy, hno⟩
  · have : parS (cutB t 32) = y := by rw [← ht, st_cut h0, par_of h0]
    refine .inl ⟨hc, ?_, this⟩
    rw [this]
    unfold parB
    rw [decide_eq_true h0, Bool.true_and, str_eq_of ht]
  · refine .inr ⟨hc, ?_, hy⟩
    unfold parB
    by_cases hk : stCode (parS (cutB t 32)) = 0
    · rw [decide_eq_true hk, Bool.true_and, str_ne_of (hno _ hk)]
    · rw [decide_eq_false hk, Bool.false_and]

set_option maxRecDepth 20000 in
set_option maxHeartbeats 1000000 in
theorem specParseS_c (t : ByteArray) (c : Int) (y : StI) (w : World) (ht : t.size ≤ 1048576) (h : ReadsS t c y) :
    Calls Tryz.prog 8 #[.string t] w fun e w' => e = .returned (.agg #[.int .i64 c, .int .i64 y.k, .int .i64 y.e, .int .i64 y.f, .int .i64 y.s, .int .i64 y.n]) ∧ Below w.heap.size w w' := by
  obtain ⟨W, hW⟩ : ∃ W, W = w.alloc (.cells #[.int .i64 0, .int .i64 0, .int .i64 0, .int .i64 0, .int .i64 0, .int .i64 0] 28) := ⟨_, rfl⟩
  have HW : Hid (W = w.alloc (.cells #[.int .i64 0, .int .i64 0, .int .i64 0, .int .i64 0, .int .i64 0, .int .i64 0] 28)) := hW
  have B0 : Below w.heap.size w W := by rw [hW]; exact (Below.refl _ _).alloc (Nat.le_refl _) _
  have R0 : Hid (SRes W w.heap.size 0 noSt) := by rw [hW]; exact SRes.new _ _
  have HX : Hid (GivesPS t (parS (cutB t 32)) (parB t (parS (cutB t 32))) W) := l7Parse_c t W ht
  clear hW
  rcases par_reads h with ⟨rfl, hb, hy⟩ | ⟨rfl, hb, rfl⟩
  · rw [hb, hy] at HX
    clear hb hy h
    go_enter Tryz.func8, Tryz.ntmps8
    go_wp2_with fail
    rw [← HW.out]
    refine HX.out.mono ?_
    rintro e w1 ⟨rfl, hb1⟩
    have A1 : Below w1.heap.size w1 (w1.alloc (.cells #[.int .i64 y.k, .int .i64 y.e, .int .i64 y.f, .int .i64 y.s, .int .i64 y.n] 26)) := (Below.refl _ _).alloc (Nat.le_refl _) _
    have B1 : Below w.heap.size w (w1.alloc (.cells #[.int .i64 y.k, .int .i64 y.e, .int .i64 y.f, .int .i64 y.s, .int .i64 y.n] 26)) := (B0.trans (hb1.mono B0.size)).trans (A1.mono (by have := B0.size; have := hb1.size; omega))
    have S1 : SRes (w1.alloc (.cells #[.int .i64 y.k, .int .i64 y.e, .int .i64 y.f, .int .i64 y.s, .int .i64 y.n] 26)) w.heap.size 0 noSt := (R0.out.below hb1).below A1
    have X1 : StAt (w1.alloc (.cells #[.int .i64 y.k, .int .i64 y.e, .int .i64 y.f, .int .i64 y.s, .int .i64 y.n] 26)) w1.heap.size 0 y := StAt.new w1 y _
    go_upto_region 2 with fail
    clear A1 hb1
    generalize w1.alloc (.cells #[.int .i64 y.k, .int .i64 y.e, .int .i64 y.f, .int .i64 y.s, .int .i64 y.n] 26) = w2 at B1 S1 X1 ⊢
    obtain ⟨⟨d0, d1, d2, d3, d4, d5⟩, hf⟩ := S1
    simp only [noSt] at d0 d1 d2 d3 d4 d5
    obtain ⟨x0, x1, x2, x3, x4⟩ := X1
    simp only [Nat.zero_add] at x0 x1 x2 x3 x4
    have f0 := hf 0
    have f1 := hf 1
    have f2 := hf 2
    have f3 := hf 3
    have f4 := hf 4
    have f5 := hf 5
    clear hf
    go_wp2_with fail
    refine bodyPost_ret (v := .agg #[.int .i64 0, .int .i64 y.k, .int .i64 y.e, .int .i64 y.f, .int .i64 y.s, .int .i64 y.n]) (by simp [results, Tryz.results8, go_sem, d0, d1, d2, d3, d4, d5]) rfl ⟨rfl, ?_⟩
    exact B1.setCell (Nat.le_refl _) _ |>.setCell (Nat.le_refl _) _ |>.setCell (Nat.le_refl _) _ |>.setCell (Nat.le_refl _) _ |>.setCell (Nat.le_refl _) _ |>.setCell (Nat.le_refl _) _
  · rw [hb] at HX
    generalize parS (cutB t 32) = x at HX
    clear hb h
    go_enter Tryz.func8, Tryz.ntmps8
    go_wp2_with fail
    rw [← HW.out]
    refine HX.out.mono ?_
    rintro e w1 ⟨rfl, hb1⟩
    have A1 : Below w1.heap.size w1 (w1.alloc (.cells #[.int .i64 x.k, .int .i64 x.e, .int .i64 x.f, .int .i64 x.s, .int .i64 x.n] 26)) := (Below.refl _ _).alloc (Nat.le_refl _) _
    have B1 : Below w.heap.size w (w1.alloc (.cells #[.int .i64 x.k, .int .i64 x.e, .int .i64 x.f, .int .i64 x.s, .int .i64 x.n] 26)) := (B0.trans (hb1.mono B0.size)).trans (A1.mono (by have := B0.size; have := hb1.size; omega))
    have S1 : SRes (w1.alloc (.cells #[.int .i64 x.k, .int .i64 x.e, .int .i64 x.f, .int .i64 x.s, .int .i64 x.n] 26)) w.heap.size 0 noSt := (R0.out.below hb1).below A1
    go_upto_region 2 with fail
    clear A1 hb1
    generalize w1.alloc (.cells #[.int .i64 x.k, .int .i64 x.e, .int .i64 x.f, .int .i64 x.s, .int .i64 x.n] 26) = w2 at B1 S1 ⊢
    obtain ⟨⟨d0, d1, d2, d3, d4, d5⟩, hf⟩ := S1
    simp only [noSt] at d0 d1 d2 d3 d4 d5
    have f0 := hf 0
    have f1 := hf 1
    have f2 := hf 2
    have f3 := hf 3
    have f4 := hf 4
    have f5 := hf 5
    clear hf
    go_wp2_with fail
    refine bodyPost_ret (v := .agg #[.int .i64 5, .int .i64 0, .int .i64 0, .int .i64 0, .int .i64 0, .int .i64 0]) (by simp [results, Tryz.results8, go_sem, d0, d1, d2, d3, d4, d5]) rfl ⟨rfl, ?_⟩
    exact B1.setCell (Nat.le_refl _) _ |>.setCell (Nat.le_refl _) _ |>.setCell (Nat.le_refl _) _ |>.setCell (Nat.le_refl _) _ |>.setCell (Nat.le_refl _) _ |>.setCell (Nat.le_refl _) _

end Go.Proofs.YtdmejfhojdkfbaaGreatDoor
