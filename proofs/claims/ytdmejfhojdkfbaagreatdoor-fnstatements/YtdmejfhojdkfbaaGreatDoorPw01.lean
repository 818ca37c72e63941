/-
  CONTRACTS: UnpackStatement of both programs.
  Conditions: the variable errUnreadable holds an error.
  CONTRACTS: impl.statementOf and UnpackStatement of both programs.
  Conditions: the variable errUnreadable holds an error.
  CONTRACTS: UnpackStatement of the document's program.
  Conditions: each contract bears its own.
-/
import Derived.Test.YtdmejfhojdkfbaaGreatDoorSt7
import Derived.Test.YtdmejfhojdkfbaaGreatDoorIn0
import Derived.WalkSmall
namespace Go.Proofs.YtdmejfhojdkfbaaGreatDoor
open Go.RowKit
set_option linter.unusedVariables false
set_option linter.unusedSimpArgs false

set_option maxHeartbeats 1000000 in
theorem slEqWords_c (a b : Option Addr) (n m ca cb : Nat) (xs ys : List Int) (w : World) (hn : n ≤ 1048576) (hm : m ≤ 1048576) (h : IntIn w a n xs) (h' : IntIn w b m ys) :
    Calls Tryz.prog 60 #[.slice a n ca, .slice b m cb] w fun e w' => e = .returned (.bool (decide (xs = ys))) ∧ Below w.heap.size w w' := by
  have H : Hid (IntIn w a n xs) := h
  have H' : Hid (IntIn w b m ys) := h'
  have HX : Hid (xs.length = n) := h.1
  have HY : Hid (ys.length = m) := h'.1
  clear h h'
  have hn' : (n : Int) ≤ 1048576 := by omega
  have hm' : (m : Int) ≤ 1048576 := by omega
  by_cases hnm : n = m
  · subst hnm
    obtain ⟨t, ht⟩ : ∃ t, decide (xs = ys) = t := ⟨_, rfl⟩
    have HT : Hid (decide (xs = ys) = t) := ht
    rw [ht]
    clear ht
    go_enter Tryz.func60, Tryz.ntmps60
    go_wp2
    go_loopw [13] (fun i wr => ∃ k : Nat, k ≤ n ∧ i = .int .i64 (k : Int) ∧ xs.take k = ys.take k ∧ ∃ q, wr = w.drewN q) (fun i _ => n - (intOf i).toNat)
    case atStart => exact ⟨0, Nat.zero_le _, rfl, by simp, 0, rfl⟩
    case round =>
      obtain ⟨k, hk, rfl, htk, q, rfl⟩ := hrel
      have HTK : Hid (xs.take k = ys.take k) := htk
      clear htk
      by_cases hlt : k < n
      · obtain ⟨b1, o1, s, e1, hs, h0, hb1⟩ := H.out.at hlt
        obtain ⟨b2, o2, s2, e2, hs2, g0, hb2⟩ := H'.out.at hlt
        subst e1 e2
        have HS : Hid (xs[k]? = some s) := hs
        have HS2 : Hid (ys[k]? = some s2) := hs2
        clear hs hs2
        have hlt' : (k : Int) < (n : Int) := by omega
        by_cases hsame : s = s2
        · have HN : Hid (xs.take (k + 1) = ys.take (k + 1)) := by
            show xs.take (k + 1) = ys.take (k + 1)
            rw [List.take_add_one, List.take_add_one, HTK.out, HS.out, HS2.out, hsame]
          have hd : decide (s = s2) = true := decide_eq_true hsame
          have hdb : (s != s2) = !decide (s = s2) := by cases q : decide (s = s2) <;> simp_all
          clear hsame
          go_wp2
          go_quiet (fail)
          go_wp2
          exact ⟨⟨k + 1, by omega, by go_num, HN.out, _, rfl⟩, by simp [intOf]; omega⟩
        · have HE : Hid (t = false) := by
            show t = false
            rw [← HT.out]
            refine decide_eq_false (fun e => hsame ?_)
            have h1 := HS.out
            rw [e, HS2.out] at h1
            exact (Option.some.inj h1).symm
          have hd : decide (s = s2) = false := decide_eq_false hsame
          have hdb : (s != s2) = !decide (s = s2) := by cases q : decide (s = s2) <;> simp_all
          clear hsame
          go_wp2
          go_quiet (fail)
          go_wp2
          go_ret
          exact ⟨by rw [HE.out]; rfl, below_drewN (below_drewN (Below.refl _ _) _) _⟩
      · have hkn : k = n := by omega
        subst hkn
        have HE : Hid (t = true) := by
          show t = true
          rw [← HT.out]
          refine decide_eq_true ?_
          have := HTK.out
          rw [List.take_of_length_le (by rw [HX.out]; exact Nat.le_refl _), List.take_of_length_le (by rw [HY.out]; exact Nat.le_refl _)] at this
          exact this
        go_wp2
        go_ret
        exact ⟨by rw [HE.out]; rfl, below_drewN (Below.refl _ _) _⟩
  · have HE : Hid (decide (xs = ys) = false) := decide_eq_false (fun e => hnm (by rw [← HX.out, ← HY.out, e]))
    rw [HE.out]
    have hnb : ((n : Int) != (m : Int)) = true := by simp; omega
    have hnm' : ¬ ((n : Int) = (m : Int)) := by omega
    go_enter Tryz.func60, Tryz.ntmps60
    go_wp2
    go_ret
    exact ⟨rfl, Below.refl _ _⟩

theorem owns_ints {w : World} {B : Nat} {a : Option Addr} {n cap : Nat} {zs : List Int} (hn : zs.length = n) (h : w.ownsRow B 2 1 (.slice a n cap) n (zs.map (Value.int .i64))) : IntIn w a n zs := by
  refine ⟨hn, fun hp => ?_⟩
  rcases h.2 with ⟨_, h0⟩ | ⟨g, cap', cur, e, _⟩
  · omega
  · simp at e
    obtain ⟨rfl, rfl⟩ := e
    refine ⟨g, 0, rfl, fun k x hx => ?_⟩
    have hk : k < n := by
      by_cases q : k < n
      · exact q
      · rw [List.getElem?_eq_none (by omega)] at hx; cases hx
    rw [Nat.zero_add, h.cellAt k (by omega), List.getElem?_map, hx]
    rfl

theorem Tryz.fld38 (c : Int) (v : Value) (w : World) : (Instr.field 38 (.agg #[.int .i64 c, v]) 1).run Tryz.prog w = .ok v w := by kernel_rfl

end Go.Proofs.YtdmejfhojdkfbaaGreatDoor

namespace Go.Proofs.YtdmejfhojdkfbaaGreatDoor
open Go.RowKit
set_option linter.unusedVariables false
set_option linter.unusedSimpArgs false

/-- What the reading of words tells. -/
def SOut (t : Bool) (x : StI) (e : Ending) : Prop := (t = true → e = .returned (.agg #[.int .i64 x.k, .int .i64 x.e, .int .i64 x.f, .int .i64 x.s, .int .i64 x.n])) ∧ (t = false → Panics e)

/-- The words that PackStatement would tell. -/
def packV (x : StI) : List Int := if stCode x = 0 then packL x else []

theorem implPackV (x : StI) (w : World) : ∃ c, GivesPk 12 x c (packV x) w := by
  by_cases h : stCode x = 0
  · exact ⟨0, by unfold packV; rw [if_pos h]; exact implPack_ok x w h⟩
  · exact ⟨stCode x, by unfold packV; rw [if_neg h]; exact implPack_bad x _ w rfl h⟩

theorem packV_len (x : StI) : (packV x).length ≤ 6 := by
  unfold packV
  split
  · simp [packL]
  · simp

set_option maxRecDepth 20000 in
set_option maxHeartbeats 2000000 in
theorem statementOf_len (a : Option Addr) (n cap : Nat) (w : World) (hn : n ≠ 6) (hE : ErrAt 0 w) : Calls Tryz.prog 34 #[.slice a n cap] w fun e w' => Panics e ∧ Below w.heap.size w w' := by
  have HE : Hid (ErrAt 0 w) := hE
  have hn' : ((n : Int) == 6) = false := by simp; omega
  clear hE
  go_enter Tryz.func34, Tryz.ntmps34
  go_wp2_with fail
  refine (demand_bad _ (HE.out.below ((Below.refl _ _).alloc (Nat.le_refl _) _))).mono ?_
  rintro e w' ⟨⟨u, pv, rfl⟩, rfl⟩
  go_wp2_with fail
  exact ⟨rfl, ⟨_, _, rfl⟩, by go_grown⟩

set_option maxRecDepth 20000 in
set_option maxHeartbeats 4000000 in
theorem statementOf_six (b off cap : Nat) (z0 z1 z2 z3 z4 z5 : Int) (t : Bool) (w : World) (h : IntIn w (some ⟨b, off, none⟩) 6 [z0, z1, z2, z3, z4, z5]) (hE : ErrAt 0 w) (ht : decide (packV ⟨z0, z1, z2, z3, z4⟩ = [z0, z1, z2, z3, z4, z5]) = t) :
    Calls Tryz.prog 34 #[.slice (some ⟨b, off, none⟩) 6 cap] w fun e w' => SOut t ⟨z0, z1, z2, z3, z4⟩ e ∧ Below w.heap.size w w' := by
  have HI : Hid (IntIn w (some ⟨b, off, none⟩) 6 [z0, z1, z2, z3, z4, z5]) := h
  have HE : Hid (ErrAt 0 w) := hE
  have HT : Hid (decide (packV ⟨z0, z1, z2, z3, z4⟩ = [z0, z1, z2, z3, z4, z5]) = t) := ht
  obtain ⟨b', off', e', hc⟩ := h.2 (by omega)
  cases e'
  have hb : b < w.heap.size := World.block_lt_of_cell? w ⟨b, off, none⟩ (hc 0 z0 rfl)
  obtain ⟨W, hW⟩ : ∃ W, W = w.alloc (.cells #[.int .i64 0, .int .i64 0, .int .i64 0, .int .i64 0, .int .i64 0] 26) := ⟨_, rfl⟩
  have HW : Hid (W = w.alloc (.cells #[.int .i64 0, .int .i64 0, .int .i64 0, .int .i64 0, .int .i64 0] 26)) := hW
  have B0 : Below w.heap.size w W := by rw [hW]; exact (Below.refl _ _).alloc (Nat.le_refl _) _
  have zW : W.heap.size = w.heap.size + 1 := by rw [hW]; simp
  have HZW : Hid (W.heap.size = w.heap.size + 1) := zW
  have hzW : w.heap.size < W.heap.size := by omega
  have X0 : Hid (StAt W w.heap.size 0 noSt ∧ ∀ j, W.frozen? ⟨w.heap.size, j, none⟩ = false) := by rw [hW]; exact ⟨by simp [StAt, noSt], fun j => by simp [go_sem]⟩
  have y0 : W.cell? ⟨b, off, none⟩ = some (.int .i64 z0) := (B0.cell (p := ⟨b, off, none⟩) hb).trans (hc 0 z0 rfl)
  have y1 : W.cell? ⟨b, off + 1, none⟩ = some (.int .i64 z1) := (B0.cell (p := ⟨b, off + 1, none⟩) hb).trans (hc 1 z1 rfl)
  have y2 : W.cell? ⟨b, off + 2, none⟩ = some (.int .i64 z2) := (B0.cell (p := ⟨b, off + 2, none⟩) hb).trans (hc 2 z2 rfl)
  have y3 : W.cell? ⟨b, off + 3, none⟩ = some (.int .i64 z3) := (B0.cell (p := ⟨b, off + 3, none⟩) hb).trans (hc 3 z3 rfl)
  have y4 : W.cell? ⟨b, off + 4, none⟩ = some (.int .i64 z4) := (B0.cell (p := ⟨b, off + 4, none⟩) hb).trans (hc 4 z4 rfl)
  have y5 : W.cell? ⟨b, off + 5, none⟩ = some (.int .i64 z5) := (B0.cell (p := ⟨b, off + 5, none⟩) hb).trans (hc 5 z5 rfl)
  clear h hE ht hc hW zW
  go_enter Tryz.func34, Tryz.ntmps34
  go_wp2_with fail
  rw [← HW.out]
  refine (demand_ok _).mono ?_
  rintro e w' ⟨rfl, rfl⟩
  go_wp2_with fail
  refine wp_region_held_drew (S := fun w' => w'.cell? ⟨b, off, none⟩ = some (.int .i64 z0) ∧ w'.cell? ⟨b, off + 1, none⟩ = some (.int .i64 z1) ∧ w'.cell? ⟨b, off + 2, none⟩ = some (.int .i64 z2) ∧ w'.cell? ⟨b, off + 3, none⟩ = some (.int .i64 z3) ∧ w'.cell? ⟨b, off + 4, none⟩ = some (.int .i64 z4) ∧ w'.cell? ⟨b, off + 5, none⟩ = some (.int .i64 z5)) (by kernel_rfl) (⟨y0, y1, y2, y3, y4, y5⟩) (fun hHeld => ?_)
  refine wpAnyH_take (i := 0) (v := ?_) rfl (by kernel_rfl) (by kernel_rfl) (by kernel_rfl) (fun _ _ _ h => h) (Or.inl ⟨by kernel_rfl, ?_⟩) (by assumption) ?_
  rotate_left 1
  · intro w hSw; (try dsimp only at hSw); go_simp; try (with_reducible rfl)
  try simp only [Act.put, List.getElem_toArray, List.getElem_cons_succ, List.getElem_cons_zero, List.setIfInBounds_toArray, List.set_cons_zero, List.set_cons_succ]
  refine wpAnyH_take (i := 1) (v := ?_) rfl (by kernel_rfl) (by kernel_rfl) (by kernel_rfl) (fun _ _ _ h => h) (Or.inl ⟨by kernel_rfl, ?_⟩) (by assumption) ?_
  rotate_left 1
  · intro w hSw; (try dsimp only at hSw); go_simp; try (with_reducible rfl)
  try simp only [Act.put, List.getElem_toArray, List.getElem_cons_succ, List.getElem_cons_zero, List.setIfInBounds_toArray, List.set_cons_zero, List.set_cons_succ]
  refine wpAnyH_take (i := 2) (v := ?_) rfl (by kernel_rfl) (by kernel_rfl) (by kernel_rfl) (fun _ _ _ h => h) (Or.inl ⟨by kernel_rfl, ?_⟩) (by assumption) ?_
  rotate_left 1
  · intro w hSw; (try dsimp only at hSw); go_simp; try (with_reducible rfl)
  try simp only [Act.put, List.getElem_toArray, List.getElem_cons_succ, List.getElem_cons_zero, List.setIfInBounds_toArray, List.set_cons_zero, List.set_cons_succ]
  refine wpAnyH_take (i := 3) (v := ?_) rfl (by kernel_rfl) (by kernel_rfl) (by kernel_rfl) (fun _ _ _ h => h) (Or.inl ⟨by kernel_rfl, ?_⟩) (by assumption) ?_
  rotate_left 1
  · intro w hSw; (try dsimp only at hSw); go_simp; try (with_reducible rfl)
  try simp only [Act.put, List.getElem_toArray, List.getElem_cons_succ, List.getElem_cons_zero, List.setIfInBounds_toArray, List.set_cons_zero, List.set_cons_succ]
  refine wpAnyH_take (i := 4) (v := ?_) rfl (by kernel_rfl) (by kernel_rfl) (by kernel_rfl) (fun _ _ _ h => h) (Or.inl ⟨by kernel_rfl, ?_⟩) (by assumption) ?_
  rotate_left 1
  · intro w hSw; (try dsimp only at hSw); go_simp; try (with_reducible rfl)
  try simp only [Act.put, List.getElem_toArray, List.getElem_cons_succ, List.getElem_cons_zero, List.setIfInBounds_toArray, List.set_cons_zero, List.set_cons_succ]
  refine wpAnyH_take (i := 5) (v := ?_) rfl (by kernel_rfl) (by kernel_rfl) (by kernel_rfl) (fun _ _ _ h => h) (Or.inl ⟨by kernel_rfl, ?_⟩) (by assumption) ?_
  rotate_left 1
  · intro w hSw; (try dsimp only at hSw); go_simp; try (with_reducible rfl)
  try simp only [Act.put, List.getElem_toArray, List.getElem_cons_succ, List.getElem_cons_zero, List.setIfInBounds_toArray, List.set_cons_zero, List.set_cons_succ]
  refine wpAnyH_take (i := 6) (v := ?_) rfl (by kernel_rfl) (by kernel_rfl) (by kernel_rfl) (fun _ _ _ h => h) (Or.inl ⟨by kernel_rfl, ?_⟩) (by assumption) ?_
  rotate_left 1
  · intro w hSw; (try dsimp only at hSw); go_simp; try (with_reducible rfl)
  try simp only [Act.put, List.getElem_toArray, List.getElem_cons_succ, List.getElem_cons_zero, List.setIfInBounds_toArray, List.set_cons_zero, List.set_cons_succ]
  refine wpAnyH_take (i := 7) (v := ?_) rfl (by kernel_rfl) (by kernel_rfl) (by kernel_rfl) (fun _ _ _ h => h) (Or.inl ⟨by kernel_rfl, ?_⟩) (by assumption) ?_
  rotate_left 1
  · intro w hSw; (try dsimp only at hSw); go_simp; try (with_reducible rfl)
  try simp only [Act.put, List.getElem_toArray, List.getElem_cons_succ, List.getElem_cons_zero, List.setIfInBounds_toArray, List.set_cons_zero, List.set_cons_succ]
  refine wpAnyH_take (i := 8) (v := ?_) rfl (by kernel_rfl) (by kernel_rfl) (by kernel_rfl) (fun _ _ _ h => h) (Or.inl ⟨by kernel_rfl, ?_⟩) (by assumption) ?_
  rotate_left 1
  · intro w hSw; (try dsimp only at hSw); go_simp; try (with_reducible rfl)
  try simp only [Act.put, List.getElem_toArray, List.getElem_cons_succ, List.getElem_cons_zero, List.setIfInBounds_toArray, List.set_cons_zero, List.set_cons_succ]
  refine wpAnyH_take (i := 9) (v := ?_) rfl (by kernel_rfl) (by kernel_rfl) (by kernel_rfl) (fun _ _ _ h => h) (Or.inl ⟨by kernel_rfl, ?_⟩) (by assumption) ?_
  rotate_left 1
  · intro w hSw; (try dsimp only at hSw); go_simp; try (with_reducible rfl)
  try simp only [Act.put, List.getElem_toArray, List.getElem_cons_succ, List.getElem_cons_zero, List.setIfInBounds_toArray, List.set_cons_zero, List.set_cons_succ]
  refine wpAnyH_take (i := 10) (v := ?_) rfl (by kernel_rfl) (by kernel_rfl) (by kernel_rfl) (fun _ _ _ h => h) (Or.inl ⟨by kernel_rfl, ?_⟩) (by assumption) ?_
  rotate_left 1
  · intro w hSw; (try dsimp only at hSw); go_simp; try (with_reducible rfl)
  try simp only [Act.put, List.getElem_toArray, List.getElem_cons_succ, List.getElem_cons_zero, List.setIfInBounds_toArray, List.set_cons_zero, List.set_cons_succ]
  refine wpAnyH_take (i := 11) (v := ?_) rfl (by kernel_rfl) (by kernel_rfl) (by kernel_rfl) (fun _ _ _ h => h) (Or.inl ⟨by kernel_rfl, ?_⟩) (by assumption) ?_
  rotate_left 1
  · intro w hSw; (try dsimp only at hSw); go_simp; try (with_reducible rfl)
  try simp only [Act.put, List.getElem_toArray, List.getElem_cons_succ, List.getElem_cons_zero, List.setIfInBounds_toArray, List.set_cons_zero, List.set_cons_succ]
  refine wpAnyH_take (i := 12) (v := ?_) rfl (by kernel_rfl) (by kernel_rfl) (by kernel_rfl) (fun _ _ _ h => h) (Or.inl ⟨by kernel_rfl, ?_⟩) (by assumption) ?_
  rotate_left 1
  · intro w hSw; (try dsimp only at hSw); go_simp; try (with_reducible rfl)
  try simp only [Act.put, List.getElem_toArray, List.getElem_cons_succ, List.getElem_cons_zero, List.setIfInBounds_toArray, List.set_cons_zero, List.set_cons_succ]
  refine wpAnyH_take (i := 13) (v := ?_) rfl (by kernel_rfl) (by kernel_rfl) (by kernel_rfl) (fun _ _ _ h => h) (Or.inl ⟨by kernel_rfl, ?_⟩) (by assumption) ?_
  rotate_left 1
  · intro w hSw; (try dsimp only at hSw); go_simp; try (with_reducible rfl)
  try simp only [Act.put, List.getElem_toArray, List.getElem_cons_succ, List.getElem_cons_zero, List.setIfInBounds_toArray, List.set_cons_zero, List.set_cons_succ]
  refine wpAnyH_take (i := 14) (v := ?_) rfl (by kernel_rfl) (by kernel_rfl) (by kernel_rfl) (fun _ _ _ h => h) (Or.inl ⟨by kernel_rfl, ?_⟩) (by assumption) ?_
  rotate_left 1
  · intro w hSw; (try dsimp only at hSw); go_simp; try (with_reducible rfl)
  try simp only [Act.put, List.getElem_toArray, List.getElem_cons_succ, List.getElem_cons_zero, List.setIfInBounds_toArray, List.set_cons_zero, List.set_cons_succ]
  refine wpAnyH_take (i := 15) (v := ?_) rfl (by kernel_rfl) (by kernel_rfl) (by kernel_rfl) (fun _ _ _ h => h) (Or.inl ⟨by kernel_rfl, ?_⟩) (by assumption) ?_
  rotate_left 1
  · intro w hSw; (try dsimp only at hSw); go_simp; try (with_reducible rfl)
  try simp only [Act.put, List.getElem_toArray, List.getElem_cons_succ, List.getElem_cons_zero, List.setIfInBounds_toArray, List.set_cons_zero, List.set_cons_succ]
  refine wpAnyH_ready (rs := [16]) (by kernel_rfl) (by simp) ?_
  refine AllReadyH.cons rfl (fun K hK => ?_) AllReadyH.nil
  go_simp
  have hS : (fun w' => w'.cell? ⟨b, off, none⟩ = some (.int .i64 z0) ∧ w'.cell? ⟨b, off + 1, none⟩ = some (.int .i64 z1) ∧ w'.cell? ⟨b, off + 2, none⟩ = some (.int .i64 z2) ∧ w'.cell? ⟨b, off + 3, none⟩ = some (.int .i64 z3) ∧ w'.cell? ⟨b, off + 4, none⟩ = some (.int .i64 z4) ∧ w'.cell? ⟨b, off + 5, none⟩ = some (.int .i64 z5)) (W.drew.alloc (.cells #[.int .i64 0, .int .i64 0, .int .i64 0, .int .i64 0, .int .i64 0] 26)) := ⟨(World.cell?_alloc_lt _ _ ⟨b, off, none⟩ (by simp; omega)).trans y0, (World.cell?_alloc_lt _ _ ⟨b, off + 1, none⟩ (by simp; omega)).trans y1, (World.cell?_alloc_lt _ _ ⟨b, off + 2, none⟩ (by simp; omega)).trans y2, (World.cell?_alloc_lt _ _ ⟨b, off + 3, none⟩ (by simp; omega)).trans y3, (World.cell?_alloc_lt _ _ ⟨b, off + 4, none⟩ (by simp; omega)).trans y4, (World.cell?_alloc_lt _ _ ⟨b, off + 5, none⟩ (by simp; omega)).trans y5⟩
  refine hK.out _ _ hS (fun hHeld => ?_)
  clear hK K
  try simp only [Act.put, List.getElem_toArray, List.getElem_cons_succ, List.getElem_cons_zero, List.setIfInBounds_toArray, List.set_cons_zero, List.set_cons_succ]
  refine wpAnyH_ready (rs := [17]) (by kernel_rfl) (by simp) ?_
  refine AllReadyH.cons rfl (fun K hK => ?_) AllReadyH.nil
  go_simp
  have hS : (fun w' => w'.cell? ⟨b, off, none⟩ = some (.int .i64 z0) ∧ w'.cell? ⟨b, off + 1, none⟩ = some (.int .i64 z1) ∧ w'.cell? ⟨b, off + 2, none⟩ = some (.int .i64 z2) ∧ w'.cell? ⟨b, off + 3, none⟩ = some (.int .i64 z3) ∧ w'.cell? ⟨b, off + 4, none⟩ = some (.int .i64 z4) ∧ w'.cell? ⟨b, off + 5, none⟩ = some (.int .i64 z5)) (W.drew.alloc (.cells #[.int .i64 z0, .int .i64 z1, .int .i64 z2, .int .i64 z3, .int .i64 z4] 26)) := ⟨(World.cell?_alloc_lt _ _ ⟨b, off, none⟩ (by simp; omega)).trans y0, (World.cell?_alloc_lt _ _ ⟨b, off + 1, none⟩ (by simp; omega)).trans y1, (World.cell?_alloc_lt _ _ ⟨b, off + 2, none⟩ (by simp; omega)).trans y2, (World.cell?_alloc_lt _ _ ⟨b, off + 3, none⟩ (by simp; omega)).trans y3, (World.cell?_alloc_lt _ _ ⟨b, off + 4, none⟩ (by simp; omega)).trans y4, (World.cell?_alloc_lt _ _ ⟨b, off + 5, none⟩ (by simp; omega)).trans y5⟩
  refine hK.out _ _ hS (fun hHeld => ?_)
  clear hK K
  try simp only [Act.put, List.getElem_toArray, List.getElem_cons_succ, List.getElem_cons_zero, List.setIfInBounds_toArray, List.set_cons_zero, List.set_cons_succ]
  refine wpAnyH_done (by kernel_rfl) ?_ _
  have Z1 : Hid (StAt ((W.alloc (.cells #[.int .i64 z0, .int .i64 z1, .int .i64 z2, .int .i64 z3, .int .i64 z4] 26)).drew) W.heap.size 0 ⟨z0, z1, z2, z3, z4⟩) := StAt.new W ⟨z0, z1, z2, z3, z4⟩ _
  have B1 : Below W.heap.size W ((W.alloc (.cells #[.int .i64 z0, .int .i64 z1, .int .i64 z2, .int .i64 z3, .int .i64 z4] 26)).drew) := ((Below.refl _ _).alloc (Nat.le_refl _) _).drew
  have hz1 : W.heap.size < ((W.alloc (.cells #[.int .i64 z0, .int .i64 z1, .int .i64 z2, .int .i64 z3, .int .i64 z4] 26)).drew).heap.size := by simp
  have X1 : Hid (StAt ((W.alloc (.cells #[.int .i64 z0, .int .i64 z1, .int .i64 z2, .int .i64 z3, .int .i64 z4] 26)).drew) w.heap.size 0 noSt ∧ ∀ j, ((W.alloc (.cells #[.int .i64 z0, .int .i64 z1, .int .i64 z2, .int .i64 z3, .int .i64 z4] 26)).drew).frozen? ⟨w.heap.size, j, none⟩ = false) := ⟨X0.out.1.below B1 hzW, fun j => (B1.frozen (p := ⟨w.heap.size, j, none⟩) hzW).trans (X0.out.2 j)⟩
  have C1 : Hid (Below w.heap.size w ((W.alloc (.cells #[.int .i64 z0, .int .i64 z1, .int .i64 z2, .int .i64 z3, .int .i64 z4] 26)).drew)) := B0.trans (B1.mono (by omega))
  go_wp2_with fail
  clear hHeld y0 y1 y2 y3 y4 y5 X0 B1
  generalize (W.alloc (.cells #[.int .i64 z0, .int .i64 z1, .int .i64 z2, .int .i64 z3, .int .i64 z4] 26)).drew = V at Z1 X1 C1 hz1 ⊢
  obtain ⟨c, hP⟩ := implPackV ⟨z0, z1, z2, z3, z4⟩ V
  refine hP.mono ?_
  clear hP
  rintro e w2 ⟨a2, cap2, rfl, hown, hb2⟩
  obtain ⟨L, hL⟩ : ∃ L, packV ⟨z0, z1, z2, z3, z4⟩ = L := ⟨_, rfl⟩
  have hLl : L.length ≤ 6 := by rw [← hL]; exact packV_len _
  rw [hL] at hown HT ⊢
  have HO : Hid (IntIn w2 a2 L.length L) := owns_ints rfl hown
  have hb02 : Below w.heap.size w w2 := C1.out.trans (hb2.mono C1.out.size)
  have HI2 : Hid (IntIn w2 (some ⟨b, off, none⟩) 6 [z0, z1, z2, z3, z4, z5]) := HI.out.below hb02
  have Z2 : Hid (StAt w2 W.heap.size 0 ⟨z0, z1, z2, z3, z4⟩) := Z1.out.below hb2 hz1
  have hzv : w.heap.size < V.heap.size := by omega
  have X2 : Hid (StAt w2 w.heap.size 0 noSt ∧ ∀ j, w2.frozen? ⟨w.heap.size, j, none⟩ = false) := ⟨X1.out.1.below hb2 hzv, fun j => (hb2.frozen (p := ⟨w.heap.size, j, none⟩) hzv).trans (X1.out.2 j)⟩
  have C2 : Hid (Below w.heap.size w w2) := hb02
  have hz2 := hb2.size
  have hz2' : W.heap.size < w2.heap.size := by omega
  have E2 : Hid (ErrAt 0 w2) := HE.out.below hb02
  have hfl : ∀ w : World, _ := fun w => Tryz.fld38 c (.slice a2 L.length cap2) w
  clear hown hb2 hb02 hL Z1 X1 C1
  go_wp2_with fail
  refine (slEqWords_c a2 (some ⟨b, off, none⟩) L.length 6 cap2 cap L [z0, z1, z2, z3, z4, z5] w2 (by omega) (by omega) HO.out HI2.out).mono ?_
  rintro e w3 ⟨rfl, hb3⟩
  rw [HT.out]
  have Z3 : Hid (StAt w3 W.heap.size 0 ⟨z0, z1, z2, z3, z4⟩) := Z2.out.below hb3 hz2'
  have X3 : Hid (StAt w3 w.heap.size 0 noSt ∧ ∀ j, w3.frozen? ⟨w.heap.size, j, none⟩ = false) := ⟨X2.out.1.below hb3 (by omega), fun j => (hb3.frozen (p := ⟨w.heap.size, j, none⟩) (by simp only; omega)).trans (X2.out.2 j)⟩
  have C3 : Hid (Below w.heap.size w w3) := C2.out.trans (hb3.mono C2.out.size)
  have E3 : Hid (ErrAt 0 w3) := E2.out.below hb3
  have hz3 := hb3.size
  clear hb3 HT HO HI2 Z2 X2 C2 E2 hfl
  cases t
  · go_wp2_with fail
    refine (demand_bad _ E3.out).mono ?_
    rintro e w' ⟨⟨u, pv, rfl⟩, rfl⟩
    go_wp2_with fail
    exact ⟨rfl, ⟨fun h => (by cases h), fun _ => ⟨_, _, rfl⟩⟩, C3.out⟩
  · go_wp2_with fail
    refine (demand_ok _).mono ?_
    rintro e w' ⟨rfl, rfl⟩
    obtain ⟨x0, x1, x2, x3, x4⟩ := Z3.out
    obtain ⟨⟨d0, d1, d2, d3, d4⟩, hf⟩ := X3.out
    simp only [Nat.zero_add] at x0 x1 x2 x3 x4 d0 d1 d2 d3 d4
    have f0 := hf 0
    have f1 := hf 1
    have f2 := hf 2
    have f3 := hf 3
    have f4 := hf 4
    clear hf
    go_wp2_with fail
    refine bodyPost_ret (v := .agg #[.int .i64 z0, .int .i64 z1, .int .i64 z2, .int .i64 z3, .int .i64 z4]) (by simp [results, Tryz.results34, go_sem, d0, d1, d2, d3, d4]) rfl ⟨⟨fun _ => rfl, fun h => by cases h⟩, ?_⟩
    exact C3.out.setCell (Nat.le_refl _) _ |>.setCell (Nat.le_refl _) _ |>.setCell (Nat.le_refl _) _ |>.setCell (Nat.le_refl _) _ |>.setCell (Nat.le_refl _) _

/-- Some words are those of a statement: which. -/
def unpB (zs : List Int) : Option StI := match zs with
  | [z0, z1, z2, z3, z4, z5] => if packV ⟨z0, z1, z2, z3, z4⟩ = [z0, z1, z2, z3, z4, z5] then some ⟨z0, z1, z2, z3, z4⟩ else none
  | _ => none

def unpC (zs : List Int) : Int := if (unpB zs).isSome = true then 0 else 5

def unpS (zs : List Int) : StI := (unpB zs).getD noSt

theorem unp_len {zs : List Int} (h : zs.length ≠ 6) : unpB zs = none := by
  unfold unpB
  split
  · simp at h
  · rfl

theorem six_list {zs : List Int} (h : zs.length = 6) : ∃ z0 z1 z2 z3 z4 z5, zs = [z0, z1, z2, z3, z4, z5] := by
  match zs, h with
  | [z0, z1, z2, z3, z4, z5], _ => exact ⟨z0, z1, z2, z3, z4, z5, rfl⟩

theorem statementOf_c (a : Option Addr) (n cap : Nat) (zs : List Int) (w : World) (h : IntIn w a n zs) (hE : ErrAt 0 w) :
    Calls Tryz.prog 34 #[.slice a n cap] w fun e w' => SOut (unpB zs).isSome (unpS zs) e ∧ Below w.heap.size w w' := by
  by_cases h6 : n = 6
  · subst h6
    obtain ⟨z0, z1, z2, z3, z4, z5, rfl⟩ := six_list h.1
    obtain ⟨b, off, rfl, _⟩ := h.2 (by omega)
    have h1 := statementOf_six b off cap z0 z1 z2 z3 z4 z5 _ w h hE rfl
    by_cases q : packV ⟨z0, z1, z2, z3, z4⟩ = [z0, z1, z2, z3, z4, z5]
    · have e1 : unpB [z0, z1, z2, z3, z4, z5] = some ⟨z0, z1, z2, z3, z4⟩ := if_pos q
      rw [decide_eq_true q] at h1
      unfold unpS
      rw [e1]
      exact h1
    · have e1 : unpB [z0, z1, z2, z3, z4, z5] = none := if_neg q
      rw [decide_eq_false q] at h1
      rw [e1]
      exact h1.mono fun e w' hh => ⟨⟨fun k => (by cases k), fun _ => hh.1.2 rfl⟩, hh.2⟩
  · have e1 : unpB zs = none := unp_len (by rw [h.1]; exact h6)
    rw [e1]
    exact (statementOf_len a n cap w h6 hE).mono fun e w' hh => ⟨⟨fun k => (by cases k), fun _ => hh.1⟩, hh.2⟩

/-- A slice lies in a box of its own. -/
def SlBox (w : World) (b : Nat) (v : Value) : Prop := w.cell? ⟨b, 0, none⟩ = some v

set_option maxRecDepth 20000 in
set_option maxHeartbeats 2000000 in
theorem unpack1_ok (b : Nat) (a : Option Addr) (n cap : Nat) (zs : List Int) (x : StI) (w : World) (hx : w.cell? ⟨b, 0, none⟩ = some (.slice a n cap)) (h : IntIn w a n zs) (hE : ErrAt 0 w) (hu : unpB zs = some x) :
    Calls Tryz.prog 33 #[.pointer (some ⟨b, 0, none⟩)] w fun e w' => e = .returned (.agg #[.int .i64 x.k, .int .i64 x.e, .int .i64 x.f, .int .i64 x.s, .int .i64 x.n]) ∧ Below w.heap.size w w' := by
  have B0 : Below w.heap.size w (w.alloc (.cells #[.int .i64 0, .int .i64 0, .int .i64 0, .int .i64 0, .int .i64 0] 26)) := (Below.refl _ _).alloc (Nat.le_refl _) _
  have hbl : b < w.heap.size := World.block_lt_of_cell? w ⟨b, 0, none⟩ hx
  have HC := statementOf_c a n cap zs _ (h.below B0) (hE.below B0)
  have HCC : Hid (Calls Tryz.prog 34 #[.slice a n cap] (w.alloc (.cells #[.int .i64 0, .int .i64 0, .int .i64 0, .int .i64 0, .int .i64 0] 26)) fun e w' => e = .returned (.agg #[.int .i64 x.k, .int .i64 x.e, .int .i64 x.f, .int .i64 x.s, .int .i64 x.n]) ∧ Below (w.heap.size + 1) (w.alloc (.cells #[.int .i64 0, .int .i64 0, .int .i64 0, .int .i64 0, .int .i64 0] 26)) w') := HC.mono fun e w' hh => ⟨by have := hh.1.1 (by rw [hu]; rfl); unfold unpS at this; rw [hu] at this; exact this, by have := hh.2; simpa using this⟩
  clear HC h hE hu B0
  go_enter Tryz.func33, Tryz.ntmps33
  go_wp2_with fail
  refine HCC.out.mono ?_
  rintro e w1 ⟨rfl, hb1⟩
  have hz := hb1.size
  simp only [World.size_alloc] at hz
  have hw : w.heap.size < w1.heap.size := by omega
  have d : ∀ j, j < 5 → w1.cell? ⟨w.heap.size, j, none⟩ = some (.int .i64 0) := fun j hj => (hb1.cell (p := ⟨w.heap.size, j, none⟩) (by simp)).trans (by
    match j, hj with
    | 0, _ => simp
    | 1, _ => simp
    | 2, _ => simp
    | 3, _ => simp
    | 4, _ => simp)
  have f : ∀ j, w1.frozen? ⟨w.heap.size, j, none⟩ = false := fun j => (hb1.frozen (p := ⟨w.heap.size, j, none⟩) (by simp)).trans (by simp [go_sem])
  have d0 := d 0 (by omega)
  have d1 := d 1 (by omega)
  have d2 := d 2 (by omega)
  have d3 := d 3 (by omega)
  have d4 := d 4 (by omega)
  have f0 := f 0
  have f1 := f 1
  have f2 := f 2
  have f3 := f 3
  have f4 := f 4
  have B1 : Below w.heap.size w w1 := ((Below.refl _ _).alloc (Nat.le_refl _) _).trans (hb1.mono (by omega))
  clear d f hb1
  go_wp2_with fail
  refine bodyPost_ret (v := .agg #[.int .i64 x.k, .int .i64 x.e, .int .i64 x.f, .int .i64 x.s, .int .i64 x.n]) (by simp [results, Tryz.results33, go_sem, d0, d1, d2, d3, d4]) rfl ⟨rfl, ?_⟩
  exact B1.setCell (Nat.le_refl _) _ |>.setCell (Nat.le_refl _) _ |>.setCell (Nat.le_refl _) _ |>.setCell (Nat.le_refl _) _ |>.setCell (Nat.le_refl _) _

set_option maxRecDepth 20000 in
set_option maxHeartbeats 2000000 in
theorem unpack1_bad (b : Nat) (a : Option Addr) (n cap : Nat) (zs : List Int) (w : World) (hx : w.cell? ⟨b, 0, none⟩ = some (.slice a n cap)) (h : IntIn w a n zs) (hE : ErrAt 0 w) (hu : unpB zs = none) :
    Calls Tryz.prog 33 #[.pointer (some ⟨b, 0, none⟩)] w fun e w' => Panics e ∧ Below w.heap.size w w' := by
  have B0 : Below w.heap.size w (w.alloc (.cells #[.int .i64 0, .int .i64 0, .int .i64 0, .int .i64 0, .int .i64 0] 26)) := (Below.refl _ _).alloc (Nat.le_refl _) _
  have hbl : b < w.heap.size := World.block_lt_of_cell? w ⟨b, 0, none⟩ hx
  have HC := statementOf_c a n cap zs _ (h.below B0) (hE.below B0)
  have HCC : Hid (Calls Tryz.prog 34 #[.slice a n cap] (w.alloc (.cells #[.int .i64 0, .int .i64 0, .int .i64 0, .int .i64 0, .int .i64 0] 26)) fun e w' => Panics e ∧ Below (w.heap.size + 1) (w.alloc (.cells #[.int .i64 0, .int .i64 0, .int .i64 0, .int .i64 0, .int .i64 0] 26)) w') := HC.mono fun e w' hh => ⟨hh.1.2 (by rw [hu]; rfl), by have := hh.2; simpa using this⟩
  clear HC h hE hu B0
  go_enter Tryz.func33, Tryz.ntmps33
  go_wp2_with fail
  refine HCC.out.mono ?_
  rintro e w1 ⟨⟨u, pv, rfl⟩, hb1⟩
  go_wp2_with fail
  exact ⟨rfl, ⟨_, _, rfl⟩, ((Below.refl _ _).alloc (Nat.le_refl _) _).trans (hb1.mono (by omega))⟩

def GivesU (f : Nat) (a : Option Addr) (n cap : Nat) (c : Int) (x : StI) (w : World) : Prop := Calls Tryz.prog f #[.slice a n cap] w fun e w' => e = .returned (.agg #[.int .i64 c, .int .i64 x.k, .int .i64 x.e, .int .i64 x.f, .int .i64 x.s, .int .i64 x.n]) ∧ Below w.heap.size w w'

theorem enter73 (cap : Array Value) (w : World) : (callFunc 33 cap).run Tryz.prog w = .ok (.enter 33 cap) w := by kernel_rfl

set_option maxRecDepth 20000 in
set_option maxHeartbeats 2000000 in
theorem implUnpack_c (a : Option Addr) (n cap : Nat) (zs : List Int) (w : World) (h : IntIn w a n zs) (hE : ErrAt 0 w) : GivesU 10 a n cap (unpC zs) (unpS zs) w := by
  obtain ⟨W, hW⟩ : ∃ W, W = (w.alloc (.cells #[.slice a n cap] 33)).alloc (.cells #[.int .i64 0, .int .i64 0, .int .i64 0, .int .i64 0, .int .i64 0, .int .i64 0] 28) := ⟨_, rfl⟩
  have HW : Hid (W = (w.alloc (.cells #[.slice a n cap] 33)).alloc (.cells #[.int .i64 0, .int .i64 0, .int .i64 0, .int .i64 0, .int .i64 0, .int .i64 0] 28)) := hW
  have B0 : Below w.heap.size w W := by rw [hW]; exact ((Below.refl _ _).alloc (Nat.le_refl _) _).alloc (by simp) _
  have X0 : W.cell? ⟨w.heap.size, 0, none⟩ = some (.slice a n cap) := by rw [hW]; go_cell
  have R0 : Hid (SRes W (w.heap.size + 1) 0 noSt) := by rw [hW, show w.heap.size + 1 = (w.alloc (.cells #[.slice a n cap] 33)).heap.size by simp]; exact SRes.new _ _
  have HB0 : Hid (Below w.heap.size w W) := B0
  have hI := h.below B0
  have hE0 := hE.below B0
  have HK : Hid (Calls Tryz.prog 23 #[.func (.func 33) #[] #[.pointer (some ⟨w.heap.size, 0, none⟩)]] W fun e w' => e = .returned (.agg #[.int .i64 (unpC zs), .int .i64 (unpS zs).k, .int .i64 (unpS zs).e, .int .i64 (unpS zs).f, .int .i64 (unpS zs).s, .int .i64 (unpS zs).n]) ∧ Below W.heap.size W w') := by
    cases hu : unpB zs with
    | some x =>
      have e1 : unpC zs = 0 := by unfold unpC; rw [hu]; rfl
      have e2 : unpS zs = x := by unfold unpS; rw [hu]; rfl
      show Calls _ _ _ _ _
      rw [e1, e2]
      exact readOrTell_ok 33 _ x W (enter73 _) (fun w2 hb => unpack1_ok _ a n cap zs x w2 ((hb.cell (p := ⟨w.heap.size, 0, none⟩) (World.block_lt_of_cell? W ⟨w.heap.size, 0, none⟩ X0)).trans X0) (hI.below hb) (hE0.below hb) hu)
    | none =>
      have e1 : unpC zs = 5 := by unfold unpC; rw [hu]; rfl
      have e2 : unpS zs = noSt := by unfold unpS; rw [hu]; rfl
      show Calls _ _ _ _ _
      rw [e1, e2]
      exact readOrTell_bad 33 _ W (enter73 _) (fun w2 hb => unpack1_bad _ a n cap zs w2 ((hb.cell (p := ⟨w.heap.size, 0, none⟩) (World.block_lt_of_cell? W ⟨w.heap.size, 0, none⟩ X0)).trans X0) (hI.below hb) (hE0.below hb) hu)
  have hmf : ∀ (fn : Fn) (first cap : Array Value) (w : World), (Instr.makeFunc fn first cap).run Tryz.prog w = .ok (.func fn first cap) w := fun _ _ _ _ => rfl
  obtain ⟨x, hx⟩ : ∃ x, unpS zs = x := ⟨_, rfl⟩
  obtain ⟨c, hc⟩ : ∃ c, unpC zs = c := ⟨_, rfl⟩
  rw [hx, hc] at HK ⊢
  clear hI hE0 h hE hW B0 X0 hx hc
  unfold GivesU
  go_enter Tryz.func10, Tryz.ntmps10
  go_wp2_with fail
  rw [← HW.out]
  refine HK.out.mono ?_
  rintro e w1 ⟨rfl, hb1⟩
  have R1 := R0.out.below hb1
  have B1 : Hid (Below w.heap.size w (SPut w1 (w.heap.size + 1) c x)) := SPut_below (HB0.out.trans (hb1.mono HB0.out.size)) (by omega) c x
  have R2 : Hid (SRes (SPut w1 (w.heap.size + 1) c x) (w.heap.size + 1) c x) := SPut_at R1
  obtain ⟨⟨d0, d1, d2, d3, d4, d5⟩, hf⟩ := R1
  have f0 := hf 0
  have f1 := hf 1
  have f2 := hf 2
  have f3 := hf 3
  have f4 := hf 4
  have f5 := hf 5
  clear hf hb1
  go_wp2_with fail
  obtain ⟨⟨c0, c1, c2, c3, c4, c5⟩, _⟩ := R2.out
  exact bodyPost_ret (v := .agg #[.int .i64 c, .int .i64 x.k, .int .i64 x.e, .int .i64 x.f, .int .i64 x.s, .int .i64 x.n]) (by simp [results, Tryz.results10, go_sem, c0, c1, c2, c3, c4, c5]) rfl ⟨rfl, B1.out⟩

end Go.Proofs.YtdmejfhojdkfbaaGreatDoor

namespace Go.Proofs.YtdmejfhojdkfbaaGreatDoor
open Go.RowKit
set_option linter.unusedVariables false
set_option linter.unusedSimpArgs false

/-- What l7Unpack tells. -/
def GivesV (a : Option Addr) (n cap : Nat) (x : StI) (t : Bool) (w : World) : Prop := Calls Tryz.prog 35 #[.slice a n cap] w fun e w' => e = .returned (.tuple #[.agg #[.int .i64 x.k, .int .i64 x.e, .int .i64 x.f, .int .i64 x.s, .int .i64 x.n], .bool t]) ∧ Below w.heap.size w w'

set_option maxRecDepth 20000 in
set_option maxHeartbeats 2000000 in
theorem l7Unpack_len (a : Option Addr) (n cap : Nat) (w : World) (hn : n ≠ 6) : GivesV a n cap noSt false w := by
  have hn' : ((n : Int) != 6) = true := by simp; omega
  unfold GivesV
  go_enter Tryz.func35, Tryz.ntmps35
  go_wp2_with fail
  refine bodyPost_ret (v := .tuple #[.agg #[.int .i64 0, .int .i64 0, .int .i64 0, .int .i64 0, .int .i64 0], .bool false]) (by simp [results, Tryz.results35, go_sem]) rfl ⟨rfl, ?_⟩
  go_grown

set_option maxRecDepth 20000 in
set_option maxHeartbeats 4000000 in
theorem l7Unpack_ok (b off cap : Nat) (z0 z1 z2 z3 z4 z5 : Int) (w : World) (h : IntIn w (some ⟨b, off, none⟩) 6 [z0, z1, z2, z3, z4, z5]) (hk : stCode ⟨z0, z1, z2, z3, z4⟩ = 0) :
    GivesV (some ⟨b, off, none⟩) 6 cap ⟨z0, z1, z2, z3, z4⟩ (lastW ⟨z0, z1, z2, z3, z4⟩ == z5) w := by
  have HC : Hid (stCode ⟨z0, z1, z2, z3, z4⟩ = 0) := hk
  clear hk
  obtain ⟨b', off', e', hc⟩ := h.2 (by omega)
  cases e'
  have hb : b < w.heap.size := World.block_lt_of_cell? w ⟨b, off, none⟩ (hc 0 z0 rfl)
  obtain ⟨W, hW⟩ : ∃ W, W = w.alloc (.cells #[.int .i64 0, .int .i64 0, .int .i64 0, .int .i64 0, .int .i64 0] 26) := ⟨_, rfl⟩
  have HW : Hid (W = w.alloc (.cells #[.int .i64 0, .int .i64 0, .int .i64 0, .int .i64 0, .int .i64 0] 26)) := hW
  have B0 : Below w.heap.size w W := by rw [hW]; exact (Below.refl _ _).alloc (Nat.le_refl _) _
  have zW : W.heap.size = w.heap.size + 1 := by rw [hW]; simp
  have hzW : w.heap.size < W.heap.size := by omega
  have X0 : Hid (StAt W w.heap.size 0 noSt ∧ ∀ j, W.frozen? ⟨w.heap.size, j, none⟩ = false) := by rw [hW]; exact ⟨by simp [StAt, noSt], fun j => by simp [go_sem]⟩
  have y0 : W.cell? ⟨b, off, none⟩ = some (.int .i64 z0) := (B0.cell (p := ⟨b, off, none⟩) hb).trans (hc 0 z0 rfl)
  have y1 : W.cell? ⟨b, off + 1, none⟩ = some (.int .i64 z1) := (B0.cell (p := ⟨b, off + 1, none⟩) hb).trans (hc 1 z1 rfl)
  have y2 : W.cell? ⟨b, off + 2, none⟩ = some (.int .i64 z2) := (B0.cell (p := ⟨b, off + 2, none⟩) hb).trans (hc 2 z2 rfl)
  have y3 : W.cell? ⟨b, off + 3, none⟩ = some (.int .i64 z3) := (B0.cell (p := ⟨b, off + 3, none⟩) hb).trans (hc 3 z3 rfl)
  have y4 : W.cell? ⟨b, off + 4, none⟩ = some (.int .i64 z4) := (B0.cell (p := ⟨b, off + 4, none⟩) hb).trans (hc 4 z4 rfl)
  have y5 : W.cell? ⟨b, off + 5, none⟩ = some (.int .i64 z5) := (B0.cell (p := ⟨b, off + 5, none⟩) hb).trans (hc 5 z5 rfl)
  clear h hc hW zW
  unfold GivesV
  go_enter Tryz.func35, Tryz.ntmps35
  go_wp2_with fail
  rw [← HW.out]
  refine wp_region_held_drew (S := fun w' => w'.cell? ⟨b, off, none⟩ = some (.int .i64 z0) ∧ w'.cell? ⟨b, off + 1, none⟩ = some (.int .i64 z1) ∧ w'.cell? ⟨b, off + 2, none⟩ = some (.int .i64 z2) ∧ w'.cell? ⟨b, off + 3, none⟩ = some (.int .i64 z3) ∧ w'.cell? ⟨b, off + 4, none⟩ = some (.int .i64 z4) ∧ w'.cell? ⟨b, off + 5, none⟩ = some (.int .i64 z5)) (by kernel_rfl) (⟨y0, y1, y2, y3, y4, y5⟩) (fun hHeld => ?_)
  refine wpAnyH_take (i := 0) (v := ?_) rfl (by kernel_rfl) (by kernel_rfl) (by kernel_rfl) (fun _ _ _ h => h) (Or.inl ⟨by kernel_rfl, ?_⟩) (by assumption) ?_
  rotate_left 1
  · intro w hSw; (try dsimp only at hSw); go_simp; try (with_reducible rfl)
  try simp only [Act.put, List.getElem_toArray, List.getElem_cons_succ, List.getElem_cons_zero, List.setIfInBounds_toArray, List.set_cons_zero, List.set_cons_succ]
  refine wpAnyH_take (i := 1) (v := ?_) rfl (by kernel_rfl) (by kernel_rfl) (by kernel_rfl) (fun _ _ _ h => h) (Or.inl ⟨by kernel_rfl, ?_⟩) (by assumption) ?_
  rotate_left 1
  · intro w hSw; (try dsimp only at hSw); go_simp; try (with_reducible rfl)
  try simp only [Act.put, List.getElem_toArray, List.getElem_cons_succ, List.getElem_cons_zero, List.setIfInBounds_toArray, List.set_cons_zero, List.set_cons_succ]
  refine wpAnyH_take (i := 2) (v := ?_) rfl (by kernel_rfl) (by kernel_rfl) (by kernel_rfl) (fun _ _ _ h => h) (Or.inl ⟨by kernel_rfl, ?_⟩) (by assumption) ?_
  rotate_left 1
  · intro w hSw; (try dsimp only at hSw); go_simp; try (with_reducible rfl)
  try simp only [Act.put, List.getElem_toArray, List.getElem_cons_succ, List.getElem_cons_zero, List.setIfInBounds_toArray, List.set_cons_zero, List.set_cons_succ]
  refine wpAnyH_take (i := 3) (v := ?_) rfl (by kernel_rfl) (by kernel_rfl) (by kernel_rfl) (fun _ _ _ h => h) (Or.inl ⟨by kernel_rfl, ?_⟩) (by assumption) ?_
  rotate_left 1
  · intro w hSw; (try dsimp only at hSw); go_simp; try (with_reducible rfl)
  try simp only [Act.put, List.getElem_toArray, List.getElem_cons_succ, List.getElem_cons_zero, List.setIfInBounds_toArray, List.set_cons_zero, List.set_cons_succ]
  refine wpAnyH_take (i := 4) (v := ?_) rfl (by kernel_rfl) (by kernel_rfl) (by kernel_rfl) (fun _ _ _ h => h) (Or.inl ⟨by kernel_rfl, ?_⟩) (by assumption) ?_
  rotate_left 1
  · intro w hSw; (try dsimp only at hSw); go_simp; try (with_reducible rfl)
  try simp only [Act.put, List.getElem_toArray, List.getElem_cons_succ, List.getElem_cons_zero, List.setIfInBounds_toArray, List.set_cons_zero, List.set_cons_succ]
  refine wpAnyH_take (i := 5) (v := ?_) rfl (by kernel_rfl) (by kernel_rfl) (by kernel_rfl) (fun _ _ _ h => h) (Or.inl ⟨by kernel_rfl, ?_⟩) (by assumption) ?_
  rotate_left 1
  · intro w hSw; (try dsimp only at hSw); go_simp; try (with_reducible rfl)
  try simp only [Act.put, List.getElem_toArray, List.getElem_cons_succ, List.getElem_cons_zero, List.setIfInBounds_toArray, List.set_cons_zero, List.set_cons_succ]
  refine wpAnyH_take (i := 6) (v := ?_) rfl (by kernel_rfl) (by kernel_rfl) (by kernel_rfl) (fun _ _ _ h => h) (Or.inl ⟨by kernel_rfl, ?_⟩) (by assumption) ?_
  rotate_left 1
  · intro w hSw; (try dsimp only at hSw); go_simp; try (with_reducible rfl)
  try simp only [Act.put, List.getElem_toArray, List.getElem_cons_succ, List.getElem_cons_zero, List.setIfInBounds_toArray, List.set_cons_zero, List.set_cons_succ]
  refine wpAnyH_take (i := 7) (v := ?_) rfl (by kernel_rfl) (by kernel_rfl) (by kernel_rfl) (fun _ _ _ h => h) (Or.inl ⟨by kernel_rfl, ?_⟩) (by assumption) ?_
  rotate_left 1
  · intro w hSw; (try dsimp only at hSw); go_simp; try (with_reducible rfl)
  try simp only [Act.put, List.getElem_toArray, List.getElem_cons_succ, List.getElem_cons_zero, List.setIfInBounds_toArray, List.set_cons_zero, List.set_cons_succ]
  refine wpAnyH_take (i := 8) (v := ?_) rfl (by kernel_rfl) (by kernel_rfl) (by kernel_rfl) (fun _ _ _ h => h) (Or.inl ⟨by kernel_rfl, ?_⟩) (by assumption) ?_
  rotate_left 1
  · intro w hSw; (try dsimp only at hSw); go_simp; try (with_reducible rfl)
  try simp only [Act.put, List.getElem_toArray, List.getElem_cons_succ, List.getElem_cons_zero, List.setIfInBounds_toArray, List.set_cons_zero, List.set_cons_succ]
  refine wpAnyH_take (i := 9) (v := ?_) rfl (by kernel_rfl) (by kernel_rfl) (by kernel_rfl) (fun _ _ _ h => h) (Or.inl ⟨by kernel_rfl, ?_⟩) (by assumption) ?_
  rotate_left 1
  · intro w hSw; (try dsimp only at hSw); go_simp; try (with_reducible rfl)
  try simp only [Act.put, List.getElem_toArray, List.getElem_cons_succ, List.getElem_cons_zero, List.setIfInBounds_toArray, List.set_cons_zero, List.set_cons_succ]
  refine wpAnyH_take (i := 10) (v := ?_) rfl (by kernel_rfl) (by kernel_rfl) (by kernel_rfl) (fun _ _ _ h => h) (Or.inl ⟨by kernel_rfl, ?_⟩) (by assumption) ?_
  rotate_left 1
  · intro w hSw; (try dsimp only at hSw); go_simp; try (with_reducible rfl)
  try simp only [Act.put, List.getElem_toArray, List.getElem_cons_succ, List.getElem_cons_zero, List.setIfInBounds_toArray, List.set_cons_zero, List.set_cons_succ]
  refine wpAnyH_take (i := 11) (v := ?_) rfl (by kernel_rfl) (by kernel_rfl) (by kernel_rfl) (fun _ _ _ h => h) (Or.inl ⟨by kernel_rfl, ?_⟩) (by assumption) ?_
  rotate_left 1
  · intro w hSw; (try dsimp only at hSw); go_simp; try (with_reducible rfl)
  try simp only [Act.put, List.getElem_toArray, List.getElem_cons_succ, List.getElem_cons_zero, List.setIfInBounds_toArray, List.set_cons_zero, List.set_cons_succ]
  refine wpAnyH_take (i := 12) (v := ?_) rfl (by kernel_rfl) (by kernel_rfl) (by kernel_rfl) (fun _ _ _ h => h) (Or.inl ⟨by kernel_rfl, ?_⟩) (by assumption) ?_
  rotate_left 1
  · intro w hSw; (try dsimp only at hSw); go_simp; try (with_reducible rfl)
  try simp only [Act.put, List.getElem_toArray, List.getElem_cons_succ, List.getElem_cons_zero, List.setIfInBounds_toArray, List.set_cons_zero, List.set_cons_succ]
  refine wpAnyH_take (i := 13) (v := ?_) rfl (by kernel_rfl) (by kernel_rfl) (by kernel_rfl) (fun _ _ _ h => h) (Or.inl ⟨by kernel_rfl, ?_⟩) (by assumption) ?_
  rotate_left 1
  · intro w hSw; (try dsimp only at hSw); go_simp; try (with_reducible rfl)
  try simp only [Act.put, List.getElem_toArray, List.getElem_cons_succ, List.getElem_cons_zero, List.setIfInBounds_toArray, List.set_cons_zero, List.set_cons_succ]
  refine wpAnyH_take (i := 14) (v := ?_) rfl (by kernel_rfl) (by kernel_rfl) (by kernel_rfl) (fun _ _ _ h => h) (Or.inl ⟨by kernel_rfl, ?_⟩) (by assumption) ?_
  rotate_left 1
  · intro w hSw; (try dsimp only at hSw); go_simp; try (with_reducible rfl)
  try simp only [Act.put, List.getElem_toArray, List.getElem_cons_succ, List.getElem_cons_zero, List.setIfInBounds_toArray, List.set_cons_zero, List.set_cons_succ]
  refine wpAnyH_take (i := 15) (v := ?_) rfl (by kernel_rfl) (by kernel_rfl) (by kernel_rfl) (fun _ _ _ h => h) (Or.inl ⟨by kernel_rfl, ?_⟩) (by assumption) ?_
  rotate_left 1
  · intro w hSw; (try dsimp only at hSw); go_simp; try (with_reducible rfl)
  try simp only [Act.put, List.getElem_toArray, List.getElem_cons_succ, List.getElem_cons_zero, List.setIfInBounds_toArray, List.set_cons_zero, List.set_cons_succ]
  refine wpAnyH_ready (rs := [16]) (by kernel_rfl) (by simp) ?_
  refine AllReadyH.cons rfl (fun K hK => ?_) AllReadyH.nil
  go_simp
  have hS : (fun w' => w'.cell? ⟨b, off, none⟩ = some (.int .i64 z0) ∧ w'.cell? ⟨b, off + 1, none⟩ = some (.int .i64 z1) ∧ w'.cell? ⟨b, off + 2, none⟩ = some (.int .i64 z2) ∧ w'.cell? ⟨b, off + 3, none⟩ = some (.int .i64 z3) ∧ w'.cell? ⟨b, off + 4, none⟩ = some (.int .i64 z4) ∧ w'.cell? ⟨b, off + 5, none⟩ = some (.int .i64 z5)) (W.drew.alloc (.cells #[.int .i64 0, .int .i64 0, .int .i64 0, .int .i64 0, .int .i64 0] 26)) := ⟨(World.cell?_alloc_lt _ _ ⟨b, off, none⟩ (by simp; omega)).trans y0, (World.cell?_alloc_lt _ _ ⟨b, off + 1, none⟩ (by simp; omega)).trans y1, (World.cell?_alloc_lt _ _ ⟨b, off + 2, none⟩ (by simp; omega)).trans y2, (World.cell?_alloc_lt _ _ ⟨b, off + 3, none⟩ (by simp; omega)).trans y3, (World.cell?_alloc_lt _ _ ⟨b, off + 4, none⟩ (by simp; omega)).trans y4, (World.cell?_alloc_lt _ _ ⟨b, off + 5, none⟩ (by simp; omega)).trans y5⟩
  refine hK.out _ _ hS (fun hHeld => ?_)
  clear hK K
  try simp only [Act.put, List.getElem_toArray, List.getElem_cons_succ, List.getElem_cons_zero, List.setIfInBounds_toArray, List.set_cons_zero, List.set_cons_succ]
  refine wpAnyH_ready (rs := [17]) (by kernel_rfl) (by simp) ?_
  refine AllReadyH.cons rfl (fun K hK => ?_) AllReadyH.nil
  go_simp
  have hS : (fun w' => w'.cell? ⟨b, off, none⟩ = some (.int .i64 z0) ∧ w'.cell? ⟨b, off + 1, none⟩ = some (.int .i64 z1) ∧ w'.cell? ⟨b, off + 2, none⟩ = some (.int .i64 z2) ∧ w'.cell? ⟨b, off + 3, none⟩ = some (.int .i64 z3) ∧ w'.cell? ⟨b, off + 4, none⟩ = some (.int .i64 z4) ∧ w'.cell? ⟨b, off + 5, none⟩ = some (.int .i64 z5)) (W.drew.alloc (.cells #[.int .i64 z0, .int .i64 z1, .int .i64 z2, .int .i64 z3, .int .i64 z4] 26)) := ⟨(World.cell?_alloc_lt _ _ ⟨b, off, none⟩ (by simp; omega)).trans y0, (World.cell?_alloc_lt _ _ ⟨b, off + 1, none⟩ (by simp; omega)).trans y1, (World.cell?_alloc_lt _ _ ⟨b, off + 2, none⟩ (by simp; omega)).trans y2, (World.cell?_alloc_lt _ _ ⟨b, off + 3, none⟩ (by simp; omega)).trans y3, (World.cell?_alloc_lt _ _ ⟨b, off + 4, none⟩ (by simp; omega)).trans y4, (World.cell?_alloc_lt _ _ ⟨b, off + 5, none⟩ (by simp; omega)).trans y5⟩
  refine hK.out _ _ hS (fun hHeld => ?_)
  clear hK K
  try simp only [Act.put, List.getElem_toArray, List.getElem_cons_succ, List.getElem_cons_zero, List.setIfInBounds_toArray, List.set_cons_zero, List.set_cons_succ]
  refine wpAnyH_done (by kernel_rfl) ?_ _
  have Z1 : Hid (StAt ((W.alloc (.cells #[.int .i64 z0, .int .i64 z1, .int .i64 z2, .int .i64 z3, .int .i64 z4] 26)).drew) W.heap.size 0 ⟨z0, z1, z2, z3, z4⟩) := StAt.new W ⟨z0, z1, z2, z3, z4⟩ _
  have B1 : Below W.heap.size W ((W.alloc (.cells #[.int .i64 z0, .int .i64 z1, .int .i64 z2, .int .i64 z3, .int .i64 z4] 26)).drew) := ((Below.refl _ _).alloc (Nat.le_refl _) _).drew
  have hz1 : W.heap.size < ((W.alloc (.cells #[.int .i64 z0, .int .i64 z1, .int .i64 z2, .int .i64 z3, .int .i64 z4] 26)).drew).heap.size := by simp
  have X1 : Hid (StAt ((W.alloc (.cells #[.int .i64 z0, .int .i64 z1, .int .i64 z2, .int .i64 z3, .int .i64 z4] 26)).drew) w.heap.size 0 noSt ∧ ∀ j, ((W.alloc (.cells #[.int .i64 z0, .int .i64 z1, .int .i64 z2, .int .i64 z3, .int .i64 z4] 26)).drew).frozen? ⟨w.heap.size, j, none⟩ = false) := ⟨X0.out.1.below B1 hzW, fun j => (B1.frozen (p := ⟨w.heap.size, j, none⟩) hzW).trans (X0.out.2 j)⟩
  have C1 : Hid (Below w.heap.size w ((W.alloc (.cells #[.int .i64 z0, .int .i64 z1, .int .i64 z2, .int .i64 z3, .int .i64 z4] 26)).drew)) := B0.trans (B1.mono (by omega))
  have Y1 : Hid ((fun w' => w'.cell? ⟨b, off, none⟩ = some (.int .i64 z0) ∧ w'.cell? ⟨b, off + 1, none⟩ = some (.int .i64 z1) ∧ w'.cell? ⟨b, off + 2, none⟩ = some (.int .i64 z2) ∧ w'.cell? ⟨b, off + 3, none⟩ = some (.int .i64 z3) ∧ w'.cell? ⟨b, off + 4, none⟩ = some (.int .i64 z4) ∧ w'.cell? ⟨b, off + 5, none⟩ = some (.int .i64 z5)) ((W.alloc (.cells #[.int .i64 z0, .int .i64 z1, .int .i64 z2, .int .i64 z3, .int .i64 z4] 26)).drew)) := hS
  go_wp2_with fail
  clear hHeld hS y0 y1 y2 y3 y4 y5 X0 B1
  generalize (W.alloc (.cells #[.int .i64 z0, .int .i64 z1, .int .i64 z2, .int .i64 z3, .int .i64 z4] 26)).drew = V at Z1 X1 C1 hz1 Y1 ⊢
  have hbV : b < V.heap.size := by have := C1.out.size; omega
  have hqV := hz1
  generalize hq : W.heap.size = q at Z1 hz1 hqV hzW ⊢
  obtain ⟨u0, u1, u2, u3, u4⟩ := Z1.out
  simp only [Nat.zero_add] at u0 u1 u2 u3 u4
  obtain ⟨⟨d0, d1, d2, d3, d4⟩, hf⟩ := X1.out
  simp only [Nat.zero_add] at d0 d1 d2 d3 d4
  have hwq : w.heap.size ≠ q := by omega
  have hwb : b ≠ w.heap.size := by omega
  have hwV : w.heap.size < V.heap.size := by omega
  simp only [noSt] at d0 d1 d2 d3 d4
  refine wp_region_held_drew (S := fun w' => (w'.cell? ⟨b, off, none⟩ = some (.int .i64 z0) ∧ w'.cell? ⟨b, off + 1, none⟩ = some (.int .i64 z1) ∧ w'.cell? ⟨b, off + 2, none⟩ = some (.int .i64 z2) ∧ w'.cell? ⟨b, off + 3, none⟩ = some (.int .i64 z3) ∧ w'.cell? ⟨b, off + 4, none⟩ = some (.int .i64 z4) ∧ w'.cell? ⟨b, off + 5, none⟩ = some (.int .i64 z5)) ∧ w'.cell? ⟨q, 0, none⟩ = some (.int .i64 z0) ∧ w'.cell? ⟨q, 1, none⟩ = some (.int .i64 z1) ∧ w'.cell? ⟨q, 2, none⟩ = some (.int .i64 z2) ∧ w'.cell? ⟨q, 3, none⟩ = some (.int .i64 z3) ∧ w'.cell? ⟨q, 4, none⟩ = some (.int .i64 z4)) (by kernel_rfl) (⟨Y1.out, u0, u1, u2, u3, u4⟩) (fun hHeld => ?_)
  refine wpAnyH_take (i := 0) (v := ?_) rfl (by kernel_rfl) (by kernel_rfl) (by kernel_rfl) (fun _ _ _ h => h) (Or.inl ⟨by kernel_rfl, ?_⟩) (by assumption) ?_
  rotate_left 1
  · intro w hSw; (try dsimp only at hSw); go_simp; try (with_reducible rfl)
  try simp only [Act.put, List.getElem_toArray, List.getElem_cons_succ, List.getElem_cons_zero, List.setIfInBounds_toArray, List.set_cons_zero, List.set_cons_succ]
  refine wpAnyH_ready (rs := [1]) (by kernel_rfl) (by simp) ?_
  refine AllReadyH.cons rfl (fun K hK => ?_) AllReadyH.nil
  go_simp
  refine (l7Fault_c q 0 ⟨z0, z1, z2, z3, z4⟩ _ ⟨hHeld.2.1, hHeld.2.2.1, hHeld.2.2.2.1, hHeld.2.2.2.2.1, hHeld.2.2.2.2.2⟩).mono ?_
  rintro e w' ⟨rfl, rfl⟩
  rw [HC.out]
  have hS := hHeld
  refine hK.out _ _ hS (fun hHeld => ?_)
  clear hK K
  try simp only [Act.put, List.getElem_toArray, List.getElem_cons_succ, List.getElem_cons_zero, List.setIfInBounds_toArray, List.set_cons_zero, List.set_cons_succ]
  refine wpAnyH_take (i := 2) (v := ?_) rfl (by kernel_rfl) (by kernel_rfl) (by kernel_rfl) (fun _ _ _ h => h) (Or.inl ⟨by kernel_rfl, ?_⟩) (by assumption) ?_
  rotate_left 1
  · intro w hSw; (try dsimp only at hSw); go_simp; try (with_reducible rfl)
  try simp only [Act.put, List.getElem_toArray, List.getElem_cons_succ, List.getElem_cons_zero, List.setIfInBounds_toArray, List.set_cons_zero, List.set_cons_succ]
  refine wpAnyH_take (i := 3) (v := ?_) rfl (by kernel_rfl) (by kernel_rfl) (by kernel_rfl) (fun _ _ _ h => h) (Or.inl ⟨by kernel_rfl, ?_⟩) (by assumption) ?_
  rotate_left 1
  · intro w hSw; (try dsimp only at hSw); go_simp; try (with_reducible rfl)
  try simp only [Act.put, List.getElem_toArray, List.getElem_cons_succ, List.getElem_cons_zero, List.setIfInBounds_toArray, List.set_cons_zero, List.set_cons_succ]
  refine wpAnyH_take (i := 7) (v := ?_) rfl (by kernel_rfl) (by kernel_rfl) (by kernel_rfl) (fun _ _ _ h => h) (Or.inl ⟨by kernel_rfl, ?_⟩) (by assumption) ?_
  rotate_left 1
  · intro w hSw; (try dsimp only at hSw); go_simp; try (with_reducible rfl)
  try simp only [Act.put, List.getElem_toArray, List.getElem_cons_succ, List.getElem_cons_zero, List.setIfInBounds_toArray, List.set_cons_zero, List.set_cons_succ]
  refine wpAnyH_take (i := 8) (v := ?_) rfl (by kernel_rfl) (by kernel_rfl) (by kernel_rfl) (fun _ _ _ h => h) (Or.inl ⟨by kernel_rfl, ?_⟩) (by assumption) ?_
  rotate_left 1
  · intro w hSw; (try dsimp only at hSw); go_simp; try (with_reducible rfl)
  try simp only [Act.put, List.getElem_toArray, List.getElem_cons_succ, List.getElem_cons_zero, List.setIfInBounds_toArray, List.set_cons_zero, List.set_cons_succ]
  refine wpAnyH_take (i := 9) (v := ?_) rfl (by kernel_rfl) (by kernel_rfl) (by kernel_rfl) (fun _ _ _ h => h) (Or.inl ⟨by kernel_rfl, ?_⟩) (by assumption) ?_
  rotate_left 1
  · intro w hSw; (try dsimp only at hSw); go_simp; try (with_reducible rfl)
  try simp only [Act.put, List.getElem_toArray, List.getElem_cons_succ, List.getElem_cons_zero, List.setIfInBounds_toArray, List.set_cons_zero, List.set_cons_succ]
  refine wpAnyH_ready (rs := [4]) (by kernel_rfl) (by simp) ?_
  refine AllReadyH.cons rfl (fun K hK => ?_) AllReadyH.nil
  go_simp
  refine (l7Pack_c q 0 ⟨z0, z1, z2, z3, z4⟩ _ ⟨hHeld.2.1, hHeld.2.2.1, hHeld.2.2.2.1, hHeld.2.2.2.2.1, hHeld.2.2.2.2.2⟩ HC.out).mono ?_
  rintro e w4 ⟨rfl, hown, hb4⟩
  have hl5 : w4.cell? ⟨V.heap.size, 5, none⟩ = some (.int .i64 (lastW ⟨z0, z1, z2, z3, z4⟩)) := (hown.cellAt 5 (by omega)).trans rfl
  have hb4' : Below V.heap.size V w4 := ((Below.refl _ _).drew).trans hb4
  have hS : (fun w' => (w'.cell? ⟨b, off, none⟩ = some (.int .i64 z0) ∧ w'.cell? ⟨b, off + 1, none⟩ = some (.int .i64 z1) ∧ w'.cell? ⟨b, off + 2, none⟩ = some (.int .i64 z2) ∧ w'.cell? ⟨b, off + 3, none⟩ = some (.int .i64 z3) ∧ w'.cell? ⟨b, off + 4, none⟩ = some (.int .i64 z4) ∧ w'.cell? ⟨b, off + 5, none⟩ = some (.int .i64 z5)) ∧ w'.cell? ⟨q, 0, none⟩ = some (.int .i64 z0) ∧ w'.cell? ⟨q, 1, none⟩ = some (.int .i64 z1) ∧ w'.cell? ⟨q, 2, none⟩ = some (.int .i64 z2) ∧ w'.cell? ⟨q, 3, none⟩ = some (.int .i64 z3) ∧ w'.cell? ⟨q, 4, none⟩ = some (.int .i64 z4)) w4 := ⟨⟨(hb4'.cell (p := ⟨b, off, none⟩) hbV).trans hHeld.1.1, (hb4'.cell (p := ⟨b, off + 1, none⟩) hbV).trans hHeld.1.2.1, (hb4'.cell (p := ⟨b, off + 2, none⟩) hbV).trans hHeld.1.2.2.1, (hb4'.cell (p := ⟨b, off + 3, none⟩) hbV).trans hHeld.1.2.2.2.1, (hb4'.cell (p := ⟨b, off + 4, none⟩) hbV).trans hHeld.1.2.2.2.2.1, (hb4'.cell (p := ⟨b, off + 5, none⟩) hbV).trans hHeld.1.2.2.2.2.2⟩, (hb4'.cell (p := ⟨q, 0, none⟩) hqV).trans hHeld.2.1, (hb4'.cell (p := ⟨q, 1, none⟩) hqV).trans hHeld.2.2.1, (hb4'.cell (p := ⟨q, 2, none⟩) hqV).trans hHeld.2.2.2.1, (hb4'.cell (p := ⟨q, 3, none⟩) hqV).trans hHeld.2.2.2.2.1, (hb4'.cell (p := ⟨q, 4, none⟩) hqV).trans hHeld.2.2.2.2.2⟩
  clear hown hb4
  have e0 : w4.cell? ⟨w.heap.size, 0, none⟩ = some (.int .i64 0) := (hb4'.cell (p := ⟨w.heap.size, 0, none⟩) hwV).trans d0
  have e1 : w4.cell? ⟨w.heap.size, 1, none⟩ = some (.int .i64 0) := (hb4'.cell (p := ⟨w.heap.size, 1, none⟩) hwV).trans d1
  have e2 : w4.cell? ⟨w.heap.size, 2, none⟩ = some (.int .i64 0) := (hb4'.cell (p := ⟨w.heap.size, 2, none⟩) hwV).trans d2
  have e3 : w4.cell? ⟨w.heap.size, 3, none⟩ = some (.int .i64 0) := (hb4'.cell (p := ⟨w.heap.size, 3, none⟩) hwV).trans d3
  have e4 : w4.cell? ⟨w.heap.size, 4, none⟩ = some (.int .i64 0) := (hb4'.cell (p := ⟨w.heap.size, 4, none⟩) hwV).trans d4
  have g0 : w4.frozen? ⟨w.heap.size, 0, none⟩ = false := (hb4'.frozen (p := ⟨w.heap.size, 0, none⟩) hwV).trans (hf 0)
  have g1 : w4.frozen? ⟨w.heap.size, 1, none⟩ = false := (hb4'.frozen (p := ⟨w.heap.size, 1, none⟩) hwV).trans (hf 1)
  have g2 : w4.frozen? ⟨w.heap.size, 2, none⟩ = false := (hb4'.frozen (p := ⟨w.heap.size, 2, none⟩) hwV).trans (hf 2)
  have g3 : w4.frozen? ⟨w.heap.size, 3, none⟩ = false := (hb4'.frozen (p := ⟨w.heap.size, 3, none⟩) hwV).trans (hf 3)
  have g4 : w4.frozen? ⟨w.heap.size, 4, none⟩ = false := (hb4'.frozen (p := ⟨w.heap.size, 4, none⟩) hwV).trans (hf 4)
  refine hK.out _ _ hS (fun hHeld => ?_)
  clear hK K
  try simp only [Act.put, List.getElem_toArray, List.getElem_cons_succ, List.getElem_cons_zero, List.setIfInBounds_toArray, List.set_cons_zero, List.set_cons_succ]
  refine wpAnyH_take (i := 5) (v := ?_) rfl (by kernel_rfl) (by kernel_rfl) (by kernel_rfl) (fun _ _ _ h => h) (Or.inl ⟨by kernel_rfl, ?_⟩) (by assumption) ?_
  rotate_left 1
  · intro w hSw; (try dsimp only at hSw); go_simp; try (with_reducible rfl)
  try simp only [Act.put, List.getElem_toArray, List.getElem_cons_succ, List.getElem_cons_zero, List.setIfInBounds_toArray, List.set_cons_zero, List.set_cons_succ]
  refine wpAnyH_ready (rs := [6, 12]) (by kernel_rfl) (by simp) ?_
  refine AllReadyH.cons rfl (fun K hK => ?_) (AllReadyH.cons rfl (fun K hK => ?_) AllReadyH.nil)
  · go_simp
    have hS := hHeld
    refine hK.out _ _ hS (fun hHeld => ?_)
    clear hK K
    try simp only [Act.put, List.getElem_toArray, List.getElem_cons_succ, List.getElem_cons_zero, List.setIfInBounds_toArray, List.set_cons_zero, List.set_cons_succ]
    refine wpAnyH_take (i := 10) (v := ?_) rfl (by kernel_rfl) (by kernel_rfl) (by kernel_rfl) (fun _ _ _ h => h) (Or.inl ⟨by kernel_rfl, ?_⟩) (by assumption) ?_
    rotate_left 1
    · intro w hSw; (try dsimp only at hSw); go_simp; try (with_reducible rfl)
    try simp only [Act.put, List.getElem_toArray, List.getElem_cons_succ, List.getElem_cons_zero, List.setIfInBounds_toArray, List.set_cons_zero, List.set_cons_succ]
    refine wpAnyH_take (i := 11) (v := ?_) rfl (by kernel_rfl) (by kernel_rfl) (by kernel_rfl) (fun _ _ _ h => h) (Or.inl ⟨by kernel_rfl, ?_⟩) (by assumption) ?_
    rotate_left 1
    · intro w hSw; (try dsimp only at hSw); go_simp; try (with_reducible rfl)
    try simp only [Act.put, List.getElem_toArray, List.getElem_cons_succ, List.getElem_cons_zero, List.setIfInBounds_toArray, List.set_cons_zero, List.set_cons_succ]
    refine wpAnyH_ready (rs := [12]) (by kernel_rfl) (by simp) ?_
    refine AllReadyH.cons rfl (fun K hK => ?_) AllReadyH.nil
    go_simp
    have hS : (fun w' => (w'.cell? ⟨b, off, none⟩ = some (.int .i64 z0) ∧ w'.cell? ⟨b, off + 1, none⟩ = some (.int .i64 z1) ∧ w'.cell? ⟨b, off + 2, none⟩ = some (.int .i64 z2) ∧ w'.cell? ⟨b, off + 3, none⟩ = some (.int .i64 z3) ∧ w'.cell? ⟨b, off + 4, none⟩ = some (.int .i64 z4) ∧ w'.cell? ⟨b, off + 5, none⟩ = some (.int .i64 z5)) ∧ w'.cell? ⟨q, 0, none⟩ = some (.int .i64 z0) ∧ w'.cell? ⟨q, 1, none⟩ = some (.int .i64 z1) ∧ w'.cell? ⟨q, 2, none⟩ = some (.int .i64 z2) ∧ w'.cell? ⟨q, 3, none⟩ = some (.int .i64 z3) ∧ w'.cell? ⟨q, 4, none⟩ = some (.int .i64 z4)) (StPut w4 w.heap.size 0 ⟨z0, z1, z2, z3, z4⟩) := ⟨⟨(StPut_other w4 w.heap.size 0 ⟨z0, z1, z2, z3, z4⟩ ⟨b, off, none⟩ (fun j hj e => by have e2 := congrArg Addr.block e; simp only at e2; omega)).trans hHeld.1.1, (StPut_other w4 w.heap.size 0 ⟨z0, z1, z2, z3, z4⟩ ⟨b, off + 1, none⟩ (fun j hj e => by have e2 := congrArg Addr.block e; simp only at e2; omega)).trans hHeld.1.2.1, (StPut_other w4 w.heap.size 0 ⟨z0, z1, z2, z3, z4⟩ ⟨b, off + 2, none⟩ (fun j hj e => by have e2 := congrArg Addr.block e; simp only at e2; omega)).trans hHeld.1.2.2.1, (StPut_other w4 w.heap.size 0 ⟨z0, z1, z2, z3, z4⟩ ⟨b, off + 3, none⟩ (fun j hj e => by have e2 := congrArg Addr.block e; simp only at e2; omega)).trans hHeld.1.2.2.2.1, (StPut_other w4 w.heap.size 0 ⟨z0, z1, z2, z3, z4⟩ ⟨b, off + 4, none⟩ (fun j hj e => by have e2 := congrArg Addr.block e; simp only at e2; omega)).trans hHeld.1.2.2.2.2.1, (StPut_other w4 w.heap.size 0 ⟨z0, z1, z2, z3, z4⟩ ⟨b, off + 5, none⟩ (fun j hj e => by have e2 := congrArg Addr.block e; simp only at e2; omega)).trans hHeld.1.2.2.2.2.2⟩, (StPut_other w4 w.heap.size 0 ⟨z0, z1, z2, z3, z4⟩ ⟨q, 0, none⟩ (fun j hj e => by have e2 := congrArg Addr.block e; simp only at e2; omega)).trans hHeld.2.1, (StPut_other w4 w.heap.size 0 ⟨z0, z1, z2, z3, z4⟩ ⟨q, 1, none⟩ (fun j hj e => by have e2 := congrArg Addr.block e; simp only at e2; omega)).trans hHeld.2.2.1, (StPut_other w4 w.heap.size 0 ⟨z0, z1, z2, z3, z4⟩ ⟨q, 2, none⟩ (fun j hj e => by have e2 := congrArg Addr.block e; simp only at e2; omega)).trans hHeld.2.2.2.1, (StPut_other w4 w.heap.size 0 ⟨z0, z1, z2, z3, z4⟩ ⟨q, 3, none⟩ (fun j hj e => by have e2 := congrArg Addr.block e; simp only at e2; omega)).trans hHeld.2.2.2.2.1, (StPut_other w4 w.heap.size 0 ⟨z0, z1, z2, z3, z4⟩ ⟨q, 4, none⟩ (fun j hj e => by have e2 := congrArg Addr.block e; simp only at e2; omega)).trans hHeld.2.2.2.2.2⟩
    have hl6 : (StPut w4 w.heap.size 0 ⟨z0, z1, z2, z3, z4⟩).cell? ⟨V.heap.size, 5, none⟩ = some (.int .i64 (lastW ⟨z0, z1, z2, z3, z4⟩)) := (StPut_other w4 w.heap.size 0 ⟨z0, z1, z2, z3, z4⟩ ⟨V.heap.size, 5, none⟩ (fun j hj e => by have e2 := congrArg Addr.block e; simp only at e2; omega)).trans hl5
    refine hK.out _ _ hS (fun hHeld => ?_)
    clear hK K
    try simp only [Act.put, List.getElem_toArray, List.getElem_cons_succ, List.getElem_cons_zero, List.setIfInBounds_toArray, List.set_cons_zero, List.set_cons_succ]
    refine wpAnyH_ready (rs := [13]) (by kernel_rfl) (by simp) ?_
    refine AllReadyH.cons rfl (fun K hK => ?_) AllReadyH.nil
    go_simp
    refine hK.out _ _ (by assumption) (fun hHeld => ?_)
    clear hK K
    try simp only [Act.put, List.getElem_toArray, List.getElem_cons_succ, List.getElem_cons_zero, List.setIfInBounds_toArray, List.set_cons_zero, List.set_cons_succ]
    refine wpAnyH_done (by kernel_rfl) ?_ _
    go_wp2_with fail
    refine bodyPost_ret (v := .tuple #[.agg #[.int .i64 z0, .int .i64 z1, .int .i64 z2, .int .i64 z3, .int .i64 z4], .bool (lastW ⟨z0, z1, z2, z3, z4⟩ == z5)]) (by simp [results, Tryz.results35, go_sem, e0, e1, e2, e3, e4]) rfl ⟨rfl, ?_⟩
    exact (C1.out.trans (hb4'.mono C1.out.size)).setCell (Nat.le_refl _) _ |>.setCell (Nat.le_refl _) _ |>.setCell (Nat.le_refl _) _ |>.setCell (Nat.le_refl _) _ |>.setCell (Nat.le_refl _) _
  · go_simp
    have hS : (fun w' => (w'.cell? ⟨b, off, none⟩ = some (.int .i64 z0) ∧ w'.cell? ⟨b, off + 1, none⟩ = some (.int .i64 z1) ∧ w'.cell? ⟨b, off + 2, none⟩ = some (.int .i64 z2) ∧ w'.cell? ⟨b, off + 3, none⟩ = some (.int .i64 z3) ∧ w'.cell? ⟨b, off + 4, none⟩ = some (.int .i64 z4) ∧ w'.cell? ⟨b, off + 5, none⟩ = some (.int .i64 z5)) ∧ w'.cell? ⟨q, 0, none⟩ = some (.int .i64 z0) ∧ w'.cell? ⟨q, 1, none⟩ = some (.int .i64 z1) ∧ w'.cell? ⟨q, 2, none⟩ = some (.int .i64 z2) ∧ w'.cell? ⟨q, 3, none⟩ = some (.int .i64 z3) ∧ w'.cell? ⟨q, 4, none⟩ = some (.int .i64 z4)) (StPut w4 w.heap.size 0 ⟨z0, z1, z2, z3, z4⟩) := ⟨⟨(StPut_other w4 w.heap.size 0 ⟨z0, z1, z2, z3, z4⟩ ⟨b, off, none⟩ (fun j hj e => by have e2 := congrArg Addr.block e; simp only at e2; omega)).trans hHeld.1.1, (StPut_other w4 w.heap.size 0 ⟨z0, z1, z2, z3, z4⟩ ⟨b, off + 1, none⟩ (fun j hj e => by have e2 := congrArg Addr.block e; simp only at e2; omega)).trans hHeld.1.2.1, (StPut_other w4 w.heap.size 0 ⟨z0, z1, z2, z3, z4⟩ ⟨b, off + 2, none⟩ (fun j hj e => by have e2 := congrArg Addr.block e; simp only at e2; omega)).trans hHeld.1.2.2.1, (StPut_other w4 w.heap.size 0 ⟨z0, z1, z2, z3, z4⟩ ⟨b, off + 3, none⟩ (fun j hj e => by have e2 := congrArg Addr.block e; simp only at e2; omega)).trans hHeld.1.2.2.2.1, (StPut_other w4 w.heap.size 0 ⟨z0, z1, z2, z3, z4⟩ ⟨b, off + 4, none⟩ (fun j hj e => by have e2 := congrArg Addr.block e; simp only at e2; omega)).trans hHeld.1.2.2.2.2.1, (StPut_other w4 w.heap.size 0 ⟨z0, z1, z2, z3, z4⟩ ⟨b, off + 5, none⟩ (fun j hj e => by have e2 := congrArg Addr.block e; simp only at e2; omega)).trans hHeld.1.2.2.2.2.2⟩, (StPut_other w4 w.heap.size 0 ⟨z0, z1, z2, z3, z4⟩ ⟨q, 0, none⟩ (fun j hj e => by have e2 := congrArg Addr.block e; simp only at e2; omega)).trans hHeld.2.1, (StPut_other w4 w.heap.size 0 ⟨z0, z1, z2, z3, z4⟩ ⟨q, 1, none⟩ (fun j hj e => by have e2 := congrArg Addr.block e; simp only at e2; omega)).trans hHeld.2.2.1, (StPut_other w4 w.heap.size 0 ⟨z0, z1, z2, z3, z4⟩ ⟨q, 2, none⟩ (fun j hj e => by have e2 := congrArg Addr.block e; simp only at e2; omega)).trans hHeld.2.2.2.1, (StPut_other w4 w.heap.size 0 ⟨z0, z1, z2, z3, z4⟩ ⟨q, 3, none⟩ (fun j hj e => by have e2 := congrArg Addr.block e; simp only at e2; omega)).trans hHeld.2.2.2.2.1, (StPut_other w4 w.heap.size 0 ⟨z0, z1, z2, z3, z4⟩ ⟨q, 4, none⟩ (fun j hj e => by have e2 := congrArg Addr.block e; simp only at e2; omega)).trans hHeld.2.2.2.2.2⟩
    have hl6 : (StPut w4 w.heap.size 0 ⟨z0, z1, z2, z3, z4⟩).cell? ⟨V.heap.size, 5, none⟩ = some (.int .i64 (lastW ⟨z0, z1, z2, z3, z4⟩)) := (StPut_other w4 w.heap.size 0 ⟨z0, z1, z2, z3, z4⟩ ⟨V.heap.size, 5, none⟩ (fun j hj e => by have e2 := congrArg Addr.block e; simp only at e2; omega)).trans hl5
    refine hK.out _ _ hS (fun hHeld => ?_)
    clear hK K
    try simp only [Act.put, List.getElem_toArray, List.getElem_cons_succ, List.getElem_cons_zero, List.setIfInBounds_toArray, List.set_cons_zero, List.set_cons_succ]
    refine wpAnyH_ready (rs := [6]) (by kernel_rfl) (by simp) ?_
    refine AllReadyH.cons rfl (fun K hK => ?_) AllReadyH.nil
    go_simp
    have hS := hHeld
    refine hK.out _ _ hS (fun hHeld => ?_)
    clear hK K
    try simp only [Act.put, List.getElem_toArray, List.getElem_cons_succ, List.getElem_cons_zero, List.setIfInBounds_toArray, List.set_cons_zero, List.set_cons_succ]
    refine wpAnyH_take (i := 10) (v := ?_) rfl (by kernel_rfl) (by kernel_rfl) (by kernel_rfl) (fun _ _ _ h => h) (Or.inl ⟨by kernel_rfl, ?_⟩) (by assumption) ?_
    rotate_left 1
    · intro w hSw; (try dsimp only at hSw); go_simp; try (with_reducible rfl)
    try simp only [Act.put, List.getElem_toArray, List.getElem_cons_succ, List.getElem_cons_zero, List.setIfInBounds_toArray, List.set_cons_zero, List.set_cons_succ]
    refine wpAnyH_take (i := 11) (v := ?_) rfl (by kernel_rfl) (by kernel_rfl) (by kernel_rfl) (fun _ _ _ h => h) (Or.inl ⟨by kernel_rfl, ?_⟩) (by assumption) ?_
    rotate_left 1
    · intro w hSw; (try dsimp only at hSw); go_simp; try (with_reducible rfl)
    try simp only [Act.put, List.getElem_toArray, List.getElem_cons_succ, List.getElem_cons_zero, List.setIfInBounds_toArray, List.set_cons_zero, List.set_cons_succ]
    refine wpAnyH_ready (rs := [13]) (by kernel_rfl) (by simp) ?_
    refine AllReadyH.cons rfl (fun K hK => ?_) AllReadyH.nil
    go_simp
    refine hK.out _ _ (by assumption) (fun hHeld => ?_)
    clear hK K
    try simp only [Act.put, List.getElem_toArray, List.getElem_cons_succ, List.getElem_cons_zero, List.setIfInBounds_toArray, List.set_cons_zero, List.set_cons_succ]
    refine wpAnyH_done (by kernel_rfl) ?_ _
    go_wp2_with fail
    refine bodyPost_ret (v := .tuple #[.agg #[.int .i64 z0, .int .i64 z1, .int .i64 z2, .int .i64 z3, .int .i64 z4], .bool (lastW ⟨z0, z1, z2, z3, z4⟩ == z5)]) (by simp [results, Tryz.results35, go_sem, e0, e1, e2, e3, e4]) rfl ⟨rfl, ?_⟩
    exact (C1.out.trans (hb4'.mono C1.out.size)).setCell (Nat.le_refl _) _ |>.setCell (Nat.le_refl _) _ |>.setCell (Nat.le_refl _) _ |>.setCell (Nat.le_refl _) _ |>.setCell (Nat.le_refl _) _

set_option maxRecDepth 20000 in
set_option maxHeartbeats 4000000 in
theorem l7Unpack_bad (b off cap : Nat) (z0 z1 z2 z3 z4 z5 : Int) (w : World) (h : IntIn w (some ⟨b, off, none⟩) 6 [z0, z1, z2, z3, z4, z5]) (c : Int) (hk : stCode ⟨z0, z1, z2, z3, z4⟩ = c) (h0 : c ≠ 0) :
    GivesV (some ⟨b, off, none⟩) 6 cap ⟨z0, z1, z2, z3, z4⟩ false w := by
  have HC : Hid (stCode ⟨z0, z1, z2, z3, z4⟩ = c) := hk
  have hcb : (c == 0) = false := by simpa using h0
  clear hk h0
  obtain ⟨b', off', e', hc⟩ := h.2 (by omega)
  cases e'
  have hb : b < w.heap.size := World.block_lt_of_cell? w ⟨b, off, none⟩ (hc 0 z0 rfl)
  obtain ⟨W, hW⟩ : ∃ W, W = w.alloc (.cells #[.int .i64 0, .int .i64 0, .int .i64 0, .int .i64 0, .int .i64 0] 26) := ⟨_, rfl⟩
  have HW : Hid (W = w.alloc (.cells #[.int .i64 0, .int .i64 0, .int .i64 0, .int .i64 0, .int .i64 0] 26)) := hW
  have B0 : Below w.heap.size w W := by rw [hW]; exact (Below.refl _ _).alloc (Nat.le_refl _) _
  have zW : W.heap.size = w.heap.size + 1 := by rw [hW]; simp
  have hzW : w.heap.size < W.heap.size := by omega
  have X0 : Hid (StAt W w.heap.size 0 noSt ∧ ∀ j, W.frozen? ⟨w.heap.size, j, none⟩ = false) := by rw [hW]; exact ⟨by simp [StAt, noSt], fun j => by simp [go_sem]⟩
  have y0 : W.cell? ⟨b, off, none⟩ = some (.int .i64 z0) := (B0.cell (p := ⟨b, off, none⟩) hb).trans (hc 0 z0 rfl)
  have y1 : W.cell? ⟨b, off + 1, none⟩ = some (.int .i64 z1) := (B0.cell (p := ⟨b, off + 1, none⟩) hb).trans (hc 1 z1 rfl)
  have y2 : W.cell? ⟨b, off + 2, none⟩ = some (.int .i64 z2) := (B0.cell (p := ⟨b, off + 2, none⟩) hb).trans (hc 2 z2 rfl)
  have y3 : W.cell? ⟨b, off + 3, none⟩ = some (.int .i64 z3) := (B0.cell (p := ⟨b, off + 3, none⟩) hb).trans (hc 3 z3 rfl)
  have y4 : W.cell? ⟨b, off + 4, none⟩ = some (.int .i64 z4) := (B0.cell (p := ⟨b, off + 4, none⟩) hb).trans (hc 4 z4 rfl)
  have y5 : W.cell? ⟨b, off + 5, none⟩ = some (.int .i64 z5) := (B0.cell (p := ⟨b, off + 5, none⟩) hb).trans (hc 5 z5 rfl)
  clear h hc hW zW
  unfold GivesV
  go_enter Tryz.func35, Tryz.ntmps35
  go_wp2_with fail
  rw [← HW.out]
  refine wp_region_held_drew (S := fun w' => w'.cell? ⟨b, off, none⟩ = some (.int .i64 z0) ∧ w'.cell? ⟨b, off + 1, none⟩ = some (.int .i64 z1) ∧ w'.cell? ⟨b, off + 2, none⟩ = some (.int .i64 z2) ∧ w'.cell? ⟨b, off + 3, none⟩ = some (.int .i64 z3) ∧ w'.cell? ⟨b, off + 4, none⟩ = some (.int .i64 z4) ∧ w'.cell? ⟨b, off + 5, none⟩ = some (.int .i64 z5)) (by kernel_rfl) (⟨y0, y1, y2, y3, y4, y5⟩) (fun hHeld => ?_)
  refine wpAnyH_take (i := 0) (v := ?_) rfl (by kernel_rfl) (by kernel_rfl) (by kernel_rfl) (fun _ _ _ h => h) (Or.inl ⟨by kernel_rfl, ?_⟩) (by assumption) ?_
  rotate_left 1
  · intro w hSw; (try dsimp only at hSw); go_simp; try (with_reducible rfl)
  try simp only [Act.put, List.getElem_toArray, List.getElem_cons_succ, List.getElem_cons_zero, List.setIfInBounds_toArray, List.set_cons_zero, List.set_cons_succ]
  refine wpAnyH_take (i := 1) (v := ?_) rfl (by kernel_rfl) (by kernel_rfl) (by kernel_rfl) (fun _ _ _ h => h) (Or.inl ⟨by kernel_rfl, ?_⟩) (by assumption) ?_
  rotate_left 1
  · intro w hSw; (try dsimp only at hSw); go_simp; try (with_reducible rfl)
  try simp only [Act.put, List.getElem_toArray, List.getElem_cons_succ, List.getElem_cons_zero, List.setIfInBounds_toArray, List.set_cons_zero, List.set_cons_succ]
  refine wpAnyH_take (i := 2) (v := ?_) rfl (by kernel_rfl) (by kernel_rfl) (by kernel_rfl) (fun _ _ _ h => h) (Or.inl ⟨by kernel_rfl, ?_⟩) (by assumption) ?_
  rotate_left 1
  · intro w hSw; (try dsimp only at hSw); go_simp; try (with_reducible rfl)
  try simp only [Act.put, List.getElem_toArray, List.getElem_cons_succ, List.getElem_cons_zero, List.setIfInBounds_toArray, List.set_cons_zero, List.set_cons_succ]
  refine wpAnyH_take (i := 3) (v := ?_) rfl (by kernel_rfl) (by kernel_rfl) (by kernel_rfl) (fun _ _ _ h => h) (Or.inl ⟨by kernel_rfl, ?_⟩) (by assumption) ?_
  rotate_left 1
  · intro w hSw; (try dsimp only at hSw); go_simp; try (with_reducible rfl)
  try simp only [Act.put, List.getElem_toArray, List.getElem_cons_succ, List.getElem_cons_zero, List.setIfInBounds_toArray, List.set_cons_zero, List.set_cons_succ]
  refine wpAnyH_take (i := 4) (v := ?_) rfl (by kernel_rfl) (by kernel_rfl) (by kernel_rfl) (fun _ _ _ h => h) (Or.inl ⟨by kernel_rfl, ?_⟩) (by assumption) ?_
  rotate_left 1
  · intro w hSw; (try dsimp only at hSw); go_simp; try (with_reducible rfl)
  try simp only [Act.put, List.getElem_toArray, List.getElem_cons_succ, List.getElem_cons_zero, List.setIfInBounds_toArray, List.set_cons_zero, List.set_cons_succ]
  refine wpAnyH_take (i := 5) (v := ?_) rfl (by kernel_rfl) (by kernel_rfl) (by kernel_rfl) (fun _ _ _ h => h) (Or.inl ⟨by kernel_rfl, ?_⟩) (by assumption) ?_
  rotate_left 1
  · intro w hSw; (try dsimp only at hSw); go_simp; try (with_reducible rfl)
  try simp only [Act.put, List.getElem_toArray, List.getElem_cons_succ, List.getElem_cons_zero, List.setIfInBounds_toArray, List.set_cons_zero, List.set_cons_succ]
  refine wpAnyH_take (i := 6) (v := ?_) rfl (by kernel_rfl) (by kernel_rfl) (by kernel_rfl) (fun _ _ _ h => h) (Or.inl ⟨by kernel_rfl, ?_⟩) (by assumption) ?_
  rotate_left 1
  · intro w hSw; (try dsimp only at hSw); go_simp; try (with_reducible rfl)
  try simp only [Act.put, List.getElem_toArray, List.getElem_cons_succ, List.getElem_cons_zero, List.setIfInBounds_toArray, List.set_cons_zero, List.set_cons_succ]
  refine wpAnyH_take (i := 7) (v := ?_) rfl (by kernel_rfl) (by kernel_rfl) (by kernel_rfl) (fun _ _ _ h => h) (Or.inl ⟨by kernel_rfl, ?_⟩) (by assumption) ?_
  rotate_left 1
  · intro w hSw; (try dsimp only at hSw); go_simp; try (with_reducible rfl)
  try simp only [Act.put, List.getElem_toArray, List.getElem_cons_succ, List.getElem_cons_zero, List.setIfInBounds_toArray, List.set_cons_zero, List.set_cons_succ]
  refine wpAnyH_take (i := 8) (v := ?_) rfl (by kernel_rfl) (by kernel_rfl) (by kernel_rfl) (fun _ _ _ h => h) (Or.inl ⟨by kernel_rfl, ?_⟩) (by assumption) ?_
  rotate_left 1
  · intro w hSw; (try dsimp only at hSw); go_simp; try (with_reducible rfl)
  try simp only [Act.put, List.getElem_toArray, List.getElem_cons_succ, List.getElem_cons_zero, List.setIfInBounds_toArray, List.set_cons_zero, List.set_cons_succ]
  refine wpAnyH_take (i := 9) (v := ?_) rfl (by kernel_rfl) (by kernel_rfl) (by kernel_rfl) (fun _ _ _ h => h) (Or.inl ⟨by kernel_rfl, ?_⟩) (by assumption) ?_
  rotate_left 1
  · intro w hSw; (try dsimp only at hSw); go_simp; try (with_reducible rfl)
  try simp only [Act.put, List.getElem_toArray, List.getElem_cons_succ, List.getElem_cons_zero, List.setIfInBounds_toArray, List.set_cons_zero, List.set_cons_succ]
  refine wpAnyH_take (i := 10) (v := ?_) rfl (by kernel_rfl) (by kernel_rfl) (by kernel_rfl) (fun _ _ _ h => h) (Or.inl ⟨by kernel_rfl, ?_⟩) (by assumption) ?_
  rotate_left 1
  · intro w hSw; (try dsimp only at hSw); go_simp; try (with_reducible rfl)
  try simp only [Act.put, List.getElem_toArray, List.getElem_cons_succ, List.getElem_cons_zero, List.setIfInBounds_toArray, List.set_cons_zero, List.set_cons_succ]
  refine wpAnyH_take (i := 11) (v := ?_) rfl (by kernel_rfl) (by kernel_rfl) (by kernel_rfl) (fun _ _ _ h => h) (Or.inl ⟨by kernel_rfl, ?_⟩) (by assumption) ?_
  rotate_left 1
  · intro w hSw; (try dsimp only at hSw); go_simp; try (with_reducible rfl)
  try simp only [Act.put, List.getElem_toArray, List.getElem_cons_succ, List.getElem_cons_zero, List.setIfInBounds_toArray, List.set_cons_zero, List.set_cons_succ]
  refine wpAnyH_take (i := 12) (v := ?_) rfl (by kernel_rfl) (by kernel_rfl) (by kernel_rfl) (fun _ _ _ h => h) (Or.inl ⟨by kernel_rfl, ?_⟩) (by assumption) ?_
  rotate_left 1
  · intro w hSw; (try dsimp only at hSw); go_simp; try (with_reducible rfl)
  try simp only [Act.put, List.getElem_toArray, List.getElem_cons_succ, List.getElem_cons_zero, List.setIfInBounds_toArray, List.set_cons_zero, List.set_cons_succ]
  refine wpAnyH_take (i := 13) (v := ?_) rfl (by kernel_rfl) (by kernel_rfl) (by kernel_rfl) (fun _ _ _ h => h) (Or.inl ⟨by kernel_rfl, ?_⟩) (by assumption) ?_
  rotate_left 1
  · intro w hSw; (try dsimp only at hSw); go_simp; try (with_reducible rfl)
  try simp only [Act.put, List.getElem_toArray, List.getElem_cons_succ, List.getElem_cons_zero, List.setIfInBounds_toArray, List.set_cons_zero, List.set_cons_succ]
  refine wpAnyH_take (i := 14) (v := ?_) rfl (by kernel_rfl) (by kernel_rfl) (by kernel_rfl) (fun _ _ _ h => h) (Or.inl ⟨by kernel_rfl, ?_⟩) (by assumption) ?_
  rotate_left 1
  · intro w hSw; (try dsimp only at hSw); go_simp; try (with_reducible rfl)
  try simp only [Act.put, List.getElem_toArray, List.getElem_cons_succ, List.getElem_cons_zero, List.setIfInBounds_toArray, List.set_cons_zero, List.set_cons_succ]
  refine wpAnyH_take (i := 15) (v := ?_) rfl (by kernel_rfl) (by kernel_rfl) (by kernel_rfl) (fun _ _ _ h => h) (Or.inl ⟨by kernel_rfl, ?_⟩) (by assumption) ?_
  rotate_left 1
  · intro w hSw; (try dsimp only at hSw); go_simp; try (with_reducible rfl)
  try simp only [Act.put, List.getElem_toArray, List.getElem_cons_succ, List.getElem_cons_zero, List.setIfInBounds_toArray, List.set_cons_zero, List.set_cons_succ]
  refine wpAnyH_ready (rs := [16]) (by kernel_rfl) (by simp) ?_
  refine AllReadyH.cons rfl (fun K hK => ?_) AllReadyH.nil
  go_simp
  have hS : (fun w' => w'.cell? ⟨b, off, none⟩ = some (.int .i64 z0) ∧ w'.cell? ⟨b, off + 1, none⟩ = some (.int .i64 z1) ∧ w'.cell? ⟨b, off + 2, none⟩ = some (.int .i64 z2) ∧ w'.cell? ⟨b, off + 3, none⟩ = some (.int .i64 z3) ∧ w'.cell? ⟨b, off + 4, none⟩ = some (.int .i64 z4) ∧ w'.cell? ⟨b, off + 5, none⟩ = some (.int .i64 z5)) (W.drew.alloc (.cells #[.int .i64 0, .int .i64 0, .int .i64 0, .int .i64 0, .int .i64 0] 26)) := ⟨(World.cell?_alloc_lt _ _ ⟨b, off, none⟩ (by simp; omega)).trans y0, (World.cell?_alloc_lt _ _ ⟨b, off + 1, none⟩ (by simp; omega)).trans y1, (World.cell?_alloc_lt _ _ ⟨b, off + 2, none⟩ (by simp; omega)).trans y2, (World.cell?_alloc_lt _ _ ⟨b, off + 3, none⟩ (by simp; omega)).trans y3, (World.cell?_alloc_lt _ _ ⟨b, off + 4, none⟩ (by simp; omega)).trans y4, (World.cell?_alloc_lt _ _ ⟨b, off + 5, none⟩ (by simp; omega)).trans y5⟩
  refine hK.out _ _ hS (fun hHeld => ?_)
  clear hK K
  try simp only [Act.put, List.getElem_toArray, List.getElem_cons_succ, List.getElem_cons_zero, List.setIfInBounds_toArray, List.set_cons_zero, List.set_cons_succ]
  refine wpAnyH_ready (rs := [17]) (by kernel_rfl) (by simp) ?_
  refine AllReadyH.cons rfl (fun K hK => ?_) AllReadyH.nil
  go_simp
  have hS : (fun w' => w'.cell? ⟨b, off, none⟩ = some (.int .i64 z0) ∧ w'.cell? ⟨b, off + 1, none⟩ = some (.int .i64 z1) ∧ w'.cell? ⟨b, off + 2, none⟩ = some (.int .i64 z2) ∧ w'.cell? ⟨b, off + 3, none⟩ = some (.int .i64 z3) ∧ w'.cell? ⟨b, off + 4, none⟩ = some (.int .i64 z4) ∧ w'.cell? ⟨b, off + 5, none⟩ = some (.int .i64 z5)) (W.drew.alloc (.cells #[.int .i64 z0, .int .i64 z1, .int .i64 z2, .int .i64 z3, .int .i64 z4] 26)) := ⟨(World.cell?_alloc_lt _ _ ⟨b, off, none⟩ (by simp; omega)).trans y0, (World.cell?_alloc_lt _ _ ⟨b, off + 1, none⟩ (by simp; omega)).trans y1, (World.cell?_alloc_lt _ _ ⟨b, off + 2, none⟩ (by simp; omega)).trans y2, (World.cell?_alloc_lt _ _ ⟨b, off + 3, none⟩ (by simp; omega)).trans y3, (World.cell?_alloc_lt _ _ ⟨b, off + 4, none⟩ (by simp; omega)).trans y4, (World.cell?_alloc_lt _ _ ⟨b, off + 5, none⟩ (by simp; omega)).trans y5⟩
  refine hK.out _ _ hS (fun hHeld => ?_)
  clear hK K
  try simp only [Act.put, List.getElem_toArray, List.getElem_cons_succ, List.getElem_cons_zero, List.setIfInBounds_toArray, List.set_cons_zero, List.set_cons_succ]
  refine wpAnyH_done (by kernel_rfl) ?_ _
  have Z1 : Hid (StAt ((W.alloc (.cells #[.int .i64 z0, .int .i64 z1, .int .i64 z2, .int .i64 z3, .int .i64 z4] 26)).drew) W.heap.size 0 ⟨z0, z1, z2, z3, z4⟩) := StAt.new W ⟨z0, z1, z2, z3, z4⟩ _
  have B1 : Below W.heap.size W ((W.alloc (.cells #[.int .i64 z0, .int .i64 z1, .int .i64 z2, .int .i64 z3, .int .i64 z4] 26)).drew) := ((Below.refl _ _).alloc (Nat.le_refl _) _).drew
  have hz1 : W.heap.size < ((W.alloc (.cells #[.int .i64 z0, .int .i64 z1, .int .i64 z2, .int .i64 z3, .int .i64 z4] 26)).drew).heap.size := by simp
  have X1 : Hid (StAt ((W.alloc (.cells #[.int .i64 z0, .int .i64 z1, .int .i64 z2, .int .i64 z3, .int .i64 z4] 26)).drew) w.heap.size 0 noSt ∧ ∀ j, ((W.alloc (.cells #[.int .i64 z0, .int .i64 z1, .int .i64 z2, .int .i64 z3, .int .i64 z4] 26)).drew).frozen? ⟨w.heap.size, j, none⟩ = false) := ⟨X0.out.1.below B1 hzW, fun j => (B1.frozen (p := ⟨w.heap.size, j, none⟩) hzW).trans (X0.out.2 j)⟩
  have C1 : Hid (Below w.heap.size w ((W.alloc (.cells #[.int .i64 z0, .int .i64 z1, .int .i64 z2, .int .i64 z3, .int .i64 z4] 26)).drew)) := B0.trans (B1.mono (by omega))
  have Y1 : Hid ((fun w' => w'.cell? ⟨b, off, none⟩ = some (.int .i64 z0) ∧ w'.cell? ⟨b, off + 1, none⟩ = some (.int .i64 z1) ∧ w'.cell? ⟨b, off + 2, none⟩ = some (.int .i64 z2) ∧ w'.cell? ⟨b, off + 3, none⟩ = some (.int .i64 z3) ∧ w'.cell? ⟨b, off + 4, none⟩ = some (.int .i64 z4) ∧ w'.cell? ⟨b, off + 5, none⟩ = some (.int .i64 z5)) ((W.alloc (.cells #[.int .i64 z0, .int .i64 z1, .int .i64 z2, .int .i64 z3, .int .i64 z4] 26)).drew)) := hS
  go_wp2_with fail
  clear hHeld hS y0 y1 y2 y3 y4 y5 X0 B1
  generalize (W.alloc (.cells #[.int .i64 z0, .int .i64 z1, .int .i64 z2, .int .i64 z3, .int .i64 z4] 26)).drew = V at Z1 X1 C1 hz1 Y1 ⊢
  have hbV : b < V.heap.size := by have := C1.out.size; omega
  have hqV := hz1
  generalize hq : W.heap.size = q at Z1 hz1 hqV hzW ⊢
  obtain ⟨u0, u1, u2, u3, u4⟩ := Z1.out
  simp only [Nat.zero_add] at u0 u1 u2 u3 u4
  obtain ⟨⟨d0, d1, d2, d3, d4⟩, hf⟩ := X1.out
  simp only [Nat.zero_add] at d0 d1 d2 d3 d4
  have hwq : w.heap.size ≠ q := by omega
  have hwb : b ≠ w.heap.size := by omega
  have hwV : w.heap.size < V.heap.size := by omega
  simp only [noSt] at d0 d1 d2 d3 d4
  refine wp_region_held_drew (S := fun w' => (w'.cell? ⟨b, off, none⟩ = some (.int .i64 z0) ∧ w'.cell? ⟨b, off + 1, none⟩ = some (.int .i64 z1) ∧ w'.cell? ⟨b, off + 2, none⟩ = some (.int .i64 z2) ∧ w'.cell? ⟨b, off + 3, none⟩ = some (.int .i64 z3) ∧ w'.cell? ⟨b, off + 4, none⟩ = some (.int .i64 z4) ∧ w'.cell? ⟨b, off + 5, none⟩ = some (.int .i64 z5)) ∧ w'.cell? ⟨q, 0, none⟩ = some (.int .i64 z0) ∧ w'.cell? ⟨q, 1, none⟩ = some (.int .i64 z1) ∧ w'.cell? ⟨q, 2, none⟩ = some (.int .i64 z2) ∧ w'.cell? ⟨q, 3, none⟩ = some (.int .i64 z3) ∧ w'.cell? ⟨q, 4, none⟩ = some (.int .i64 z4)) (by kernel_rfl) (⟨Y1.out, u0, u1, u2, u3, u4⟩) (fun hHeld => ?_)
  refine wpAnyH_take (i := 0) (v := ?_) rfl (by kernel_rfl) (by kernel_rfl) (by kernel_rfl) (fun _ _ _ h => h) (Or.inl ⟨by kernel_rfl, ?_⟩) (by assumption) ?_
  rotate_left 1
  · intro w hSw; (try dsimp only at hSw); go_simp; try (with_reducible rfl)
  try simp only [Act.put, List.getElem_toArray, List.getElem_cons_succ, List.getElem_cons_zero, List.setIfInBounds_toArray, List.set_cons_zero, List.set_cons_succ]
  refine wpAnyH_ready (rs := [1]) (by kernel_rfl) (by simp) ?_
  refine AllReadyH.cons rfl (fun K hK => ?_) AllReadyH.nil
  go_simp
  refine (l7Fault_c q 0 ⟨z0, z1, z2, z3, z4⟩ _ ⟨hHeld.2.1, hHeld.2.2.1, hHeld.2.2.2.1, hHeld.2.2.2.2.1, hHeld.2.2.2.2.2⟩).mono ?_
  rintro e w' ⟨rfl, rfl⟩
  rw [HC.out]
  have hS := hHeld
  refine hK.out _ _ hS (fun hHeld => ?_)
  clear hK K
  try simp only [Act.put, List.getElem_toArray, List.getElem_cons_succ, List.getElem_cons_zero, List.setIfInBounds_toArray, List.set_cons_zero, List.set_cons_succ]
  refine wpAnyH_take (i := 2) (v := ?_) rfl (by kernel_rfl) (by kernel_rfl) (by kernel_rfl) (fun _ _ _ h => h) (Or.inl ⟨by kernel_rfl, ?_⟩) (by assumption) ?_
  rotate_left 1
  · intro w hSw; (try dsimp only at hSw); go_simp; try (with_reducible rfl)
  try simp only [Act.put, List.getElem_toArray, List.getElem_cons_succ, List.getElem_cons_zero, List.setIfInBounds_toArray, List.set_cons_zero, List.set_cons_succ]
  refine wpAnyH_take (i := 3) (v := ?_) rfl (by kernel_rfl) (by kernel_rfl) (by kernel_rfl) (fun _ _ _ h => h) (Or.inl ⟨by kernel_rfl, ?_⟩) (by assumption) ?_
  rotate_left 1
  · intro w hSw; (try dsimp only at hSw); go_simp; try (with_reducible rfl)
  try simp only [Act.put, List.getElem_toArray, List.getElem_cons_succ, List.getElem_cons_zero, List.setIfInBounds_toArray, List.set_cons_zero, List.set_cons_succ]
  refine wpAnyH_take (i := 4) (v := undef) rfl (by kernel_rfl) (by kernel_rfl) (by kernel_rfl) (fun _ _ _ h => h) (Or.inr ⟨by kernel_rfl, rfl⟩) (by assumption) ?_
  try simp only [Act.put, List.getElem_toArray, List.getElem_cons_succ, List.getElem_cons_zero, List.setIfInBounds_toArray, List.set_cons_zero, List.set_cons_succ]
  refine wpAnyH_take (i := 5) (v := undef) rfl (by kernel_rfl) (by kernel_rfl) (by kernel_rfl) (fun _ _ _ h => h) (Or.inr ⟨by kernel_rfl, rfl⟩) (by assumption) ?_
  try simp only [Act.put, List.getElem_toArray, List.getElem_cons_succ, List.getElem_cons_zero, List.setIfInBounds_toArray, List.set_cons_zero, List.set_cons_succ]
  refine wpAnyH_take (i := 6) (v := undef) rfl (by kernel_rfl) (by kernel_rfl) (by kernel_rfl) (fun _ _ _ h => h) (Or.inr ⟨by kernel_rfl, rfl⟩) (by assumption) ?_
  try simp only [Act.put, List.getElem_toArray, List.getElem_cons_succ, List.getElem_cons_zero, List.setIfInBounds_toArray, List.set_cons_zero, List.set_cons_succ]
  refine wpAnyH_take (i := 7) (v := undef) rfl (by kernel_rfl) (by kernel_rfl) (by kernel_rfl) (fun _ _ _ h => h) (Or.inr ⟨by kernel_rfl, rfl⟩) (by assumption) ?_
  try simp only [Act.put, List.getElem_toArray, List.getElem_cons_succ, List.getElem_cons_zero, List.setIfInBounds_toArray, List.set_cons_zero, List.set_cons_succ]
  refine wpAnyH_take (i := 8) (v := undef) rfl (by kernel_rfl) (by kernel_rfl) (by kernel_rfl) (fun _ _ _ h => h) (Or.inr ⟨by kernel_rfl, rfl⟩) (by assumption) ?_
  try simp only [Act.put, List.getElem_toArray, List.getElem_cons_succ, List.getElem_cons_zero, List.setIfInBounds_toArray, List.set_cons_zero, List.set_cons_succ]
  refine wpAnyH_take (i := 9) (v := undef) rfl (by kernel_rfl) (by kernel_rfl) (by kernel_rfl) (fun _ _ _ h => h) (Or.inr ⟨by kernel_rfl, rfl⟩) (by assumption) ?_
  try simp only [Act.put, List.getElem_toArray, List.getElem_cons_succ, List.getElem_cons_zero, List.setIfInBounds_toArray, List.set_cons_zero, List.set_cons_succ]
  refine wpAnyH_take (i := 10) (v := undef) rfl (by kernel_rfl) (by kernel_rfl) (by kernel_rfl) (fun _ _ _ h => h) (Or.inr ⟨by kernel_rfl, rfl⟩) (by assumption) ?_
  try simp only [Act.put, List.getElem_toArray, List.getElem_cons_succ, List.getElem_cons_zero, List.setIfInBounds_toArray, List.set_cons_zero, List.set_cons_succ]
  refine wpAnyH_take (i := 11) (v := ?_) rfl (by kernel_rfl) (by kernel_rfl) (by kernel_rfl) (fun _ _ _ h => h) (Or.inl ⟨by kernel_rfl, ?_⟩) (by assumption) ?_
  rotate_left 1
  · intro w hSw; (try dsimp only at hSw); go_simp; try (with_reducible rfl)
  try simp only [Act.put, List.getElem_toArray, List.getElem_cons_succ, List.getElem_cons_zero, List.setIfInBounds_toArray, List.set_cons_zero, List.set_cons_succ]
  refine wpAnyH_ready (rs := [12]) (by kernel_rfl) (by simp) ?_
  refine AllReadyH.cons rfl (fun K hK => ?_) AllReadyH.nil
  go_simp
  have f0 := hf 0
  have f1 := hf 1
  have f2 := hf 2
  have f3 := hf 3
  have f4 := hf 4
  have hS : (fun w' => (w'.cell? ⟨b, off, none⟩ = some (.int .i64 z0) ∧ w'.cell? ⟨b, off + 1, none⟩ = some (.int .i64 z1) ∧ w'.cell? ⟨b, off + 2, none⟩ = some (.int .i64 z2) ∧ w'.cell? ⟨b, off + 3, none⟩ = some (.int .i64 z3) ∧ w'.cell? ⟨b, off + 4, none⟩ = some (.int .i64 z4) ∧ w'.cell? ⟨b, off + 5, none⟩ = some (.int .i64 z5)) ∧ w'.cell? ⟨q, 0, none⟩ = some (.int .i64 z0) ∧ w'.cell? ⟨q, 1, none⟩ = some (.int .i64 z1) ∧ w'.cell? ⟨q, 2, none⟩ = some (.int .i64 z2) ∧ w'.cell? ⟨q, 3, none⟩ = some (.int .i64 z3) ∧ w'.cell? ⟨q, 4, none⟩ = some (.int .i64 z4)) (StPut V.drew w.heap.size 0 ⟨z0, z1, z2, z3, z4⟩) := ⟨⟨(StPut_other V.drew w.heap.size 0 ⟨z0, z1, z2, z3, z4⟩ ⟨b, off, none⟩ (fun j hj e => by have e2 := congrArg Addr.block e; simp only at e2; omega)).trans hHeld.1.1, (StPut_other V.drew w.heap.size 0 ⟨z0, z1, z2, z3, z4⟩ ⟨b, off + 1, none⟩ (fun j hj e => by have e2 := congrArg Addr.block e; simp only at e2; omega)).trans hHeld.1.2.1, (StPut_other V.drew w.heap.size 0 ⟨z0, z1, z2, z3, z4⟩ ⟨b, off + 2, none⟩ (fun j hj e => by have e2 := congrArg Addr.block e; simp only at e2; omega)).trans hHeld.1.2.2.1, (StPut_other V.drew w.heap.size 0 ⟨z0, z1, z2, z3, z4⟩ ⟨b, off + 3, none⟩ (fun j hj e => by have e2 := congrArg Addr.block e; simp only at e2; omega)).trans hHeld.1.2.2.2.1, (StPut_other V.drew w.heap.size 0 ⟨z0, z1, z2, z3, z4⟩ ⟨b, off + 4, none⟩ (fun j hj e => by have e2 := congrArg Addr.block e; simp only at e2; omega)).trans hHeld.1.2.2.2.2.1, (StPut_other V.drew w.heap.size 0 ⟨z0, z1, z2, z3, z4⟩ ⟨b, off + 5, none⟩ (fun j hj e => by have e2 := congrArg Addr.block e; simp only at e2; omega)).trans hHeld.1.2.2.2.2.2⟩, (StPut_other V.drew w.heap.size 0 ⟨z0, z1, z2, z3, z4⟩ ⟨q, 0, none⟩ (fun j hj e => by have e2 := congrArg Addr.block e; simp only at e2; omega)).trans hHeld.2.1, (StPut_other V.drew w.heap.size 0 ⟨z0, z1, z2, z3, z4⟩ ⟨q, 1, none⟩ (fun j hj e => by have e2 := congrArg Addr.block e; simp only at e2; omega)).trans hHeld.2.2.1, (StPut_other V.drew w.heap.size 0 ⟨z0, z1, z2, z3, z4⟩ ⟨q, 2, none⟩ (fun j hj e => by have e2 := congrArg Addr.block e; simp only at e2; omega)).trans hHeld.2.2.2.1, (StPut_other V.drew w.heap.size 0 ⟨z0, z1, z2, z3, z4⟩ ⟨q, 3, none⟩ (fun j hj e => by have e2 := congrArg Addr.block e; simp only at e2; omega)).trans hHeld.2.2.2.2.1, (StPut_other V.drew w.heap.size 0 ⟨z0, z1, z2, z3, z4⟩ ⟨q, 4, none⟩ (fun j hj e => by have e2 := congrArg Addr.block e; simp only at e2; omega)).trans hHeld.2.2.2.2.2⟩
  refine hK.out _ _ hS (fun hHeld => ?_)
  clear hK K
  try simp only [Act.put, List.getElem_toArray, List.getElem_cons_succ, List.getElem_cons_zero, List.setIfInBounds_toArray, List.set_cons_zero, List.set_cons_succ]
  refine wpAnyH_ready (rs := [13]) (by kernel_rfl) (by simp) ?_
  refine AllReadyH.cons rfl (fun K hK => ?_) AllReadyH.nil
  go_simp
  refine hK.out _ _ (by assumption) (fun hHeld => ?_)
  clear hK K
  try simp only [Act.put, List.getElem_toArray, List.getElem_cons_succ, List.getElem_cons_zero, List.setIfInBounds_toArray, List.set_cons_zero, List.set_cons_succ]
  refine wpAnyH_done (by kernel_rfl) ?_ _
  go_wp2_with fail
  refine bodyPost_ret (v := .tuple #[.agg #[.int .i64 z0, .int .i64 z1, .int .i64 z2, .int .i64 z3, .int .i64 z4], .bool false]) (by simp [results, Tryz.results35, go_sem, d0, d1, d2, d3, d4]) rfl ⟨rfl, ?_⟩
  exact (C1.out.drew).setCell (Nat.le_refl _) _ |>.setCell (Nat.le_refl _) _ |>.setCell (Nat.le_refl _) _ |>.setCell (Nat.le_refl _) _ |>.setCell (Nat.le_refl _) _

theorem pack_iff {z0 z1 z2 z3 z4 z5 : Int} (h : stCode ⟨z0, z1, z2, z3, z4⟩ = 0) : packV ⟨z0, z1, z2, z3, z4⟩ = [z0, z1, z2, z3, z4, z5] ↔ lastW ⟨z0, z1, z2, z3, z4⟩ = z5 := by
  unfold packV
  rw [if_pos h]
  simp [packL]

theorem l7Unpack_c (a : Option Addr) (n cap : Nat) (zs : List Int) (w : World) (h : IntIn w a n zs) : ∃ x, GivesV a n cap x (unpB zs).isSome w ∧ ((unpB zs).isSome = true → x = unpS zs) := by
  by_cases h6 : n = 6
  · subst h6
    obtain ⟨z0, z1, z2, z3, z4, z5, rfl⟩ := six_list h.1
    obtain ⟨b, off, rfl, _⟩ := h.2 (by omega)
    refine ⟨⟨z0, z1, z2, z3, z4⟩, ?_, ?_⟩
    · by_cases hk : stCode ⟨z0, z1, z2, z3, z4⟩ = 0
      · have h1 := l7Unpack_ok b off cap z0 z1 z2 z3 z4 z5 w h hk
        by_cases q : lastW ⟨z0, z1, z2, z3, z4⟩ = z5
        · have e1 : unpB [z0, z1, z2, z3, z4, z5] = some ⟨z0, z1, z2, z3, z4⟩ := if_pos ((pack_iff hk).2 q)
          rw [e1]
          rw [show (lastW ⟨z0, z1, z2, z3, z4⟩ == z5) = true by simp [q]] at h1
          exact h1
        · have e1 : unpB [z0, z1, z2, z3, z4, z5] = none := if_neg (fun e => q ((pack_iff hk).1 e))
          rw [e1]
          rw [show (lastW ⟨z0, z1, z2, z3, z4⟩ == z5) = false by simp [q]] at h1
          exact h1
      · have h1 := l7Unpack_bad b off cap z0 z1 z2 z3 z4 z5 w h _ rfl hk
        have e1 : unpB [z0, z1, z2, z3, z4, z5] = none := if_neg (fun e => by unfold packV at e; rw [if_neg hk] at e; cases e)
        rw [e1]
        exact h1
    · intro hs
      unfold unpS
      cases q : unpB [z0, z1, z2, z3, z4, z5] with
      | none => rw [q] at hs; cases hs
      | some y =>
        have q2 : (if packV ⟨z0, z1, z2, z3, z4⟩ = [z0, z1, z2, z3, z4, z5] then some (⟨z0, z1, z2, z3, z4⟩ : StI) else none) = some y := q
        split at q2
        · exact Option.some.inj q2
        · cases q2
  · have e1 : unpB zs = none := unp_len (by rw [h.1]; exact h6)
    rw [e1]
    exact ⟨noSt, l7Unpack_len a n cap w h6, fun k => (by cases k)⟩



end Go.Proofs.YtdmejfhojdkfbaaGreatDoor
