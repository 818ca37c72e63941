/-
  CONTRACTS of spec.SetOf, impl.SetOf (over a slice of the call's own) and of laws.toInt64S, laws.eqInt64S.
  Conditions: each contract bears its own.
-/
import Derived.Test.YtajdgbdpmmdlfaaDoorBits1
import Derived.BigQuiet
import Derived.Deep.QuietTactic
namespace Go.Proofs.YtajdgbdpmmdlfaaDoor
open Go.RowKit
set_option linter.unusedVariables false

set_option maxHeartbeats 400000 in
theorem implSetOf_many (g n cap : Nat) (w : World) (hn : 20 < n) (hm : n ≤ 1048576) :
    Calls Tryd.prog 21 #[.slice (some ⟨g, 0, none⟩) n cap] w fun e w' => e = .returned (.agg #[.int .i64 2, .int .i64 0]) ∧ Below w.heap.size w w' := by
  have hn' : (20 : Int) < (n : Int) := by omega
  go_enter Tryd.func21, Tryd.ntmps21
  go_wp2
  exact bodyPost_ret (v := .agg #[.int .i64 2, .int .i64 0]) (by simp [results, Tryd.results21, go_sem]) rfl ⟨rfl, (Below.refl _ _).alloc (Nat.le_refl _) _⟩

set_option maxHeartbeats 400000 in
theorem implSetOf_in (g n cap : Nat) (ys : List Int) (w : World) (hn : n ≤ 20) (hy : ys.length = n) (hc : ∀ k, k < n → w.cell? ⟨g, k, none⟩ = some (.int .i64 (ys[k]?.getD 0))) (hok : okTo ys n) :
    Calls Tryd.prog 21 #[.slice (some ⟨g, 0, none⟩) n cap] w fun e w' => e = .returned (.agg #[.int .i64 0, .int .i64 (orTo ys n)]) ∧ Below w.heap.size w w' := by
  have hn' : (n : Int) ≤ 20 := by omega
  have HY : Hid (ys.length = n) := hy
  clear hy
  have HOK : Hid (okTo ys n) := hok
  clear hok
  go_enter Tryd.func21, Tryd.ntmps21
  go_wp2
  go_loop [3, 12] (fun s i => ∃ k : Nat, k ≤ n ∧ i = .int .i64 (k : Int) ∧ s = .int .u8 (orTo ys k)) (fun _ i => n - (intOf i).toNat)
  case atStart => exact ⟨0, Nat.zero_le _, rfl, rfl⟩
  case round =>
    obtain ⟨k, hk, rfl, rfl⟩ := hrel
    by_cases hlt : k < n
    · obtain ⟨y, hy⟩ : ∃ y, y = ys[k]?.getD 0 := ⟨_, rfl⟩
      have hck := hc k hlt
      rw [← hy] at hck
      have hyk := HOK.out k hlt
      rw [← hy] at hyk
      obtain ⟨y1, y8⟩ := hyk
      have hbd := orTo_bd ys k (fun j hj => HOK.out j (by omega))
      have hou := or_u8 _ _ hbd.1 hbd.2 y1 y8
      have HS : Hid (orTo ys (k + 1) = bits .or .u8 (orTo ys k) (bitI y)) := by rw [hou.1, hy]; rfl
      clear hou
      clear hy hc
      have hlt' : (k : Int) < (n : Int) := by omega
      have hg : g < w.heap.size := World.block_lt_of_cell? w ⟨g, k, none⟩ hck
      go_wp2_with (first | (go_at_call 45; refine (bitOf_c y y1 y8 _).mono ?_; rintro e w' ⟨rfl, rfl⟩) | go_in)
      go_round
      case rel => exact ⟨k + 1, by omega, by go_num, by rw [HS.out]⟩
      case measure => simp [intOf]; omega
    · have hkn : k = n := by omega
      subst hkn
      obtain ⟨b0, b1⟩ := orTo_bd ys k HOK.out
      go_wp2
      exact bodyPost_ret (v := .agg #[.int .i64 0, .int .i64 (orTo ys k)]) (by simp [results, Tryd.results21, go_sem]) rfl ⟨rfl, (Below.refl _ _).alloc (Nat.le_refl _) _⟩

set_option maxHeartbeats 400000 in
theorem implSetOf_bad (g n cap : Nat) (ys : List Int) (w : World) (hn : n ≤ 20) (hy : ys.length = n) (hc : ∀ k, k < n → w.cell? ⟨g, k, none⟩ = some (.int .i64 (ys[k]?.getD 0))) (j : Nat) (hj : j < n) (hok : okTo ys j) (hbad : ¬ (1 ≤ ys[j]?.getD 0 ∧ ys[j]?.getD 0 ≤ 8)) :
    Calls Tryd.prog 21 #[.slice (some ⟨g, 0, none⟩) n cap] w fun e w' => e = .returned (.agg #[.int .i64 3, .int .i64 0]) ∧ Below w.heap.size w w' := by
  have hn' : (n : Int) ≤ 20 := by omega
  have HY : Hid (ys.length = n) := hy
  clear hy
  have HOK : Hid (okTo ys j) := hok
  clear hok
  have HBAD : Hid (¬ (1 ≤ ys[j]?.getD 0 ∧ ys[j]?.getD 0 ≤ 8)) := hbad
  clear hbad
  go_enter Tryd.func21, Tryd.ntmps21
  go_wp2
  go_loop [3, 12] (fun s i => ∃ k : Nat, k ≤ j ∧ i = .int .i64 (k : Int) ∧ s = .int .u8 (orTo ys k)) (fun _ i => n - (intOf i).toNat)
  case atStart => exact ⟨0, Nat.zero_le _, rfl, rfl⟩
  case round =>
    obtain ⟨k, hk, rfl, rfl⟩ := hrel
    by_cases hlt : k < j
    · obtain ⟨y, hy⟩ : ∃ y, y = ys[k]?.getD 0 := ⟨_, rfl⟩
      have hck := hc k (by omega)
      rw [← hy] at hck
      have hyk := HOK.out k hlt
      rw [← hy] at hyk
      obtain ⟨y1, y8⟩ := hyk
      have hbd := orTo_bd ys k (fun j hj => HOK.out j (by omega))
      have hou := or_u8 _ _ hbd.1 hbd.2 y1 y8
      have HS : Hid (orTo ys (k + 1) = bits .or .u8 (orTo ys k) (bitI y)) := by rw [hou.1, hy]; rfl
      clear hou
      clear hy hc
      have hlt' : (k : Int) < (n : Int) := by omega
      have hg : g < w.heap.size := World.block_lt_of_cell? w ⟨g, k, none⟩ hck
      go_wp2_with (first | (go_at_call 45; refine (bitOf_c y y1 y8 _).mono ?_; rintro e w' ⟨rfl, rfl⟩) | go_in)
      go_round
      case rel => exact ⟨k + 1, by omega, by go_num, by rw [HS.out]⟩
      case measure => simp [intOf]; omega
    · have hkn : k = j := by omega
      subst hkn
      obtain ⟨y, hy⟩ : ∃ y, y = ys[k]?.getD 0 := ⟨_, rfl⟩
      have hck := hc k hj
      rw [← hy] at hck
      have hyk := HBAD.out
      rw [← hy] at hyk
      clear hy hc
      have hlt' : (k : Int) < (n : Int) := by omega
      have hg : g < w.heap.size := World.block_lt_of_cell? w ⟨g, k, none⟩ hck
      by_cases y1 : 1 ≤ y
      · have y8 : decide (y ≤ 8) = false := by simp; omega
        clear hyk
        go_wp2
        exact bodyPost_ret (v := .agg #[.int .i64 3, .int .i64 0]) (by simp [results, Tryd.results21, go_sem]) rfl ⟨rfl, (Below.refl _ _).alloc (Nat.le_refl _) _⟩
      · have y0 : decide (1 ≤ y) = false := by simp; omega
        clear hyk
        go_wp2
        exact bodyPost_ret (v := .agg #[.int .i64 3, .int .i64 0]) (by simp [results, Tryd.results21, go_sem]) rfl ⟨rfl, (Below.refl _ _).alloc (Nat.le_refl _) _⟩

end Go.Proofs.YtajdgbdpmmdlfaaDoor
