/-
  CONTRACTS of spec.l2Digit and spec.l2Read.
  Conditions: each contract bears its own.
-/
import Derived.Test.YtajdgbdpmmdlfaaDoorBack1
import Derived.Test.YtajdgbdpmmdlfaaDoorRole1
import Derived.Deep.RegionHeld3
namespace Go.Proofs.YtajdgbdpmmdlfaaDoor
open Go.RowKit
set_option linter.unusedVariables false
set_option linter.unusedSimpArgs false

/-- One digit, or 0. -/
def digI (b : ByteArray) : Int := if b.size = 1 ∧ 48 ≤ ((b.data.toList[0]?.getD 0).toNat : Int) ∧ ((b.data.toList[0]?.getD 0).toNat : Int) ≤ 57 then ((b.data.toList[0]?.getD 0).toNat : Int) - 48 else 0

set_option maxRecDepth 20000 in
set_option maxHeartbeats 400000 in
theorem l2Digit_c (b : ByteArray) (w : World) (hb : b.size ≤ 1048576) :
    Calls Tryd.prog 78 #[.string b] w fun e w' => e = .returned (.int .i64 (digI b)) ∧ w = w' := by
  by_cases h1 : b.size = 1
  · have hix : ∀ w : World, (Instr.index 9 (.string b) (.int .i64 0)).run Tryd.prog w = .ok (.int .u8 ((b.data.toList[0]?.getD 0).toNat : Int)) w := fun w => str_idx b 0 (by omega) w
    obtain ⟨y, hy⟩ : ∃ y : Int, y = ((b.data.toList[0]?.getD 0).toNat : Int) := ⟨_, rfl⟩
    have E : Hid (digI b = if 48 ≤ y ∧ y ≤ 57 then y - 48 else 0) := by show _ = _; rw [hy]; simp [digI, h1]
    have hy1 : y ≤ 255 := by have := (b.data.toList[0]?.getD 0).toNat_lt; omega
    have hy0 : 0 ≤ y := by omega
    rw [← hy] at hix
    clear hy
    by_cases a1 : 48 ≤ y
    · by_cases a2 : y ≤ 57
      · go_enter Tryd.func78, Tryd.ntmps78
        go_wp2
        go_ret
        exact ⟨by rw [E.out, if_pos ⟨a1, a2⟩]; rfl, rfl⟩
      · have a3 : (57 : Int) < y := by omega
        go_enter Tryd.func78, Tryd.ntmps78
        go_wp2
        go_ret
        exact ⟨by rw [E.out, if_neg (by omega)]; rfl, rfl⟩
    · have a3 : y < (48 : Int) := by omega
      go_enter Tryd.func78, Tryd.ntmps78
      go_wp2
      go_ret
      exact ⟨by rw [E.out, if_neg (by omega)]; rfl, rfl⟩
  · have E : Hid (digI b = 0) := by show _ = _; simp [digI, h1]
    have h2 : ((b.size : Int) != 1) = true := by simp; omega
    clear h1
    go_enter Tryd.func78, Tryd.ntmps78
    go_wp2
    go_ret
    exact ⟨by rw [E.out]; rfl, rfl⟩

/-- A role told by a word. -/
def readI (b : ByteArray) : Int × Int := if (cutB b 46).length = 2 then (digI ((cutB b 46)[0]?.getD ⟨#[]⟩), digI ((cutB b 46)[1]?.getD ⟨#[]⟩)) else (0, 0)

theorem cut_size (t : ByteArray) (c : UInt8) (j : Nat) (b : ByteArray) (h : (cutB t c)[j]? = some b) : b.size ≤ t.size := by
  simp only [cutB, List.getElem?_map, Option.map_eq_some_iff] at h
  obtain ⟨p, _, rfl⟩ := h
  rw [ByteArray.size_extract]
  omega

set_option maxRecDepth 20000 in
set_option maxHeartbeats 1000000 in
theorem l2Read_c (b : ByteArray) (w : World) (hb : b.size ≤ 1048576) :
    Calls Tryd.prog 77 #[.string b] w fun e w' => e = .returned (.agg #[.int .i64 (readI b).1, .int .i64 (readI b).2]) ∧ Below w.heap.size w w' := by
  go_enter Tryd.func77, Tryd.ntmps77
  go_wp2_with fail
  refine (l2Cut_c b 46 _ hb).mono ?_
  rintro e w1 ⟨g, cap, rfl, hown, hb1⟩
  obtain ⟨ps, hps⟩ : ∃ ps, ps = cutB b 46 := ⟨_, rfl⟩
  have hsz : ∀ (j : Nat) (x : ByteArray), ps[j]? = some x → x.size ≤ b.size := fun j x h => cut_size b 46 j x (by rw [← hps]; exact h)
  rw [← hps] at hown ⊢
  obtain ⟨hc1, hf1⟩ := bcell hb1
  have hz1 := hb1.size
  simp only [World.size_alloc] at hc1 hf1 hz1 hown
  have hlt1 : w.heap.size < w1.heap.size := by omega
  have c0 : w1.cell? ⟨w.heap.size, 0, none⟩ = some (.int .i64 0) := (hc1 _ _ (by omega)).trans (by go_cell)
  have c1 : w1.cell? ⟨w.heap.size, 1, none⟩ = some (.int .i64 0) := (hc1 _ _ (by omega)).trans (by go_cell)
  have f0 : w1.frozen? ⟨w.heap.size, 0, none⟩ = false := (hf1 _ _ (by omega)).trans (by simp [go_sem])
  have f1 : w1.frozen? ⟨w.heap.size, 1, none⟩ = false := (hf1 _ _ (by omega)).trans (by simp [go_sem])
  have hgb := hown.lt g rfl
  clear hc1 hf1
  by_cases h2 : ps.length = 2
  · obtain ⟨x, y, rfl⟩ : ∃ x y, ps = [x, y] := by
      match ps, h2 with
      | [x, y], _ => exact ⟨x, y, rfl⟩
    have E : Hid (readI b = (digI x, digI y)) := by show _ = _; simp [readI, ← hps]
    have hx := hsz 0 x rfl
    have hy := hsz 1 y rfl
    have g0 : w1.cell? ⟨g, 0, none⟩ = some (.string x) := by rw [hown.cellAt 0 (by simp)]; rfl
    have g1 : w1.cell? ⟨g, 1, none⟩ = some (.string y) := by rw [hown.cellAt 1 (by simp)]; rfl
    have hgw : w.heap.size < g := by omega
    have hgne : g ≠ w.heap.size := by omega
    have hgl : g < w1.heap.size := hgb.2
    clear hps hsz hown h2 hgb
    simp only [List.length_cons, List.length_nil]
    go_wp2_with fail
    go_region_held3 (fun w' => w'.cell? ⟨g, 0, none⟩ = some (.string x) ∧ w'.cell? ⟨g, 1, none⟩ = some (.string y)) (first | exact ⟨by go_cell, by go_cell⟩ | go_keep) (first | (go_at_call 78; refine (l2Digit_c _ _ (by omega)).mono ?_; rintro e w' ⟨rfl, rfl⟩))
    go_wp2
    refine bodyPost_ret (v := .agg #[.int .i64 (digI x), .int .i64 (digI y)]) (by simp [results, Tryd.results77, go_sem, c0, c1]) rfl ⟨by rw [E.out], ?_⟩
    exact (((below_new hb1).drew).setCell (by simp) _).setCell (by simp) _
  · have E : Hid (readI b = (0, 0)) := by show _ = _; simp only [readI, ← hps, if_neg h2]
    have h3 : ((ps.length : Int) != 2) = true := by simp; omega
    clear hps hsz h2
    go_wp2
    refine bodyPost_ret (v := .agg #[.int .i64 0, .int .i64 0]) (by simp [results, Tryd.results77, go_sem, c0, c1]) rfl ⟨by rw [E.out], ?_⟩
    exact ((below_new hb1).setCell (by simp) _).setCell (by simp) _

end Go.Proofs.YtajdgbdpmmdlfaaDoor
