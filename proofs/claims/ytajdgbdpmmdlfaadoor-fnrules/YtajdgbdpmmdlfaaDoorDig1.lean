/-
  CONTRACT of impl.digitsIn: the digits of a text.
  Conditions: the text has at most 1<<20 bytes.
-/
import Derived.Test.YtajdgbdpmmdlfaaDoorParse1
import Derived.Handy
namespace Go.Proofs.YtajdgbdpmmdlfaaDoor
open Go.RowKit
set_option linter.unusedVariables false

/-- The digits among the first k of some bytes. -/
def digTo (bs : List UInt8) : Nat → List Int
  | 0 => []
  | k + 1 => if 48 ≤ ((bs[k]?.getD 0).toNat : Int) ∧ ((bs[k]?.getD 0).toNat : Int) ≤ 57 then digTo bs k ++ [((bs[k]?.getD 0).toNat : Int) - 48] else digTo bs k

theorem digTo_le (bs : List UInt8) (k : Nat) : (digTo bs k).length ≤ k := by
  induction k with
  | zero => simp [digTo]
  | succ k ih =>
    simp only [digTo]
    split
    · simp; omega
    · omega

/-- An append of one more digit, behind the law of append. -/
theorem dig_keep {B : Nat} {ds : List Int} {d : Int} {w wr w1 : World} {u v' : Value} {o : Obj} (hB : B ≤ wr.heap.size)
    (hown : wr.ownsRow B 2 1 u ds.length (ds.map (Value.int .i64))) (hnx : Below B w wr)
    (hown' : w1.ownsRow B 2 1 v' (ds.length + 1) (ds.map (Value.int .i64) ++ [.int .i64 d])) (hgrow : (wr.alloc o).grownBy w1 u.ownBlock) :
    w1.ownsRow B 2 1 v' (ds ++ [d]).length ((ds ++ [d]).map (Value.int .i64)) ∧ Below B w w1 := by
  refine ⟨by simpa using hown', (hnx.alloc (by omega) o).grown hgrow (by simp; omega) (fun j hj => by have := (hown.lt j hj).1; omega)⟩

/-- The bytes stay behind an append. -/
theorem bytes_keep {B g : Nat} {t : ByteArray} {wr w1 : World} {u : Value} {o : Obj} {ds : List Int} (hg : g < B)
    (hc : ∀ j, j < t.size → wr.cell? ⟨g, j, none⟩ = some (.int .u8 ((t.data.toList[j]?.getD 0).toNat : Int))) (hown : wr.ownsRow B 2 1 u ds.length (ds.map (Value.int .i64))) (hgrow : (wr.alloc o).grownBy w1 u.ownBlock) (hz : B ≤ wr.heap.size) :
    ∀ j, j < t.size → w1.cell? ⟨g, j, none⟩ = some (.int .u8 ((t.data.toList[j]?.getD 0).toNat : Int)) := by
  intro j hj
  have hb : Below B wr w1 := ((Below.refl _ _).alloc hz o).grown hgrow (by simp; omega) (fun j hj => by have := (hown.lt j hj).1; omega)
  rw [hb.cell (p := ⟨g, j, none⟩) hg]
  exact hc j hj

set_option maxRecDepth 20000 in
set_option maxHeartbeats 1000000 in
theorem digitsIn_c (t : ByteArray) (w : World) (ht : t.size ≤ 1048576) :
    Calls Tryd.prog 56 #[.string t] w fun e w' => ∃ a cap, e = .returned (.slice a (digTo t.data.toList t.size).length cap) ∧
      w'.ownsRow (w.heap.size + 1) 2 1 (.slice a (digTo t.data.toList t.size).length cap) (digTo t.data.toList t.size).length ((digTo t.data.toList t.size).map (Value.int .i64)) ∧ Below w.heap.size w w' := by
  obtain ⟨i0, hi, hz0, hz1, hz2⟩ := info_parts Tryd.info2
  obtain ⟨cap0, wB, hconv, hcs, hbel, hsz⟩ := conv_bytes w t
  have HC : Hid (∀ j, j < t.size → wB.cell? ⟨w.heap.size, j, none⟩ = some (.int .u8 ((t.data.toList[j]?.getD 0).toNat : Int))) := hcs
  have HB : Hid (Below w.heap.size w wB) := hbel
  have HZ : Hid (wB.heap.size = w.heap.size + 1) := hsz
  clear hcs hbel hsz
  have ht' : (t.size : Int) ≤ 1048576 := by omega
  go_enter Tryd.func56, Tryd.ntmps56
  go_wp2
  go_loopw [3, 9] (fun v p wr => ∃ k : Nat, k ≤ t.size ∧ p = .int .i64 (k : Int) ∧ wr.ownsRow (w.heap.size + 1) 2 1 v (digTo t.data.toList k).length ((digTo t.data.toList k).map (Value.int .i64)) ∧ Below (w.heap.size + 1) wB wr)
    (fun _ p _ => t.size - (intOf p).toNat)
  case atStart => exact ⟨0, Nat.zero_le _, rfl, World.ownsRow_nil _ _ _ _, Below.refl _ _⟩
  case round =>
    obtain ⟨k, hk, rfl, hown, hnx⟩ := hrel
    by_cases hlt : k < t.size
    · have hlt' : (k : Int) < (t.size : Int) := by omega
      obtain ⟨y, hy⟩ : ∃ y : Int, y = ((t.data.toList[k]?.getD 0).toNat : Int) := ⟨_, rfl⟩
      have hck : wr.cell? ⟨w.heap.size, k, none⟩ = some (.int .u8 y) := by
        rw [hnx.cell (p := ⟨w.heap.size, k, none⟩) (by simp), hy]
        exact HC.out k hlt
      have hy0 : 0 ≤ y := by omega
      have hy1 : y ≤ 255 := by have := (t.data.toList[k]?.getD 0).toNat_lt; omega
      obtain ⟨ds, hds⟩ : ∃ ds, ds = digTo t.data.toList k := ⟨_, rfl⟩
      have hdl := digTo_le t.data.toList k
      have HS : Hid (digTo t.data.toList (k + 1) = if 48 ≤ y ∧ y ≤ 57 then ds ++ [y - 48] else ds) := by show _ = _; rw [hy, hds]; rfl
      rw [← hds] at hown hdl
      clear hy hds
      have hzr := hnx.size
      rw [HZ.out] at hzr
      by_cases h1 : 48 ≤ y ∧ y ≤ 57
      · have HIT : Hid (digTo t.data.toList (k + 1) = ds ++ [y - 48]) := HS.out.trans (if_pos h1)
        obtain ⟨y48, y57⟩ := h1
        clear HS
        go_wp2_with (at_builtin; refine wpList_append_own _ rfl _ _ 32 rfl (w.heap.size + 1) 2 i0 (.int .i64 0) 1 8 Tryd.underlying32 hi hz0 hz1 hz2 rfl (by decide) _ _ _ rfl (hown.alloc _) ⟨wr.heap.size, 0, none⟩ 1 1 [.int .i64 (y - 48)] rfl rfl ?c1 ?c2 ?c3 ?c4 ?c5 ?_)
        case c1 =>
          intro j u hj
          match j, hj with
          | 0, hj => simp at hj; subst hj; simp [Addr.add]
        case c2 => intro u hu; simp at hu; subst hu; rfl
        case c3 => unfold maxLen; omega
        case c4 => omega
        case c5 => simp; omega
        intro v' w1 hown' hgrow hnil
        clear hnil
        have Q := dig_keep (by omega) hown hnx hown' hgrow
        clear hown' hgrow hown hck
        go_wp2
        go_roundw
        case rel => exact ⟨k + 1, by omega, by go_num, by rw [HIT.out]; exact Q.1, Q.2⟩
        case measure => simp [intOf]; omega
      · have HIT : Hid (digTo t.data.toList (k + 1) = ds) := HS.out.trans (if_neg h1)
        clear HS
        by_cases hlo : 48 ≤ y
        · have y57 : decide (y ≤ 57) = false := by simp; omega
          clear h1
          go_wp2
          exact ⟨⟨k + 1, by omega, by go_num, by rw [HIT.out]; exact hown, hnx⟩, by simp [intOf]; omega⟩
        · have y48 : decide (48 ≤ y) = false := by simp; omega
          clear h1
          go_wp2
          exact ⟨⟨k + 1, by omega, by go_num, by rw [HIT.out]; exact hown, hnx⟩, by simp [intOf]; omega⟩
    · have hkn : k = t.size := by omega
      subst hkn
      obtain ⟨a, cap, hv⟩ := owns_slice hown
      rw [hv] at hown ⊢
      clear hv
      have hzr := hnx.size
      go_wp2
      go_ret
      exact ⟨a, cap, rfl, hown, HB.out.trans (hnx.mono (by omega))⟩

end Go.Proofs.YtajdgbdpmmdlfaaDoor
