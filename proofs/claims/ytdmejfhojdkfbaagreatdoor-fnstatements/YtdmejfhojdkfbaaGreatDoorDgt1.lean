/-
  CONTRACT of spec.l2Digit: one digit, or 0.
  Conditions: the text has at most 1<<20 bytes.
-/
import Derived.Test.YtdmejfhojdkfbaaGreatDoorCut1
namespace Go.Proofs.YtdmejfhojdkfbaaGreatDoor
open Go.RowKit
set_option linter.unusedVariables false
set_option linter.unusedSimpArgs false

/-- One digit, or 0. -/
def digI (b : ByteArray) : Int := if b.size = 1 ∧ 48 ≤ ((b.data.toList[0]?.getD 0).toNat : Int) ∧ ((b.data.toList[0]?.getD 0).toNat : Int) ≤ 57 then ((b.data.toList[0]?.getD 0).toNat : Int) - 48 else 0

set_option maxRecDepth 20000 in
set_option maxHeartbeats 400000 in
theorem l2Digit_c (b : ByteArray) (w : World) (hb : b.size ≤ 1048576) :
    Calls Tryz.prog 58 #[.string b] w fun e w' => e = .returned (.int .i64 (digI b)) ∧ w = w' := by
  by_cases h1 : b.size = 1
  · have hix : ∀ w : World, (Instr.index 9 (.string b) (.int .i64 0)).run Tryz.prog w = .ok (.int .u8 ((b.data.toList[0]?.getD 0).toNat : Int)) w := fun w => str_idx b 0 (by omega) w
    obtain ⟨y, hy⟩ : ∃ y : Int, y = ((b.data.toList[0]?.getD 0).toNat : Int) := ⟨_, rfl⟩
    have E : Hid (digI b = if 48 ≤ y ∧ y ≤ 57 then y - 48 else 0) := by show _ = _; rw [hy]; simp [digI, h1]
    have hy1 : y ≤ 255 := by have := (b.data.toList[0]?.getD 0).toNat_lt; omega
    have hy0 : 0 ≤ y := by omega
    rw [← hy] at hix
    clear hy
    by_cases a1 : 48 ≤ y
    · by_cases a2 : y ≤ 57
      · go_enter Tryz.func58, Tryz.ntmps58
        go_wp2
        go_ret
        exact ⟨by rw [E.out, if_pos ⟨a1, a2⟩]; rfl, rfl⟩
      · have a3 : (57 : Int) < y := by omega
        go_enter Tryz.func58, Tryz.ntmps58
        go_wp2
        go_ret
        exact ⟨by rw [E.out, if_neg (by omega)]; rfl, rfl⟩
    · have a3 : y < (48 : Int) := by omega
      go_enter Tryz.func58, Tryz.ntmps58
      go_wp2
      go_ret
      exact ⟨by rw [E.out, if_neg (by omega)]; rfl, rfl⟩
  · have E : Hid (digI b = 0) := by show _ = _; simp [digI, h1]
    have h2 : ((b.size : Int) != 1) = true := by simp; omega
    clear h1
    go_enter Tryz.func58, Tryz.ntmps58
    go_wp2
    go_ret
    exact ⟨by rw [E.out]; rfl, rfl⟩

theorem cut_size (t : ByteArray) (c : UInt8) (j : Nat) (b : ByteArray) (h : (cutB t c)[j]? = some b) : b.size ≤ t.size := by
  simp only [cutB, List.getElem?_map, Option.map_eq_some_iff] at h
  obtain ⟨p, _, rfl⟩ := h
  rw [ByteArray.size_extract]
  omega

end Go.Proofs.YtdmejfhojdkfbaaGreatDoor
