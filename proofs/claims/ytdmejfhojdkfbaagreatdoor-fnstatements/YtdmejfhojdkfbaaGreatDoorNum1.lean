/-
  CONTRACTS of strconv.FormatInt and impl.numberText, for 1 to 8.
  Conditions: the number is 1 to 8.
-/
import Derived.Test.YtdmejfhojdkfbaaGreatDoorText1
import Derived.Test.YtdmejfhojdkfbaaGreatDoorShelf
namespace Go.Proofs.YtdmejfhojdkfbaaGreatDoor
open Go.RowKit Go.Shelf
set_option linter.unusedVariables false

theorem dec_digit (p : Int) (p0 : 1 ≤ p) (p1 : p ≤ 8) : Lib.decDigits p.toNat = [digitB p] := by
  rw [Lib.decDigits, dif_pos (by omega)]
  rfl

set_option maxHeartbeats 400000 in
theorem fmt_c (p : Int) (p0 : 1 ≤ p) (p1 : p ≤ 8) (w : World) :
    Calls Tryz.prog 52 #[.int .i64 p, .int .i64 10] w fun e w' => e = .returned (.string ⟨#[digitB p]⟩) ∧ w = w' := by
  obtain ⟨i, rfl⟩ := Int.eq_ofNat_of_zero_le (show 0 ≤ p by omega)
  have h := dec_digit (i : Int) p0 p1
  rw [Int.toNat_natCast] at h
  refine (Tryz.strconv_FormatInt_10_small i (by omega) w).mono fun e w' hh => ⟨?_, hh.2.symm⟩
  rw [hh.1, h]

set_option maxHeartbeats 400000 in
theorem num_c (p : Int) (p0 : 1 ≤ p) (p1 : p ≤ 8) (w : World) :
    Calls Tryz.prog 27 #[.int .i64 p] w fun e w' => e = .returned (.string ⟨#[digitB p]⟩) ∧ w = w' := by
  go_enter Tryz.func27, Tryz.ntmps27
  go_wp2_with (go_at_call 52; refine (fmt_c p p0 p1 _).mono ?_; rintro e w' ⟨rfl, rfl⟩)
  go_ret
  exact ⟨rfl, rfl⟩

end Go.Proofs.YtdmejfhojdkfbaaGreatDoor
