/-
  CONTRACTS: the digits of 0 to 9 of both programs; the text of a statement, as plain words; spec.l7Text.
  Conditions: each contract bears its own.
-/
import Derived.Test.YtdmejfhojdkfbaaGreatDoorSt4
import Derived.Test.YtdmejfhojdkfbaaGreatDoorText2
import Derived.Test.YtdmejfhojdkfbaaGreatDoorNum1
import Derived.Deep.RegionHeld3
namespace Go.Proofs.YtdmejfhojdkfbaaGreatDoor
open Go.RowKit Go.Shelf
set_option linter.unusedVariables false
set_option linter.unusedSimpArgs false

/-- A digit. -/
def dgT (p : Int) : ByteArray := ⟨#[digitB p]⟩

set_option maxHeartbeats 400000 in
theorem numS_c (p : Int) (p0 : 0 ≤ p) (p1 : p ≤ 9) (w : World) :
    Calls Tryz.prog 27 #[.int .i64 p] w fun e w' => e = .returned (.string (dgT p)) ∧ w = w' := by
  have HF : Hid (∀ w : World, Calls Tryz.prog 52 #[.int .i64 p, .int .i64 10] w fun e w' => e = .returned (.string (dgT p)) ∧ w = w') := fun w => by
    obtain ⟨i, rfl⟩ := Int.eq_ofNat_of_zero_le p0
    refine (Tryz.strconv_FormatInt_10_small i (by omega) w).mono fun e w' hh => ⟨?_, hh.2.symm⟩
    rw [hh.1, Lib.decDigits, dif_pos (by omega)]
    rfl
  go_enter Tryz.func27, Tryz.ntmps27
  go_wp2_with (go_at_call 52; refine (HF.out _).mono ?_; rintro e w' ⟨rfl, rfl⟩)
  go_ret
  exact ⟨rfl, rfl⟩

set_option maxHeartbeats 400000 in
theorem digS_c (p : Int) (p0 : 0 ≤ p) (p1 : p ≤ 9) (w : World) :
    Calls Tryz.prog 44 #[.int .i64 p] w fun e w' => e = .returned (.string (dgT p)) ∧ Below w.heap.size w w' := by
  by_cases h0 : p = 0
  · subst h0
    have hcv := conv1 w 48 48 rfl
    go_enter Tryz.func44, Tryz.ntmps44
    go_wp2
    go_ret
    exact ⟨rfl, (Below.refl _ _).alloc (Nat.le_refl _) _⟩
  by_cases h9 : p = 9
  · subst h9
    have hcv := conv1 w 57 57 rfl
    go_enter Tryz.func44, Tryz.ntmps44
    go_wp2
    go_ret
    exact ⟨rfl, (Below.refl _ _).alloc (Nat.le_refl _) _⟩
  exact l1Digits_c p (by omega) (by omega) w

/-- The words of a statement's text. -/
def stW (x : StI) : List ByteArray := if formK x.k = true then [swT x.k, dgT x.e, dgT x.f, textI x.s] else [swT x.k, dgT x.e, dgT x.n]

/-- The text of a statement. -/
def stText (x : StI) : ByteArray := ⟨(Lib.join ((stW x).map (·.data.toList)) [32]).toArray⟩

theorem stT_next {x : StI} (h : formK x.k = false) : stText x = ⟨((swT x.k).data.toList ++ 32 :: digitB x.e :: 32 :: digitB x.n :: []).toArray⟩ := by
  unfold stText stW
  rw [h]
  simp [dgT, Lib.join]

theorem stT_form {x : StI} (h : formK x.k = true) : stText x = ⟨((swT x.k).data.toList ++ 32 :: digitB x.e :: 32 :: digitB x.f :: 32 :: (textI x.s).data.toList).toArray⟩ := by
  unfold stText stW
  rw [h]
  simp [dgT, Lib.join]

end Go.Proofs.YtdmejfhojdkfbaaGreatDoor
