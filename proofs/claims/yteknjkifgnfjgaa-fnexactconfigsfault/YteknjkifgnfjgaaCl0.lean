/-
  CONTRACTS: ClassesFault and ClashForms of both programs.
  Conditions: each contract bears its own.
-/
import Derived.Test.YteknjkifgnfjgaaIn0
import Derived.Test.YteknjkifgnfjgaaLk1
import Derived.Test.YteknjkifgnfjgaaPlain
namespace Go.Proofs.Yteknjkifgnfjgaa
open Go.RowKit
set_option linter.unusedVariables false
set_option linter.unusedSimpArgs false

def clCode (zs : List Int) : Int := if 4 < zs.length then 2 else if zs.all (fun c => inR c 0 15) = true then 0 else 3

theorem clCode_bad {zs : List Int} {k : Nat} {x : Int} (hl : zs.length ≤ 4) (hx : zs[k]? = some x) (hb : inR x 0 15 = false) : clCode zs = 3 := by
  unfold clCode
  rw [if_neg (by omega), if_neg]
  intro h
  have := List.all_eq_true.1 h x (List.mem_of_getElem? hx)
  rw [hb] at this
  cases this

theorem clCode_ok {zs : List Int} (hl : zs.length ≤ 4) (h : ∀ (k : Nat) (x : Int), k < zs.length → zs[k]? = some x → inR x 0 15 = true) : clCode zs = 0 := by
  unfold clCode
  rw [if_neg (by omega), if_pos]
  refine List.all_eq_true.2 (fun x hx => ?_)
  obtain ⟨k, hk⟩ := List.mem_iff_getElem?.1 hx
  exact h k x (by
    by_cases q : k < zs.length
    · exact q
    · rw [List.getElem?_eq_none (by omega)] at hk; cases hk) hk

theorem cl_ok {zs : List Int} (h : clCode zs = 0) : zs.length ≤ 4 ∧ ∀ x ∈ zs, inR x 0 15 = true := by
  unfold clCode at h
  split at h
  · cases h
  · split at h
    · rename_i q1 q2
      exact ⟨by omega, List.all_eq_true.1 q2⟩
    · cases h

theorem inR_iff (v lo hi : Int) : inR v lo hi = true ↔ lo ≤ v ∧ v ≤ hi := by simp [inR]

set_option maxHeartbeats 400000 in
theorem cin_c (v lo hi : Int) (w : World) : Calls Try.prog 54 #[.int .i64 v, .int .i64 lo, .int .i64 hi] w fun e w' => e = .returned (.bool (inR v lo hi)) ∧ w = w' := by
  unfold inR
  cases h0 : decide (lo ≤ v)
  · go_enter Try.func54, Try.ntmps54
    go_wp2
    go_ret
    exact ⟨by simp, rfl⟩
  · cases h1 : decide (v ≤ hi)
    all_goals
      go_enter Try.func54, Try.ntmps54
      go_wp2
      go_ret
      exact ⟨by simp, rfl⟩

set_option maxHeartbeats 400000 in
theorem sEpoch_c (v : Int) (w : World) : Calls Try.prog 38 #[.int .i64 v] w fun e w' => e = .returned (.bool (inR v 1 9)) ∧ w = w' := by
  go_enter Try.func38, Try.ntmps38
  go_wp2_with (go_at_call 54; refine (cin_c _ _ _ _).mono ?_; rintro e w' ⟨rfl, rfl⟩)
  go_ret
  exact ⟨rfl, rfl⟩

set_option maxHeartbeats 400000 in
theorem sPrin_c (v : Int) (w : World) : Calls Try.prog 66 #[.int .i64 v] w fun e w' => e = .returned (.bool (inR v 1 8)) ∧ w = w' := by
  go_enter Try.func66, Try.ntmps66
  go_wp2_with (go_at_call 54; refine (cin_c _ _ _ _).mono ?_; rintro e w' ⟨rfl, rfl⟩)
  go_ret
  exact ⟨rfl, rfl⟩

set_option maxHeartbeats 400000 in
theorem iEpoch_c (v : Int) (w : World) : Calls Try.prog 45 #[.int .i64 v] w fun e w' => e = .returned (.bool (inR v 1 9)) ∧ w = w' := by
  unfold inR
  cases h0 : decide (1 ≤ v)
  · go_enter Try.func45, Try.ntmps45
    go_wp2
    go_ret
    exact ⟨by simp, rfl⟩
  · cases h1 : decide (v ≤ 9)
    all_goals
      go_enter Try.func45, Try.ntmps45
      go_wp2
      go_ret
      exact ⟨by simp, rfl⟩

set_option maxHeartbeats 400000 in
theorem iPrin_c (v : Int) (w : World) : Calls Try.prog 76 #[.int .i64 v] w fun e w' => e = .returned (.bool (inR v 1 8)) ∧ w = w' := by
  unfold inR
  cases h0 : decide (1 ≤ v)
  · go_enter Try.func76, Try.ntmps76
    go_wp2
    go_ret
    exact ⟨by simp, rfl⟩
  · cases h1 : decide (v ≤ 8)
    all_goals
      go_enter Try.func76, Try.ntmps76
      go_wp2
      go_ret
      exact ⟨by simp, rfl⟩

set_option maxHeartbeats 400000 in
theorem implClassesFault_c (a : Option Addr) (n cap : Nat) (zs : List Int) (w : World) (h : IntIn w a n zs) :
    Calls Try.prog 62 #[.slice a n cap] w fun e w' => e = .returned (.int .i64 (clCode zs)) ∧ w = w' := by
  have HZ : Hid (zs.length = n) := h.1
  have HI : Hid (IntIn w a n zs) := h
  clear h
  by_cases h4 : 4 < n
  · have hc : clCode zs = 2 := by unfold clCode; rw [if_pos (by rw [HZ.out]; exact h4)]
    rw [hc]
    clear hc
    have h4' : (4 : Int) < (n : Int) := by omega
    go_enter Try.func62, Try.ntmps62
    go_wp2
    go_ret
    exact ⟨rfl, rfl⟩
  · have h4' : (n : Int) ≤ 4 := by omega
    go_enter Try.func62, Try.ntmps62
    go_wp2
    go_loop [10] (fun i => ∃ k : Nat, k ≤ n ∧ i = .int .i64 (k : Int) ∧ ∀ (j : Nat) (x : Int), j < k → zs[j]? = some x → inR x 0 15 = true) (fun i => n - (intOf i).toNat)
    case atStart => exact ⟨0, Nat.zero_le _, rfl, fun j x hj => by omega⟩
    case round =>
      obtain ⟨k, hk, rfl, hok⟩ := hrel
      have HOK : Hid (∀ (j : Nat) (x : Int), j < k → zs[j]? = some x → inR x 0 15 = true) := hok
      clear hok
      by_cases hlt : k < n
      · obtain ⟨b, off, x, e, hx, hc, hb⟩ := HI.out.at hlt
        subst e
        have HX : Hid (zs[k]? = some x) := hx
        clear hx
        have hlt' : (k : Int) < (n : Int) := by omega
        by_cases q0 : x < 0
        · have HB : Hid (clCode zs = 3) := clCode_bad (by rw [HZ.out]; omega) HX.out (by simp [inR]; omega)
          go_wp2
          go_ret
          exact ⟨by rw [HB.out]; rfl, rfl⟩
        · by_cases q1 : 16 ≤ x
          · have HB : Hid (clCode zs = 3) := clCode_bad (by rw [HZ.out]; omega) HX.out (by simp [inR]; omega)
            go_wp2
            go_ret
            exact ⟨by rw [HB.out]; rfl, rfl⟩
          · have HN : Hid (∀ (j : Nat) (y : Int), j < k + 1 → zs[j]? = some y → inR y 0 15 = true) := fun j y hj hy => by
              by_cases e : j = k
              · subst e
                rw [HX.out] at hy
                cases hy
                simp [inR]; omega
              · exact HOK.out j y (by omega) hy
            go_wp2
            go_round
            case rel => exact ⟨k + 1, by omega, by go_num, HN.out⟩
            case measure => simp [intOf]; omega
      · have hkn : k = n := by omega
        subst hkn
        have HB : Hid (clCode zs = 0) := clCode_ok (by rw [HZ.out]; omega) (fun j x hj hx => HOK.out j x (by rw [HZ.out] at hj; exact hj) hx)
        go_wp2
        go_ret
        exact ⟨by rw [HB.out]; rfl, rfl⟩

set_option maxHeartbeats 400000 in
theorem l5Classes_c (a : Option Addr) (n cap : Nat) (zs : List Int) (w : World) (h : IntIn w a n zs) :
    Calls Try.prog 42 #[.slice a n cap] w fun e w' => e = .returned (.int .i64 (clCode zs)) ∧ w = w' := by
  have HZ : Hid (zs.length = n) := h.1
  have HI : Hid (IntIn w a n zs) := h
  clear h
  by_cases h4 : 4 < n
  · have hc : clCode zs = 2 := by unfold clCode; rw [if_pos (by rw [HZ.out]; exact h4)]
    rw [hc]
    clear hc
    have h4' : (4 : Int) < (n : Int) := by omega
    go_enter Try.func42, Try.ntmps42
    go_wp2
    go_ret
    exact ⟨rfl, rfl⟩
  · have h4' : (n : Int) ≤ 4 := by omega
    go_enter Try.func42, Try.ntmps42
    go_wp2
    go_loop [3] (fun i => ∃ k : Nat, k ≤ n ∧ i = .int .i64 (k : Int) ∧ ∀ (j : Nat) (x : Int), j < k → zs[j]? = some x → inR x 0 15 = true) (fun i => n - (intOf i).toNat)
    case atStart => exact ⟨0, Nat.zero_le _, rfl, fun j x hj => by omega⟩
    case round =>
      obtain ⟨k, hk, rfl, hok⟩ := hrel
      have HOK : Hid (∀ (j : Nat) (x : Int), j < k → zs[j]? = some x → inR x 0 15 = true) := hok
      clear hok
      by_cases hlt : k < n
      · obtain ⟨b, off, x, e, hx, hc, hb⟩ := HI.out.at hlt
        subst e
        have HX : Hid (zs[k]? = some x) := hx
        clear hx
        have hlt' : (k : Int) < (n : Int) := by omega
        by_cases q0 : inR x 0 15 = true
        · have HN : Hid (∀ (j : Nat) (y : Int), j < k + 1 → zs[j]? = some y → inR y 0 15 = true) := fun j y hj hy => by
            by_cases e : j = k
            · subst e
              rw [HX.out] at hy
              cases hy
              exact q0
            · exact HOK.out j y (by omega) hy
          have HQ : Hid (inR x 0 15 = true) := q0
          clear q0
          go_wp2_with (go_at_call 54; refine (cin_c _ _ _ _).mono ?_; rintro e w' ⟨rfl, rfl⟩; rw [HQ.out])
          go_round
          case rel => exact ⟨k + 1, by omega, by go_num, HN.out⟩
          case measure => simp [intOf]; omega
        · have HQ : Hid (inR x 0 15 = false) := by show inR x 0 15 = false; simpa using q0
          clear q0
          have HB : Hid (clCode zs = 3) := clCode_bad (by rw [HZ.out]; omega) HX.out HQ.out
          go_wp2_with (go_at_call 54; refine (cin_c _ _ _ _).mono ?_; rintro e w' ⟨rfl, rfl⟩; rw [HQ.out])
          go_ret
          exact ⟨by rw [HB.out]; rfl, rfl⟩
      · have hkn : k = n := by omega
        subst hkn
        have HB : Hid (clCode zs = 0) := clCode_ok (by rw [HZ.out]; omega) (fun j x hj hx => HOK.out j x (by rw [HZ.out] at hj; exact hj) hx)
        go_wp2
        go_ret
        exact ⟨by rw [HB.out]; rfl, rfl⟩

end Go.Proofs.Yteknjkifgnfjgaa
