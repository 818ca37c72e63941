/-
  CONTRACTS: InSet of a set and any principal, HasRole of both programs.
  Conditions: each contract bears its own.
-/
import Derived.Test.YtipmkdacnpkgjaaMo1
import Derived.Test.YtipmkdacnpkgjaaGf2
import Derived.Test.YtipmkdacnpkgjaaGf1
import Derived.Test.YtipmkdacnpkgjaaBits1
import Derived.Test.YtipmkdacnpkgjaaSpec1
namespace Go.Proofs.Ytipmkdacnpkgjaa
open Go.RowKit
set_option linter.unusedVariables false
set_option linter.unusedSimpArgs false

def inB (s p : Int) : Bool := prinB p && hasI s p

theorem set_in {s : Int} (h : setB s) : setIn s = true := by
  unfold setIn
  simp [h.1, h.2]

set_option maxHeartbeats 400000 in
theorem specIn_c (s p : Int) (h : setB s) (w : World) :
    Calls Try.prog 64 #[.int .i64 s, .int .i64 p] w fun e w' => e = .returned (.bool (inB s p)) ∧ w = w' := by
  have hS := set_in h
  unfold inB
  cases hp : prinB p
  · go_enter Try.func64, Try.ntmps64
    go_wp2_with (first | (go_at_call 93; refine (l1Set_c s _).mono ?_; rintro e w' ⟨rfl, rfl⟩; rw [hS]) | (go_at_call 66; refine (l1Principal_c p _).mono ?_; rintro e w' ⟨rfl, rfl⟩; rw [hp]) | fail)
    go_ret
    exact ⟨rfl, rfl⟩
  · have hp' : 1 ≤ p ∧ p ≤ 8 := by simpa [prinB] using hp
    go_enter Try.func64, Try.ntmps64
    go_wp2_with (first | (go_at_call 93; refine (l1Set_c s _).mono ?_; rintro e w' ⟨rfl, rfl⟩; rw [hS]) | (go_at_call 66; refine (l1Principal_c p _).mono ?_; rintro e w' ⟨rfl, rfl⟩; rw [hp]) | (go_at_call 67; refine (l1Has_c s p h.1 h.2 hp'.1 hp'.2 _).mono ?_; rintro e w' ⟨rfl, rfl⟩) | fail)
    go_ret
    exact ⟨rfl, rfl⟩

set_option maxHeartbeats 400000 in
theorem implIn_c (s p : Int) (h : setB s) (w : World) :
    Calls Try.prog 65 #[.int .i64 s, .int .i64 p] w fun e w' => e = .returned (.bool (inB s p)) ∧ w = w' := by
  have HF : Hid (∀ w : World, Calls Try.prog 55 #[.int .i64 s] w fun e w' => e = .returned (.int .i64 0) ∧ w = w') := fun w => by
    have := setFault_c s w
    rwa [if_pos (set_in h)] at this
  unfold inB
  cases hp : prinB p
  · go_enter Try.func65, Try.ntmps65
    go_wp2_with (first | (go_at_call 55; refine (HF.out _).mono ?_; rintro e w' ⟨rfl, rfl⟩) | (go_at_call 69; refine (isPrin_c p _).mono ?_; rintro e w' ⟨rfl, rfl⟩; rw [hp]) | go_in)
    go_ret
    exact ⟨rfl, rfl⟩
  · have hp' : 1 ≤ p ∧ p ≤ 8 := by simpa [prinB] using hp
    have h1 := h.1
    have h2 := h.2
    have h3 : s < (256 : Int) := by omega
    have e2 : (bits .and .u8 s (bitI p) != 0) = hasI s p := and_u8 s p h.1 h.2 hp'.1 hp'.2
    go_enter Try.func65, Try.ntmps65
    go_wp2_with (first | (go_at_call 55; refine (HF.out _).mono ?_; rintro e w' ⟨rfl, rfl⟩) | (go_at_call 69; refine (isPrin_c p _).mono ?_; rintro e w' ⟨rfl, rfl⟩; rw [hp]) | (go_at_call 71; refine (bitOf_c p hp'.1 hp'.2 _).mono ?_; rintro e w' ⟨rfl, rfl⟩) | go_in)
    go_ret
    exact ⟨rfl, rfl⟩

def GivesB (f : Nat) (a : Option Addr) (n cap : Nat) (r : RoI) (p : Int) (b : Bool) (w : World) : Prop := Calls Try.prog f #[.slice a n cap, .agg #[.int .i64 r.1, .int .i64 r.2], .int .i64 p] w fun e w' => e = .returned (.bool b) ∧ Below w.heap.size w w'

set_option maxHeartbeats 1000000 in
theorem specHasRole_c (a : Option Addr) (n cap : Nat) (r : RoI) (p c v : Int) (w : World) (hv : c = 0 → setB v)
    (H : Hid (∀ w', Below w.heap.size w w' → GivesI 20 a n cap r c v w')) : GivesB 34 a n cap r p (c == 0 && inB v p) w := by
  have B0 : Below w.heap.size w (w.alloc (.cells #[.int .i64 r.1, .int .i64 r.2] 35)) := (Below.refl _ _).alloc (Nat.le_refl _) _
  have HV : Hid (c = 0 → setB v) := hv
  clear hv
  by_cases h0 : c = 0
  · obtain ⟨d, hd⟩ : ∃ d, inB v p = d := ⟨_, rfl⟩
    have HI : Hid (∀ w : World, Calls Try.prog 64 #[.int .i64 v, .int .i64 p] w fun e w' => e = .returned (.bool d) ∧ w = w') := fun w => by rw [← hd]; exact specIn_c v p (HV.out h0) w
    subst h0
    rw [hd, show ((0 : Int) == 0 && d) = d by simp]
    clear hd HV
    unfold GivesB
    go_enter Try.func34, Try.ntmps34
    go_wp2_with fail
    refine (H.out _ B0).mono ?_
    rintro e w1 ⟨rfl, hb1⟩
    have hb : Below w.heap.size w w1 := B0.trans (hb1.mono B0.size)
    go_wp2_with (first | (go_at_call 64; refine (HI.out _).mono ?_; rintro e w' ⟨rfl, rfl⟩) | fail)
    go_ret
    exact ⟨rfl, hb.alloc hb.size _⟩
  · have e : (c == 0) = false := by simpa using h0
    rw [e, Bool.false_and]
    clear HV
    unfold GivesB
    go_enter Try.func34, Try.ntmps34
    go_wp2_with fail
    refine (H.out _ B0).mono ?_
    rintro e w1 ⟨rfl, hb1⟩
    have hb : Below w.heap.size w w1 := B0.trans (hb1.mono B0.size)
    go_wp2_with fail
    go_ret
    exact ⟨rfl, hb.alloc hb.size _⟩

set_option maxHeartbeats 1000000 in
theorem implHasRole_c (a : Option Addr) (n cap : Nat) (r : RoI) (p c v : Int) (w : World) (hv : c = 0 → setB v)
    (H : Hid (∀ w', Below w.heap.size w w' → GivesI 18 a n cap r c v w')) : GivesB 35 a n cap r p (c == 0 && inB v p) w := by
  have B0 : Below w.heap.size w (w.alloc (.cells #[.int .i64 r.1, .int .i64 r.2] 35)) := (Below.refl _ _).alloc (Nat.le_refl _) _
  have HV : Hid (c = 0 → setB v) := hv
  clear hv
  by_cases h0 : c = 0
  · obtain ⟨d, hd⟩ : ∃ d, inB v p = d := ⟨_, rfl⟩
    have HI : Hid (∀ w : World, Calls Try.prog 65 #[.int .i64 v, .int .i64 p] w fun e w' => e = .returned (.bool d) ∧ w = w') := fun w => by rw [← hd]; exact implIn_c v p (HV.out h0) w
    subst h0
    rw [hd, show ((0 : Int) == 0 && d) = d by simp]
    clear hd HV
    unfold GivesB
    go_enter Try.func35, Try.ntmps35
    go_wp2_with fail
    refine (H.out _ B0).mono ?_
    rintro e w1 ⟨rfl, hb1⟩
    have hb : Below w.heap.size w w1 := B0.trans (hb1.mono B0.size)
    go_wp2_with (first | (go_at_call 65; refine (HI.out _).mono ?_; rintro e w' ⟨rfl, rfl⟩) | fail)
    go_ret
    exact ⟨rfl, hb.alloc hb.size _⟩
  · have e : (c == 0) = false := by simpa using h0
    rw [e, Bool.false_and]
    clear HV
    unfold GivesB
    go_enter Try.func35, Try.ntmps35
    go_wp2_with fail
    refine (H.out _ B0).mono ?_
    rintro e w1 ⟨rfl, hb1⟩
    have hb : Below w.heap.size w w1 := B0.trans (hb1.mono B0.size)
    go_wp2_with fail
    go_ret
    exact ⟨rfl, hb.alloc hb.size _⟩

theorem hasRole_both (zs : List RuleI) (r : RoI) (p : Int) (n : Nat) (hn : n ≤ 1048576) (hz : zs.length = n) : ∃ b : Bool,
    (∀ (g : Nat) (w : World), RulesAt w g 0 zs → GivesB 34 (some ⟨g, 0, none⟩) n n r p b w) ∧
    (∀ (g : Nat) (w : World), RulesAt w g 0 zs → GivesB 35 (some ⟨g, 0, none⟩) n n r p b w) := by
  obtain ⟨c, v, hv, h1, h2⟩ := members_both zs r n hn hz
  exact ⟨_, fun g w h => specHasRole_c _ _ _ _ _ _ _ _ hv (fun w' hb => h1 g w' (h.below hb)), fun g w h => implHasRole_c _ _ _ _ _ _ _ _ hv (fun w' hb => h2 g w' (h.below hb))⟩

end Go.Proofs.Ytipmkdacnpkgjaa
