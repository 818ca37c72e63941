/-
  CONTRACTS: has a class a form (both programs); ClashForms of both programs.
  Conditions: each contract bears its own.
-/
import Derived.Test.YtabbjcngilocnaaDoorCl0
import Derived.Test.YtabbjcngilocnaaDoorSpec1
namespace Go.Proofs.YtabbjcngilocnaaDoor
open Go.RowKit
set_option linter.unusedVariables false
set_option linter.unusedSimpArgs false

set_option maxHeartbeats 400000 in
theorem hasForm_c (s p : Int) (h0 : 0 ≤ s) (h1 : s ≤ 15) (p0 : 1 ≤ p) (p1 : p ≤ 4) (w : World) :
    Calls Tryd.prog 32 #[.int .i64 s, .int .i64 p] w fun e w' => e = .returned (.bool (hasI s p)) ∧ w = w' := by
  have hp : p = 1 ∨ p = 2 ∨ p = 3 ∨ p = 4 := by omega
  rcases hp with rfl | rfl | rfl | rfl
  · have e1 := and_i64 s 1 h0 (by omega) (by omega) (by omega)
    simp at e1
    go_enter Tryd.func32, Tryd.ntmps32
    go_wp2
    go_ret
    exact ⟨rfl, rfl⟩
  · have e1 := and_i64 s 2 h0 (by omega) (by omega) (by omega)
    simp at e1
    go_enter Tryd.func32, Tryd.ntmps32
    go_wp2
    go_ret
    exact ⟨rfl, rfl⟩
  · have e1 := and_i64 s 3 h0 (by omega) (by omega) (by omega)
    simp at e1
    go_enter Tryd.func32, Tryd.ntmps32
    go_wp2
    go_ret
    exact ⟨rfl, rfl⟩
  · have e1 := and_i64 s 4 h0 (by omega) (by omega) (by omega)
    simp at e1
    go_enter Tryd.func32, Tryd.ntmps32
    go_wp2
    go_ret
    exact ⟨rfl, rfl⟩

theorem in_dec : ∀ n : Fin 16, ∀ k : Fin 4, (bits .and .i64 (((n.val : Nat) : Int) / ((2 ^ k.val : Nat) : Int)) 1 == 1) = n.val.testBit k.val := by
  decide +kernel

theorem in_i64 (s p : Int) (h0 : 0 ≤ s) (h1 : s ≤ 15) (p0 : 1 ≤ p) (p1 : p ≤ 4) : (bits .and .i64 (s / ((2 ^ (p - 1).toNat : Nat) : Int)) 1 == 1) = hasI s p := by
  obtain ⟨n, rfl⟩ := Int.eq_ofNat_of_zero_le h0
  have := in_dec ⟨n, by omega⟩ ⟨(p - 1).toNat, by omega⟩
  simpa [hasI] using this

set_option maxHeartbeats 400000 in
theorem l5In_c (s p : Int) (h0 : 0 ≤ s) (h1 : s ≤ 15) (p0 : 1 ≤ p) (p1 : p ≤ 4) (w : World) :
    Calls Tryd.prog 58 #[.int .i64 s, .int .i64 p] w fun e w' => e = .returned (.bool (hasI s p)) ∧ w = w' := by
  have hp : p = 1 ∨ p = 2 ∨ p = 3 ∨ p = 4 := by omega
  rcases hp with rfl | rfl | rfl | rfl
  · have e1 : Hid ((bits .and .i64 s 1 == 1) = hasI s 1) := by have := in_i64 s 1 h0 h1 (by omega) (by omega); simp at this; exact this
    go_enter Tryd.func58, Tryd.ntmps58
    go_wp2
    go_ret
    exact ⟨by rw [← e1.out]; rfl, rfl⟩
  · have e1 : Hid ((bits .and .i64 (s / 2) 1 == 1) = hasI s 2) := by have := in_i64 s 2 h0 h1 (by omega) (by omega); simp at this; exact this
    go_enter Tryd.func58, Tryd.ntmps58
    go_wp2
    go_ret
    exact ⟨by rw [← e1.out]; rfl, rfl⟩
  · have e1 : Hid ((bits .and .i64 (s / 4) 1 == 1) = hasI s 3) := by have := in_i64 s 3 h0 h1 (by omega) (by omega); simp at this; exact this
    go_enter Tryd.func58, Tryd.ntmps58
    go_wp2
    go_ret
    exact ⟨by rw [← e1.out]; rfl, rfl⟩
  · have e1 : Hid ((bits .and .i64 (s / 8) 1 == 1) = hasI s 4) := by have := in_i64 s 4 h0 h1 (by omega) (by omega); simp at this; exact this
    go_enter Tryd.func58, Tryd.ntmps58
    go_wp2
    go_ret
    exact ⟨by rw [← e1.out]; rfl, rfl⟩

/-- Some class has both forms. -/
def bothB (zs : List Int) (a b : Int) : Bool := zs.any (fun c => hasI c a && hasI c b)

def clashB (zs : List Int) (a b : Int) : Bool := (a != b) && bothB zs a b

def clashV (zs : List Int) (a b : Int) : Bool := (clCode zs == 0) && (inR a 1 4 && (inR b 1 4 && clashB zs a b))

theorem both_hit {zs : List Int} {k : Nat} {x a b : Int} (hx : zs[k]? = some x) (ha : hasI x a = true) (hb : hasI x b = true) : bothB zs a b = true :=
  List.any_eq_true.2 ⟨x, List.mem_of_getElem? hx, by rw [ha, hb]; rfl⟩

theorem both_none {zs : List Int} {n : Nat} {a b : Int} (hz : zs.length = n) (h : ∀ (j : Nat) (x : Int), j < n → zs[j]? = some x → (hasI x a && hasI x b) = false) : bothB zs a b = false := by
  refine List.any_eq_false.2 (fun x hx => ?_)
  obtain ⟨k, hk⟩ := List.mem_iff_getElem?.1 hx
  rw [h k x (by
    by_cases q : k < n
    · exact q
    · rw [List.getElem?_eq_none (by omega)] at hk; cases hk) hk]
  simp

theorem no_next {zs : List Int} {k : Nat} {x a b : Int} (h : ∀ (j : Nat) (y : Int), j < k → zs[j]? = some y → (hasI y a && hasI y b) = false) (hx : zs[k]? = some x) (hq : (hasI x a && hasI x b) = false) : ∀ (j : Nat) (y : Int), j < k + 1 → zs[j]? = some y → (hasI y a && hasI y b) = false := fun j y hj hy => by
  by_cases e : j = k
  · subst e
    rw [hx] at hy
    cases hy
    exact hq
  · exact h j y (by omega) hy

theorem cl_at {zs : List Int} {k : Nat} {x : Int} (h : ∀ x ∈ zs, inR x 0 15 = true) (hx : zs[k]? = some x) : 0 ≤ x ∧ x ≤ 15 := (inR_iff _ _ _).1 (h x (List.mem_of_getElem? hx))

set_option maxHeartbeats 1000000 in
theorem implClash_c (aa : Option Addr) (n cap : Nat) (zs : List Int) (a b : Int) (w : World) (h : IntIn w aa n zs) :
    Calls Tryd.prog 11 #[.slice aa n cap, .int .i64 a, .int .i64 b] w fun e w' => e = .returned (.bool (clashV zs a b)) ∧ w = w' := by
  have HZ : Hid (zs.length = n) := h.1
  have HI : Hid (IntIn w aa n zs) := h
  clear h
  obtain ⟨c, hc⟩ : ∃ c, clCode zs = c := ⟨_, rfl⟩
  obtain ⟨ta, hta⟩ : ∃ t, inR a 1 4 = t := ⟨_, rfl⟩
  obtain ⟨tb, htb⟩ : ∃ t, inR b 1 4 = t := ⟨_, rfl⟩
  have HC : Hid (clCode zs = c) := hc
  have HA : Hid (inR a 1 4 = ta) := hta
  have HB : Hid (inR b 1 4 = tb) := htb
  by_cases c0 : c = 0
  · subst c0
    cases ta
    · have HV : Hid (clashV zs a b = false) := by show clashV zs a b = false; simp [clashV, hta]
      clear hc hta htb
      go_enter Tryd.func11, Tryd.ntmps11
      go_wp2_with (first | (go_at_call 28; refine (implClassesFault_c _ _ _ zs _ HI.out).mono ?_; rintro e w' ⟨rfl, rfl⟩; rw [HC.out]) | (go_at_call 30; refine (iForm_c _ _).mono ?_; rintro e w' ⟨rfl, rfl⟩; first | rw [HA.out] | rw [HB.out]))
      go_ret
      exact ⟨by rw [HV.out]; rfl, rfl⟩
    · cases tb
      · have HV : Hid (clashV zs a b = false) := by show clashV zs a b = false; simp [clashV, htb]
        clear hc hta htb
        go_enter Tryd.func11, Tryd.ntmps11
        go_wp2_with (first | (go_at_call 28; refine (implClassesFault_c _ _ _ zs _ HI.out).mono ?_; rintro e w' ⟨rfl, rfl⟩; rw [HC.out]) | (go_at_call 30; refine (iForm_c _ _).mono ?_; rintro e w' ⟨rfl, rfl⟩; first | rw [HA.out] | rw [HB.out]))
        go_ret
        exact ⟨by rw [HV.out]; rfl, rfl⟩
      · obtain ⟨a0, a1⟩ := (inR_iff _ _ _).1 hta
        obtain ⟨b0, b1⟩ := (inR_iff _ _ _).1 htb
        have HK : Hid (∀ x ∈ zs, inR x 0 15 = true) := (cl_ok hc).2
        have hn : n ≤ 4 := by rw [← HZ.out]; exact (cl_ok hc).1
        have hn' : (n : Int) ≤ 4 := by omega
        by_cases hab : a = b
        · have HV : Hid (clashV zs a b = false) := by show clashV zs a b = false; simp [clashV, clashB, hab]
          have hab' : (a == b) = true := by simp [hab]
          clear hc hta htb hab
          go_enter Tryd.func11, Tryd.ntmps11
          go_wp2_with (first | (go_at_call 28; refine (implClassesFault_c _ _ _ zs _ HI.out).mono ?_; rintro e w' ⟨rfl, rfl⟩; rw [HC.out]) | (go_at_call 30; refine (iForm_c _ _).mono ?_; rintro e w' ⟨rfl, rfl⟩; first | rw [HA.out] | rw [HB.out]))
          go_ret
          exact ⟨by rw [HV.out]; rfl, rfl⟩
        · have HV : Hid (clashV zs a b = bothB zs a b) := by show clashV zs a b = _; simp [clashV, clashB, hc, hta, htb, hab]
          have hab' : (a == b) = false := by simp [hab]
          clear hc hta htb hab
          go_enter Tryd.func11, Tryd.ntmps11
          go_wp2_with (first | (go_at_call 28; refine (implClassesFault_c _ _ _ zs _ HI.out).mono ?_; rintro e w' ⟨rfl, rfl⟩; rw [HC.out]) | (go_at_call 30; refine (iForm_c _ _).mono ?_; rintro e w' ⟨rfl, rfl⟩; first | rw [HA.out] | rw [HB.out]))
          go_loop [29] (fun i => ∃ k : Nat, k ≤ n ∧ i = .int .i64 (k : Int) ∧ ∀ (j : Nat) (x : Int), j < k → zs[j]? = some x → (hasI x a && hasI x b) = false) (fun i => n - (intOf i).toNat)
          case atStart => exact ⟨0, Nat.zero_le _, rfl, fun j x hj => by omega⟩
          case round =>
            obtain ⟨k, hk, rfl, hno⟩ := hrel
            have HNO : Hid (∀ (j : Nat) (x : Int), j < k → zs[j]? = some x → (hasI x a && hasI x b) = false) := hno
            clear hno
            by_cases hlt : k < n
            · obtain ⟨g, off, x, e, hx, hc, hb⟩ := HI.out.at hlt
              subst e
              obtain ⟨x0, x1⟩ := cl_at HK.out hx
              have HX : Hid (zs[k]? = some x) := hx
              clear hx
              have hlt' : (k : Int) < (n : Int) := by omega
              obtain ⟨ta, hta⟩ : ∃ t, hasI x a = t := ⟨_, rfl⟩
              obtain ⟨tb, htb⟩ : ∃ t, hasI x b = t := ⟨_, rfl⟩
              have HA : Hid (hasI x a = ta) := hta
              have HB : Hid (hasI x b = tb) := htb
              clear hta htb
              cases ta
              · have HN : Hid (∀ (j : Nat) (y : Int), j < k + 1 → zs[j]? = some y → (hasI y a && hasI y b) = false) := no_next HNO.out HX.out (by rw [HA.out]; rfl)
                go_wp2_with (go_at_call 32; refine (hasForm_c _ _ (by omega) (by omega) (by omega) (by omega) _).mono ?_; rintro e w' ⟨rfl, rfl⟩; first | rw [HA.out] | rw [HB.out])
                go_round
                case rel => exact ⟨k + 1, by omega, by go_num, HN.out⟩
                case measure => simp [intOf]; omega
              · cases tb
                · have HN : Hid (∀ (j : Nat) (y : Int), j < k + 1 → zs[j]? = some y → (hasI y a && hasI y b) = false) := no_next HNO.out HX.out (by rw [HA.out, HB.out]; rfl)
                  go_wp2_with (go_at_call 32; refine (hasForm_c _ _ (by omega) (by omega) (by omega) (by omega) _).mono ?_; rintro e w' ⟨rfl, rfl⟩; first | rw [HA.out] | rw [HB.out])
                  go_round
                  case rel => exact ⟨k + 1, by omega, by go_num, HN.out⟩
                  case measure => simp [intOf]; omega
                · have HT : Hid (bothB zs a b = true) := both_hit HX.out HA.out HB.out
                  go_wp2_with (go_at_call 32; refine (hasForm_c _ _ (by omega) (by omega) (by omega) (by omega) _).mono ?_; rintro e w' ⟨rfl, rfl⟩; first | rw [HA.out] | rw [HB.out])
                  go_ret
                  exact ⟨by rw [HV.out, HT.out]; rfl, rfl⟩
            · have hkn : k = n := by omega
              subst hkn
              have HT : Hid (bothB zs a b = false) := both_none HZ.out HNO.out
              go_wp2
              go_ret
              exact ⟨by rw [HV.out, HT.out]; rfl, rfl⟩
  · have HV : Hid (clashV zs a b = false) := by show clashV zs a b = false; simp [clashV, hc, c0]
    have cb : (c != 0) = true := by simp [c0]
    clear hc hta htb c0
    go_enter Tryd.func11, Tryd.ntmps11
    go_wp2_with (first | (go_at_call 28; refine (implClassesFault_c _ _ _ zs _ HI.out).mono ?_; rintro e w' ⟨rfl, rfl⟩; rw [HC.out]) | (go_at_call 30; refine (iForm_c _ _).mono ?_; rintro e w' ⟨rfl, rfl⟩; first | rw [HA.out] | rw [HB.out]))
    go_ret
    exact ⟨by rw [HV.out]; rfl, rfl⟩

end Go.Proofs.YtabbjcngilocnaaDoor
