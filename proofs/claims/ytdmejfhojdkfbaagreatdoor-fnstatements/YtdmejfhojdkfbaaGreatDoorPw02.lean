/-
  CONTRACT: UnpackStatement of the document's program.
  Conditions: none.
  CONTRACTS: has a class a form (both programs); ClashForms of both programs.
  Conditions: each contract bears its own.
  CONTRACTS: ClashStatements of both programs.
  Conditions: each contract bears its own.
-/
import Derived.Test.YtdmejfhojdkfbaaGreatDoorPw01
import Derived.Deep.CutBlock
import Derived.Test.YtdmejfhojdkfbaaGreatDoorCl0
import Derived.Test.YtdmejfhojdkfbaaGreatDoorSpec1
import Derived.Test.YtdmejfhojdkfbaaGreatDoorSt4
import Derived.Deep.QuietTactic
namespace Go.Proofs.YtdmejfhojdkfbaaGreatDoor
open Go.RowKit
set_option linter.unusedVariables false
set_option linter.unusedSimpArgs false

set_option maxRecDepth 20000 in
set_option maxHeartbeats 2000000 in
theorem specUnpack_c (a : Option Addr) (n cap : Nat) (zs : List Int) (w : World) (h : IntIn w a n zs) : GivesU 13 a n cap (unpC zs) (unpS zs) w := by
  obtain ⟨W, hW⟩ : ∃ W, W = w.alloc (.cells #[.int .i64 0, .int .i64 0, .int .i64 0, .int .i64 0, .int .i64 0, .int .i64 0] 28) := ⟨_, rfl⟩
  have HW : Hid (W = w.alloc (.cells #[.int .i64 0, .int .i64 0, .int .i64 0, .int .i64 0, .int .i64 0, .int .i64 0] 28)) := hW
  have B0 : Below w.heap.size w W := by rw [hW]; exact (Below.refl _ _).alloc (Nat.le_refl _) _
  have R0 : Hid (SRes W w.heap.size 0 noSt) := by rw [hW]; exact SRes.new _ _
  obtain ⟨x, hx, hxs⟩ := l7Unpack_c a n cap zs W (h.below B0)
  have HX : Hid (GivesV a n cap x (unpB zs).isSome W) := hx
  have hC : unpC zs = if (unpB zs).isSome = true then 0 else 5 := rfl
  have hS : (unpB zs).isSome = false → unpS zs = noSt := fun q => by
    unfold unpS
    cases r : unpB zs with
    | none => rfl
    | some y => rw [r] at q; cases q
  obtain ⟨t, ht⟩ : ∃ t, (unpB zs).isSome = t := ⟨_, rfl⟩
  rw [ht] at HX hxs hC hS
  clear hx h hW ht
  unfold GivesU
  cases t
  · rw [hC, hS rfl]
    clear hC hS hxs
    go_enter Tryz.func13, Tryz.ntmps13
    go_wp2_with fail
    rw [← HW.out]
    refine HX.out.mono ?_
    rintro e w1 ⟨rfl, hb1⟩
    have A1 : Below w1.heap.size w1 (w1.alloc (.cells #[.int .i64 x.k, .int .i64 x.e, .int .i64 x.f, .int .i64 x.s, .int .i64 x.n] 26)) := (Below.refl _ _).alloc (Nat.le_refl _) _
    have B1 : Below w.heap.size w (w1.alloc (.cells #[.int .i64 x.k, .int .i64 x.e, .int .i64 x.f, .int .i64 x.s, .int .i64 x.n] 26)) := (B0.trans (hb1.mono B0.size)).trans (A1.mono (by have := B0.size; have := hb1.size; omega))
    have S1 : SRes (w1.alloc (.cells #[.int .i64 x.k, .int .i64 x.e, .int .i64 x.f, .int .i64 x.s, .int .i64 x.n] 26)) w.heap.size 0 noSt := (R0.out.below hb1).below A1
    have X1 : StAt (w1.alloc (.cells #[.int .i64 x.k, .int .i64 x.e, .int .i64 x.f, .int .i64 x.s, .int .i64 x.n] 26)) w1.heap.size 0 x := StAt.new w1 x _
    go_upto_region 2 with fail
    clear A1 hb1
    generalize w1.alloc (.cells #[.int .i64 x.k, .int .i64 x.e, .int .i64 x.f, .int .i64 x.s, .int .i64 x.n] 26) = w2 at B1 S1 X1 ⊢
    obtain ⟨⟨d0, d1, d2, d3, d4, d5⟩, hf⟩ := S1
    simp only [noSt] at d0 d1 d2 d3 d4 d5
    obtain ⟨x0, x1, x2, x3, x4⟩ := X1
    simp only [Nat.zero_add] at x0 x1 x2 x3 x4
    have f0 := hf 0
    have f1 := hf 1
    have f2 := hf 2
    have f3 := hf 3
    have f4 := hf 4
    have f5 := hf 5
    clear hf
    go_wp2_with fail
    refine bodyPost_ret (v := .agg #[.int .i64 5, .int .i64 0, .int .i64 0, .int .i64 0, .int .i64 0, .int .i64 0]) (by simp [results, Tryz.results13, go_sem, d0, d1, d2, d3, d4, d5]) rfl ⟨rfl, ?_⟩
    exact B1.setCell (Nat.le_refl _) _ |>.setCell (Nat.le_refl _) _ |>.setCell (Nat.le_refl _) _ |>.setCell (Nat.le_refl _) _ |>.setCell (Nat.le_refl _) _ |>.setCell (Nat.le_refl _) _
  · rw [hC, ← hxs rfl]
    clear hC hS hxs
    go_enter Tryz.func13, Tryz.ntmps13
    go_wp2_with fail
    rw [← HW.out]
    refine HX.out.mono ?_
    rintro e w1 ⟨rfl, hb1⟩
    have A1 : Below w1.heap.size w1 (w1.alloc (.cells #[.int .i64 x.k, .int .i64 x.e, .int .i64 x.f, .int .i64 x.s, .int .i64 x.n] 26)) := (Below.refl _ _).alloc (Nat.le_refl _) _
    have B1 : Below w.heap.size w (w1.alloc (.cells #[.int .i64 x.k, .int .i64 x.e, .int .i64 x.f, .int .i64 x.s, .int .i64 x.n] 26)) := (B0.trans (hb1.mono B0.size)).trans (A1.mono (by have := B0.size; have := hb1.size; omega))
    have S1 : SRes (w1.alloc (.cells #[.int .i64 x.k, .int .i64 x.e, .int .i64 x.f, .int .i64 x.s, .int .i64 x.n] 26)) w.heap.size 0 noSt := (R0.out.below hb1).below A1
    have X1 : StAt (w1.alloc (.cells #[.int .i64 x.k, .int .i64 x.e, .int .i64 x.f, .int .i64 x.s, .int .i64 x.n] 26)) w1.heap.size 0 x := StAt.new w1 x _
    go_upto_region 2 with fail
    clear A1 hb1
    generalize w1.alloc (.cells #[.int .i64 x.k, .int .i64 x.e, .int .i64 x.f, .int .i64 x.s, .int .i64 x.n] 26) = w2 at B1 S1 X1 ⊢
    obtain ⟨⟨d0, d1, d2, d3, d4, d5⟩, hf⟩ := S1
    simp only [noSt] at d0 d1 d2 d3 d4 d5
    obtain ⟨x0, x1, x2, x3, x4⟩ := X1
    simp only [Nat.zero_add] at x0 x1 x2 x3 x4
    have f0 := hf 0
    have f1 := hf 1
    have f2 := hf 2
    have f3 := hf 3
    have f4 := hf 4
    have f5 := hf 5
    clear hf
    go_wp2_with fail
    refine bodyPost_ret (v := .agg #[.int .i64 0, .int .i64 x.k, .int .i64 x.e, .int .i64 x.f, .int .i64 x.s, .int .i64 x.n]) (by simp [results, Tryz.results13, go_sem, d0, d1, d2, d3, d4, d5]) rfl ⟨rfl, ?_⟩
    exact B1.setCell (Nat.le_refl _) _ |>.setCell (Nat.le_refl _) _ |>.setCell (Nat.le_refl _) _ |>.setCell (Nat.le_refl _) _ |>.setCell (Nat.le_refl _) _ |>.setCell (Nat.le_refl _) _

end Go.Proofs.YtdmejfhojdkfbaaGreatDoor

namespace Go.Proofs.YtdmejfhojdkfbaaGreatDoor
open Go.RowKit
set_option linter.unusedVariables false
set_option linter.unusedSimpArgs false

set_option maxHeartbeats 400000 in
theorem hasForm_c (s p : Int) (h0 : 0 ≤ s) (h1 : s ≤ 15) (p0 : 1 ≤ p) (p1 : p ≤ 4) (w : World) :
    Calls Tryz.prog 68 #[.int .i64 s, .int .i64 p] w fun e w' => e = .returned (.bool (hasI s p)) ∧ w = w' := by
  have hp : p = 1 ∨ p = 2 ∨ p = 3 ∨ p = 4 := by omega
  rcases hp with rfl | rfl | rfl | rfl
  · have e1 := and_i64 s 1 h0 (by omega) (by omega) (by omega)
    simp at e1
    go_enter Tryz.func68, Tryz.ntmps68
    go_wp2
    go_ret
    exact ⟨rfl, rfl⟩
  · have e1 := and_i64 s 2 h0 (by omega) (by omega) (by omega)
    simp at e1
    go_enter Tryz.func68, Tryz.ntmps68
    go_wp2
    go_ret
    exact ⟨rfl, rfl⟩
  · have e1 := and_i64 s 3 h0 (by omega) (by omega) (by omega)
    simp at e1
    go_enter Tryz.func68, Tryz.ntmps68
    go_wp2
    go_ret
    exact ⟨rfl, rfl⟩
  · have e1 := and_i64 s 4 h0 (by omega) (by omega) (by omega)
    simp at e1
    go_enter Tryz.func68, Tryz.ntmps68
    go_wp2
    go_ret
    exact ⟨rfl, rfl⟩

theorem in_dec : ∀ n : Fin 16, ∀ k : Fin 4, (bits .and .i64 (((n.val : Nat) : Int) / ((2 ^ k.val : Nat) : Int)) 1 == 1) = n.val.testBit k.val := by
  decide +kernel

theorem in_i64 (s p : Int) (h0 : 0 ≤ s) (h1 : s ≤ 15) (p0 : 1 ≤ p) (p1 : p ≤ 4) : (bits .and .i64 (s / ((2 ^ (p - 1).toNat : Nat) : Int)) 1 == 1) = hasI s p := by
  obtain ⟨n, rfl⟩ := Int.eq_ofNat_of_zero_le h0
  have := in_dec ⟨n, by omega⟩ ⟨(p - 1).toNat, by omega⟩
  simpa [hasI] using this

/-- Some class has both forms. -/
def bothB (zs : List Int) (a b : Int) : Bool := zs.any (fun c => hasI c a && hasI c b)

def clashB (zs : List Int) (a b : Int) : Bool := (a != b) && bothB zs a b

def clashV (zs : List Int) (a b : Int) : Bool := (clCode zs == 0) && (inR a 1 4 && (inR b 1 4 && clashB zs a b))

theorem both_hit {zs : List Int} {k : Nat} {x a b : Int} (hx : zs[k]? = some x) (ha : hasI x a = true) (hb : hasI x b = true) : bothB zs a b = true :=
  List.any_eq_true.2 ⟨x, List.mem_of_getElem? hx, by rw [ha, hb]; rfl⟩

theorem both_none {zs : List Int} {n : Nat} {a b : Int} (hz : zs.length = n) (h : ∀ (j : Nat) (x : Int), j < n → zs[j]? = some x → (hasI x a && hasI x b) = false) : bothB zs a b = false := by
  refine List.any_eq_false.2 (fun x hx => ?_)
  obtain ⟨k, hk⟩ := List.mem_iff_getElem?.1 hx
  rw [h k x (by
    by_cases q : k < n
    · exact q
    · rw [List.getElem?_eq_none (by omega)] at hk; cases hk) hk]
  simp

theorem no_next {zs : List Int} {k : Nat} {x a b : Int} (h : ∀ (j : Nat) (y : Int), j < k → zs[j]? = some y → (hasI y a && hasI y b) = false) (hx : zs[k]? = some x) (hq : (hasI x a && hasI x b) = false) : ∀ (j : Nat) (y : Int), j < k + 1 → zs[j]? = some y → (hasI y a && hasI y b) = false := fun j y hj hy => by
  by_cases e : j = k
  · subst e
    rw [hx] at hy
    cases hy
    exact hq
  · exact h j y (by omega) hy

theorem cl_at {zs : List Int} {k : Nat} {x : Int} (h : ∀ x ∈ zs, inR x 0 15 = true) (hx : zs[k]? = some x) : 0 ≤ x ∧ x ≤ 15 := (inR_iff _ _ _).1 (h x (List.mem_of_getElem? hx))

set_option maxHeartbeats 1000000 in
theorem implClash_c (aa : Option Addr) (n cap : Nat) (zs : List Int) (a b : Int) (w : World) (h : IntIn w aa n zs) :
    Calls Tryz.prog 41 #[.slice aa n cap, .int .i64 a, .int .i64 b] w fun e w' => e = .returned (.bool (clashV zs a b)) ∧ w = w' := by
  have HZ : Hid (zs.length = n) := h.1
  have HI : Hid (IntIn w aa n zs) := h
  clear h
  obtain ⟨c, hc⟩ : ∃ c, clCode zs = c := ⟨_, rfl⟩
  obtain ⟨ta, hta⟩ : ∃ t, inR a 1 4 = t := ⟨_, rfl⟩
  obtain ⟨tb, htb⟩ : ∃ t, inR b 1 4 = t := ⟨_, rfl⟩
  have HC : Hid (clCode zs = c) := hc
  have HA : Hid (inR a 1 4 = ta) := hta
  have HB : Hid (inR b 1 4 = tb) := htb
  by_cases c0 : c = 0
  · subst c0
    cases ta
    · have HV : Hid (clashV zs a b = false) := by show clashV zs a b = false; simp [clashV, hta]
      clear hc hta htb
      go_enter Tryz.func41, Tryz.ntmps41
      go_wp2_with (first | (go_at_call 40; refine (implClassesFault_c _ _ _ zs _ HI.out).mono ?_; rintro e w' ⟨rfl, rfl⟩; rw [HC.out]) | (go_at_call 65; refine (iForm_c _ _).mono ?_; rintro e w' ⟨rfl, rfl⟩; first | rw [HA.out] | rw [HB.out]))
      go_ret
      exact ⟨by rw [HV.out]; rfl, rfl⟩
    · cases tb
      · have HV : Hid (clashV zs a b = false) := by show clashV zs a b = false; simp [clashV, htb]
        clear hc hta htb
        go_enter Tryz.func41, Tryz.ntmps41
        go_wp2_with (first | (go_at_call 40; refine (implClassesFault_c _ _ _ zs _ HI.out).mono ?_; rintro e w' ⟨rfl, rfl⟩; rw [HC.out]) | (go_at_call 65; refine (iForm_c _ _).mono ?_; rintro e w' ⟨rfl, rfl⟩; first | rw [HA.out] | rw [HB.out]))
        go_ret
        exact ⟨by rw [HV.out]; rfl, rfl⟩
      · obtain ⟨a0, a1⟩ := (inR_iff _ _ _).1 hta
        obtain ⟨b0, b1⟩ := (inR_iff _ _ _).1 htb
        have HK : Hid (∀ x ∈ zs, inR x 0 15 = true) := (cl_ok hc).2
        have hn : n ≤ 4 := by rw [← HZ.out]; exact (cl_ok hc).1
        have hn' : (n : Int) ≤ 4 := by omega
        by_cases hab : a = b
        · have HV : Hid (clashV zs a b = false) := by show clashV zs a b = false; simp [clashV, clashB, hab]
          have hab' : (a == b) = true := by simp [hab]
          clear hc hta htb hab
          go_enter Tryz.func41, Tryz.ntmps41
          go_wp2_with (first | (go_at_call 40; refine (implClassesFault_c _ _ _ zs _ HI.out).mono ?_; rintro e w' ⟨rfl, rfl⟩; rw [HC.out]) | (go_at_call 65; refine (iForm_c _ _).mono ?_; rintro e w' ⟨rfl, rfl⟩; first | rw [HA.out] | rw [HB.out]))
          go_ret
          exact ⟨by rw [HV.out]; rfl, rfl⟩
        · have HV : Hid (clashV zs a b = bothB zs a b) := by show clashV zs a b = _; simp [clashV, clashB, hc, hta, htb, hab]
          have hab' : (a == b) = false := by simp [hab]
          clear hc hta htb hab
          go_enter Tryz.func41, Tryz.ntmps41
          go_wp2_with (first | (go_at_call 40; refine (implClassesFault_c _ _ _ zs _ HI.out).mono ?_; rintro e w' ⟨rfl, rfl⟩; rw [HC.out]) | (go_at_call 65; refine (iForm_c _ _).mono ?_; rintro e w' ⟨rfl, rfl⟩; first | rw [HA.out] | rw [HB.out]))
          go_loop [29] (fun i => ∃ k : Nat, k ≤ n ∧ i = .int .i64 (k : Int) ∧ ∀ (j : Nat) (x : Int), j < k → zs[j]? = some x → (hasI x a && hasI x b) = false) (fun i => n - (intOf i).toNat)
          case atStart => exact ⟨0, Nat.zero_le _, rfl, fun j x hj => by omega⟩
          case round =>
            obtain ⟨k, hk, rfl, hno⟩ := hrel
            have HNO : Hid (∀ (j : Nat) (x : Int), j < k → zs[j]? = some x → (hasI x a && hasI x b) = false) := hno
            clear hno
            by_cases hlt : k < n
            · obtain ⟨g, off, x, e, hx, hc, hb⟩ := HI.out.at hlt
              subst e
              obtain ⟨x0, x1⟩ := cl_at HK.out hx
              have HX : Hid (zs[k]? = some x) := hx
              clear hx
              have hlt' : (k : Int) < (n : Int) := by omega
              obtain ⟨ta, hta⟩ : ∃ t, hasI x a = t := ⟨_, rfl⟩
              obtain ⟨tb, htb⟩ : ∃ t, hasI x b = t := ⟨_, rfl⟩
              have HA : Hid (hasI x a = ta) := hta
              have HB : Hid (hasI x b = tb) := htb
              clear hta htb
              cases ta
              · have HN : Hid (∀ (j : Nat) (y : Int), j < k + 1 → zs[j]? = some y → (hasI y a && hasI y b) = false) := no_next HNO.out HX.out (by rw [HA.out]; rfl)
                go_wp2_with (go_at_call 68; refine (hasForm_c _ _ (by omega) (by omega) (by omega) (by omega) _).mono ?_; rintro e w' ⟨rfl, rfl⟩; first | rw [HA.out] | rw [HB.out])
                go_round
                case rel => exact ⟨k + 1, by omega, by go_num, HN.out⟩
                case measure => simp [intOf]; omega
              · cases tb
                · have HN : Hid (∀ (j : Nat) (y : Int), j < k + 1 → zs[j]? = some y → (hasI y a && hasI y b) = false) := no_next HNO.out HX.out (by rw [HA.out, HB.out]; rfl)
                  go_wp2_with (go_at_call 68; refine (hasForm_c _ _ (by omega) (by omega) (by omega) (by omega) _).mono ?_; rintro e w' ⟨rfl, rfl⟩; first | rw [HA.out] | rw [HB.out])
                  go_round
                  case rel => exact ⟨k + 1, by omega, by go_num, HN.out⟩
                  case measure => simp [intOf]; omega
                · have HT : Hid (bothB zs a b = true) := both_hit HX.out HA.out HB.out
                  go_wp2_with (go_at_call 68; refine (hasForm_c _ _ (by omega) (by omega) (by omega) (by omega) _).mono ?_; rintro e w' ⟨rfl, rfl⟩; first | rw [HA.out] | rw [HB.out])
                  go_ret
                  exact ⟨by rw [HV.out, HT.out]; rfl, rfl⟩
            · have hkn : k = n := by omega
              subst hkn
              have HT : Hid (bothB zs a b = false) := both_none HZ.out HNO.out
              go_wp2
              go_ret
              exact ⟨by rw [HV.out, HT.out]; rfl, rfl⟩
  · have HV : Hid (clashV zs a b = false) := by show clashV zs a b = false; simp [clashV, hc, c0]
    have cb : (c != 0) = true := by simp [c0]
    clear hc hta htb c0
    go_enter Tryz.func41, Tryz.ntmps41
    go_wp2_with (first | (go_at_call 40; refine (implClassesFault_c _ _ _ zs _ HI.out).mono ?_; rintro e w' ⟨rfl, rfl⟩; rw [HC.out]) | (go_at_call 65; refine (iForm_c _ _).mono ?_; rintro e w' ⟨rfl, rfl⟩; first | rw [HA.out] | rw [HB.out]))
    go_ret
    exact ⟨by rw [HV.out]; rfl, rfl⟩

end Go.Proofs.YtdmejfhojdkfbaaGreatDoor

namespace Go.Proofs.YtdmejfhojdkfbaaGreatDoor
open Go.RowKit
set_option linter.unusedVariables false
set_option linter.unusedSimpArgs false

/-- Two sets have a principal in common. -/
def interB (s t : Int) : Bool := bits .and .i64 s t != 0

/-- Statements without a fault clash. -/
def csB (zs : List Int) (a b : StI) : Bool := if a.k = b.k ∧ a.e = b.e then (if a.k = 1 then (clashV zs a.f b.f && interB a.s b.s) else if 3 ≤ a.k then !(sameSt a b) else false) else false

def csV (zs : List Int) (a b : StI) : Bool := if clCode zs = 0 ∧ stCode a = 0 ∧ stCode b = 0 then csB zs a b else false

/-- A statement without a fault, by its kind. -/
theorem st_kinds {x : StI} (h : stCode x = 0) : (x.k = 1 ∨ x.k = 2) ∧ (1 ≤ x.f ∧ x.f ≤ 4) ∧ (1 ≤ x.s ∧ x.s ≤ 255) ∧ x.n = 0 ∨ (x.k = 3 ∨ x.k = 4) ∧ x.f = 0 ∧ x.s = 0 := by
  cases hk : inR x.k 1 4
  · unfold stCode at h; rw [if_pos hk] at h; cases h
  · have hk' := (inR_iff _ _ _).1 hk
    by_cases h3 : 3 ≤ x.k
    · rw [st_next hk h3] at h
      split at h
      · rename_i q
        exact .inr ⟨by omega, q⟩
      · cases h
    · rw [st_form hk (by omega)] at h
      split at h
      · rename_i q
        split at h
        · cases h
        · split at h
          · cases h
          · rename_i q2
            split at h
            · cases h
            · rename_i q3
              have e2 := (inR_iff x.f 1 4).1 (by simpa using q2)
              have e3 := (inR_iff x.s 1 255).1 (by simpa using q3)
              exact .inl ⟨by omega, e2, e3, q⟩
      · cases h

theorem st_same {a b : StI} (ha : stCode a = 0) (hb : stCode b = 0) (hk : a.k = b.k) (he : a.e = b.e) (h3 : 3 ≤ a.k) : (!(sameSt a b)) = (a.n != b.n) := by
  rcases st_kinds ha with ⟨q, _⟩ | ⟨_, f1, s1⟩
  · omega
  rcases st_kinds hb with ⟨q, _⟩ | ⟨_, f2, s2⟩
  · omega
  obtain ⟨ak, ae, af, as0, an⟩ := a
  obtain ⟨bk, be, bf, bs, bn⟩ := b
  simp only at hk he f1 s1 f2 s2
  subst hk he f1 s1 f2 s2
  rw [sameSt_mk]
  simp [bne]

theorem clash_both {zs : List Int} {a b : Int} (h0 : clCode zs = 0) (ha : 1 ≤ a ∧ a ≤ 4) (hb : 1 ≤ b ∧ b ≤ 4) : clashV zs a b = clashB zs a b := by
  have e1 := (inR_iff a 1 4).2 ha
  have e2 := (inR_iff b 1 4).2 hb
  simp [clashV, h0, e1, e2]

end Go.Proofs.YtdmejfhojdkfbaaGreatDoor
