/-
  CONTRACT: impl.GrantFault.
  Conditions: each contract bears its own.
-/
import Derived.Test.YtnmidppiakdanaaGf0
import Derived.Test.YtnmidppiakdanaaGr2
import Derived.Test.YtnmidppiakdanaaRole1
import Derived.Test.YtnmidppiakdanaaRol5
import Derived.WalkSmall
import Derived.BigQuiet
import Derived.Deep.QuietTactic
import Derived.Deep.RegionHeld3
namespace Go.Proofs.Ytnmidppiakdanaa
open Go.RowKit Go.Sort
set_option linter.unusedVariables false
set_option linter.unusedSimpArgs false

set_option maxHeartbeats 400000 in
theorem setFault_c (s : Int) (w : World) : Calls Try.prog 69 #[.int .i64 s] w fun e w' => e = .returned (.int .i64 (if setIn s = true then 0 else 3)) ∧ w = w' := by
  by_cases h0 : 0 ≤ s
  · by_cases h1 : s ≤ 255
    · have h2 : s < (256 : Int) := by omega
      rw [show (if setIn s = true then (0 : Int) else 3) = 0 by simp [setIn, h0, h1]]
      go_enter Try.func69, Try.ntmps69
      go_wp2
      go_ret
      exact ⟨rfl, rfl⟩
    · have h2 : (256 : Int) ≤ s := by omega
      rw [show (if setIn s = true then (0 : Int) else 3) = 3 by simp [setIn, h1]]
      go_enter Try.func69, Try.ntmps69
      go_wp2
      go_ret
      exact ⟨rfl, rfl⟩
  · have h2 : s < (0 : Int) := by omega
    rw [show (if setIn s = true then (0 : Int) else 3) = 3 by simp [setIn, h0]]
    go_enter Try.func69, Try.ntmps69
    go_wp2
    go_ret
    exact ⟨rfl, rfl⟩

theorem below_growD (w : World) (q : Nat) (os : Array Obj) : Below w.heap.size w (grow (w.drewN q) os) :=
  ⟨rfl, rfl, rfl, by simp [grow, World.drewN], fun i hi => by simp [grow, World.drewN, Array.getElem?_append_left hi]⟩

theorem cmpRoles_c (x y : RoI) (w : World) : Calls Try.prog 70 #[.agg #[.int .i64 x.1, .int .i64 x.2], .agg #[.int .i64 y.1, .int .i64 y.2]] w fun e w' => e = .returned (.int .i64 (cfR x y)) ∧ Below w.heap.size w w' :=
  (closure_c x y w).mono (fun e w' ⟨h1, q, os, h2⟩ => ⟨h1, by rw [h2]; exact below_growD w q os⟩)

set_option maxRecDepth 100000 in
set_option maxHeartbeats 2000000 in
theorem grantFault_few (a : Option Addr) (n cap : Nat) (gs : List GrI) (c : Int) (w : World) (h40 : n ≤ 40) (h : GrIn w a n gs) (hc : gfTo gs n = c) :
    Calls Try.prog 19 #[.slice a n cap] w fun e w' => e = .returned (.int .i64 c) ∧ Below w.heap.size w w' := by
  have H : Hid (GrIn w a n gs) := h
  have HC : Hid (gfTo gs n = c) := hc
  clear h hc
  have h' : ¬ ((40 : Int) < (n : Int)) := by omega
  have hn' : (n : Int) ≤ 40 := by omega
  go_enter Try.func19, Try.ntmps19
  go_wp2
  go_loopw [10] (fun i wr => ∃ k : Nat, k ≤ n ∧ i = .int .i64 (k : Int) ∧ gfTo gs k = 0 ∧ Below w.heap.size w wr) (fun i _ => n - (intOf i).toNat)
  case atStart => exact ⟨0, Nat.zero_le _, rfl, rfl, Below.refl _ _⟩
  case round =>
    obtain ⟨k, hk, rfl, hp, hnx⟩ := hrel
    have HP : Hid (gfTo gs k = 0) := hp
    clear hp
    by_cases hlt : k < n
    · obtain ⟨b, off, x, rfl, hs, hx, hbl⟩ := H.out.at hlt
      have HN : Hid (gfTo gs (k + 1) = gfOne gs k x) := gfTo_next hs HP.out
      clear hs
      have g := hx.below hnx hbl
      obtain ⟨g0, g1, g2⟩ := g
      have hbw : b < wr.heap.size := Nat.lt_of_lt_of_le hbl hnx.size
      have hlt' : (k : Int) < (n : Int) := by omega
      obtain ⟨t, ht⟩ : ∃ t, roleB x.1.1 x.1.2 = t := ⟨_, rfl⟩
      go_wp2_with fail
      refine (implRoleFault_c x.1.1 x.1.2 _).mono ?_
      rintro e w1 ⟨rfl, hb1⟩
      have hz1 := hb1.size
      simp only [World.size_alloc] at hz1
      have hnx1 : Below w.heap.size w w1 := hnx.trans ((below_new hb1).mono hnx.size)
      have hlt1 : wr.heap.size < w1.heap.size := by omega
      have b0 : w1.cell? ⟨wr.heap.size, 0, none⟩ = some (.int .i64 x.1.1) := (hb1.cell (p := ⟨wr.heap.size, 0, none⟩) (by simp)).trans (by simp)
      have b1 : w1.cell? ⟨wr.heap.size, 1, none⟩ = some (.int .i64 x.1.2) := (hb1.cell (p := ⟨wr.heap.size, 1, none⟩) (by simp)).trans (by simp)
      have b2 : w1.cell? ⟨wr.heap.size, 2, none⟩ = some (.int .i64 x.2) := (hb1.cell (p := ⟨wr.heap.size, 2, none⟩) (by simp)).trans (by simp)
      have hold : ∀ o, w1.cell? ⟨b, o, none⟩ = wr.cell? ⟨b, o, none⟩ := fun o => ((below_new hb1).cell (p := ⟨b, o, none⟩) hbw)
      clear hb1
      cases t
      · have E : Hid (c = 3) := HC.out.symm.trans (gfTo_stay gs (k + 1) n 3 (by decide) (by rw [HN.out]; simp [gfOne, ht]) (by omega))
        rw [show roleCode x.1.1 x.1.2 = 3 by simp [roleCode, ht]]
        clear hold
        go_wp2
        go_ret
        exact ⟨by rw [E.out]; rfl, hnx1⟩
      · rw [show roleCode x.1.1 x.1.2 = 0 by simp [roleCode, ht]]
        obtain ⟨u, hu⟩ : ∃ u, setIn x.2 = u := ⟨_, rfl⟩
        cases u
        · have E : Hid (c = 3) := HC.out.symm.trans (gfTo_stay gs (k + 1) n 3 (by decide) (by rw [HN.out]; simp [gfOne, ht, hu]) (by omega))
          clear hold
          go_wp2_with (first | (go_at_call 69; refine (setFault_c _ _).mono ?_; rintro e w2 ⟨rfl, rfl⟩; rw [hu]) | go_in)
          go_ret
          exact ⟨by rw [E.out]; rfl, hnx1⟩
        · by_cases hz : x.2 = 0
          · have E : Hid (c = 1) := HC.out.symm.trans (gfTo_stay gs (k + 1) n 1 (by decide) (by rw [HN.out]; unfold gfOne; rw [if_neg (by simp [ht]), if_neg (by simp [hu]), if_pos hz]) (by omega))
            have bz : (x.2 == 0) = true := by simp [hz]
            clear hz hold
            go_wp2_with (first | (go_at_call 69; refine (setFault_c _ _).mono ?_; rintro e w2 ⟨rfl, rfl⟩; rw [hu]) | go_in)
            go_quiet (fail)
            go_wp2
            go_ret
            exact ⟨by rw [E.out]; rfl, bdN hnx1 _⟩
          · have bz : (x.2 == 0) = false := by simp [hz]
            obtain rfl | ⟨j, rfl⟩ : k = 0 ∨ ∃ j, k = j + 1 := by cases k; exact .inl rfl; exact .inr ⟨_, rfl⟩
            · skip
              have HE : Hid (gfTo gs 1 = 0) := HN.out.trans (gfOne_zero.2 ⟨ht, by simp [setIn] at hu; omega, rfl⟩)
              clear hz hold
              go_wp2_with (first | (go_at_call 69; refine (setFault_c _ _).mono ?_; rintro e w2 ⟨rfl, rfl⟩; rw [hu]) | go_in)
              go_quiet (fail)
              go_wp2
              exact ⟨⟨0 + 1, by omega, by go_num, HE.out, bdN hnx1 _⟩, by simp [intOf]; omega⟩
            · skip
              obtain ⟨b', off', y, e', hy, hyx, _⟩ := H.out.at (k := j) (by omega)
              cases e'
              obtain ⟨q0, q1, _⟩ := hyx.below hnx hbl
              have HV : Hid (gfOne gs (j + 1) x = if ltR y.1 x.1 = false then 1 else 0) := by show gfOne gs (j + 1) x = _; simp [gfOne, ht, hu, hz, prevB_of hy]
              have y0 := (hold _).trans q0
              have y1 := (hold _).trans q1
              clear hyx hz hy hold q0 q1 g0 g1 g2
              have hbv : b < w1.heap.size := by omega
              have hj1 : (j : Int) < (n : Int) := by omega
              have hj0 : (0 : Int) ≤ (j : Int) := by omega
              have hjw : IntKind.i64.wrap ((j : Int) + 1 - 1) = (j : Int) := by rw [IntKind.wrap_i64]; omega
              have hjw2 : IntKind.i64.wrap (j : Int) = (j : Int) := by rw [IntKind.wrap_i64]; omega
              have hjw3 : IntKind.i64.wrap (((j + 1 : Nat) : Int) - 1) = (j : Int) := by rw [IntKind.wrap_i64]; omega
              have hpos1 : (0 : Int) < (j : Int) + 1 := by omega
              go_wp2_with (first | (go_at_call 69; refine (setFault_c _ _).mono ?_; rintro e w2 ⟨rfl, rfl⟩; rw [hu]) | go_in)
              obtain ⟨v, hv⟩ : ∃ v, cfR y.1 x.1 = v := ⟨_, rfl⟩
              have HCm : Hid (∀ w2 : World, Calls Try.prog 70 #[.agg #[.int .i64 y.1.1, .int .i64 y.1.2], .agg #[.int .i64 x.1.1, .int .i64 x.1.2]] w2 fun e w' => e = .returned (.int .i64 v) ∧ Below w2.heap.size w2 w') := fun w2 => by rw [← hv]; exact cmpRoles_c y.1 x.1 w2
              have hge : (0 ≤ v) ↔ ltR y.1 x.1 = false := by
                rw [← hv]
                simp only [cfR, orC, cmpI, ltR]
                split <;> split <;> simp <;> omega
              by_cases hpos : 0 ≤ v
              · have E : Hid (c = 1) := HC.out.symm.trans (gfTo_stay gs (j + 1 + 1) n 1 (by decide) (by rw [HN.out, HV.out, if_pos (hge.1 hpos)]) (by omega))
                clear hge hv
                go_region_held3 (fun w' => (∀ b o, b < w1.heap.size → w'.cell? ⟨b, o, none⟩ = w1.cell? ⟨b, o, none⟩) ∧ Below w1.heap.size w1 w') (first | exact hS | exact kp_drew _)
                  (first | (go_at_call 70; refine (HCm.out _).mono ?_; rintro e w' ⟨rfl, hb2⟩; have hS := kp_step (by assumption) hb2))
                go_wp2
                go_ret
                exact ⟨by rw [E.out]; rfl, hnx1.trans (hS.2.mono hnx1.size)⟩
              · have HE : Hid (gfTo gs (j + 1 + 1) = 0) := by show gfTo gs (j + 1 + 1) = 0; rw [HN.out, HV.out, if_neg (fun q => hpos (hge.2 q))]
                have hneg : v < 0 := by omega
                clear hge hv hpos
                go_region_held3 (fun w' => (∀ b o, b < w1.heap.size → w'.cell? ⟨b, o, none⟩ = w1.cell? ⟨b, o, none⟩) ∧ Below w1.heap.size w1 w') (first | exact hS | exact kp_drew _)
                  (first | (go_at_call 70; refine (HCm.out _).mono ?_; rintro e w' ⟨rfl, hb2⟩; have hS := kp_step (by assumption) hb2))
                go_wp2
                exact ⟨⟨j + 1 + 1, by omega, by go_num, HE.out, hnx1.trans (hS.2.mono hnx1.size)⟩, by simp [intOf]; omega⟩
    · have hkn : k = n := by omega
      subst hkn
      have E : Hid (c = 0) := HC.out.symm.trans HP.out
      go_wp2
      go_ret
      exact ⟨by rw [E.out]; rfl, hnx⟩

set_option maxHeartbeats 400000 in
theorem grantFault_many (a : Option Addr) (n cap : Nat) (w : World) (h40 : 40 < n) :
    Calls Try.prog 19 #[.slice a n cap] w fun e w' => e = .returned (.int .i64 2) ∧ Below w.heap.size w w' := by
  have h' : (40 : Int) < (n : Int) := by omega
  go_enter Try.func19, Try.ntmps19
  go_wp2
  go_ret
  exact ⟨rfl, Below.refl _ _⟩

theorem implGrantFault_c (a : Option Addr) (n cap : Nat) (gs : List GrI) (w : World) (h : GrIn w a n gs) :
    Calls Try.prog 19 #[.slice a n cap] w fun e w' => e = .returned (.int .i64 (gfCode gs)) ∧ Below w.heap.size w w' := by
  have hz := h.1
  by_cases h40 : 40 < n
  · have e : gfCode gs = 2 := by simp [gfCode, hz, h40]
    rw [e]
    exact grantFault_many a n cap w h40
  · have e : gfCode gs = gfTo gs n := by simp [gfCode, hz, h40]
    rw [e]
    exact grantFault_few a n cap gs _ w (by omega) h rfl

end Go.Proofs.Ytnmidppiakdanaa
