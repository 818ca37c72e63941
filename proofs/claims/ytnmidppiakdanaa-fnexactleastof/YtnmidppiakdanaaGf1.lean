/-
  CONTRACT: spec.l3Fault.
  Conditions: each contract bears its own.
-/
import Derived.Test.YtnmidppiakdanaaGf0
import Derived.Test.YtnmidppiakdanaaGr2
import Derived.Test.YtnmidppiakdanaaRole1
import Derived.WalkSmall
import Derived.BigQuiet
import Derived.Deep.QuietTactic
namespace Go.Proofs.Ytnmidppiakdanaa
open Go.RowKit
set_option linter.unusedVariables false
set_option linter.unusedSimpArgs false

set_option maxHeartbeats 400000 in
theorem l1Set_c (s : Int) (w : World) : Calls Try.prog 102 #[.int .i64 s] w fun e w' => e = .returned (.bool (setIn s)) ∧ w = w' := by
  unfold setIn
  cases h0 : decide (0 ≤ s)
  · go_enter Try.func102, Try.ntmps102
    go_wp2
    go_ret
    exact ⟨by simp, rfl⟩
  · have h0' := of_decide_eq_true h0
    cases h1 : decide (s ≤ 255)
    all_goals
      go_enter Try.func102, Try.ntmps102
      go_wp2
      go_ret
      exact ⟨by simp, rfl⟩

set_option maxRecDepth 100000 in
set_option maxHeartbeats 2000000 in
theorem l3Fault_few (a : Option Addr) (n cap : Nat) (gs : List GrI) (c : Int) (w : World) (h40 : n ≤ 40) (h : GrIn w a n gs) (hc : gfTo gs n = c) :
    Calls Try.prog 66 #[.slice a n cap] w fun e w' => e = .returned (.int .i64 c) ∧ Below w.heap.size w w' := by
  have H : Hid (GrIn w a n gs) := h
  have HC : Hid (gfTo gs n = c) := hc
  clear h hc
  have h' : ¬ ((40 : Int) < (n : Int)) := by omega
  have hn' : (n : Int) ≤ 40 := by omega
  go_enter Try.func66, Try.ntmps66
  go_wp2
  go_loopw [3] (fun i wr => ∃ k : Nat, k ≤ n ∧ i = .int .i64 (k : Int) ∧ gfTo gs k = 0 ∧ Below w.heap.size w wr) (fun i _ => n - (intOf i).toNat)
  case atStart => exact ⟨0, Nat.zero_le _, rfl, rfl, Below.refl _ _⟩
  case round =>
    obtain ⟨k, hk, rfl, hp, hnx⟩ := hrel
    have HP : Hid (gfTo gs k = 0) := hp
    clear hp
    by_cases hlt : k < n
    · obtain ⟨b, off, x, rfl, hs, hx, hbl⟩ := H.out.at hlt
      have HN : Hid (gfTo gs (k + 1) = gfOne gs k x) := gfTo_next hs HP.out
      have HX : Hid (gs[k]? = some x) := hs
      clear hs
      have g := hx.below hnx hbl
      obtain ⟨g0, g1, g2⟩ := g
      have hbw : b < wr.heap.size := Nat.lt_of_lt_of_le hbl hnx.size
      have hlt' : (k : Int) < (n : Int) := by omega
      obtain ⟨t, ht⟩ : ∃ t, roleB x.1.1 x.1.2 = t := ⟨_, rfl⟩
      cases t
      · have E : Hid (c = 3) := HC.out.symm.trans (gfTo_stay gs (k + 1) n 3 (by decide) (by rw [HN.out]; simp [gfOne, ht]) (by omega))
        go_wp2_with (first | (go_at_call 120; refine (l2Role_c _ _ _).mono ?_; rintro e w1 ⟨rfl, hb1⟩; rw [ht]) | go_in)
        go_ret
        exact ⟨by rw [E.out]; rfl, hnx.trans (hb1.mono hnx.size)⟩
      · obtain ⟨u, hu⟩ : ∃ u, setIn x.2 = u := ⟨_, rfl⟩
        cases u
        · have E : Hid (c = 3) := HC.out.symm.trans (gfTo_stay gs (k + 1) n 3 (by decide) (by rw [HN.out]; simp [gfOne, ht, hu]) (by omega))
          go_wp2_with (first | (go_at_call 120; refine (l2Role_c _ _ _).mono ?_; rintro e w1 ⟨rfl, hb1⟩; rw [ht]; have g3 := (hb1.cell (p := ⟨b, off + k * 3 + 2, none⟩) hbw).trans g2) | (go_at_call 102; refine (l1Set_c _ _).mono ?_; rintro e w2 ⟨rfl, rfl⟩; rw [hu]) | go_in)
          go_ret
          exact ⟨by rw [E.out]; rfl, hnx.trans (hb1.mono hnx.size)⟩
        · by_cases hz : x.2 = 0
          · have E : Hid (c = 1) := HC.out.symm.trans (gfTo_stay gs (k + 1) n 1 (by decide) (by rw [HN.out]; unfold gfOne; rw [if_neg (by simp [ht]), if_neg (by simp [hu]), if_pos hz]) (by omega))
            have bz : (x.2 == 0) = true := by simp [hz]
            clear hz
            go_wp2_with (first | (go_at_call 120; refine (l2Role_c _ _ _).mono ?_; rintro e w1 ⟨rfl, hb1⟩; rw [ht]; have g3 := (hb1.cell (p := ⟨b, off + k * 3 + 2, none⟩) hbw).trans g2; have f0 := (hb1.cell (p := ⟨b, off + k * 3, none⟩) hbw).trans g0; have f1 := (hb1.cell (p := ⟨b, off + k * 3 + 1, none⟩) hbw).trans g1) | (go_at_call 102; refine (l1Set_c _ _).mono ?_; rintro e w2 ⟨rfl, rfl⟩; rw [hu]) | go_in)
            go_ret
            exact ⟨by rw [E.out]; rfl, hnx.trans (hb1.mono hnx.size)⟩
          · have bz : (x.2 == 0) = false := by simp [hz]
            match k, hk, hlt, HP, HN, HX, g0, g1, g2, hlt' with
            | 0, hk, hlt, HP, HN, HX, g0, g1, g2, hlt' =>
              have HE : Hid (gfTo gs 1 = 0) := HN.out.trans (gfOne_zero.2 ⟨ht, by simp [setIn] at hu; omega, rfl⟩)
              clear hz
              simp only [Nat.zero_mul, Nat.add_zero] at g0 g1 g2
              go_wp2_with (first | (go_at_call 120; refine (l2Role_c _ _ _).mono ?_; rintro e w1 ⟨rfl, hb1⟩; rw [ht]; have g3 := (hb1.cell (p := ⟨b, off + 2, none⟩) hbw).trans g2; have f0 := (hb1.cell (p := ⟨b, off, none⟩) hbw).trans g0; have f1 := (hb1.cell (p := ⟨b, off + 1, none⟩) hbw).trans g1) | (go_at_call 102; refine (l1Set_c _ _).mono ?_; rintro e w2 ⟨rfl, rfl⟩; rw [hu]) | go_in)
              exact ⟨⟨0 + 1, by omega, by go_num, HE.out, hnx.trans (hb1.mono hnx.size)⟩, by simp [intOf]; omega⟩
            | j + 1, hk, hlt, HP, HN, HX, g0, g1, g2, hlt' =>
              obtain ⟨b', off', y, e', hy, hyx, _⟩ := H.out.at (k := j) (by omega)
              cases e'
              obtain ⟨q0, q1, _⟩ := hyx.below hnx hbl
              have HV : Hid (gfOne gs (j + 1) x = if ltR y.1 x.1 = false then 1 else 0) := by show gfOne gs (j + 1) x = _; simp [gfOne, ht, hu, hz, prevB_of hy]
              clear hyx hz hy
              by_cases d1 : x.1.1 < y.1.1
              · have E : Hid (c = 1) := HC.out.symm.trans (gfTo_stay gs (j + 1 + 1) n 1 (by decide) (by rw [HN.out, HV.out, if_pos (by simp [ltR]; omega)]) (by omega))
                go_wp2_with (first | (go_at_call 120; refine (l2Role_c _ _ _).mono ?_; rintro e w1 ⟨rfl, hb1⟩; rw [ht]; have g3 := (hb1.cell (p := ⟨b, off + (j + 1) * 3 + 2, none⟩) hbw).trans g2; have f0 := (hb1.cell (p := ⟨b, off + (j + 1) * 3, none⟩) hbw).trans g0; have f1 := (hb1.cell (p := ⟨b, off + (j + 1) * 3 + 1, none⟩) hbw).trans g1; have hbv : b < w1.heap.size := Nat.lt_of_lt_of_le hbw hb1.size; have y0 := (hb1.cell (p := ⟨b, off + j * 3, none⟩) hbw).trans q0; have y1 := (hb1.cell (p := ⟨b, off + j * 3 + 1, none⟩) hbw).trans q1) | (go_at_call 102; refine (l1Set_c _ _).mono ?_; rintro e w2 ⟨rfl, rfl⟩; rw [hu]) | go_in)
                go_ret
                exact ⟨by rw [E.out]; rfl, ((hnx.trans (hb1.mono hnx.size)).alloc (by have := hnx.size; have := hb1.size; omega) _).alloc (by have := hnx.size; have := hb1.size; simp; omega) _⟩
              · by_cases d2 : y.1.1 = x.1.1
                · have b2 : (y.1.1 == x.1.1) = true := by simp [d2]
                  by_cases d3 : x.1.2 ≤ y.1.2
                  · have E : Hid (c = 1) := HC.out.symm.trans (gfTo_stay gs (j + 1 + 1) n 1 (by decide) (by rw [HN.out, HV.out, if_pos (by simp [ltR]; omega)]) (by omega))
                    clear d2
                    go_wp2_with (first | (go_at_call 120; refine (l2Role_c _ _ _).mono ?_; rintro e w1 ⟨rfl, hb1⟩; rw [ht]; have g3 := (hb1.cell (p := ⟨b, off + (j + 1) * 3 + 2, none⟩) hbw).trans g2; have f0 := (hb1.cell (p := ⟨b, off + (j + 1) * 3, none⟩) hbw).trans g0; have f1 := (hb1.cell (p := ⟨b, off + (j + 1) * 3 + 1, none⟩) hbw).trans g1; have hbv : b < w1.heap.size := Nat.lt_of_lt_of_le hbw hb1.size; have y0 := (hb1.cell (p := ⟨b, off + j * 3, none⟩) hbw).trans q0; have y1 := (hb1.cell (p := ⟨b, off + j * 3 + 1, none⟩) hbw).trans q1) | (go_at_call 102; refine (l1Set_c _ _).mono ?_; rintro e w2 ⟨rfl, rfl⟩; rw [hu]) | go_in)
                    go_ret
                    exact ⟨by rw [E.out]; rfl, ((hnx.trans (hb1.mono hnx.size)).alloc (by have := hnx.size; have := hb1.size; omega) _).alloc (by have := hnx.size; have := hb1.size; simp; omega) _⟩
                  · have HE : Hid (gfTo gs (j + 1 + 1) = 0) := by show gfTo gs (j + 1 + 1) = 0; rw [HN.out, HV.out, if_neg (by simp [ltR]; omega)]
                    clear d2
                    go_wp2_with (first | (go_at_call 120; refine (l2Role_c _ _ _).mono ?_; rintro e w1 ⟨rfl, hb1⟩; rw [ht]; have g3 := (hb1.cell (p := ⟨b, off + (j + 1) * 3 + 2, none⟩) hbw).trans g2; have f0 := (hb1.cell (p := ⟨b, off + (j + 1) * 3, none⟩) hbw).trans g0; have f1 := (hb1.cell (p := ⟨b, off + (j + 1) * 3 + 1, none⟩) hbw).trans g1; have hbv : b < w1.heap.size := Nat.lt_of_lt_of_le hbw hb1.size; have y0 := (hb1.cell (p := ⟨b, off + j * 3, none⟩) hbw).trans q0; have y1 := (hb1.cell (p := ⟨b, off + j * 3 + 1, none⟩) hbw).trans q1) | (go_at_call 102; refine (l1Set_c _ _).mono ?_; rintro e w2 ⟨rfl, rfl⟩; rw [hu]) | go_in)
                    exact ⟨⟨j + 1 + 1, by omega, by go_num, HE.out, ((hnx.trans (hb1.mono hnx.size)).alloc (by have := hnx.size; have := hb1.size; omega) _).alloc (by have := hnx.size; have := hb1.size; simp; omega) _⟩, by simp [intOf]; omega⟩
                · have b2 : (y.1.1 == x.1.1) = false := by simp [d2]
                  have HE : Hid (gfTo gs (j + 1 + 1) = 0) := by show gfTo gs (j + 1 + 1) = 0; rw [HN.out, HV.out, if_neg (by simp [ltR]; omega)]
                  clear d2
                  go_wp2_with (first | (go_at_call 120; refine (l2Role_c _ _ _).mono ?_; rintro e w1 ⟨rfl, hb1⟩; rw [ht]; have g3 := (hb1.cell (p := ⟨b, off + (j + 1) * 3 + 2, none⟩) hbw).trans g2; have f0 := (hb1.cell (p := ⟨b, off + (j + 1) * 3, none⟩) hbw).trans g0; have f1 := (hb1.cell (p := ⟨b, off + (j + 1) * 3 + 1, none⟩) hbw).trans g1; have hbv : b < w1.heap.size := Nat.lt_of_lt_of_le hbw hb1.size; have y0 := (hb1.cell (p := ⟨b, off + j * 3, none⟩) hbw).trans q0; have y1 := (hb1.cell (p := ⟨b, off + j * 3 + 1, none⟩) hbw).trans q1) | (go_at_call 102; refine (l1Set_c _ _).mono ?_; rintro e w2 ⟨rfl, rfl⟩; rw [hu]) | go_in)
                  exact ⟨⟨j + 1 + 1, by omega, by go_num, HE.out, ((hnx.trans (hb1.mono hnx.size)).alloc (by have := hnx.size; have := hb1.size; omega) _).alloc (by have := hnx.size; have := hb1.size; simp; omega) _⟩, by simp [intOf]; omega⟩
    · have hkn : k = n := by omega
      subst hkn
      have E : Hid (c = 0) := HC.out.symm.trans HP.out
      go_wp2
      go_ret
      exact ⟨by rw [E.out]; rfl, hnx⟩

set_option maxHeartbeats 400000 in
theorem l3Fault_many (a : Option Addr) (n cap : Nat) (w : World) (h40 : 40 < n) :
    Calls Try.prog 66 #[.slice a n cap] w fun e w' => e = .returned (.int .i64 2) ∧ Below w.heap.size w w' := by
  have h' : (40 : Int) < (n : Int) := by omega
  go_enter Try.func66, Try.ntmps66
  go_wp2
  go_ret
  exact ⟨rfl, Below.refl _ _⟩

theorem l3Fault_c (a : Option Addr) (n cap : Nat) (gs : List GrI) (w : World) (h : GrIn w a n gs) :
    Calls Try.prog 66 #[.slice a n cap] w fun e w' => e = .returned (.int .i64 (gfCode gs)) ∧ Below w.heap.size w w' := by
  have hz := h.1
  by_cases h40 : 40 < n
  · have e : gfCode gs = 2 := by simp [gfCode, hz, h40]
    rw [e]
    exact l3Fault_many a n cap w h40
  · have e : gfCode gs = gfTo gs n := by simp [gfCode, hz, h40]
    rw [e]
    exact l3Fault_few a n cap gs _ w (by omega) h rfl

end Go.Proofs.Ytnmidppiakdanaa
