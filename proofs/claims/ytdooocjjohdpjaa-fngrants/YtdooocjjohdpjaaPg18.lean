/-
  CONTRACT: spec.l3Fault.
  Conditions: each contract bears its own.
  CONTRACT: impl.GrantFault.
  Conditions: each contract bears its own.
  CONTRACTS: StepGrants of both programs.
  Conditions: each contract bears its own.
  FACTS: a box of two cells and an argument's rules, kept through calls and marks.
  Conditions: each fact bears its own.
-/
import Derived.Test.YtdooocjjohdpjaaPg17
import Derived.Test.YtdooocjjohdpjaaPg07
import Derived.Test.YtdooocjjohdpjaaPg01
import Derived.WalkSmall
import Derived.BigQuiet
import Derived.Deep.QuietTactic
import Derived.Test.YtdooocjjohdpjaaPg16
import Derived.Deep.RegionHeld3
import Derived.Test.YtdooocjjohdpjaaPg08
import Derived.Test.YtdooocjjohdpjaaPg02
import Derived.Test.YtdooocjjohdpjaaPg05
import Derived.Test.YtdooocjjohdpjaaPg10
namespace Go.Proofs.Ytdooocjjohdpjaa
open Go.RowKit
set_option linter.unusedVariables false
set_option linter.unusedSimpArgs false

set_option maxHeartbeats 400000 in
theorem l1Set_c (s : Int) (w : World) : Calls Try.prog 115 #[.int .i64 s] w fun e w' => e = .returned (.bool (setIn s)) ∧ w = w' := by
  unfold setIn
  cases h0 : decide (0 ≤ s)
  · go_enter Try.func115, Try.ntmps115
    go_wp2
    go_ret
    exact ⟨by simp, rfl⟩
  · have h0' := of_decide_eq_true h0
    cases h1 : decide (s ≤ 255)
    all_goals
      go_enter Try.func115, Try.ntmps115
      go_wp2
      go_ret
      exact ⟨by simp, rfl⟩

set_option maxRecDepth 100000 in
set_option maxHeartbeats 2000000 in
theorem l3Fault_few (a : Option Addr) (n cap : Nat) (gs : List GrI) (c : Int) (w : World) (h40 : n ≤ 40) (h : GrIn w a n gs) (hc : gfTo gs n = c) :
    Calls Try.prog 61 #[.slice a n cap] w fun e w' => e = .returned (.int .i64 c) ∧ Below w.heap.size w w' := by
  have H : Hid (GrIn w a n gs) := h
  have HC : Hid (gfTo gs n = c) := hc
  clear h hc
  have h' : ¬ ((40 : Int) < (n : Int)) := by omega
  have hn' : (n : Int) ≤ 40 := by omega
  go_enter Try.func61, Try.ntmps61
  go_wp2
  go_loopw [3] (fun i wr => ∃ k : Nat, k ≤ n ∧ i = .int .i64 (k : Int) ∧ gfTo gs k = 0 ∧ Below w.heap.size w wr) (fun i _ => n - (intOf i).toNat)
  case atStart => exact ⟨0, Nat.zero_le _, rfl, rfl, Below.refl _ _⟩
  case round =>
    obtain ⟨k, hk, rfl, hp, hnx⟩ := hrel
    have HP : Hid (gfTo gs k = 0) := hp
    clear hp
    by_cases hlt : k < n
    · obtain ⟨b, off, x, rfl, hs, hx, hbl⟩ := H.out.at hlt
      have HN : Hid (gfTo gs (k + 1) = gfOne gs k x) := gfTo_next hs HP.out
      have HX : Hid (gs[k]? = some x) := hs
      clear hs
      have g := hx.below hnx hbl
      obtain ⟨g0, g1, g2⟩ := g
      have hbw : b < wr.heap.size := Nat.lt_of_lt_of_le hbl hnx.size
      have hlt' : (k : Int) < (n : Int) := by omega
      obtain ⟨t, ht⟩ : ∃ t, roleB x.1.1 x.1.2 = t := ⟨_, rfl⟩
      cases t
      · have E : Hid (c = 3) := HC.out.symm.trans (gfTo_stay gs (k + 1) n 3 (by decide) (by rw [HN.out]; simp [gfOne, ht]) (by omega))
        go_wp2_with (first | (go_at_call 114; refine (l2Role_c _ _ _).mono ?_; rintro e w1 ⟨rfl, hb1⟩; rw [ht]) | go_in)
        go_ret
        exact ⟨by rw [E.out]; rfl, hnx.trans (hb1.mono hnx.size)⟩
      · obtain ⟨u, hu⟩ : ∃ u, setIn x.2 = u := ⟨_, rfl⟩
        cases u
        · have E : Hid (c = 3) := HC.out.symm.trans (gfTo_stay gs (k + 1) n 3 (by decide) (by rw [HN.out]; simp [gfOne, ht, hu]) (by omega))
          go_wp2_with (first | (go_at_call 114; refine (l2Role_c _ _ _).mono ?_; rintro e w1 ⟨rfl, hb1⟩; rw [ht]; have g3 := (hb1.cell (p := ⟨b, off + k * 3 + 2, none⟩) hbw).trans g2) | (go_at_call 115; refine (l1Set_c _ _).mono ?_; rintro e w2 ⟨rfl, rfl⟩; rw [hu]) | go_in)
          go_ret
          exact ⟨by rw [E.out]; rfl, hnx.trans (hb1.mono hnx.size)⟩
        · by_cases hz : x.2 = 0
          · have E : Hid (c = 1) := HC.out.symm.trans (gfTo_stay gs (k + 1) n 1 (by decide) (by rw [HN.out]; unfold gfOne; rw [if_neg (by simp [ht]), if_neg (by simp [hu]), if_pos hz]) (by omega))
            have bz : (x.2 == 0) = true := by simp [hz]
            clear hz
            go_wp2_with (first | (go_at_call 114; refine (l2Role_c _ _ _).mono ?_; rintro e w1 ⟨rfl, hb1⟩; rw [ht]; have g3 := (hb1.cell (p := ⟨b, off + k * 3 + 2, none⟩) hbw).trans g2; have f0 := (hb1.cell (p := ⟨b, off + k * 3, none⟩) hbw).trans g0; have f1 := (hb1.cell (p := ⟨b, off + k * 3 + 1, none⟩) hbw).trans g1) | (go_at_call 115; refine (l1Set_c _ _).mono ?_; rintro e w2 ⟨rfl, rfl⟩; rw [hu]) | go_in)
            go_ret
            exact ⟨by rw [E.out]; rfl, hnx.trans (hb1.mono hnx.size)⟩
          · have bz : (x.2 == 0) = false := by simp [hz]
            match k, hk, hlt, HP, HN, HX, g0, g1, g2, hlt' with
            | 0, hk, hlt, HP, HN, HX, g0, g1, g2, hlt' =>
              have HE : Hid (gfTo gs 1 = 0) := HN.out.trans (gfOne_zero.2 ⟨ht, by simp [setIn] at hu; omega, rfl⟩)
              clear hz
              simp only [Nat.zero_mul, Nat.add_zero] at g0 g1 g2
              go_wp2_with (first | (go_at_call 114; refine (l2Role_c _ _ _).mono ?_; rintro e w1 ⟨rfl, hb1⟩; rw [ht]; have g3 := (hb1.cell (p := ⟨b, off + 2, none⟩) hbw).trans g2; have f0 := (hb1.cell (p := ⟨b, off, none⟩) hbw).trans g0; have f1 := (hb1.cell (p := ⟨b, off + 1, none⟩) hbw).trans g1) | (go_at_call 115; refine (l1Set_c _ _).mono ?_; rintro e w2 ⟨rfl, rfl⟩; rw [hu]) | go_in)
              exact ⟨⟨0 + 1, by omega, by go_num, HE.out, hnx.trans (hb1.mono hnx.size)⟩, by simp [intOf]; omega⟩
            | j + 1, hk, hlt, HP, HN, HX, g0, g1, g2, hlt' =>
              obtain ⟨b', off', y, e', hy, hyx, _⟩ := H.out.at (k := j) (by omega)
              cases e'
              obtain ⟨q0, q1, _⟩ := hyx.below hnx hbl
              have HV : Hid (gfOne gs (j + 1) x = if ltR y.1 x.1 = false then 1 else 0) := by show gfOne gs (j + 1) x = _; simp [gfOne, ht, hu, hz, prevB_of hy]
              clear hyx hz hy
              by_cases d1 : x.1.1 < y.1.1
              · have E : Hid (c = 1) := HC.out.symm.trans (gfTo_stay gs (j + 1 + 1) n 1 (by decide) (by rw [HN.out, HV.out, if_pos (by simp [ltR]; omega)]) (by omega))
                go_wp2_with (first | (go_at_call 114; refine (l2Role_c _ _ _).mono ?_; rintro e w1 ⟨rfl, hb1⟩; rw [ht]; have g3 := (hb1.cell (p := ⟨b, off + (j + 1) * 3 + 2, none⟩) hbw).trans g2; have f0 := (hb1.cell (p := ⟨b, off + (j + 1) * 3, none⟩) hbw).trans g0; have f1 := (hb1.cell (p := ⟨b, off + (j + 1) * 3 + 1, none⟩) hbw).trans g1; have hbv : b < w1.heap.size := Nat.lt_of_lt_of_le hbw hb1.size; have y0 := (hb1.cell (p := ⟨b, off + j * 3, none⟩) hbw).trans q0; have y1 := (hb1.cell (p := ⟨b, off + j * 3 + 1, none⟩) hbw).trans q1) | (go_at_call 115; refine (l1Set_c _ _).mono ?_; rintro e w2 ⟨rfl, rfl⟩; rw [hu]) | go_in)
                go_ret
                exact ⟨by rw [E.out]; rfl, ((hnx.trans (hb1.mono hnx.size)).alloc (by have := hnx.size; have := hb1.size; omega) _).alloc (by have := hnx.size; have := hb1.size; simp; omega) _⟩
              · by_cases d2 : y.1.1 = x.1.1
                · have b2 : (y.1.1 == x.1.1) = true := by simp [d2]
                  by_cases d3 : x.1.2 ≤ y.1.2
                  · have E : Hid (c = 1) := HC.out.symm.trans (gfTo_stay gs (j + 1 + 1) n 1 (by decide) (by rw [HN.out, HV.out, if_pos (by simp [ltR]; omega)]) (by omega))
                    clear d2
                    go_wp2_with (first | (go_at_call 114; refine (l2Role_c _ _ _).mono ?_; rintro e w1 ⟨rfl, hb1⟩; rw [ht]; have g3 := (hb1.cell (p := ⟨b, off + (j + 1) * 3 + 2, none⟩) hbw).trans g2; have f0 := (hb1.cell (p := ⟨b, off + (j + 1) * 3, none⟩) hbw).trans g0; have f1 := (hb1.cell (p := ⟨b, off + (j + 1) * 3 + 1, none⟩) hbw).trans g1; have hbv : b < w1.heap.size := Nat.lt_of_lt_of_le hbw hb1.size; have y0 := (hb1.cell (p := ⟨b, off + j * 3, none⟩) hbw).trans q0; have y1 := (hb1.cell (p := ⟨b, off + j * 3 + 1, none⟩) hbw).trans q1) | (go_at_call 115; refine (l1Set_c _ _).mono ?_; rintro e w2 ⟨rfl, rfl⟩; rw [hu]) | go_in)
                    go_ret
                    exact ⟨by rw [E.out]; rfl, ((hnx.trans (hb1.mono hnx.size)).alloc (by have := hnx.size; have := hb1.size; omega) _).alloc (by have := hnx.size; have := hb1.size; simp; omega) _⟩
                  · have HE : Hid (gfTo gs (j + 1 + 1) = 0) := by show gfTo gs (j + 1 + 1) = 0; rw [HN.out, HV.out, if_neg (by simp [ltR]; omega)]
                    clear d2
                    go_wp2_with (first | (go_at_call 114; refine (l2Role_c _ _ _).mono ?_; rintro e w1 ⟨rfl, hb1⟩; rw [ht]; have g3 := (hb1.cell (p := ⟨b, off + (j + 1) * 3 + 2, none⟩) hbw).trans g2; have f0 := (hb1.cell (p := ⟨b, off + (j + 1) * 3, none⟩) hbw).trans g0; have f1 := (hb1.cell (p := ⟨b, off + (j + 1) * 3 + 1, none⟩) hbw).trans g1; have hbv : b < w1.heap.size := Nat.lt_of_lt_of_le hbw hb1.size; have y0 := (hb1.cell (p := ⟨b, off + j * 3, none⟩) hbw).trans q0; have y1 := (hb1.cell (p := ⟨b, off + j * 3 + 1, none⟩) hbw).trans q1) | (go_at_call 115; refine (l1Set_c _ _).mono ?_; rintro e w2 ⟨rfl, rfl⟩; rw [hu]) | go_in)
                    exact ⟨⟨j + 1 + 1, by omega, by go_num, HE.out, ((hnx.trans (hb1.mono hnx.size)).alloc (by have := hnx.size; have := hb1.size; omega) _).alloc (by have := hnx.size; have := hb1.size; simp; omega) _⟩, by simp [intOf]; omega⟩
                · have b2 : (y.1.1 == x.1.1) = false := by simp [d2]
                  have HE : Hid (gfTo gs (j + 1 + 1) = 0) := by show gfTo gs (j + 1 + 1) = 0; rw [HN.out, HV.out, if_neg (by simp [ltR]; omega)]
                  clear d2
                  go_wp2_with (first | (go_at_call 114; refine (l2Role_c _ _ _).mono ?_; rintro e w1 ⟨rfl, hb1⟩; rw [ht]; have g3 := (hb1.cell (p := ⟨b, off + (j + 1) * 3 + 2, none⟩) hbw).trans g2; have f0 := (hb1.cell (p := ⟨b, off + (j + 1) * 3, none⟩) hbw).trans g0; have f1 := (hb1.cell (p := ⟨b, off + (j + 1) * 3 + 1, none⟩) hbw).trans g1; have hbv : b < w1.heap.size := Nat.lt_of_lt_of_le hbw hb1.size; have y0 := (hb1.cell (p := ⟨b, off + j * 3, none⟩) hbw).trans q0; have y1 := (hb1.cell (p := ⟨b, off + j * 3 + 1, none⟩) hbw).trans q1) | (go_at_call 115; refine (l1Set_c _ _).mono ?_; rintro e w2 ⟨rfl, rfl⟩; rw [hu]) | go_in)
                  exact ⟨⟨j + 1 + 1, by omega, by go_num, HE.out, ((hnx.trans (hb1.mono hnx.size)).alloc (by have := hnx.size; have := hb1.size; omega) _).alloc (by have := hnx.size; have := hb1.size; simp; omega) _⟩, by simp [intOf]; omega⟩
    · have hkn : k = n := by omega
      subst hkn
      have E : Hid (c = 0) := HC.out.symm.trans HP.out
      go_wp2
      go_ret
      exact ⟨by rw [E.out]; rfl, hnx⟩

set_option maxHeartbeats 400000 in
theorem l3Fault_many (a : Option Addr) (n cap : Nat) (w : World) (h40 : 40 < n) :
    Calls Try.prog 61 #[.slice a n cap] w fun e w' => e = .returned (.int .i64 2) ∧ Below w.heap.size w w' := by
  have h' : (40 : Int) < (n : Int) := by omega
  go_enter Try.func61, Try.ntmps61
  go_wp2
  go_ret
  exact ⟨rfl, Below.refl _ _⟩

theorem l3Fault_c (a : Option Addr) (n cap : Nat) (gs : List GrI) (w : World) (h : GrIn w a n gs) :
    Calls Try.prog 61 #[.slice a n cap] w fun e w' => e = .returned (.int .i64 (gfCode gs)) ∧ Below w.heap.size w w' := by
  have hz := h.1
  by_cases h40 : 40 < n
  · have e : gfCode gs = 2 := by simp [gfCode, hz, h40]
    rw [e]
    exact l3Fault_many a n cap w h40
  · have e : gfCode gs = gfTo gs n := by simp [gfCode, hz, h40]
    rw [e]
    exact l3Fault_few a n cap gs _ w (by omega) h rfl

end Go.Proofs.Ytdooocjjohdpjaa

namespace Go.Proofs.Ytdooocjjohdpjaa
open Go.RowKit Go.Sort
set_option linter.unusedVariables false
set_option linter.unusedSimpArgs false

set_option maxHeartbeats 400000 in
theorem setFault_c (s : Int) (w : World) : Calls Try.prog 64 #[.int .i64 s] w fun e w' => e = .returned (.int .i64 (if setIn s = true then 0 else 3)) ∧ w = w' := by
  by_cases h0 : 0 ≤ s
  · by_cases h1 : s ≤ 255
    · have h2 : s < (256 : Int) := by omega
      rw [show (if setIn s = true then (0 : Int) else 3) = 0 by simp [setIn, h0, h1]]
      go_enter Try.func64, Try.ntmps64
      go_wp2
      go_ret
      exact ⟨rfl, rfl⟩
    · have h2 : (256 : Int) ≤ s := by omega
      rw [show (if setIn s = true then (0 : Int) else 3) = 3 by simp [setIn, h1]]
      go_enter Try.func64, Try.ntmps64
      go_wp2
      go_ret
      exact ⟨rfl, rfl⟩
  · have h2 : s < (0 : Int) := by omega
    rw [show (if setIn s = true then (0 : Int) else 3) = 3 by simp [setIn, h0]]
    go_enter Try.func64, Try.ntmps64
    go_wp2
    go_ret
    exact ⟨rfl, rfl⟩

theorem below_growD (w : World) (q : Nat) (os : Array Obj) : Below w.heap.size w (grow (w.drewN q) os) :=
  ⟨rfl, rfl, rfl, by simp [grow, World.drewN], fun i hi => by simp [grow, World.drewN, Array.getElem?_append_left hi]⟩

theorem cmpRoles_c (x y : RoI) (w : World) : Calls Try.prog 65 #[.agg #[.int .i64 x.1, .int .i64 x.2], .agg #[.int .i64 y.1, .int .i64 y.2]] w fun e w' => e = .returned (.int .i64 (cfR x y)) ∧ Below w.heap.size w w' :=
  (closure_c x y w).mono (fun e w' ⟨h1, q, os, h2⟩ => ⟨h1, by rw [h2]; exact below_growD w q os⟩)

set_option maxRecDepth 100000 in
set_option maxHeartbeats 2000000 in
theorem grantFault_few (a : Option Addr) (n cap : Nat) (gs : List GrI) (c : Int) (w : World) (h40 : n ≤ 40) (h : GrIn w a n gs) (hc : gfTo gs n = c) :
    Calls Try.prog 18 #[.slice a n cap] w fun e w' => e = .returned (.int .i64 c) ∧ Below w.heap.size w w' := by
  have H : Hid (GrIn w a n gs) := h
  have HC : Hid (gfTo gs n = c) := hc
  clear h hc
  have h' : ¬ ((40 : Int) < (n : Int)) := by omega
  have hn' : (n : Int) ≤ 40 := by omega
  go_enter Try.func18, Try.ntmps18
  go_wp2
  go_loopw [10] (fun i wr => ∃ k : Nat, k ≤ n ∧ i = .int .i64 (k : Int) ∧ gfTo gs k = 0 ∧ Below w.heap.size w wr) (fun i _ => n - (intOf i).toNat)
  case atStart => exact ⟨0, Nat.zero_le _, rfl, rfl, Below.refl _ _⟩
  case round =>
    obtain ⟨k, hk, rfl, hp, hnx⟩ := hrel
    have HP : Hid (gfTo gs k = 0) := hp
    clear hp
    by_cases hlt : k < n
    · obtain ⟨b, off, x, rfl, hs, hx, hbl⟩ := H.out.at hlt
      have HN : Hid (gfTo gs (k + 1) = gfOne gs k x) := gfTo_next hs HP.out
      clear hs
      have g := hx.below hnx hbl
      obtain ⟨g0, g1, g2⟩ := g
      have hbw : b < wr.heap.size := Nat.lt_of_lt_of_le hbl hnx.size
      have hlt' : (k : Int) < (n : Int) := by omega
      obtain ⟨t, ht⟩ : ∃ t, roleB x.1.1 x.1.2 = t := ⟨_, rfl⟩
      go_wp2_with fail
      refine (implRoleFault_c x.1.1 x.1.2 _).mono ?_
      rintro e w1 ⟨rfl, hb1⟩
      have hz1 := hb1.size
      simp only [World.size_alloc] at hz1
      have hnx1 : Below w.heap.size w w1 := hnx.trans ((below_new hb1).mono hnx.size)
      have hlt1 : wr.heap.size < w1.heap.size := by omega
      have b0 : w1.cell? ⟨wr.heap.size, 0, none⟩ = some (.int .i64 x.1.1) := (hb1.cell (p := ⟨wr.heap.size, 0, none⟩) (by simp)).trans (by simp)
      have b1 : w1.cell? ⟨wr.heap.size, 1, none⟩ = some (.int .i64 x.1.2) := (hb1.cell (p := ⟨wr.heap.size, 1, none⟩) (by simp)).trans (by simp)
      have b2 : w1.cell? ⟨wr.heap.size, 2, none⟩ = some (.int .i64 x.2) := (hb1.cell (p := ⟨wr.heap.size, 2, none⟩) (by simp)).trans (by simp)
      have hold : ∀ o, w1.cell? ⟨b, o, none⟩ = wr.cell? ⟨b, o, none⟩ := fun o => ((below_new hb1).cell (p := ⟨b, o, none⟩) hbw)
      clear hb1
      cases t
      · have E : Hid (c = 3) := HC.out.symm.trans (gfTo_stay gs (k + 1) n 3 (by decide) (by rw [HN.out]; simp [gfOne, ht]) (by omega))
        rw [show roleCode x.1.1 x.1.2 = 3 by simp [roleCode, ht]]
        clear hold
        go_wp2
        go_ret
        exact ⟨by rw [E.out]; rfl, hnx1⟩
      · rw [show roleCode x.1.1 x.1.2 = 0 by simp [roleCode, ht]]
        obtain ⟨u, hu⟩ : ∃ u, setIn x.2 = u := ⟨_, rfl⟩
        cases u
        · have E : Hid (c = 3) := HC.out.symm.trans (gfTo_stay gs (k + 1) n 3 (by decide) (by rw [HN.out]; simp [gfOne, ht, hu]) (by omega))
          clear hold
          go_wp2_with (first | (go_at_call 64; refine (setFault_c _ _).mono ?_; rintro e w2 ⟨rfl, rfl⟩; rw [hu]) | go_in)
          go_ret
          exact ⟨by rw [E.out]; rfl, hnx1⟩
        · by_cases hz : x.2 = 0
          · have E : Hid (c = 1) := HC.out.symm.trans (gfTo_stay gs (k + 1) n 1 (by decide) (by rw [HN.out]; unfold gfOne; rw [if_neg (by simp [ht]), if_neg (by simp [hu]), if_pos hz]) (by omega))
            have bz : (x.2 == 0) = true := by simp [hz]
            clear hz hold
            go_wp2_with (first | (go_at_call 64; refine (setFault_c _ _).mono ?_; rintro e w2 ⟨rfl, rfl⟩; rw [hu]) | go_in)
            go_quiet (fail)
            go_wp2
            go_ret
            exact ⟨by rw [E.out]; rfl, bdN hnx1 _⟩
          · have bz : (x.2 == 0) = false := by simp [hz]
            obtain rfl | ⟨j, rfl⟩ : k = 0 ∨ ∃ j, k = j + 1 := by cases k; exact .inl rfl; exact .inr ⟨_, rfl⟩
            · skip
              have HE : Hid (gfTo gs 1 = 0) := HN.out.trans (gfOne_zero.2 ⟨ht, by simp [setIn] at hu; omega, rfl⟩)
              clear hz hold
              go_wp2_with (first | (go_at_call 64; refine (setFault_c _ _).mono ?_; rintro e w2 ⟨rfl, rfl⟩; rw [hu]) | go_in)
              go_quiet (fail)
              go_wp2
              exact ⟨⟨0 + 1, by omega, by go_num, HE.out, bdN hnx1 _⟩, by simp [intOf]; omega⟩
            · skip
              obtain ⟨b', off', y, e', hy, hyx, _⟩ := H.out.at (k := j) (by omega)
              cases e'
              obtain ⟨q0, q1, _⟩ := hyx.below hnx hbl
              have HV : Hid (gfOne gs (j + 1) x = if ltR y.1 x.1 = false then 1 else 0) := by show gfOne gs (j + 1) x = _; simp [gfOne, ht, hu, hz, prevB_of hy]
              have y0 := (hold _).trans q0
              have y1 := (hold _).trans q1
              clear hyx hz hy hold q0 q1 g0 g1 g2
              have hbv : b < w1.heap.size := by omega
              have hj1 : (j : Int) < (n : Int) := by omega
              have hj0 : (0 : Int) ≤ (j : Int) := by omega
              have hjw : IntKind.i64.wrap ((j : Int) + 1 - 1) = (j : Int) := by rw [IntKind.wrap_i64]; omega
              have hjw2 : IntKind.i64.wrap (j : Int) = (j : Int) := by rw [IntKind.wrap_i64]; omega
              have hjw3 : IntKind.i64.wrap (((j + 1 : Nat) : Int) - 1) = (j : Int) := by rw [IntKind.wrap_i64]; omega
              have hpos1 : (0 : Int) < (j : Int) + 1 := by omega
              go_wp2_with (first | (go_at_call 64; refine (setFault_c _ _).mono ?_; rintro e w2 ⟨rfl, rfl⟩; rw [hu]) | go_in)
              obtain ⟨v, hv⟩ : ∃ v, cfR y.1 x.1 = v := ⟨_, rfl⟩
              have HCm : Hid (∀ w2 : World, Calls Try.prog 65 #[.agg #[.int .i64 y.1.1, .int .i64 y.1.2], .agg #[.int .i64 x.1.1, .int .i64 x.1.2]] w2 fun e w' => e = .returned (.int .i64 v) ∧ Below w2.heap.size w2 w') := fun w2 => by rw [← hv]; exact cmpRoles_c y.1 x.1 w2
              have hge : (0 ≤ v) ↔ ltR y.1 x.1 = false := by
                rw [← hv]
                simp only [cfR, orC, cmpI, ltR]
                split <;> split <;> simp <;> omega
              by_cases hpos : 0 ≤ v
              · have E : Hid (c = 1) := HC.out.symm.trans (gfTo_stay gs (j + 1 + 1) n 1 (by decide) (by rw [HN.out, HV.out, if_pos (hge.1 hpos)]) (by omega))
                clear hge hv
                go_region_held3 (fun w' => (∀ b o, b < w1.heap.size → w'.cell? ⟨b, o, none⟩ = w1.cell? ⟨b, o, none⟩) ∧ Below w1.heap.size w1 w') (first | exact hS | exact kp_drew _)
                  (first | (go_at_call 65; refine (HCm.out _).mono ?_; rintro e w' ⟨rfl, hb2⟩; have hS := kp_step (by assumption) hb2))
                go_wp2
                go_ret
                exact ⟨by rw [E.out]; rfl, hnx1.trans (hS.2.mono hnx1.size)⟩
              · have HE : Hid (gfTo gs (j + 1 + 1) = 0) := by show gfTo gs (j + 1 + 1) = 0; rw [HN.out, HV.out, if_neg (fun q => hpos (hge.2 q))]
                have hneg : v < 0 := by omega
                clear hge hv hpos
                go_region_held3 (fun w' => (∀ b o, b < w1.heap.size → w'.cell? ⟨b, o, none⟩ = w1.cell? ⟨b, o, none⟩) ∧ Below w1.heap.size w1 w') (first | exact hS | exact kp_drew _)
                  (first | (go_at_call 65; refine (HCm.out _).mono ?_; rintro e w' ⟨rfl, hb2⟩; have hS := kp_step (by assumption) hb2))
                go_wp2
                exact ⟨⟨j + 1 + 1, by omega, by go_num, HE.out, hnx1.trans (hS.2.mono hnx1.size)⟩, by simp [intOf]; omega⟩
    · have hkn : k = n := by omega
      subst hkn
      have E : Hid (c = 0) := HC.out.symm.trans HP.out
      go_wp2
      go_ret
      exact ⟨by rw [E.out]; rfl, hnx⟩

set_option maxHeartbeats 400000 in
theorem grantFault_many (a : Option Addr) (n cap : Nat) (w : World) (h40 : 40 < n) :
    Calls Try.prog 18 #[.slice a n cap] w fun e w' => e = .returned (.int .i64 2) ∧ Below w.heap.size w w' := by
  have h' : (40 : Int) < (n : Int) := by omega
  go_enter Try.func18, Try.ntmps18
  go_wp2
  go_ret
  exact ⟨rfl, Below.refl _ _⟩

theorem implGrantFault_c (a : Option Addr) (n cap : Nat) (gs : List GrI) (w : World) (h : GrIn w a n gs) :
    Calls Try.prog 18 #[.slice a n cap] w fun e w' => e = .returned (.int .i64 (gfCode gs)) ∧ Below w.heap.size w w' := by
  have hz := h.1
  by_cases h40 : 40 < n
  · have e : gfCode gs = 2 := by simp [gfCode, hz, h40]
    rw [e]
    exact grantFault_many a n cap w h40
  · have e : gfCode gs = gfTo gs n := by simp [gfCode, hz, h40]
    rw [e]
    exact grantFault_few a n cap gs _ w (by omega) h rfl

end Go.Proofs.Ytdooocjjohdpjaa

namespace Go.Proofs.Ytdooocjjohdpjaa
open Go.RowKit
set_option linter.unusedVariables false
set_option linter.unusedSimpArgs false

def GivesS (f : Nat) (a : Option Addr) (n cap : Nat) (b : Option Addr) (m cap2 : Nat) (c : Int) (ys : List GrI) (w : World) : Prop := Calls Try.prog f #[.slice a n cap, .slice b m cap2] w fun e w' => ∃ (a' : Option Addr) (cap' : Nat), e = .returned (.agg #[.int .i64 c, .slice a' ys.length cap']) ∧ Own3 w' w.heap.size (.slice a' ys.length cap') ys ∧ Below w.heap.size w w'

set_option maxHeartbeats 1000000 in
theorem specStep_pol (a : Option Addr) (n cap : Nat) (zs : List RuleI) (b : Option Addr) (m cap2 : Nat) (gs : List GrI) (w : World) (h : RulesIn w a n zs) (hg : GrIn w b m gs) (hn : n ≤ 1048576) (c : Int) (hc : polCode zs = c) (h0 : c ≠ 0) : GivesS 16 a n cap b m cap2 c [] w := by
  obtain ⟨W, hW⟩ : ∃ W, W = w.alloc (.cells #[.int .i64 0, .slice none 0 0] 29) := ⟨_, rfl⟩
  have hs : W.heap.size = w.heap.size + 1 := by rw [hW]; simp
  have B0 : Below w.heap.size w W := by rw [hW]; exact (Below.refl _ _).alloc (Nat.le_refl _) _
  have c0 : W.cell? ⟨w.heap.size, 0, none⟩ = some (.int .i64 0) := by rw [hW]; simp
  have c1 : W.cell? ⟨w.heap.size, 1, none⟩ = some (.slice none 0 0) := by rw [hW]; simp
  have f0 : ∀ j, W.frozen? ⟨w.heap.size, j, none⟩ = false := fun j => by rw [hW]; simp [go_sem]
  have H : Hid (RulesIn W a n zs) := h.below B0
  have G : Hid (GrIn W b m gs) := hg.below B0
  have hcn : (c != 0) = true := by simpa using h0
  have HC : Hid (polCode zs = c) := hc
  clear h hg hc
  unfold GivesS
  go_enter Try.func16, Try.ntmps16
  go_wp2_with fail
  rw [← hW]
  clear hW
  refine (l2Fault_c a n cap zs _ hn H.out).mono ?_
  rintro e w1 ⟨rfl, hb1⟩
  rw [HC.out]
  have hlw : w.heap.size < W.heap.size := by omega
  have d0 : w1.cell? ⟨w.heap.size, 0, none⟩ = some (.int .i64 0) := (hb1.cell (p := ⟨w.heap.size, 0, none⟩) hlw).trans c0
  have d1 : w1.cell? ⟨w.heap.size, 1, none⟩ = some (.slice none 0 0) := (hb1.cell (p := ⟨w.heap.size, 1, none⟩) hlw).trans c1
  have g0 : w1.frozen? ⟨w.heap.size, 0, none⟩ = false := (hb1.frozen (p := ⟨w.heap.size, 0, none⟩) hlw).trans (f0 0)
  have g1 : w1.frozen? ⟨w.heap.size, 1, none⟩ = false := (hb1.frozen (p := ⟨w.heap.size, 1, none⟩) hlw).trans (f0 1)
  have hw : w.heap.size < w1.heap.size := Nat.lt_of_lt_of_le hlw hb1.size
  have hBx : Below w.heap.size w w1 := B0.trans (hb1.mono (by omega))
  clear hb1
  go_wp2
  refine bodyPost_ret (v := .agg #[.int .i64 c, .slice none 0 0]) (by simp [results, Try.results16, go_sem, d0, d1, hw]) rfl ⟨none, 0, rfl, World.ownsRow_nil _ _ _ _, ?_⟩
  exact hBx |>.setCell (Nat.le_refl _) _ |>.setCell (Nat.le_refl _) _

set_option maxHeartbeats 1000000 in
theorem specStep_gr (a : Option Addr) (n cap : Nat) (zs : List RuleI) (b : Option Addr) (m cap2 : Nat) (gs : List GrI) (w : World) (h : RulesIn w a n zs) (hg : GrIn w b m gs) (hn : n ≤ 1048576) (hm : m ≤ 1048576) (c : Int) (hp : polCode zs = 0) (hc : gfCode gs = c) (h0 : c ≠ 0) : GivesS 16 a n cap b m cap2 c [] w := by
  obtain ⟨W, hW⟩ : ∃ W, W = w.alloc (.cells #[.int .i64 0, .slice none 0 0] 29) := ⟨_, rfl⟩
  have hs : W.heap.size = w.heap.size + 1 := by rw [hW]; simp
  have B0 : Below w.heap.size w W := by rw [hW]; exact (Below.refl _ _).alloc (Nat.le_refl _) _
  have c0 : W.cell? ⟨w.heap.size, 0, none⟩ = some (.int .i64 0) := by rw [hW]; simp
  have c1 : W.cell? ⟨w.heap.size, 1, none⟩ = some (.slice none 0 0) := by rw [hW]; simp
  have f0 : ∀ j, W.frozen? ⟨w.heap.size, j, none⟩ = false := fun j => by rw [hW]; simp [go_sem]
  have H : Hid (RulesIn W a n zs) := h.below B0
  have G : Hid (GrIn W b m gs) := hg.below B0
  have hcn : (c != 0) = true := by simpa using h0
  have HC : Hid (gfCode gs = c) := hc
  have HP : Hid (polCode zs = 0) := hp
  clear h hg hc hp
  unfold GivesS
  go_enter Try.func16, Try.ntmps16
  go_wp2_with fail
  rw [← hW]
  clear hW
  refine (l2Fault_c a n cap zs _ hn H.out).mono ?_
  rintro e w1 ⟨rfl, hb1⟩
  rw [HP.out]
  have G1 : Hid (GrIn w1 b m gs) := G.out.below hb1
  go_wp2_with fail
  refine (l3Fault_c b m cap2 gs _ G1.out).mono ?_
  rintro e w2 ⟨rfl, hb2'⟩
  rw [HC.out]
  have hb2 : Below W.heap.size W w2 := hb1.trans (hb2'.mono hb1.size)
  have hlw : w.heap.size < W.heap.size := by omega
  have d0 : w2.cell? ⟨w.heap.size, 0, none⟩ = some (.int .i64 0) := (hb2.cell (p := ⟨w.heap.size, 0, none⟩) hlw).trans c0
  have d1 : w2.cell? ⟨w.heap.size, 1, none⟩ = some (.slice none 0 0) := (hb2.cell (p := ⟨w.heap.size, 1, none⟩) hlw).trans c1
  have g0 : w2.frozen? ⟨w.heap.size, 0, none⟩ = false := (hb2.frozen (p := ⟨w.heap.size, 0, none⟩) hlw).trans (f0 0)
  have g1 : w2.frozen? ⟨w.heap.size, 1, none⟩ = false := (hb2.frozen (p := ⟨w.heap.size, 1, none⟩) hlw).trans (f0 1)
  have hw : w.heap.size < w2.heap.size := Nat.lt_of_lt_of_le hlw hb2.size
  have hBx : Below w.heap.size w w2 := B0.trans (hb2.mono (by omega))
  clear hb1 hb2 hb2'
  go_wp2
  refine bodyPost_ret (v := .agg #[.int .i64 c, .slice none 0 0]) (by simp [results, Try.results16, go_sem, d0, d1, hw]) rfl ⟨none, 0, rfl, World.ownsRow_nil _ _ _ _, ?_⟩
  exact hBx |>.setCell (Nat.le_refl _) _ |>.setCell (Nat.le_refl _) _

set_option maxHeartbeats 1000000 in
theorem specStep_ok (g : Nat) (a : Option Addr) (n cap : Nat) (zs : List RuleI) (b : Option Addr) (m cap2 : Nat) (gs : List GrI) (w : World) (h : RulesIn w a n zs) (hg : GrIn w b m gs) (hb : b = some ⟨g, 0, none⟩) (hp : polCode zs = 0) (hc : gfCode gs = 0) : GivesS 16 a n cap b m cap2 0 (stepG zs gs) w := by
  have hn : n ≤ 16 := pol_n16 h.1 hp
  have hsg : SG gs := gf_sg hc
  obtain ⟨W, hW⟩ : ∃ W, W = w.alloc (.cells #[.int .i64 0, .slice none 0 0] 29) := ⟨_, rfl⟩
  have hs : W.heap.size = w.heap.size + 1 := by rw [hW]; simp
  have B0 : Below w.heap.size w W := by rw [hW]; exact (Below.refl _ _).alloc (Nat.le_refl _) _
  have c0 : W.cell? ⟨w.heap.size, 0, none⟩ = some (.int .i64 0) := by rw [hW]; simp
  have c1 : W.cell? ⟨w.heap.size, 1, none⟩ = some (.slice none 0 0) := by rw [hW]; simp
  have f0 : ∀ j, W.frozen? ⟨w.heap.size, j, none⟩ = false := fun j => by rw [hW]; simp [go_sem]
  have H : Hid (RulesIn W a n zs) := h.below B0
  have G : Hid (GrIn W b m gs) := hg.below B0
  have HC : Hid (gfCode gs = 0) := hc
  have HP : Hid (polCode zs = 0) := hp
  have HSg : Hid (SG gs) := hsg
  have hm : m ≤ 1048576 := by have := sg_len hsg; have := hg.1; omega
  subst hb
  clear h hg hc hp hsg
  unfold GivesS
  go_enter Try.func16, Try.ntmps16
  go_wp2_with fail
  rw [← hW]
  clear hW
  refine (l2Fault_c a n cap zs _ (by omega) H.out).mono ?_
  rintro e w1 ⟨rfl, hb1⟩
  rw [HP.out]
  have G1 : Hid (GrIn w1 (some ⟨g, 0, none⟩) m gs) := G.out.below hb1
  go_wp2_with fail
  refine (l3Fault_c _ m cap2 gs _ G1.out).mono ?_
  rintro e w2 ⟨rfl, hb2'⟩
  rw [HC.out]
  have hb2 : Below W.heap.size W w2 := hb1.trans (hb2'.mono hb1.size)
  have G2 : Hid (GrIn w2 (some ⟨g, 0, none⟩) m gs) := G.out.below hb2
  have H2 : Hid (RulesIn w2 a n zs) := H.out.below hb2
  go_wp2_with fail
  refine (l3Step_c g 0 m cap2 gs a n cap zs _ G2.out HSg.out H2.out (by omega) (pol_ok HP.out).2).mono ?_
  rintro e w3 ⟨g', l', cap', rfl, hl', hown, hb3'⟩
  have hz2 := hb2.size
  have hb3 : Below W.heap.size W w3 := hb2.trans (hb3'.mono hz2)
  have hlw : w.heap.size < W.heap.size := by omega
  have d0 : w3.cell? ⟨w.heap.size, 0, none⟩ = some (.int .i64 0) := (hb3.cell (p := ⟨w.heap.size, 0, none⟩) hlw).trans c0
  have d1 : w3.cell? ⟨w.heap.size, 1, none⟩ = some (.slice none 0 0) := (hb3.cell (p := ⟨w.heap.size, 1, none⟩) hlw).trans c1
  have g0 : w3.frozen? ⟨w.heap.size, 0, none⟩ = false := (hb3.frozen (p := ⟨w.heap.size, 0, none⟩) hlw).trans (f0 0)
  have g1 : w3.frozen? ⟨w.heap.size, 1, none⟩ = false := (hb3.frozen (p := ⟨w.heap.size, 1, none⟩) hlw).trans (f0 1)
  have hw : w.heap.size < w3.heap.size := Nat.lt_of_lt_of_le hlw hb3.size
  have hBx : Below w.heap.size w w3 := B0.trans (hb3.mono (by omega))
  have HO : Hid (l' = (stepG zs gs).length ∧ Own3 w3 w2.heap.size (.slice (some ⟨g', 0, none⟩) l' cap') (stepG zs gs)) := ⟨hl'.symm, hown⟩
  clear hb1 hb2 hb2' hb3 hb3' hown hl'
  go_wp2
  obtain ⟨h1, h3⟩ := HO.out
  subst h1
  refine bodyPost_ret (v := .agg #[.int .i64 0, .slice (some ⟨g', 0, none⟩) (stepG zs gs).length cap']) (by simp [results, Try.results16, go_sem, d0, d1, hw]) rfl ⟨some ⟨g', 0, none⟩, cap', rfl, ?_, ?_⟩
  · exact h3.box (by omega)
  · exact hBx |>.setCell (Nat.le_refl _) _ |>.setCell (Nat.le_refl _) _

set_option maxHeartbeats 1000000 in
theorem implStep_bad (a : Option Addr) (n cap : Nat) (zs : List RuleI) (b : Option Addr) (m cap2 : Nat) (gs : List GrI) (w : World) (h : RulesIn w a n zs) (hg : GrIn w b m gs) (hn : n ≤ 1048576) (hcap : n ≤ cap) (hcm : cap ≤ maxLen) (c : Int) (hc : orC (polCode zs) (gfCode gs) = c) (h0 : c ≠ 0) : GivesS 14 a n cap b m cap2 c [] w := by
  obtain ⟨W, hW⟩ : ∃ W, W = w.alloc (.cells #[.int .i64 0, .slice none 0 0] 29) := ⟨_, rfl⟩
  have hs : W.heap.size = w.heap.size + 1 := by rw [hW]; simp
  have B0 : Below w.heap.size w W := by rw [hW]; exact (Below.refl _ _).alloc (Nat.le_refl _) _
  have c0 : W.cell? ⟨w.heap.size, 0, none⟩ = some (.int .i64 0) := by rw [hW]; simp
  have c1 : W.cell? ⟨w.heap.size, 1, none⟩ = some (.slice none 0 0) := by rw [hW]; simp
  have f0 : ∀ j, W.frozen? ⟨w.heap.size, j, none⟩ = false := fun j => by rw [hW]; simp [go_sem]
  have H : Hid (RulesIn W a n zs) := h.below B0
  have G : Hid (GrIn W b m gs) := hg.below B0
  have hcn : (c != 0) = true := by simpa using h0
  have HC : Hid (orC (polCode zs) (gfCode gs) = c) := hc
  clear h hg hc
  unfold GivesS
  go_enter Try.func14, Try.ntmps14
  go_wp2_with fail
  rw [← hW]
  clear hW
  refine (implPolicyFault_c a n cap zs _ hn hcap hcm H.out).mono ?_
  rintro e w1 ⟨rfl, hb1⟩
  have G1 : Hid (GrIn w1 b m gs) := G.out.below hb1
  generalize polCode zs = p at HC ⊢
  go_wp2_with fail
  refine (implGrantFault_c b m cap2 gs _ G1.out).mono ?_
  rintro e w2 ⟨rfl, hb2'⟩
  have hb2 : Below W.heap.size W w2 := hb1.trans (hb2'.mono hb1.size)
  generalize gfCode gs = q at HC ⊢
  go_wp2_with fail
  refine (or64_c _ p q _ (by simp) (by simp)).mono ?_
  rintro e w3 ⟨rfl, hw3⟩
  have hb3 : Below W.heap.size W w3 := by rw [← hw3]; exact hb2.alloc hb2.size _
  clear hw3
  rw [HC.out]
  have hlw : w.heap.size < W.heap.size := by omega
  have d0 : w3.cell? ⟨w.heap.size, 0, none⟩ = some (.int .i64 0) := (hb3.cell (p := ⟨w.heap.size, 0, none⟩) hlw).trans c0
  have d1 : w3.cell? ⟨w.heap.size, 1, none⟩ = some (.slice none 0 0) := (hb3.cell (p := ⟨w.heap.size, 1, none⟩) hlw).trans c1
  have g0 : w3.frozen? ⟨w.heap.size, 0, none⟩ = false := (hb3.frozen (p := ⟨w.heap.size, 0, none⟩) hlw).trans (f0 0)
  have g1 : w3.frozen? ⟨w.heap.size, 1, none⟩ = false := (hb3.frozen (p := ⟨w.heap.size, 1, none⟩) hlw).trans (f0 1)
  have hw : w.heap.size < w3.heap.size := Nat.lt_of_lt_of_le hlw hb3.size
  have hBx : Below w.heap.size w w3 := B0.trans (hb3.mono (by omega))
  clear hb1 hb2 hb2' hb3
  go_wp2
  refine bodyPost_ret (v := .agg #[.int .i64 c, .slice none 0 0]) (by simp [results, Try.results14, go_sem, d0, d1, hw]) rfl ⟨none, 0, rfl, World.ownsRow_nil _ _ _ _, ?_⟩
  exact hBx |>.setCell (Nat.le_refl _) _ |>.setCell (Nat.le_refl _) _

set_option maxHeartbeats 1000000 in
theorem implStep_ok (a : Option Addr) (n cap : Nat) (zs : List RuleI) (b : Option Addr) (m cap2 : Nat) (gs : List GrI) (w : World) (h : RulesIn w a n zs) (hg : GrIn w b m gs) (hcap : n ≤ cap) (hcm : cap ≤ maxLen) (hp : polCode zs = 0) (hc : gfCode gs = 0) : GivesS 14 a n cap b m cap2 0 (stepG zs gs) w := by
  have hn16 : n ≤ 16 := pol_n16 h.1 hp
  have hn : n ≤ 1048576 := by omega
  have HSg : Hid (SG gs) := gf_sg hc
  have HP : Hid (∀ z ∈ zs, ruleCode z = 0) := pol_codes hp
  have HK : Hid (∀ z ∈ zs, okR z) := fun z hz => ((pol_ok hp).2 z hz).1
  obtain ⟨W, hW⟩ : ∃ W, W = w.alloc (.cells #[.int .i64 0, .slice none 0 0] 29) := ⟨_, rfl⟩
  have hs : W.heap.size = w.heap.size + 1 := by rw [hW]; simp
  have B0 : Below w.heap.size w W := by rw [hW]; exact (Below.refl _ _).alloc (Nat.le_refl _) _
  have c0 : W.cell? ⟨w.heap.size, 0, none⟩ = some (.int .i64 0) := by rw [hW]; simp
  have c1 : W.cell? ⟨w.heap.size, 1, none⟩ = some (.slice none 0 0) := by rw [hW]; simp
  have f0 : ∀ j, W.frozen? ⟨w.heap.size, j, none⟩ = false := fun j => by rw [hW]; simp [go_sem]
  have H : Hid (RulesIn W a n zs) := h.below B0
  have G : Hid (GrIn W b m gs) := hg.below B0
  have HC : Hid (orC (polCode zs) (gfCode gs) = 0) := by show orC (polCode zs) (gfCode gs) = 0; rw [hp, hc]; rfl
  clear h hg hc hp
  unfold GivesS
  go_enter Try.func14, Try.ntmps14
  go_wp2_with fail
  rw [← hW]
  clear hW
  refine (implPolicyFault_c a n cap zs _ hn hcap hcm H.out).mono ?_
  rintro e w1 ⟨rfl, hb1⟩
  have G1 : Hid (GrIn w1 b m gs) := G.out.below hb1
  generalize polCode zs = p at HC ⊢
  go_wp2_with fail
  refine (implGrantFault_c b m cap2 gs _ G1.out).mono ?_
  rintro e w2 ⟨rfl, hb2'⟩
  have hb2 : Below W.heap.size W w2 := hb1.trans (hb2'.mono hb1.size)
  generalize gfCode gs = q at HC ⊢
  go_wp2_with fail
  refine (or64_c _ p q _ (by simp) (by simp)).mono ?_
  rintro e w3 ⟨rfl, hw3⟩
  have hb3 : Below W.heap.size W w3 := by rw [← hw3]; exact hb2.alloc hb2.size _
  clear hw3
  rw [HC.out]
  have hz3 := hb3.size
  have G3 : Hid (GrIn w3 b m gs) := G.out.below hb3
  go_wp2_with fail
  refine (grantMapOf_c b m cap2 gs _ G3.out HSg.out).mono ?_
  rintro e w4 ⟨k4, rfl, hG4, hk4, hb4'⟩
  have hb4 : Below W.heap.size W w4 := hb3.trans (hb4'.mono hz3)
  have hz4 := hb4.size
  have H4 : Hid (RulesIn w4 a n zs) := H.out.below hb4
  have HG4 : Hid (GM w4 k4 (ofG gs)) := hG4
  clear hG4
  go_wp2_with fail
  refine (step_c k4 (ofG gs) a n cap zs _ HG4.out H4.out (by omega) HP.out).mono ?_
  rintro e w5 ⟨k5, rfl, hG5, hk5, hb5'⟩
  have hb5 : Below W.heap.size W w5 := hb4.trans (hb5'.mono hz4)
  have hz5 := hb5.size
  have HG5 : Hid (GM w5 k5 (stepF zs (ofG gs))) := hG5
  clear hG5
  go_wp2_with fail
  refine (list_c k5 _ w5 HG5.out).mono ?_
  rintro e w6 ⟨v, ys, rfl, hsg, hof, hown, hb6'⟩
  have hb6 : Below W.heap.size W w6 := hb5.trans (hb6'.mono hz5)
  obtain rfl : ys = stepG zs gs := sg_ext hsg (sg_step HK.out HSg.out) (fun r => by rw [hof, ofG_step HK.out HSg.out])
  obtain ⟨a', cap', rfl⟩ := hown.slice
  have hlw : w.heap.size < W.heap.size := by omega
  have d0 : w6.cell? ⟨w.heap.size, 0, none⟩ = some (.int .i64 0) := (hb6.cell (p := ⟨w.heap.size, 0, none⟩) hlw).trans c0
  have d1 : w6.cell? ⟨w.heap.size, 1, none⟩ = some (.slice none 0 0) := (hb6.cell (p := ⟨w.heap.size, 1, none⟩) hlw).trans c1
  have g0 : w6.frozen? ⟨w.heap.size, 0, none⟩ = false := (hb6.frozen (p := ⟨w.heap.size, 0, none⟩) hlw).trans (f0 0)
  have g1 : w6.frozen? ⟨w.heap.size, 1, none⟩ = false := (hb6.frozen (p := ⟨w.heap.size, 1, none⟩) hlw).trans (f0 1)
  have hw : w.heap.size < w6.heap.size := Nat.lt_of_lt_of_le hlw hb6.size
  have hBx : Below w.heap.size w w6 := B0.trans (hb6.mono (by omega))
  have HO : Hid (Own3 w6 w5.heap.size (.slice a' (stepG zs gs).length cap') (stepG zs gs)) := hown
  clear hb1 hb2 hb2' hb3 hb4 hb4' hb5 hb5' hb6 hb6' hown hof hsg
  go_wp2
  refine bodyPost_ret (v := .agg #[.int .i64 0, .slice a' (stepG zs gs).length cap']) (by simp [results, Try.results14, go_sem, d0, d1, hw]) rfl ⟨a', cap', rfl, ?_, ?_⟩
  · exact HO.out.box (by omega)
  · exact hBx |>.setCell (Nat.le_refl _) _ |>.setCell (Nat.le_refl _) _

end Go.Proofs.Ytdooocjjohdpjaa

namespace Go.Proofs.Ytdooocjjohdpjaa
open Go.RowKit
set_option linter.unusedVariables false
set_option linter.unusedSimpArgs false

/-- Two cells of a block. -/
def Box2 (w : World) (B : Nat) (x y : Value) : Prop := w.cell? ⟨B, 0, none⟩ = some x ∧ w.cell? ⟨B, 1, none⟩ = some y
theorem Box2.lt {w : World} {B : Nat} {x y : Value} (h : Box2 w B x y) : B < w.heap.size := World.block_lt_of_cell? w ⟨B, 0, none⟩ h.1
theorem Box2.below {w w' : World} {B : Nat} {x y : Value} (h : Box2 w B x y) (hb : Below w.heap.size w w') : Box2 w' B x y :=
  ⟨(hb.cell (p := ⟨B, 0, none⟩) h.lt).trans h.1, (hb.cell (p := ⟨B, 1, none⟩) h.lt).trans h.2⟩
theorem Box2.grown {w w' : World} {B : Nat} {x y : Value} {row : Option Nat} (h : Box2 w B x y) (hg : w.grownBy w' row) (hne : some B ≠ row) : Box2 w' B x y :=
  ⟨hg.cell h.1 hne, hg.cell h.2 hne⟩
theorem Box2.new (w : World) (x y : Value) (t : TypeId) : Box2 (w.alloc (.cells #[x, y] t)) w.heap.size x y := ⟨by simp, by simp⟩

theorem rulesIn_kept {w w' : World} {a : Option Addr} {n L : Nat} {zs : List RuleI} {row : Option Nat} (h : RulesIn w a n zs) (hg : w.grownBy w' row) (hL : ∀ b off, a = some ⟨b, off, none⟩ → n = 0 ∨ b < L) (hne : ∀ q, row = some q → L ≤ q) : RulesIn w' a n zs := by
  refine ⟨h.1, fun hp => ?_⟩
  obtain ⟨b, off, e, hr⟩ := h.2 hp
  have hb : b < L := by
    rcases hL b off e with h0 | h0
    · omega
    · exact h0
  refine ⟨b, off, e, fun k r hk => ?_⟩
  have hx : ∀ (o : Nat) (u : Value), w.cell? ⟨b, o, none⟩ = some u → w'.cell? ⟨b, o, none⟩ = some u := fun o u hu => hg.cell hu (fun q => by have := hne b q.symm; omega)
  obtain ⟨h0, h1, h2, h3, h4, h5, h6, h7⟩ := hr k r hk
  exact ⟨hx _ _ h0, hx _ _ h1, hx _ _ h2, hx _ _ h3, hx _ _ h4, hx _ _ h5, hx _ _ h6, hx _ _ h7⟩

theorem rules_lt {w : World} {a : Option Addr} {n : Nat} {zs : List RuleI} (h : RulesIn w a n zs) : ∀ b off, a = some ⟨b, off, none⟩ → n = 0 ∨ b < w.heap.size := by
  intro b off e
  by_cases h0 : n = 0
  · exact .inl h0
  · obtain ⟨b', off', r, e', _, hr⟩ := h.at (show 0 < n by omega)
    rw [e] at e'
    cases e'
    exact .inr (World.block_lt_of_cell? w _ hr.1)

theorem roomAt_below {w w' : World} {g n : Nat} (h : RoomAt w g n) (hg : g < w.heap.size) (hb : Below w.heap.size w w') : RoomAt w' g n :=
  ⟨fun j hj => by obtain ⟨v, e⟩ := h.1 j hj; exact ⟨v, (hb.cell (p := ⟨g, j, none⟩) hg).trans e⟩, fun j => (hb.frozen (p := ⟨g, j, none⟩) hg).trans (h.2 j)⟩

/-- A row of grants lies between two sizes. -/
theorem row3_lt {w : World} {B : Nat} {a : Option Addr} {cap : Nat} {ys : List GrI} (h : Own3 w B (.slice a ys.length cap) ys) : ∀ g, a = some ⟨g, 0, none⟩ → B ≤ g ∧ g < w.heap.size := by
  intro g e
  subst e
  have h0 : w.ownsRow B 37 3 (.slice (some ⟨g, 0, none⟩) ys.length cap) ys.length (flat3 ys) := h
  exact h0.lt g rfl

end Go.Proofs.Ytdooocjjohdpjaa
