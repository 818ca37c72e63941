/-
  CONTRACT: impl.GrantFault.
  Conditions: each contract bears its own.
  CONTRACT: spec.l3Fault.
  Conditions: each contract bears its own.
  CONTRACTS: InSet of a set and any principal, HasRole of both programs.
  Conditions: each contract bears its own.
  WHAT ProofOf AND HasRole TELL, put together for FnProofs.
  Conditions: each fact bears its own.
-/
import Derived.Test.YtpeddanicenohaaGreatPz08
import Derived.Test.YtpeddanicenohaaGreatGr2
import Derived.Test.YtpeddanicenohaaGreatRole1
import Derived.Test.YtpeddanicenohaaGreatPz05
import Derived.WalkSmall
import Derived.BigQuiet
import Derived.Deep.QuietTactic
import Derived.Deep.RegionHeld3
import Derived.Test.YtpeddanicenohaaGreatPz07
import Derived.Test.YtpeddanicenohaaGreatBits1
import Derived.Test.YtpeddanicenohaaGreatSpec1
namespace Go.Proofs.YtpeddanicenohaaGreat
open Go.RowKit Go.Sort
set_option linter.unusedVariables false
set_option linter.unusedSimpArgs false

set_option maxHeartbeats 400000 in
theorem setFault_c (s : Int) (w : World) : Calls Tryz.prog 24 #[.int .i64 s] w fun e w' => e = .returned (.int .i64 (if setIn s = true then 0 else 3)) ∧ w = w' := by
  by_cases h0 : 0 ≤ s
  · by_cases h1 : s ≤ 255
    · have h2 : s < (256 : Int) := by omega
      rw [show (if setIn s = true then (0 : Int) else 3) = 0 by simp [setIn, h0, h1]]
      go_enter Tryz.func24, Tryz.ntmps24
      go_wp2
      go_ret
      exact ⟨rfl, rfl⟩
    · have h2 : (256 : Int) ≤ s := by omega
      rw [show (if setIn s = true then (0 : Int) else 3) = 3 by simp [setIn, h1]]
      go_enter Tryz.func24, Tryz.ntmps24
      go_wp2
      go_ret
      exact ⟨rfl, rfl⟩
  · have h2 : s < (0 : Int) := by omega
    rw [show (if setIn s = true then (0 : Int) else 3) = 3 by simp [setIn, h0]]
    go_enter Tryz.func24, Tryz.ntmps24
    go_wp2
    go_ret
    exact ⟨rfl, rfl⟩

theorem below_growD (w : World) (q : Nat) (os : Array Obj) : Below w.heap.size w (grow (w.drewN q) os) :=
  ⟨rfl, rfl, rfl, by simp [grow, World.drewN], fun i hi => by simp [grow, World.drewN, Array.getElem?_append_left hi]⟩

theorem cmpRoles_c (x y : RoI) (w : World) : Calls Tryz.prog 49 #[.agg #[.int .i64 x.1, .int .i64 x.2], .agg #[.int .i64 y.1, .int .i64 y.2]] w fun e w' => e = .returned (.int .i64 (cfR x y)) ∧ Below w.heap.size w w' :=
  (closure_c x y w).mono (fun e w' ⟨h1, q, os, h2⟩ => ⟨h1, by rw [h2]; exact below_growD w q os⟩)

set_option maxRecDepth 100000 in
set_option maxHeartbeats 2000000 in
theorem grantFault_few (a : Option Addr) (n cap : Nat) (gs : List GrI) (c : Int) (w : World) (h40 : n ≤ 40) (h : GrIn w a n gs) (hc : gfTo gs n = c) :
    Calls Tryz.prog 25 #[.slice a n cap] w fun e w' => e = .returned (.int .i64 c) ∧ Below w.heap.size w w' := by
  have H : Hid (GrIn w a n gs) := h
  have HC : Hid (gfTo gs n = c) := hc
  clear h hc
  have h' : ¬ ((40 : Int) < (n : Int)) := by omega
  have hn' : (n : Int) ≤ 40 := by omega
  go_enter Tryz.func25, Tryz.ntmps25
  go_wp2
  go_loopw [10] (fun i wr => ∃ k : Nat, k ≤ n ∧ i = .int .i64 (k : Int) ∧ gfTo gs k = 0 ∧ Below w.heap.size w wr) (fun i _ => n - (intOf i).toNat)
  case atStart => exact ⟨0, Nat.zero_le _, rfl, rfl, Below.refl _ _⟩
  case round =>
    obtain ⟨k, hk, rfl, hp, hnx⟩ := hrel
    have HP : Hid (gfTo gs k = 0) := hp
    clear hp
    by_cases hlt : k < n
    · obtain ⟨b, off, x, rfl, hs, hx, hbl⟩ := H.out.at hlt
      have HN : Hid (gfTo gs (k + 1) = gfOne gs k x) := gfTo_next hs HP.out
      clear hs
      have g := hx.below hnx hbl
      obtain ⟨g0, g1, g2⟩ := g
      have hbw : b < wr.heap.size := Nat.lt_of_lt_of_le hbl hnx.size
      have hlt' : (k : Int) < (n : Int) := by omega
      obtain ⟨t, ht⟩ : ∃ t, roleB x.1.1 x.1.2 = t := ⟨_, rfl⟩
      go_wp2_with fail
      refine (implRoleFault_c x.1.1 x.1.2 _).mono ?_
      rintro e w1 ⟨rfl, hb1⟩
      have hz1 := hb1.size
      simp only [World.size_alloc] at hz1
      have hnx1 : Below w.heap.size w w1 := hnx.trans ((below_new hb1).mono hnx.size)
      have hlt1 : wr.heap.size < w1.heap.size := by omega
      have b0 : w1.cell? ⟨wr.heap.size, 0, none⟩ = some (.int .i64 x.1.1) := (hb1.cell (p := ⟨wr.heap.size, 0, none⟩) (by simp)).trans (by simp)
      have b1 : w1.cell? ⟨wr.heap.size, 1, none⟩ = some (.int .i64 x.1.2) := (hb1.cell (p := ⟨wr.heap.size, 1, none⟩) (by simp)).trans (by simp)
      have b2 : w1.cell? ⟨wr.heap.size, 2, none⟩ = some (.int .i64 x.2) := (hb1.cell (p := ⟨wr.heap.size, 2, none⟩) (by simp)).trans (by simp)
      have hold : ∀ o, w1.cell? ⟨b, o, none⟩ = wr.cell? ⟨b, o, none⟩ := fun o => ((below_new hb1).cell (p := ⟨b, o, none⟩) hbw)
      clear hb1
      cases t
      · have E : Hid (c = 3) := HC.out.symm.trans (gfTo_stay gs (k + 1) n 3 (by decide) (by rw [HN.out]; simp [gfOne, ht]) (by omega))
        rw [show roleCode x.1.1 x.1.2 = 3 by simp [roleCode, ht]]
        clear hold
        go_wp2
        go_ret
        exact ⟨by rw [E.out]; rfl, hnx1⟩
      · rw [show roleCode x.1.1 x.1.2 = 0 by simp [roleCode, ht]]
        obtain ⟨u, hu⟩ : ∃ u, setIn x.2 = u := ⟨_, rfl⟩
        cases u
        · have E : Hid (c = 3) := HC.out.symm.trans (gfTo_stay gs (k + 1) n 3 (by decide) (by rw [HN.out]; simp [gfOne, ht, hu]) (by omega))
          clear hold
          go_wp2_with (first | (go_at_call 24; refine (setFault_c _ _).mono ?_; rintro e w2 ⟨rfl, rfl⟩; rw [hu]) | go_in)
          go_ret
          exact ⟨by rw [E.out]; rfl, hnx1⟩
        · by_cases hz : x.2 = 0
          · have E : Hid (c = 1) := HC.out.symm.trans (gfTo_stay gs (k + 1) n 1 (by decide) (by rw [HN.out]; unfold gfOne; rw [if_neg (by simp [ht]), if_neg (by simp [hu]), if_pos hz]) (by omega))
            have bz : (x.2 == 0) = true := by simp [hz]
            clear hz hold
            go_wp2_with (first | (go_at_call 24; refine (setFault_c _ _).mono ?_; rintro e w2 ⟨rfl, rfl⟩; rw [hu]) | go_in)
            go_quiet (fail)
            go_wp2
            go_ret
            exact ⟨by rw [E.out]; rfl, bdN hnx1 _⟩
          · have bz : (x.2 == 0) = false := by simp [hz]
            obtain rfl | ⟨j, rfl⟩ : k = 0 ∨ ∃ j, k = j + 1 := by cases k; exact .inl rfl; exact .inr ⟨_, rfl⟩
            · skip
              have HE : Hid (gfTo gs 1 = 0) := HN.out.trans (gfOne_zero.2 ⟨ht, by simp [setIn] at hu; omega, rfl⟩)
              clear hz hold
              go_wp2_with (first | (go_at_call 24; refine (setFault_c _ _).mono ?_; rintro e w2 ⟨rfl, rfl⟩; rw [hu]) | go_in)
              go_quiet (fail)
              go_wp2
              exact ⟨⟨0 + 1, by omega, by go_num, HE.out, bdN hnx1 _⟩, by simp [intOf]; omega⟩
            · skip
              obtain ⟨b', off', y, e', hy, hyx, _⟩ := H.out.at (k := j) (by omega)
              cases e'
              obtain ⟨q0, q1, _⟩ := hyx.below hnx hbl
              have HV : Hid (gfOne gs (j + 1) x = if ltR y.1 x.1 = false then 1 else 0) := by show gfOne gs (j + 1) x = _; simp [gfOne, ht, hu, hz, prevB_of hy]
              have y0 := (hold _).trans q0
              have y1 := (hold _).trans q1
              clear hyx hz hy hold q0 q1 g0 g1 g2
              have hbv : b < w1.heap.size := by omega
              have hj1 : (j : Int) < (n : Int) := by omega
              have hj0 : (0 : Int) ≤ (j : Int) := by omega
              have hjw : IntKind.i64.wrap ((j : Int) + 1 - 1) = (j : Int) := by rw [IntKind.wrap_i64]; omega
              have hjw2 : IntKind.i64.wrap (j : Int) = (j : Int) := by rw [IntKind.wrap_i64]; omega
              have hjw3 : IntKind.i64.wrap (((j + 1 : Nat) : Int) - 1) = (j : Int) := by rw [IntKind.wrap_i64]; omega
              have hpos1 : (0 : Int) < (j : Int) + 1 := by omega
              go_wp2_with (first | (go_at_call 24; refine (setFault_c _ _).mono ?_; rintro e w2 ⟨rfl, rfl⟩; rw [hu]) | go_in)
              obtain ⟨v, hv⟩ : ∃ v, cfR y.1 x.1 = v := ⟨_, rfl⟩
              have HCm : Hid (∀ w2 : World, Calls Tryz.prog 49 #[.agg #[.int .i64 y.1.1, .int .i64 y.1.2], .agg #[.int .i64 x.1.1, .int .i64 x.1.2]] w2 fun e w' => e = .returned (.int .i64 v) ∧ Below w2.heap.size w2 w') := fun w2 => by rw [← hv]; exact cmpRoles_c y.1 x.1 w2
              have hge : (0 ≤ v) ↔ ltR y.1 x.1 = false := by
                rw [← hv]
                simp only [cfR, orC, cmpI, ltR]
                split <;> split <;> simp <;> omega
              by_cases hpos : 0 ≤ v
              · have E : Hid (c = 1) := HC.out.symm.trans (gfTo_stay gs (j + 1 + 1) n 1 (by decide) (by rw [HN.out, HV.out, if_pos (hge.1 hpos)]) (by omega))
                clear hge hv
                go_region_held3 (fun w' => (∀ b o, b < w1.heap.size → w'.cell? ⟨b, o, none⟩ = w1.cell? ⟨b, o, none⟩) ∧ Below w1.heap.size w1 w') (first | exact hS | exact kp_drew _)
                  (first | (go_at_call 49; refine (HCm.out _).mono ?_; rintro e w' ⟨rfl, hb2⟩; have hS := kp_step (by assumption) hb2))
                go_wp2
                go_ret
                exact ⟨by rw [E.out]; rfl, hnx1.trans (hS.2.mono hnx1.size)⟩
              · have HE : Hid (gfTo gs (j + 1 + 1) = 0) := by show gfTo gs (j + 1 + 1) = 0; rw [HN.out, HV.out, if_neg (fun q => hpos (hge.2 q))]
                have hneg : v < 0 := by omega
                clear hge hv hpos
                go_region_held3 (fun w' => (∀ b o, b < w1.heap.size → w'.cell? ⟨b, o, none⟩ = w1.cell? ⟨b, o, none⟩) ∧ Below w1.heap.size w1 w') (first | exact hS | exact kp_drew _)
                  (first | (go_at_call 49; refine (HCm.out _).mono ?_; rintro e w' ⟨rfl, hb2⟩; have hS := kp_step (by assumption) hb2))
                go_wp2
                exact ⟨⟨j + 1 + 1, by omega, by go_num, HE.out, hnx1.trans (hS.2.mono hnx1.size)⟩, by simp [intOf]; omega⟩
    · have hkn : k = n := by omega
      subst hkn
      have E : Hid (c = 0) := HC.out.symm.trans HP.out
      go_wp2
      go_ret
      exact ⟨by rw [E.out]; rfl, hnx⟩

set_option maxHeartbeats 400000 in
theorem grantFault_many (a : Option Addr) (n cap : Nat) (w : World) (h40 : 40 < n) :
    Calls Tryz.prog 25 #[.slice a n cap] w fun e w' => e = .returned (.int .i64 2) ∧ Below w.heap.size w w' := by
  have h' : (40 : Int) < (n : Int) := by omega
  go_enter Tryz.func25, Tryz.ntmps25
  go_wp2
  go_ret
  exact ⟨rfl, Below.refl _ _⟩

theorem implGrantFault_c (a : Option Addr) (n cap : Nat) (gs : List GrI) (w : World) (h : GrIn w a n gs) :
    Calls Tryz.prog 25 #[.slice a n cap] w fun e w' => e = .returned (.int .i64 (gfCode gs)) ∧ Below w.heap.size w w' := by
  have hz := h.1
  by_cases h40 : 40 < n
  · have e : gfCode gs = 2 := by simp [gfCode, hz, h40]
    rw [e]
    exact grantFault_many a n cap w h40
  · have e : gfCode gs = gfTo gs n := by simp [gfCode, hz, h40]
    rw [e]
    exact grantFault_few a n cap gs _ w (by omega) h rfl

end Go.Proofs.YtpeddanicenohaaGreat

namespace Go.Proofs.YtpeddanicenohaaGreat
open Go.RowKit
set_option linter.unusedVariables false
set_option linter.unusedSimpArgs false

end Go.Proofs.YtpeddanicenohaaGreat

namespace Go.Proofs.YtpeddanicenohaaGreat
open Go.RowKit
set_option linter.unusedVariables false
set_option linter.unusedSimpArgs false

def inB (s p : Int) : Bool := prinB p && hasI s p

theorem set_in {s : Int} (h : setB s) : setIn s = true := by
  unfold setIn
  simp [h.1, h.2]

set_option maxHeartbeats 400000 in
theorem implIn_c (s p : Int) (h : setB s) (w : World) :
    Calls Tryz.prog 9 #[.int .i64 s, .int .i64 p] w fun e w' => e = .returned (.bool (inB s p)) ∧ w = w' := by
  have HF : Hid (∀ w : World, Calls Tryz.prog 24 #[.int .i64 s] w fun e w' => e = .returned (.int .i64 0) ∧ w = w') := fun w => by
    have := setFault_c s w
    rwa [if_pos (set_in h)] at this
  unfold inB
  cases hp : prinB p
  · go_enter Tryz.func9, Tryz.ntmps9
    go_wp2_with (first | (go_at_call 24; refine (HF.out _).mono ?_; rintro e w' ⟨rfl, rfl⟩) | (go_at_call 15; refine (isPrin_c p _).mono ?_; rintro e w' ⟨rfl, rfl⟩; rw [hp]) | go_in)
    go_ret
    exact ⟨rfl, rfl⟩
  · have hp' : 1 ≤ p ∧ p ≤ 8 := by simpa [prinB] using hp
    have h1 := h.1
    have h2 := h.2
    have h3 : s < (256 : Int) := by omega
    have e2 : (bits .and .u8 s (bitI p) != 0) = hasI s p := and_u8 s p h.1 h.2 hp'.1 hp'.2
    go_enter Tryz.func9, Tryz.ntmps9
    go_wp2_with (first | (go_at_call 24; refine (HF.out _).mono ?_; rintro e w' ⟨rfl, rfl⟩) | (go_at_call 15; refine (isPrin_c p _).mono ?_; rintro e w' ⟨rfl, rfl⟩; rw [hp]) | (go_at_call 17; refine (bitOf_c p hp'.1 hp'.2 _).mono ?_; rintro e w' ⟨rfl, rfl⟩) | go_in)
    go_ret
    exact ⟨rfl, rfl⟩

def GivesB (f : Nat) (a : Option Addr) (n cap : Nat) (r : RoI) (p : Int) (b : Bool) (w : World) : Prop := Calls Tryz.prog f #[.slice a n cap, .agg #[.int .i64 r.1, .int .i64 r.2], .int .i64 p] w fun e w' => e = .returned (.bool b) ∧ Below w.heap.size w w'

set_option maxHeartbeats 1000000 in
theorem implHasRole_c (a : Option Addr) (n cap : Nat) (r : RoI) (p c v : Int) (w : World) (hv : c = 0 → setB v)
    (H : Hid (∀ w', Below w.heap.size w w' → GivesI 23 a n cap r c v w')) : GivesB 8 a n cap r p (c == 0 && inB v p) w := by
  have B0 : Below w.heap.size w (w.alloc (.cells #[.int .i64 r.1, .int .i64 r.2] 26)) := (Below.refl _ _).alloc (Nat.le_refl _) _
  have HV : Hid (c = 0 → setB v) := hv
  clear hv
  by_cases h0 : c = 0
  · obtain ⟨d, hd⟩ : ∃ d, inB v p = d := ⟨_, rfl⟩
    have HI : Hid (∀ w : World, Calls Tryz.prog 9 #[.int .i64 v, .int .i64 p] w fun e w' => e = .returned (.bool d) ∧ w = w') := fun w => by rw [← hd]; exact implIn_c v p (HV.out h0) w
    subst h0
    rw [hd, show ((0 : Int) == 0 && d) = d by simp]
    clear hd HV
    unfold GivesB
    go_enter Tryz.func8, Tryz.ntmps8
    go_wp2_with fail
    refine (H.out _ B0).mono ?_
    rintro e w1 ⟨rfl, hb1⟩
    have hb : Below w.heap.size w w1 := B0.trans (hb1.mono B0.size)
    go_wp2_with (first | (go_at_call 9; refine (HI.out _).mono ?_; rintro e w' ⟨rfl, rfl⟩) | fail)
    go_ret
    exact ⟨rfl, hb.alloc hb.size _⟩
  · have e : (c == 0) = false := by simpa using h0
    rw [e, Bool.false_and]
    clear HV
    unfold GivesB
    go_enter Tryz.func8, Tryz.ntmps8
    go_wp2_with fail
    refine (H.out _ B0).mono ?_
    rintro e w1 ⟨rfl, hb1⟩
    have hb : Below w.heap.size w w1 := B0.trans (hb1.mono B0.size)
    go_wp2_with fail
    go_ret
    exact ⟨rfl, hb.alloc hb.size _⟩

end Go.Proofs.YtpeddanicenohaaGreat

namespace Go.Proofs.YtpeddanicenohaaGreat
open Go.RowKit
set_option linter.unusedVariables false
set_option linter.unusedSimpArgs false

theorem hitAt_at (f : RoI → Int) (r : RoI) (p : Int) : ∀ (zs : List RuleI) (i : Int), ¬ noneHit zs f r p → ∃ (k : Nat) (z : RuleI), zs[k]? = some z ∧ hitB f r p z = true ∧ hitAt f r p zs i = i + (k : Int)
  | [], i, h => absurd (fun z hz => by simp at hz) h
  | z :: zs, i, h => by
    cases q : hitB f r p z
    · have h2 : ¬ noneHit zs f r p := fun e => h (fun y hy => by
        rcases List.mem_cons.1 hy with rfl | hy
        · exact q
        · exact e y hy)
      obtain ⟨k, y, hk, hy, he⟩ := hitAt_at f r p zs (i + 1) h2
      refine ⟨k + 1, y, by simpa using hk, hy, ?_⟩
      unfold hitAt
      rw [if_neg (by rw [q]; decide), he]
      push_cast
      omega
    · refine ⟨0, z, rfl, q, ?_⟩
      unfold hitAt
      rw [if_pos q]
      simp

theorem few_first {zs : List RuleI} (hz : ∀ z ∈ zs, okR z) {r : RoI} {p : Int} (h0 : 1 ≤ p) (h1 : p ≤ 8) (hh : Has zs r p) {N : Nat} (h2 : ∀ k, k < N → noneHit zs (ofG (itG zs k)) r p) : N ≤ 320 := by
  obtain ⟨n0, hn0, hs⟩ := it_ends_few hz
  by_cases q : N ≤ n0
  · omega
  · exact absurd hh (not_of_still hz h0 h1 (n := n0) (fun k hk => h2 k (by omega)) hs)

/-- What both programs tell of a proof, and whether one has a role. -/
theorem proof_law (g n c : Nat) (zs : List RuleI) (r : RoI) (p : Int) (hn : n ≤ 17) (hnc : n ≤ c) (hcm : c ≤ maxLen) (hz : zs.length = n) : ∃ (d : Int) (ls : List Int) (b : Bool),
    (∀ w : World, RulesIn w (some ⟨g, 0, none⟩) n zs → GivesP 6 (some ⟨g, 0, none⟩) n c r p d ls w) ∧
    (∀ w : World, RulesIn w (some ⟨g, 0, none⟩) n zs → GivesP 7 (some ⟨g, 0, none⟩) n c r p d ls w) ∧
    (∀ w : World, RulesIn w (some ⟨g, 0, none⟩) n zs → GivesB 8 (some ⟨g, 0, none⟩) n c r p b w) ∧
    (d ≠ 0 → b = false ∧ ls = []) ∧
    (d = 0 → b = true ∧ polCode zs = 0 ∧ (1 ≤ p ∧ p ≤ 8) ∧ ∃ (N i : Nat) (z : RuleI), ls = [(N : Int) + 1, (i : Int)] ∧ N ≤ 320 ∧ zs[i]? = some z ∧ (z.ho, z.hn) = r ∧ (∀ k, k ≤ N → hasI (ofG (itG zs k) r) p = false) ∧ hasI (ofG (itG zs (N + 1)) r) p = true) := by
  have hn' : n ≤ 1048576 := by omega
  by_cases hc : polCode zs = 0
  · cases hr : roleB r.1 r.2
    · have e : memCode zs r = 3 := by simp [memCode, orC, hc, roleCode, hr]
      refine ⟨3, [], _, fun w h => implProof_bad _ _ _ _ _ _ _ _ _ hn' hnc hcm h e (.inl ⟨by decide, rfl⟩), fun w h => specProof_bad _ _ _ _ _ 3 0 3 _ (.inl ⟨by decide, rfl⟩) (fun w' hb => specMembersOf_role _ _ _ _ _ _ hn' (h.below hb) hc hr), fun w h => implHasRole_c _ _ _ _ _ 3 0 _ (fun e => absurd e (by decide)) (fun w' hb => implMembersOf_bad _ _ _ _ _ _ _ hn' hnc hcm (h.below hb) e (by decide)), fun _ => ⟨rfl, rfl⟩, fun e => absurd e (by decide)⟩
    · obtain ⟨gs, hg⟩ := all_some zs hc
      have e : memCode zs r = 0 := by simp [memCode, orC, hc, roleCode, hr]
      have hok := (pol_ok hc).2
      have hok1 : ∀ z ∈ zs, okR z := fun z q => (hok z q).1
      have hS : ∀ w : World, RulesIn w (some ⟨g, 0, none⟩) n zs → ∀ w', Below w.heap.size w w' → GivesI 18 (some ⟨g, 0, none⟩) n c r 0 (ofG gs r) w' := fun w h w' hb => specMembersOf_ok _ _ _ _ _ _ _ (h.below hb) hc hr hg
      have hB : ∀ w : World, RulesIn w (some ⟨g, 0, none⟩) n zs → GivesB 8 (some ⟨g, 0, none⟩) n c r p ((0 : Int) == 0 && inB (ofG gs r) p) w := fun w h => implHasRole_c _ _ _ _ _ 0 (ofG gs r) _ (fun _ => ofG_set hg.sg r) (fun w' hb => implMembersOf_ok _ _ _ _ _ _ _ hnc hcm (h.below hb) hc hr hg)
      cases hp : prinB p
      · refine ⟨3, [], _, fun w h => implProof_bad _ _ _ _ _ _ 0 _ _ hn' hnc hcm h e (.inr ⟨rfl, hp, rfl⟩), fun w h => specProof_bad _ _ _ _ _ 0 (ofG gs r) 3 _ (.inr (.inl ⟨rfl, hp, rfl⟩)) (hS w h), hB, fun _ => ⟨by simp [inB, hp], rfl⟩, fun e => absurd e (by decide)⟩
      · have hp' : 1 ≤ p ∧ p ≤ 8 := by simpa [prinB] using hp
        cases hh : hasI (ofG gs r) p
        · have hnot : ¬ Has zs r p := fun q => by
            have := (hg.al r p hp'.1 hp'.2).2 q
            rw [hh] at this; cases this
          refine ⟨4, [], _, fun w h => implProof_ok _ _ _ zs _ _ _ _ _ hnc hcm h hc hr hp ?_, fun w h => specProof_bad _ _ _ _ _ 0 (ofG gs r) 4 _ (.inr (.inr ⟨rfl, hp, ofG_set hg.sg r, hh, rfl⟩)) (hS w h), hB, fun _ => ⟨by simp [inB, hp, hh], rfl⟩, fun e => absurd e (by decide)⟩
          exact fun k hk => ⟨fun x hx _ => absurd (none_of_not hok1 hnot k) hx, fun _ _ => ⟨rfl, rfl⟩⟩
        · have hHas := (hg.al r p hp'.1 hp'.2).1 hh
          obtain ⟨N, hN, h1, h2⟩ := first_few hok1 hHas
          obtain ⟨i, z, hi, hzb, hie⟩ := hitAt_at (ofG (itG zs N)) r p zs 0 h1
          refine ⟨0, [(N : Int) + 1, hitAt (ofG (itG zs N)) r p zs 0], _, fun w h => implProof_ok _ _ _ zs _ _ _ _ _ hnc hcm h hc hr hp ?_, fun w h => specProof_ok _ _ _ zs _ _ _ N _ h (pol_n16 hz hc) hok hp (ofG_set hg.sg r) hh hN h1 h2 (hS w h), hB, fun e => absurd rfl e, fun _ => ⟨by simp [inB, hp, hh], hc, hp', N, i, z, by rw [hie]; simp, few_first hok1 hp'.1 hp'.2 hHas h2, hi, ?_, fun k hk => ?_, ?_⟩⟩
          · refine fun k hk => ⟨fun x hx ex => ?_, fun hx hst => ?_⟩
            · have : k = N := by
                by_cases q : k < N
                · exact absurd (h2 k q) hx
                · by_cases q2 : N < k
                  · exact absurd (hk N q2) h1
                  · omega
              subst this
              exact ⟨rfl, by rw [ex]⟩
            · exfalso
              refine not_of_still hok1 hp'.1 hp'.2 (n := k) (fun j hj => ?_) hst hHas
              by_cases q : j = k
              · subst q; exact hx
              · exact hk j (by omega)
          · unfold hitB at hzb
            rw [Bool.and_eq_true] at hzb
            exact of_decide_eq_true hzb.1
          · have := inN_none hok1 r p k (fun j hj => h2 j (by omega))
            unfold InN at this
            simpa using this
          · exact (inN_hit hok1 N r p).2 (.inr h1)
  · have e : memCode zs r = polCode zs := by simp [memCode, orC, hc]
    refine ⟨polCode zs, [], _, fun w h => implProof_bad _ _ _ _ _ _ _ _ _ hn' hnc hcm h e (.inl ⟨hc, rfl⟩), fun w h => specProof_bad _ _ _ _ _ (polCode zs) 0 _ _ (.inl ⟨hc, rfl⟩) (fun w' hb => specMembersOf_pol _ _ _ _ _ _ _ hn' (h.below hb) rfl hc), fun w h => implHasRole_c _ _ _ _ _ (polCode zs) 0 _ (fun e => absurd e hc) (fun w' hb => implMembersOf_bad _ _ _ _ _ _ _ hn' hnc hcm (h.below hb) e hc), fun _ => ⟨by simp [hc], rfl⟩, fun e => absurd e hc⟩

end Go.Proofs.YtpeddanicenohaaGreat
