/-
  PLAIN WORDS on the fault of grants. No Go text is walked here.
  Conditions: each fact bears its own.
  CONTRACT: impl.GrantFault.
  Conditions: each contract bears its own.
  CONTRACT: spec.l3Fault.
  Conditions: each contract bears its own.
  CONTRACTS: the codes of forms; Admits of both programs.
  Conditions: each contract bears its own.
-/
import Derived.Test.YtdooocjjohdpjaaPg12
import Derived.Test.YtdooocjjohdpjaaPg07
import Derived.Test.YtdooocjjohdpjaaPg01
import Derived.Test.YtdooocjjohdpjaaPg19
import Derived.WalkSmall
import Derived.BigQuiet
import Derived.Deep.QuietTactic
import Derived.Deep.RegionHeld3
import Derived.Test.YtdooocjjohdpjaaPg21
import Derived.Test.YtdooocjjohdpjaaPg23
namespace Go.Proofs.Ytdooocjjohdpjaa
open Go.RowKit

def setIn (s : Int) : Bool := decide (0 ≤ s) && decide (s ≤ 255)

/-- The grant ahead stands ahead. -/
def prevB (gs : List GrI) (k : Nat) (x : GrI) : Bool := match k with
  | 0 => true
  | j + 1 => match gs[j]? with | some y => ltR y.1 x.1 | none => true

def gfOne (gs : List GrI) (k : Nat) (x : GrI) : Int := if roleB x.1.1 x.1.2 = false then 3 else if setIn x.2 = false then 3 else if x.2 = 0 then 1 else if prevB gs k x = false then 1 else 0

def gfTo (gs : List GrI) : Nat → Int
  | 0 => 0
  | k + 1 => if gfTo gs k ≠ 0 then gfTo gs k else match gs[k]? with
    | none => 0
    | some x => gfOne gs k x

def gfCode (gs : List GrI) : Int := if 40 < gs.length then 2 else gfTo gs gs.length

theorem gfTo_stay (gs : List GrI) (k m : Nat) (c : Int) (hc : c ≠ 0) (h : gfTo gs k = c) (hm : k ≤ m) : gfTo gs m = c := by
  induction m with
  | zero => obtain rfl : k = 0 := by omega
            exact h
  | succ m ih =>
    by_cases e : k = m + 1
    · subst e; exact h
    · have := ih (by omega)
      simp only [gfTo, this]
      rw [if_pos hc]

theorem gfTo_next {gs : List GrI} {k : Nat} {x : GrI} (hk : gs[k]? = some x) (h0 : gfTo gs k = 0) : gfTo gs (k + 1) = gfOne gs k x := by
  simp [gfTo, h0, hk]

theorem gfOne_zero {gs : List GrI} {k : Nat} {x : GrI} : gfOne gs k x = 0 ↔ roleB x.1.1 x.1.2 = true ∧ (1 ≤ x.2 ∧ x.2 ≤ 255) ∧ prevB gs k x = true := by
  unfold gfOne setIn
  cases h1 : roleB x.1.1 x.1.2 <;> cases h2 : prevB gs k x <;> simp
  · intro h3
    split at h3 <;> cases h3
  · constructor
    · intro h
      split at h
      · cases h
      · rename_i q
        split at h
        · cases h
        · simp at q; omega
    · intro h
      rw [if_neg (by simp; omega), if_neg (by omega)]

theorem gf_take {gs : List GrI} : ∀ k, k ≤ gs.length → gfTo gs k = 0 → SG (gs.take k)
  | 0, _, _ => by simpa using sg_nil
  | k + 1, hk, h => by
    have h0 : gfTo gs k = 0 := by
      by_cases q : gfTo gs k = 0
      · exact q
      · exact absurd (gfTo_stay gs k (k + 1) _ q rfl (by omega)) (by rw [h]; exact fun e => q e.symm)
    have hx : gs[k]? = some gs[k] := List.getElem?_eq_getElem (by omega)
    rw [gfTo_next hx h0] at h
    obtain ⟨h1, h2, h3⟩ := gfOne_zero.1 h
    have i := gf_take k (by omega) h0
    rw [List.take_succ_eq_append_getElem (by omega)]
    refine ⟨List.pairwise_append.2 ⟨i.up, by simp, fun a ha b hb => ?_⟩, fun x hx => ?_, fun x hx => ?_⟩
    · simp at hb
      rw [hb]
      obtain ⟨j, hj⟩ := List.mem_iff_getElem?.1 ha
      have hjk : j < k := by
        by_cases q : j < k
        · exact q
        · rw [List.getElem?_eq_none (by simp; omega)] at hj; cases hj
      match k, hk, hx, h3, i, ha, hj, hjk with
      | m + 1, hk, hx, h3, i, ha, hj, hjk =>
        have hy : gs[m]? = some gs[m] := List.getElem?_eq_getElem (by omega)
        simp only [prevB, hy] at h3
        by_cases e : j = m
        · subst e
          rw [List.getElem?_take, if_pos (by omega), hy] at hj
          rw [← Option.some.inj hj]
          exact h3
        · have hp := List.pairwise_iff_getElem.1 i.up j m (by simp; omega) (by simp; omega) (by omega)
          rw [List.getElem_take, List.getElem_take] at hp
          rw [List.getElem?_take, if_pos (by omega), List.getElem?_eq_getElem (by omega)] at hj
          rw [← Option.some.inj hj]
          exact ltR_trans hp h3
    · rcases List.mem_append.1 hx with q | q
      · exact i.ro x q
      · simp at q; rw [q]; exact h1
    · rcases List.mem_append.1 hx with q | q
      · exact i.st x q
      · simp at q; rw [q]; exact h2

theorem gf_sg {gs : List GrI} (h : gfCode gs = 0) : SG gs := by
  unfold gfCode at h
  split at h
  · cases h
  · have := gf_take gs.length (Nat.le_refl _) h
    rwa [List.take_length] at this

theorem sg_gf {gs : List GrI} (h : SG gs) : gfCode gs = 0 := by
  have hl := sg_len h
  unfold gfCode
  rw [if_neg (by omega)]
  have key : ∀ k, k ≤ gs.length → gfTo gs k = 0 := by
    intro k
    induction k with
    | zero => intro _; rfl
    | succ k ih =>
      intro hk
      have hx : gs[k]? = some gs[k] := List.getElem?_eq_getElem (by omega)
      rw [gfTo_next hx (ih (by omega))]
      refine gfOne_zero.2 ⟨h.ro _ (List.getElem_mem _), h.st _ (List.getElem_mem _), ?_⟩
      match k, hk, hx with
      | 0, _, _ => rfl
      | j + 1, hk, _ =>
        simp only [prevB, List.getElem?_eq_getElem (show j < gs.length by omega)]
        exact List.pairwise_iff_getElem.1 h.up j (j + 1) (by omega) (by omega) (by omega)
  exact key _ (Nat.le_refl _)

theorem prevB_of {gs : List GrI} {j : Nat} {y : GrI} (h : gs[j]? = some y) (x : GrI) : prevB gs (j + 1) x = ltR y.1 x.1 := by simp [prevB, h]

end Go.Proofs.Ytdooocjjohdpjaa

namespace Go.Proofs.Ytdooocjjohdpjaa
open Go.RowKit Go.Sort
set_option linter.unusedVariables false
set_option linter.unusedSimpArgs false

set_option maxHeartbeats 400000 in
theorem setFault_c (s : Int) (w : World) : Calls Try.prog 64 #[.int .i64 s] w fun e w' => e = .returned (.int .i64 (if setIn s = true then 0 else 3)) ∧ w = w' := by
  by_cases h0 : 0 ≤ s
  · by_cases h1 : s ≤ 255
    · have h2 : s < (256 : Int) := by omega
      rw [show (if setIn s = true then (0 : Int) else 3) = 0 by simp [setIn, h0, h1]]
      go_enter Try.func64, Try.ntmps64
      go_wp2
      go_ret
      exact ⟨rfl, rfl⟩
    · have h2 : (256 : Int) ≤ s := by omega
      rw [show (if setIn s = true then (0 : Int) else 3) = 3 by simp [setIn, h1]]
      go_enter Try.func64, Try.ntmps64
      go_wp2
      go_ret
      exact ⟨rfl, rfl⟩
  · have h2 : s < (0 : Int) := by omega
    rw [show (if setIn s = true then (0 : Int) else 3) = 3 by simp [setIn, h0]]
    go_enter Try.func64, Try.ntmps64
    go_wp2
    go_ret
    exact ⟨rfl, rfl⟩

theorem below_growD (w : World) (q : Nat) (os : Array Obj) : Below w.heap.size w (grow (w.drewN q) os) :=
  ⟨rfl, rfl, rfl, by simp [grow, World.drewN], fun i hi => by simp [grow, World.drewN, Array.getElem?_append_left hi]⟩

theorem cmpRoles_c (x y : RoI) (w : World) : Calls Try.prog 65 #[.agg #[.int .i64 x.1, .int .i64 x.2], .agg #[.int .i64 y.1, .int .i64 y.2]] w fun e w' => e = .returned (.int .i64 (cfR x y)) ∧ Below w.heap.size w w' :=
  (closure_c x y w).mono (fun e w' ⟨h1, q, os, h2⟩ => ⟨h1, by rw [h2]; exact below_growD w q os⟩)

set_option maxRecDepth 100000 in
set_option maxHeartbeats 2000000 in
theorem grantFault_few (a : Option Addr) (n cap : Nat) (gs : List GrI) (c : Int) (w : World) (h40 : n ≤ 40) (h : GrIn w a n gs) (hc : gfTo gs n = c) :
    Calls Try.prog 18 #[.slice a n cap] w fun e w' => e = .returned (.int .i64 c) ∧ Below w.heap.size w w' := by
  have H : Hid (GrIn w a n gs) := h
  have HC : Hid (gfTo gs n = c) := hc
  clear h hc
  have h' : ¬ ((40 : Int) < (n : Int)) := by omega
  have hn' : (n : Int) ≤ 40 := by omega
  go_enter Try.func18, Try.ntmps18
  go_wp2
  go_loopw [10] (fun i wr => ∃ k : Nat, k ≤ n ∧ i = .int .i64 (k : Int) ∧ gfTo gs k = 0 ∧ Below w.heap.size w wr) (fun i _ => n - (intOf i).toNat)
  case atStart => exact ⟨0, Nat.zero_le _, rfl, rfl, Below.refl _ _⟩
  case round =>
    obtain ⟨k, hk, rfl, hp, hnx⟩ := hrel
    have HP : Hid (gfTo gs k = 0) := hp
    clear hp
    by_cases hlt : k < n
    · obtain ⟨b, off, x, rfl, hs, hx, hbl⟩ := H.out.at hlt
      have HN : Hid (gfTo gs (k + 1) = gfOne gs k x) := gfTo_next hs HP.out
      clear hs
      have g := hx.below hnx hbl
      obtain ⟨g0, g1, g2⟩ := g
      have hbw : b < wr.heap.size := Nat.lt_of_lt_of_le hbl hnx.size
      have hlt' : (k : Int) < (n : Int) := by omega
      obtain ⟨t, ht⟩ : ∃ t, roleB x.1.1 x.1.2 = t := ⟨_, rfl⟩
      go_wp2_with fail
      refine (implRoleFault_c x.1.1 x.1.2 _).mono ?_
      rintro e w1 ⟨rfl, hb1⟩
      have hz1 := hb1.size
      simp only [World.size_alloc] at hz1
      have hnx1 : Below w.heap.size w w1 := hnx.trans ((below_new hb1).mono hnx.size)
      have hlt1 : wr.heap.size < w1.heap.size := by omega
      have b0 : w1.cell? ⟨wr.heap.size, 0, none⟩ = some (.int .i64 x.1.1) := (hb1.cell (p := ⟨wr.heap.size, 0, none⟩) (by simp)).trans (by simp)
      have b1 : w1.cell? ⟨wr.heap.size, 1, none⟩ = some (.int .i64 x.1.2) := (hb1.cell (p := ⟨wr.heap.size, 1, none⟩) (by simp)).trans (by simp)
      have b2 : w1.cell? ⟨wr.heap.size, 2, none⟩ = some (.int .i64 x.2) := (hb1.cell (p := ⟨wr.heap.size, 2, none⟩) (by simp)).trans (by simp)
      have hold : ∀ o, w1.cell? ⟨b, o, none⟩ = wr.cell? ⟨b, o, none⟩ := fun o => ((below_new hb1).cell (p := ⟨b, o, none⟩) hbw)
      clear hb1
      cases t
      · have E : Hid (c = 3) := HC.out.symm.trans (gfTo_stay gs (k + 1) n 3 (by decide) (by rw [HN.out]; simp [gfOne, ht]) (by omega))
        rw [show roleCode x.1.1 x.1.2 = 3 by simp [roleCode, ht]]
        clear hold
        go_wp2
        go_ret
        exact ⟨by rw [E.out]; rfl, hnx1⟩
      · rw [show roleCode x.1.1 x.1.2 = 0 by simp [roleCode, ht]]
        obtain ⟨u, hu⟩ : ∃ u, setIn x.2 = u := ⟨_, rfl⟩
        cases u
        · have E : Hid (c = 3) := HC.out.symm.trans (gfTo_stay gs (k + 1) n 3 (by decide) (by rw [HN.out]; simp [gfOne, ht, hu]) (by omega))
          clear hold
          go_wp2_with (first | (go_at_call 64; refine (setFault_c _ _).mono ?_; rintro e w2 ⟨rfl, rfl⟩; rw [hu]) | go_in)
          go_ret
          exact ⟨by rw [E.out]; rfl, hnx1⟩
        · by_cases hz : x.2 = 0
          · have E : Hid (c = 1) := HC.out.symm.trans (gfTo_stay gs (k + 1) n 1 (by decide) (by rw [HN.out]; unfold gfOne; rw [if_neg (by simp [ht]), if_neg (by simp [hu]), if_pos hz]) (by omega))
            have bz : (x.2 == 0) = true := by simp [hz]
            clear hz hold
            go_wp2_with (first | (go_at_call 64; refine (setFault_c _ _).mono ?_; rintro e w2 ⟨rfl, rfl⟩; rw [hu]) | go_in)
            go_quiet (fail)
            go_wp2
            go_ret
            exact ⟨by rw [E.out]; rfl, bdN hnx1 _⟩
          · have bz : (x.2 == 0) = false := by simp [hz]
            obtain rfl | ⟨j, rfl⟩ : k = 0 ∨ ∃ j, k = j + 1 := by cases k; exact .inl rfl; exact .inr ⟨_, rfl⟩
            · skip
              have HE : Hid (gfTo gs 1 = 0) := HN.out.trans (gfOne_zero.2 ⟨ht, by simp [setIn] at hu; omega, rfl⟩)
              clear hz hold
              go_wp2_with (first | (go_at_call 64; refine (setFault_c _ _).mono ?_; rintro e w2 ⟨rfl, rfl⟩; rw [hu]) | go_in)
              go_quiet (fail)
              go_wp2
              exact ⟨⟨0 + 1, by omega, by go_num, HE.out, bdN hnx1 _⟩, by simp [intOf]; omega⟩
            · skip
              obtain ⟨b', off', y, e', hy, hyx, _⟩ := H.out.at (k := j) (by omega)
              cases e'
              obtain ⟨q0, q1, _⟩ := hyx.below hnx hbl
              have HV : Hid (gfOne gs (j + 1) x = if ltR y.1 x.1 = false then 1 else 0) := by show gfOne gs (j + 1) x = _; simp [gfOne, ht, hu, hz, prevB_of hy]
              have y0 := (hold _).trans q0
              have y1 := (hold _).trans q1
              clear hyx hz hy hold q0 q1 g0 g1 g2
              have hbv : b < w1.heap.size := by omega
              have hj1 : (j : Int) < (n : Int) := by omega
              have hj0 : (0 : Int) ≤ (j : Int) := by omega
              have hjw : IntKind.i64.wrap ((j : Int) + 1 - 1) = (j : Int) := by rw [IntKind.wrap_i64]; omega
              have hjw2 : IntKind.i64.wrap (j : Int) = (j : Int) := by rw [IntKind.wrap_i64]; omega
              have hjw3 : IntKind.i64.wrap (((j + 1 : Nat) : Int) - 1) = (j : Int) := by rw [IntKind.wrap_i64]; omega
              have hpos1 : (0 : Int) < (j : Int) + 1 := by omega
              go_wp2_with (first | (go_at_call 64; refine (setFault_c _ _).mono ?_; rintro e w2 ⟨rfl, rfl⟩; rw [hu]) | go_in)
              obtain ⟨v, hv⟩ : ∃ v, cfR y.1 x.1 = v := ⟨_, rfl⟩
              have HCm : Hid (∀ w2 : World, Calls Try.prog 65 #[.agg #[.int .i64 y.1.1, .int .i64 y.1.2], .agg #[.int .i64 x.1.1, .int .i64 x.1.2]] w2 fun e w' => e = .returned (.int .i64 v) ∧ Below w2.heap.size w2 w') := fun w2 => by rw [← hv]; exact cmpRoles_c y.1 x.1 w2
              have hge : (0 ≤ v) ↔ ltR y.1 x.1 = false := by
                rw [← hv]
                simp only [cfR, orC, cmpI, ltR]
                split <;> split <;> simp <;> omega
              by_cases hpos : 0 ≤ v
              · have E : Hid (c = 1) := HC.out.symm.trans (gfTo_stay gs (j + 1 + 1) n 1 (by decide) (by rw [HN.out, HV.out, if_pos (hge.1 hpos)]) (by omega))
                clear hge hv
                go_region_held3 (fun w' => (∀ b o, b < w1.heap.size → w'.cell? ⟨b, o, none⟩ = w1.cell? ⟨b, o, none⟩) ∧ Below w1.heap.size w1 w') (first | exact hS | exact kp_drew _)
                  (first | (go_at_call 65; refine (HCm.out _).mono ?_; rintro e w' ⟨rfl, hb2⟩; have hS := kp_step (by assumption) hb2))
                go_wp2
                go_ret
                exact ⟨by rw [E.out]; rfl, hnx1.trans (hS.2.mono hnx1.size)⟩
              · have HE : Hid (gfTo gs (j + 1 + 1) = 0) := by show gfTo gs (j + 1 + 1) = 0; rw [HN.out, HV.out, if_neg (fun q => hpos (hge.2 q))]
                have hneg : v < 0 := by omega
                clear hge hv hpos
                go_region_held3 (fun w' => (∀ b o, b < w1.heap.size → w'.cell? ⟨b, o, none⟩ = w1.cell? ⟨b, o, none⟩) ∧ Below w1.heap.size w1 w') (first | exact hS | exact kp_drew _)
                  (first | (go_at_call 65; refine (HCm.out _).mono ?_; rintro e w' ⟨rfl, hb2⟩; have hS := kp_step (by assumption) hb2))
                go_wp2
                exact ⟨⟨j + 1 + 1, by omega, by go_num, HE.out, hnx1.trans (hS.2.mono hnx1.size)⟩, by simp [intOf]; omega⟩
    · have hkn : k = n := by omega
      subst hkn
      have E : Hid (c = 0) := HC.out.symm.trans HP.out
      go_wp2
      go_ret
      exact ⟨by rw [E.out]; rfl, hnx⟩

set_option maxHeartbeats 400000 in
theorem grantFault_many (a : Option Addr) (n cap : Nat) (w : World) (h40 : 40 < n) :
    Calls Try.prog 18 #[.slice a n cap] w fun e w' => e = .returned (.int .i64 2) ∧ Below w.heap.size w w' := by
  have h' : (40 : Int) < (n : Int) := by omega
  go_enter Try.func18, Try.ntmps18
  go_wp2
  go_ret
  exact ⟨rfl, Below.refl _ _⟩

theorem implGrantFault_c (a : Option Addr) (n cap : Nat) (gs : List GrI) (w : World) (h : GrIn w a n gs) :
    Calls Try.prog 18 #[.slice a n cap] w fun e w' => e = .returned (.int .i64 (gfCode gs)) ∧ Below w.heap.size w w' := by
  have hz := h.1
  by_cases h40 : 40 < n
  · have e : gfCode gs = 2 := by simp [gfCode, hz, h40]
    rw [e]
    exact grantFault_many a n cap w h40
  · have e : gfCode gs = gfTo gs n := by simp [gfCode, hz, h40]
    rw [e]
    exact grantFault_few a n cap gs _ w (by omega) h rfl

end Go.Proofs.Ytdooocjjohdpjaa

namespace Go.Proofs.Ytdooocjjohdpjaa
open Go.RowKit
set_option linter.unusedVariables false
set_option linter.unusedSimpArgs false

set_option maxHeartbeats 400000 in
theorem l1Set_c (s : Int) (w : World) : Calls Try.prog 115 #[.int .i64 s] w fun e w' => e = .returned (.bool (setIn s)) ∧ w = w' := by
  unfold setIn
  cases h0 : decide (0 ≤ s)
  · go_enter Try.func115, Try.ntmps115
    go_wp2
    go_ret
    exact ⟨by simp, rfl⟩
  · have h0' := of_decide_eq_true h0
    cases h1 : decide (s ≤ 255)
    all_goals
      go_enter Try.func115, Try.ntmps115
      go_wp2
      go_ret
      exact ⟨by simp, rfl⟩

set_option maxRecDepth 100000 in
set_option maxHeartbeats 2000000 in
theorem l3Fault_few (a : Option Addr) (n cap : Nat) (gs : List GrI) (c : Int) (w : World) (h40 : n ≤ 40) (h : GrIn w a n gs) (hc : gfTo gs n = c) :
    Calls Try.prog 61 #[.slice a n cap] w fun e w' => e = .returned (.int .i64 c) ∧ Below w.heap.size w w' := by
  have H : Hid (GrIn w a n gs) := h
  have HC : Hid (gfTo gs n = c) := hc
  clear h hc
  have h' : ¬ ((40 : Int) < (n : Int)) := by omega
  have hn' : (n : Int) ≤ 40 := by omega
  go_enter Try.func61, Try.ntmps61
  go_wp2
  go_loopw [3] (fun i wr => ∃ k : Nat, k ≤ n ∧ i = .int .i64 (k : Int) ∧ gfTo gs k = 0 ∧ Below w.heap.size w wr) (fun i _ => n - (intOf i).toNat)
  case atStart => exact ⟨0, Nat.zero_le _, rfl, rfl, Below.refl _ _⟩
  case round =>
    obtain ⟨k, hk, rfl, hp, hnx⟩ := hrel
    have HP : Hid (gfTo gs k = 0) := hp
    clear hp
    by_cases hlt : k < n
    · obtain ⟨b, off, x, rfl, hs, hx, hbl⟩ := H.out.at hlt
      have HN : Hid (gfTo gs (k + 1) = gfOne gs k x) := gfTo_next hs HP.out
      have HX : Hid (gs[k]? = some x) := hs
      clear hs
      have g := hx.below hnx hbl
      obtain ⟨g0, g1, g2⟩ := g
      have hbw : b < wr.heap.size := Nat.lt_of_lt_of_le hbl hnx.size
      have hlt' : (k : Int) < (n : Int) := by omega
      obtain ⟨t, ht⟩ : ∃ t, roleB x.1.1 x.1.2 = t := ⟨_, rfl⟩
      cases t
      · have E : Hid (c = 3) := HC.out.symm.trans (gfTo_stay gs (k + 1) n 3 (by decide) (by rw [HN.out]; simp [gfOne, ht]) (by omega))
        go_wp2_with (first | (go_at_call 114; refine (l2Role_c _ _ _).mono ?_; rintro e w1 ⟨rfl, hb1⟩; rw [ht]) | go_in)
        go_ret
        exact ⟨by rw [E.out]; rfl, hnx.trans (hb1.mono hnx.size)⟩
      · obtain ⟨u, hu⟩ : ∃ u, setIn x.2 = u := ⟨_, rfl⟩
        cases u
        · have E : Hid (c = 3) := HC.out.symm.trans (gfTo_stay gs (k + 1) n 3 (by decide) (by rw [HN.out]; simp [gfOne, ht, hu]) (by omega))
          go_wp2_with (first | (go_at_call 114; refine (l2Role_c _ _ _).mono ?_; rintro e w1 ⟨rfl, hb1⟩; rw [ht]; have g3 := (hb1.cell (p := ⟨b, off + k * 3 + 2, none⟩) hbw).trans g2) | (go_at_call 115; refine (l1Set_c _ _).mono ?_; rintro e w2 ⟨rfl, rfl⟩; rw [hu]) | go_in)
          go_ret
          exact ⟨by rw [E.out]; rfl, hnx.trans (hb1.mono hnx.size)⟩
        · by_cases hz : x.2 = 0
          · have E : Hid (c = 1) := HC.out.symm.trans (gfTo_stay gs (k + 1) n 1 (by decide) (by rw [HN.out]; unfold gfOne; rw [if_neg (by simp [ht]), if_neg (by simp [hu]), if_pos hz]) (by omega))
            have bz : (x.2 == 0) = true := by simp [hz]
            clear hz
            go_wp2_with (first | (go_at_call 114; refine (l2Role_c _ _ _).mono ?_; rintro e w1 ⟨rfl, hb1⟩; rw [ht]; have g3 := (hb1.cell (p := ⟨b, off + k * 3 + 2, none⟩) hbw).trans g2; have f0 := (hb1.cell (p := ⟨b, off + k * 3, none⟩) hbw).trans g0; have f1 := (hb1.cell (p := ⟨b, off + k * 3 + 1, none⟩) hbw).trans g1) | (go_at_call 115; refine (l1Set_c _ _).mono ?_; rintro e w2 ⟨rfl, rfl⟩; rw [hu]) | go_in)
            go_ret
            exact ⟨by rw [E.out]; rfl, hnx.trans (hb1.mono hnx.size)⟩
          · have bz : (x.2 == 0) = false := by simp [hz]
            match k, hk, hlt, HP, HN, HX, g0, g1, g2, hlt' with
            | 0, hk, hlt, HP, HN, HX, g0, g1, g2, hlt' =>
              have HE : Hid (gfTo gs 1 = 0) := HN.out.trans (gfOne_zero.2 ⟨ht, by simp [setIn] at hu; omega, rfl⟩)
              clear hz
              simp only [Nat.zero_mul, Nat.add_zero] at g0 g1 g2
              go_wp2_with (first | (go_at_call 114; refine (l2Role_c _ _ _).mono ?_; rintro e w1 ⟨rfl, hb1⟩; rw [ht]; have g3 := (hb1.cell (p := ⟨b, off + 2, none⟩) hbw).trans g2; have f0 := (hb1.cell (p := ⟨b, off, none⟩) hbw).trans g0; have f1 := (hb1.cell (p := ⟨b, off + 1, none⟩) hbw).trans g1) | (go_at_call 115; refine (l1Set_c _ _).mono ?_; rintro e w2 ⟨rfl, rfl⟩; rw [hu]) | go_in)
              exact ⟨⟨0 + 1, by omega, by go_num, HE.out, hnx.trans (hb1.mono hnx.size)⟩, by simp [intOf]; omega⟩
            | j + 1, hk, hlt, HP, HN, HX, g0, g1, g2, hlt' =>
              obtain ⟨b', off', y, e', hy, hyx, _⟩ := H.out.at (k := j) (by omega)
              cases e'
              obtain ⟨q0, q1, _⟩ := hyx.below hnx hbl
              have HV : Hid (gfOne gs (j + 1) x = if ltR y.1 x.1 = false then 1 else 0) := by show gfOne gs (j + 1) x = _; simp [gfOne, ht, hu, hz, prevB_of hy]
              clear hyx hz hy
              by_cases d1 : x.1.1 < y.1.1
              · have E : Hid (c = 1) := HC.out.symm.trans (gfTo_stay gs (j + 1 + 1) n 1 (by decide) (by rw [HN.out, HV.out, if_pos (by simp [ltR]; omega)]) (by omega))
                go_wp2_with (first | (go_at_call 114; refine (l2Role_c _ _ _).mono ?_; rintro e w1 ⟨rfl, hb1⟩; rw [ht]; have g3 := (hb1.cell (p := ⟨b, off + (j + 1) * 3 + 2, none⟩) hbw).trans g2; have f0 := (hb1.cell (p := ⟨b, off + (j + 1) * 3, none⟩) hbw).trans g0; have f1 := (hb1.cell (p := ⟨b, off + (j + 1) * 3 + 1, none⟩) hbw).trans g1; have hbv : b < w1.heap.size := Nat.lt_of_lt_of_le hbw hb1.size; have y0 := (hb1.cell (p := ⟨b, off + j * 3, none⟩) hbw).trans q0; have y1 := (hb1.cell (p := ⟨b, off + j * 3 + 1, none⟩) hbw).trans q1) | (go_at_call 115; refine (l1Set_c _ _).mono ?_; rintro e w2 ⟨rfl, rfl⟩; rw [hu]) | go_in)
                go_ret
                exact ⟨by rw [E.out]; rfl, ((hnx.trans (hb1.mono hnx.size)).alloc (by have := hnx.size; have := hb1.size; omega) _).alloc (by have := hnx.size; have := hb1.size; simp; omega) _⟩
              · by_cases d2 : y.1.1 = x.1.1
                · have b2 : (y.1.1 == x.1.1) = true := by simp [d2]
                  by_cases d3 : x.1.2 ≤ y.1.2
                  · have E : Hid (c = 1) := HC.out.symm.trans (gfTo_stay gs (j + 1 + 1) n 1 (by decide) (by rw [HN.out, HV.out, if_pos (by simp [ltR]; omega)]) (by omega))
                    clear d2
                    go_wp2_with (first | (go_at_call 114; refine (l2Role_c _ _ _).mono ?_; rintro e w1 ⟨rfl, hb1⟩; rw [ht]; have g3 := (hb1.cell (p := ⟨b, off + (j + 1) * 3 + 2, none⟩) hbw).trans g2; have f0 := (hb1.cell (p := ⟨b, off + (j + 1) * 3, none⟩) hbw).trans g0; have f1 := (hb1.cell (p := ⟨b, off + (j + 1) * 3 + 1, none⟩) hbw).trans g1; have hbv : b < w1.heap.size := Nat.lt_of_lt_of_le hbw hb1.size; have y0 := (hb1.cell (p := ⟨b, off + j * 3, none⟩) hbw).trans q0; have y1 := (hb1.cell (p := ⟨b, off + j * 3 + 1, none⟩) hbw).trans q1) | (go_at_call 115; refine (l1Set_c _ _).mono ?_; rintro e w2 ⟨rfl, rfl⟩; rw [hu]) | go_in)
                    go_ret
                    exact ⟨by rw [E.out]; rfl, ((hnx.trans (hb1.mono hnx.size)).alloc (by have := hnx.size; have := hb1.size; omega) _).alloc (by have := hnx.size; have := hb1.size; simp; omega) _⟩
                  · have HE : Hid (gfTo gs (j + 1 + 1) = 0) := by show gfTo gs (j + 1 + 1) = 0; rw [HN.out, HV.out, if_neg (by simp [ltR]; omega)]
                    clear d2
                    go_wp2_with (first | (go_at_call 114; refine (l2Role_c _ _ _).mono ?_; rintro e w1 ⟨rfl, hb1⟩; rw [ht]; have g3 := (hb1.cell (p := ⟨b, off + (j + 1) * 3 + 2, none⟩) hbw).trans g2; have f0 := (hb1.cell (p := ⟨b, off + (j + 1) * 3, none⟩) hbw).trans g0; have f1 := (hb1.cell (p := ⟨b, off + (j + 1) * 3 + 1, none⟩) hbw).trans g1; have hbv : b < w1.heap.size := Nat.lt_of_lt_of_le hbw hb1.size; have y0 := (hb1.cell (p := ⟨b, off + j * 3, none⟩) hbw).trans q0; have y1 := (hb1.cell (p := ⟨b, off + j * 3 + 1, none⟩) hbw).trans q1) | (go_at_call 115; refine (l1Set_c _ _).mono ?_; rintro e w2 ⟨rfl, rfl⟩; rw [hu]) | go_in)
                    exact ⟨⟨j + 1 + 1, by omega, by go_num, HE.out, ((hnx.trans (hb1.mono hnx.size)).alloc (by have := hnx.size; have := hb1.size; omega) _).alloc (by have := hnx.size; have := hb1.size; simp; omega) _⟩, by simp [intOf]; omega⟩
                · have b2 : (y.1.1 == x.1.1) = false := by simp [d2]
                  have HE : Hid (gfTo gs (j + 1 + 1) = 0) := by show gfTo gs (j + 1 + 1) = 0; rw [HN.out, HV.out, if_neg (by simp [ltR]; omega)]
                  clear d2
                  go_wp2_with (first | (go_at_call 114; refine (l2Role_c _ _ _).mono ?_; rintro e w1 ⟨rfl, hb1⟩; rw [ht]; have g3 := (hb1.cell (p := ⟨b, off + (j + 1) * 3 + 2, none⟩) hbw).trans g2; have f0 := (hb1.cell (p := ⟨b, off + (j + 1) * 3, none⟩) hbw).trans g0; have f1 := (hb1.cell (p := ⟨b, off + (j + 1) * 3 + 1, none⟩) hbw).trans g1; have hbv : b < w1.heap.size := Nat.lt_of_lt_of_le hbw hb1.size; have y0 := (hb1.cell (p := ⟨b, off + j * 3, none⟩) hbw).trans q0; have y1 := (hb1.cell (p := ⟨b, off + j * 3 + 1, none⟩) hbw).trans q1) | (go_at_call 115; refine (l1Set_c _ _).mono ?_; rintro e w2 ⟨rfl, rfl⟩; rw [hu]) | go_in)
                  exact ⟨⟨j + 1 + 1, by omega, by go_num, HE.out, ((hnx.trans (hb1.mono hnx.size)).alloc (by have := hnx.size; have := hb1.size; omega) _).alloc (by have := hnx.size; have := hb1.size; simp; omega) _⟩, by simp [intOf]; omega⟩
    · have hkn : k = n := by omega
      subst hkn
      have E : Hid (c = 0) := HC.out.symm.trans HP.out
      go_wp2
      go_ret
      exact ⟨by rw [E.out]; rfl, hnx⟩

set_option maxHeartbeats 400000 in
theorem l3Fault_many (a : Option Addr) (n cap : Nat) (w : World) (h40 : 40 < n) :
    Calls Try.prog 61 #[.slice a n cap] w fun e w' => e = .returned (.int .i64 2) ∧ Below w.heap.size w w' := by
  have h' : (40 : Int) < (n : Int) := by omega
  go_enter Try.func61, Try.ntmps61
  go_wp2
  go_ret
  exact ⟨rfl, Below.refl _ _⟩

theorem l3Fault_c (a : Option Addr) (n cap : Nat) (gs : List GrI) (w : World) (h : GrIn w a n gs) :
    Calls Try.prog 61 #[.slice a n cap] w fun e w' => e = .returned (.int .i64 (gfCode gs)) ∧ Below w.heap.size w w' := by
  have hz := h.1
  by_cases h40 : 40 < n
  · have e : gfCode gs = 2 := by simp [gfCode, hz, h40]
    rw [e]
    exact l3Fault_many a n cap w h40
  · have e : gfCode gs = gfTo gs n := by simp [gfCode, hz, h40]
    rw [e]
    exact l3Fault_few a n cap gs _ w (by omega) h rfl

end Go.Proofs.Ytdooocjjohdpjaa

namespace Go.Proofs.Ytdooocjjohdpjaa
open Go.RowKit
set_option linter.unusedVariables false
set_option linter.unusedSimpArgs false

def manyCode (zs : List RuleI) (ps : List PartI) : Int := orC (polCode zs) (ptCode ps)

theorem many_zero {zs : List RuleI} {ps : List PartI} (h : manyCode zs ps = 0) : polCode zs = 0 ∧ ptCode ps = 0 := by
  unfold manyCode orC at h
  split at h
  · rename_i q; exact ⟨q, h⟩
  · rename_i q; exact absurd h q

set_option maxRecDepth 100000 in
set_option maxHeartbeats 2000000 in
theorem implMany_c (a : Option Addr) (n cap : Nat) (zs : List RuleI) (a' : Option Addr) (m cap' : Nat) (ps : List PartI) (w : World) (hn : n ≤ 1048576) (hm : m ≤ 1048576) (hcap : n ≤ cap) (hcm : cap ≤ maxLen) (h : RulesIn w a n zs) (h' : PartsIn w a' m ps) :
    Calls Try.prog 76 #[.slice a n cap, .slice a' m cap'] w fun e w' => e = .returned (.int .i64 (manyCode zs ps)) ∧ Below w.heap.size w w' := by
  have HP : Hid (∀ w2 : World, Below w.heap.size w w2 → Calls Try.prog 23 #[.slice a n cap] w2 fun e w' => e = .returned (.int .i64 (polCode zs)) ∧ Below w2.heap.size w2 w') := fun w2 q => implPolicyFault_c a n cap zs w2 hn hcap hcm (h.below q)
  have HQ : Hid (∀ w2 : World, Below w.heap.size w w2 → Calls Try.prog 128 #[.slice a' m cap'] w2 fun e w' => e = .returned (.int .i64 (ptCode ps)) ∧ Below w2.heap.size w2 w') := fun w2 q => implPartsFault_c a' m cap' ps w2 (by unfold maxLen; omega) (h'.below q)
  unfold manyCode
  generalize polCode zs = p at HP
  generalize ptCode ps = q at HQ
  clear h h'
  go_enter Try.func76, Try.ntmps76
  go_wp2_with fail
  refine (HP.out _ (Below.refl _ _)).mono ?_
  rintro e w1 ⟨rfl, hb1⟩
  go_wp2_with fail
  refine (HQ.out _ hb1).mono ?_
  rintro e w2 ⟨rfl, hb2'⟩
  have hb2 : Below w.heap.size w w2 := hb1.trans (hb2'.mono hb1.size)
  have hb3 : Below w.heap.size w (w2.alloc (.cells #[.int .i64 p, .int .i64 q] 2)) := hb2.alloc hb2.size _
  go_wp2_with (first | (go_at_call 56; refine (or64_c _ p q _ ?_ ?_).mono ?_; (· simp [go_sem]); (· simp [go_sem]); rintro e w' ⟨rfl, rfl⟩) | fail)
  go_ret
  exact ⟨rfl, hb3⟩

set_option maxRecDepth 100000 in
set_option maxHeartbeats 2000000 in
theorem specAsked_c (a : Option Addr) (n cap : Nat) (zs : List RuleI) (a' : Option Addr) (m cap' : Nat) (ps : List PartI) (w : World) (hn : n ≤ 1048576) (hm : m ≤ 1048576) (h : RulesIn w a n zs) (h' : PartsIn w a' m ps) :
    Calls Try.prog 78 #[.slice a n cap, .slice a' m cap'] w fun e w' => e = .returned (.int .i64 (manyCode zs ps)) ∧ Below w.heap.size w w' := by
  have HP : Hid (∀ w2 : World, Below w.heap.size w w2 → Calls Try.prog 59 #[.slice a n cap] w2 fun e w' => e = .returned (.int .i64 (polCode zs)) ∧ Below w2.heap.size w2 w') := fun w2 q => l2Fault_c a n cap zs w2 hn (h.below q)
  have HQ : Hid (∀ w2 : World, Below w.heap.size w w2 → Calls Try.prog 131 #[.slice a' m cap'] w2 fun e w' => e = .returned (.int .i64 (ptCode ps)) ∧ Below w2.heap.size w2 w') := fun w2 q => l4Fault_c a' m cap' ps w2 (by unfold maxLen; omega) (h'.below q)
  unfold manyCode
  generalize polCode zs = p at HP
  generalize ptCode ps = q at HQ
  clear h h'
  by_cases hp : p = 0
  · have e : orC p q = q := by simp [orC, hp]
    have hpb : (p != 0) = false := by simp [hp]
    rw [e]
    clear hp e
    go_enter Try.func78, Try.ntmps78
    go_wp2_with fail
    refine (HP.out _ (Below.refl _ _)).mono ?_
    rintro e w1 ⟨rfl, hb1⟩
    go_wp2_with fail
    refine (HQ.out _ hb1).mono ?_
    rintro e w2 ⟨rfl, hb2⟩
    go_wp2_with fail
    go_ret
    exact ⟨rfl, hb1.trans (hb2.mono hb1.size)⟩
  · have e : orC p q = p := by simp [orC, hp]
    have hpb : (p != 0) = true := by simp [hp]
    rw [e]
    clear hp e
    go_enter Try.func78, Try.ntmps78
    go_wp2_with fail
    refine (HP.out _ (Below.refl _ _)).mono ?_
    rintro e w1 ⟨rfl, hb1⟩
    go_wp2_with fail
    go_ret
    exact ⟨rfl, hb1⟩

theorem index_told (cT : Array Value) (x : Nat) (v : Value) (hx : x < 256) (hs : cT.size = 256) (hc : cT[x]? = some v) (hv : v.oneCell' = true) (w : World) : (Instr.index 114 (.agg cT) (.int .i64 (x : Int))).run Try.prog w = .ok v w := by
  have h1 : (0 : Int) ≤ (x : Int) := by omega
  have h2 : (x : Int) < 256 := by omega
  simp [Instr.index, run_underlying ts_under, go_sem, h1, h2, hs, hc]
  intro h; omega

def GivesA (f : Nat) (a : Option Addr) (n cap : Nat) (a' : Option Addr) (m cap' : Nat) (s : Int) (t : Bool) (w : World) : Prop := Calls Try.prog f #[.slice a n cap, .slice a' m cap', .int .i64 s] w fun e w' => e = .returned (.bool t) ∧ Below w.heap.size w w'

/-- Is a set admitted? -/
def admB (zs : List RuleI) (ps : List PartI) (gs : List GrI) (s : Int) : Bool := decide (manyCode zs ps = 0) && setIn s && tellsL (ofG gs) ps s.toNat

end Go.Proofs.Ytdooocjjohdpjaa
