/-
  CONTRACTS: PartsFault of both programs.
  Conditions: each contract bears its own.
  CONTRACT: spec.PartsFault.
  Conditions: each contract bears its own.
  CONTRACTS: ConfigFault of both programs, and what its parts ask; NeedOf and ReplicasOf.
  Conditions: each contract bears its own.
  PLAIN WORDS on which sets the parts of a form tell, and on the least of them. No Go text is walked here.
  Conditions: each fact bears its own.
-/
import Derived.Test.YtaeigimgobilaaaGreatDoorPz04
import Derived.Test.YtaeigimgobilaaaGreatDoorRole1
import Derived.Test.YtaeigimgobilaaaGreatDoorGr2
import Derived.WalkSmall
import Derived.BigQuiet
import Derived.Deep.QuietTactic
import Derived.Test.YtaeigimgobilaaaGreatDoorPz01
import Derived.Deep.RegionHeld3
import Derived.Test.YtaeigimgobilaaaGreatDoorGr8

namespace Go.Proofs.YtaeigimgobilaaaGreatDoor
open Go.RowKit
set_option linter.unusedVariables false
set_option linter.unusedSimpArgs false
attribute [local go_sem ↓] ro_eql

theorem ro_neq (p q : RoI) (w : World) : (binOp .neq 66 (.agg #[.int .i64 p.1, .int .i64 p.2]) (.agg #[.int .i64 q.1, .int .i64 q.2])).run Tryz.prog w = .ok (.bool (!eqRo p q)) w := by
  obtain ⟨a0, a1⟩ := p
  obtain ⟨b0, b1⟩ := q
  simp only [eqRo]
  cases e0 : (a0 == b0)
  · simp [go_sem, e0]
  cases e1 : (a1 == b1)
  · simp [go_sem, e0, e1]
  · simp [go_sem, e0, e1]

set_option maxHeartbeats 400000 in
theorem l1In_c (v lo hi : Int) (w : World) : Calls Tryz.prog 53 #[.int .i64 v, .int .i64 lo, .int .i64 hi] w fun e w' => e = .returned (.bool (decide (lo ≤ v) && decide (v ≤ hi))) ∧ w = w' := by
  cases h0 : decide (lo ≤ v)
  · go_enter Tryz.func53, Tryz.ntmps53
    go_wp2
    go_ret
    exact ⟨by simp, rfl⟩
  · cases h1 : decide (v ≤ hi)
    all_goals
      go_enter Tryz.func53, Tryz.ntmps53
      go_wp2
      go_ret
      exact ⟨by simp, rfl⟩

set_option maxHeartbeats 400000 in
theorem isAhead_c (v : Int) (k : Nat) (hk : k ≤ 1000) (w : World) : Calls Tryz.prog 115 #[.int .i64 v, .int .i64 (k : Int)] w fun e w' => e = .returned (.bool (decide (0 ≤ v) && decide (v < (k : Int)))) ∧ w = w' := by
  have hk' : (k : Int) ≤ 1000 := by omega
  cases h0 : decide (0 ≤ v)
  · go_enter Tryz.func115, Tryz.ntmps115
    go_wp2
    go_ret
    exact ⟨by simp, rfl⟩
  · cases h1 : decide (v < (k : Int))
    all_goals
      go_enter Tryz.func115, Tryz.ntmps115
      go_wp2
      go_ret
      exact ⟨by simp, rfl⟩

set_option maxRecDepth 100000 in
set_option maxHeartbeats 2000000 in
theorem partFault_1 (x : PartI) (k : Nat) (w : World) (hk : k ≤ 1000) (e1 : x.k = 1) :
    Calls Tryz.prog 91 #[.agg #[.int .i64 x.k, .int .i64 x.ro, .int .i64 x.rn, .int .i64 x.l, .int .i64 x.r], .int .i64 (k : Int)] w fun e w' => e = .returned (.int .i64 (ptOne k x)) ∧ Below w.heap.size w w' := by
  have hk' : (k : Int) ≤ 1000 := by omega
  have b1 : (x.k == 1) = true := by simp [e1]
  obtain ⟨t, ht⟩ : ∃ t, roleB x.ro x.rn = t := ⟨_, rfl⟩
  cases t
  · have hp : ptOne k x = 3 := by simp [ptOne, e1, ht]
    have hc : roleCode x.ro x.rn = 3 := by simp [roleCode, ht]
    rw [hp]
    clear e1 ht hp
    go_enter Tryz.func91, Tryz.ntmps91
    go_wp2_with (first | (go_at_call 109; refine (implRoleFault_c _ _ _).mono ?_; rintro e w1 ⟨rfl, hb1⟩; rw [hc]) | fail)
    go_ret
    exact ⟨rfl, below_new hb1⟩
  · have hc : roleCode x.ro x.rn = 0 := by simp [roleCode, ht]
    obtain ⟨u, hu⟩ : ∃ u, (x.l != 0) = u := ⟨_, rfl⟩
    obtain ⟨v, hv⟩ : ∃ v, (x.r != 0) = v := ⟨_, rfl⟩
    have hp : ptOne k x = if (u || v) = true then 1 else 0 := by
      rw [← hu, ← hv]
      simp only [ptOne, e1, ht]
      by_cases q1 : x.l = 0 <;> by_cases q2 : x.r = 0 <;> simp [q1, q2]
    rw [hp]
    clear e1 ht hp
    cases u <;> cases v
    all_goals
      go_enter Tryz.func91, Tryz.ntmps91
      go_wp2_with (first | (go_at_call 109; refine (implRoleFault_c _ _ _).mono ?_; rintro e w1 ⟨rfl, hb1⟩; rw [hc]; have q3 : w1.cell? ⟨w.heap.size, 3, none⟩ = some (.int .i64 x.l) := (hb1.cell (p := ⟨w.heap.size, 3, none⟩) (by simp)).trans (by simp); have q4 : w1.cell? ⟨w.heap.size, 4, none⟩ = some (.int .i64 x.r) := (hb1.cell (p := ⟨w.heap.size, 4, none⟩) (by simp)).trans (by simp)) | fail)
      go_ret
      exact ⟨rfl, below_new hb1⟩

set_option maxRecDepth 100000 in
set_option maxHeartbeats 2000000 in
theorem partFault_bad (x : PartI) (k : Nat) (w : World) (e1 : ¬ (1 ≤ x.k ∧ x.k ≤ 3)) :
    Calls Tryz.prog 91 #[.agg #[.int .i64 x.k, .int .i64 x.ro, .int .i64 x.rn, .int .i64 x.l, .int .i64 x.r], .int .i64 (k : Int)] w fun e w' => e = .returned (.int .i64 (ptOne k x)) ∧ Below w.heap.size w w' := by
  have b1 : (x.k == 1) = false := by simp; omega
  have b2 : (x.k == 2) = false := by simp; omega
  have b3 : (x.k == 3) = false := by simp; omega
  have hp : ptOne k x = 1 := by simp only [ptOne, if_pos e1]
  rw [hp]
  clear e1 hp
  go_enter Tryz.func91, Tryz.ntmps91
  go_wp2_with fail
  go_ret
  exact ⟨rfl, by go_grown⟩

set_option maxRecDepth 100000 in
set_option maxHeartbeats 4000000 in
theorem partFault_2 (x : PartI) (k : Nat) (w : World) (hk : k ≤ 1000) (e1 : x.k = 2 ∨ x.k = 3) :
    Calls Tryz.prog 91 #[.agg #[.int .i64 x.k, .int .i64 x.ro, .int .i64 x.rn, .int .i64 x.l, .int .i64 x.r], .int .i64 (k : Int)] w fun e w' => e = .returned (.int .i64 (ptOne k x)) ∧ Below w.heap.size w w' := by
  have hk' : (k : Int) ≤ 1000 := by omega
  have b1 : (x.k == 1) = false := by simp; omega
  obtain ⟨u, hu⟩ : ∃ u, (decide (0 ≤ x.l) && decide (x.l < (k : Int))) = u := ⟨_, rfl⟩
  obtain ⟨v, hv⟩ : ∃ v, (decide (0 ≤ x.r) && decide (x.r < (k : Int))) = v := ⟨_, rfl⟩
  obtain ⟨t, ht⟩ : ∃ t, eqRo (x.ro, x.rn) (0, 0) = t := ⟨_, rfl⟩
  have hp : ptOne k x = if t = false then 1 else if u = false then 3 else if v = false then 3 else 0 := by
    have ek : ¬ x.k = 1 := by omega
    unfold ptOne
    rw [if_neg (by omega), if_neg ek]
    have h1 : t = true ↔ (x.ro = 0 ∧ x.rn = 0) := by rw [← ht, eqRo_iff]; simp
    have h2 : u = true ↔ (0 ≤ x.l ∧ x.l < (k : Int)) := by rw [← hu]; simp
    have h3 : v = true ↔ (0 ≤ x.r ∧ x.r < (k : Int)) := by rw [← hv]; simp
    simp only [← h1, ← h2, ← h3]
    cases t <;> cases u <;> cases v <;> simp
  rw [hp]
  have hn : ∀ w, (binOp .neq 66 (.agg #[.int .i64 x.ro, .int .i64 x.rn]) (.agg #[.int .i64 0, .int .i64 0])).run Tryz.prog w = .ok (.bool (!t)) w := fun w => by rw [← ht]; exact ro_neq (x.ro, x.rn) (0, 0) w
  have HU : Hid ((decide (0 ≤ x.l) && decide (x.l < (k : Int))) = u) := hu
  have HV : Hid ((decide (0 ≤ x.r) && decide (x.r < (k : Int))) = v) := hv
  clear hp ht hu hv
  rcases e1 with e1 | e1
  · have b2 : (x.k == 2) = true := by simp; omega
    clear e1
    cases t
    · go_enter Tryz.func91, Tryz.ntmps91
      go_wp2_with fail
      go_ret
      exact ⟨rfl, by go_grown⟩
    · cases u <;> cases v
      all_goals
        go_enter Tryz.func91, Tryz.ntmps91
        go_wp2_with (first | (go_at_call 115; refine (isAhead_c _ _ hk _).mono ?_; rintro e w1 ⟨rfl, rfl⟩; first | rw [HU.out] | rw [HV.out]) | fail)
        go_ret
        exact ⟨rfl, by go_grown⟩
  · have b2 : (x.k == 2) = false := by simp; omega
    have b3 : (x.k == 3) = true := by simp; omega
    clear e1
    cases t
    · go_enter Tryz.func91, Tryz.ntmps91
      go_wp2_with fail
      go_ret
      exact ⟨rfl, by go_grown⟩
    · cases u <;> cases v
      all_goals
        go_enter Tryz.func91, Tryz.ntmps91
        go_wp2_with (first | (go_at_call 115; refine (isAhead_c _ _ hk _).mono ?_; rintro e w1 ⟨rfl, rfl⟩; first | rw [HU.out] | rw [HV.out]) | fail)
        go_ret
        exact ⟨rfl, by go_grown⟩

theorem partFault_c (x : PartI) (k : Nat) (w : World) (hk : k ≤ 1000) :
    Calls Tryz.prog 91 #[.agg #[.int .i64 x.k, .int .i64 x.ro, .int .i64 x.rn, .int .i64 x.l, .int .i64 x.r], .int .i64 (k : Int)] w fun e w' => e = .returned (.int .i64 (ptOne k x)) ∧ Below w.heap.size w w' := by
  by_cases h : 1 ≤ x.k ∧ x.k ≤ 3
  · by_cases h1 : x.k = 1
    · exact partFault_1 x k w hk h1
    · exact partFault_2 x k w hk (by omega)
  · exact partFault_bad x k w h

set_option maxRecDepth 100000 in
set_option maxHeartbeats 2000000 in
theorem implParts_few (a : Option Addr) (n cap : Nat) (zs : List PartI) (c : Int) (w : World) (h1 : 1 ≤ n) (h8 : n ≤ 8) (h : PartsIn w a n zs) (hc : ptTo zs n = c) :
    Calls Tryz.prog 63 #[.slice a n cap] w fun e w' => e = .returned (.int .i64 c) ∧ Below w.heap.size w w' := by
  have H : Hid (PartsIn w a n zs) := h
  have HC : Hid (ptTo zs n = c) := hc
  clear h hc
  have hn1 : ¬ ((n : Int) < 1) := by omega
  have hn8 : ¬ ((8 : Int) < (n : Int)) := by omega
  have hn' : (n : Int) ≤ 8 := by omega
  go_enter Tryz.func63, Tryz.ntmps63
  go_wp2
  go_loopw [16] (fun i wr => ∃ k : Nat, k ≤ n ∧ i = .int .i64 (k : Int) ∧ ptTo zs k = 0 ∧ Below w.heap.size w wr) (fun i _ => n - (intOf i).toNat)
  case atStart => exact ⟨0, Nat.zero_le _, rfl, rfl, Below.refl _ _⟩
  case round =>
    obtain ⟨k, hk, rfl, hp, hnx⟩ := hrel
    have HP : Hid (ptTo zs k = 0) := hp
    clear hp
    by_cases hlt : k < n
    · obtain ⟨b, off, x, rfl, hs, hx⟩ := H.out.at hlt
      have HN : Hid (ptTo zs (k + 1) = ptOne k x) := ptTo_next hs HP.out
      clear hs
      obtain ⟨g0, g1, g2, g3, g4⟩ := hx.below hnx
      clear hx
      have hlt' : (k : Int) < (n : Int) := by omega
      go_wp2_with fail
      refine (partFault_c x k _ (by omega)).mono ?_
      rintro e w1 ⟨rfl, hb1⟩
      have hnx1 : Below w.heap.size w w1 := hnx.trans ((below_new hb1).mono hnx.size)
      clear hb1 g0 g1 g2 g3 g4
      by_cases hz : ptOne k x = 0
      · have HE : Hid (ptTo zs (k + 1) = 0) := HN.out.trans hz
        rw [hz]
        clear hz
        go_wp2
        exact ⟨⟨k + 1, by omega, by go_num, HE.out, hnx1⟩, by simp [intOf]; omega⟩
      · have E : Hid (c = ptOne k x) := HC.out.symm.trans (ptTo_stay zs (k + 1) n _ hz HN.out (by omega))
        have hzb : (ptOne k x != 0) = true := by simpa using hz
        clear hz
        go_wp2
        go_ret
        exact ⟨by rw [E.out]; rfl, hnx1⟩
    · have hkn : k = n := by omega
      subst hkn
      go_wp2
      go_ret
      exact ⟨by rw [← HC.out, HP.out]; rfl, hnx⟩

set_option maxRecDepth 100000 in
theorem implPartsFault_c (a : Option Addr) (n cap : Nat) (zs : List PartI) (w : World) (hm : n ≤ maxLen) (h : PartsIn w a n zs) :
    Calls Tryz.prog 63 #[.slice a n cap] w fun e w' => e = .returned (.int .i64 (ptCode zs)) ∧ Below w.heap.size w w' := by
  have hl := h.1
  unfold maxLen at hm
  have hm' : (n : Int) ≤ 9223372036854775807 := by omega
  unfold ptCode
  rw [hl]
  by_cases h1 : n < 1
  · have h1' : (n : Int) < 1 := by omega
    rw [if_pos h1]
    clear h hl h1
    go_enter Tryz.func63, Tryz.ntmps63
    go_wp2
    go_ret
    exact ⟨rfl, Below.refl _ _⟩
  · rw [if_neg h1]
    by_cases h8 : 8 < n
    · have h1' : ¬ ((n : Int) < 1) := by omega
      have h8' : (8 : Int) < (n : Int) := by omega
      rw [if_pos h8]
      clear h hl h1 h8
      go_enter Tryz.func63, Tryz.ntmps63
      go_wp2
      go_ret
      exact ⟨rfl, Below.refl _ _⟩
    · rw [if_neg h8]
      exact implParts_few a n cap zs _ w (by omega) (by omega) h rfl

end Go.Proofs.YtaeigimgobilaaaGreatDoor

namespace Go.Proofs.YtaeigimgobilaaaGreatDoor
open Go.RowKit
set_option linter.unusedVariables false
set_option linter.unusedSimpArgs false

set_option maxRecDepth 100000 in
set_option maxHeartbeats 4000000 in
theorem l4Fault_few (a : Option Addr) (n cap : Nat) (zs : List PartI) (c : Int) (w : World) (h1 : 1 ≤ n) (h8 : n ≤ 8) (h : PartsIn w a n zs) (hc : ptTo zs n = c) :
    Calls Tryz.prog 43 #[.slice a n cap] w fun e w' => e = .returned (.int .i64 c) ∧ Below w.heap.size w w' := by
  have H : Hid (PartsIn w a n zs) := h
  have HC : Hid (ptTo zs n = c) := hc
  clear h hc
  have hn1 : ¬ ((n : Int) < 1) := by omega
  have hn8 : ¬ ((8 : Int) < (n : Int)) := by omega
  have hn' : (n : Int) ≤ 8 := by omega
  go_enter Tryz.func43, Tryz.ntmps43
  go_wp2
  go_loopw [3] (fun i wr => ∃ k : Nat, k ≤ n ∧ i = .int .i64 (k : Int) ∧ ptTo zs k = 0 ∧ Below w.heap.size w wr) (fun i _ => n - (intOf i).toNat)
  case atStart => exact ⟨0, Nat.zero_le _, rfl, rfl, Below.refl _ _⟩
  case round =>
    obtain ⟨k, hk, rfl, hp, hnx⟩ := hrel
    have HP : Hid (ptTo zs k = 0) := hp
    clear hp
    by_cases hlt : k < n
    · obtain ⟨b, off, x, rfl, hs, hx⟩ := H.out.at hlt
      have HN : Hid (ptTo zs (k + 1) = ptOne k x) := ptTo_next hs HP.out
      have HST : Hid (∀ d : Int, ptOne k x = d → d ≠ 0 → c = d) := fun d e q => HC.out.symm.trans (ptTo_stay zs (k + 1) n d q (HN.out.trans e) (by omega))
      clear hs
      obtain ⟨g0, g1, g2, g3, g4⟩ := hx.below hnx
      clear hx
      have hlt' : (k : Int) < (n : Int) := by omega
      have hk8 : (k : Int) ≤ 8 := by omega
      have A5 : Below w.heap.size w (wr.alloc (.cells #[.int .i64 x.k, .int .i64 x.ro, .int .i64 x.rn, .int .i64 x.l, .int .i64 x.r] 104)) := hnx.alloc hnx.size _
      obtain ⟨t0, ht0⟩ : ∃ t0, (decide (1 ≤ x.k) && decide (x.k ≤ 3)) = t0 := ⟨_, rfl⟩
      have HK : Hid ((decide (1 ≤ x.k) && decide (x.k ≤ 3)) = t0) := ht0
      cases t0
      · have E : Hid (c = 1) := HST.out 1 (by unfold ptOne; rw [if_pos (by simp at ht0; omega)]) (by decide)
        clear ht0
        go_wp2_with (first | (go_at_call 53; refine (l1In_c _ _ _ _).mono ?_; rintro e w1 ⟨rfl, rfl⟩; rw [HK.out]) | fail)
        go_ret
        exact ⟨by rw [E.out]; rfl, A5⟩
      · simp at ht0
        by_cases ek : x.k = 1
        · have b1 : (x.k == 1) = true := by simp [ek]
          obtain ⟨t, ht⟩ : ∃ t, roleB x.ro x.rn = t := ⟨_, rfl⟩
          have HT : Hid (roleB x.ro x.rn = t) := ht
          cases t
          · have E : Hid (c = 3) := HST.out 3 (by simp [ptOne, ek, ht]) (by decide)
            clear ht0 ek ht
            go_wp2_with (first | (go_at_call 53; refine (l1In_c _ _ _ _).mono ?_; rintro e w1 ⟨rfl, rfl⟩; rw [HK.out]) | (go_at_call 75; refine (l2Role_c _ _ _).mono ?_; rintro e w2 ⟨rfl, hb2⟩; rw [HT.out]) | fail)
            go_ret
            exact ⟨by rw [E.out]; rfl, hnx.trans ((below_new hb2).mono hnx.size)⟩
          · obtain ⟨u, hu⟩ : ∃ u, (x.l != 0) = u := ⟨_, rfl⟩
            obtain ⟨v, hv⟩ : ∃ v, (x.r != 0) = v := ⟨_, rfl⟩
            have hp : ptOne k x = if (u || v) = true then 1 else 0 := by
              rw [← hu, ← hv]
              simp only [ptOne, ek, ht]
              by_cases q1 : x.l = 0 <;> by_cases q2 : x.r = 0 <;> simp [q1, q2]
            have HPP : Hid (ptOne k x = if (u || v) = true then 1 else 0) := hp
            clear ht0 ek ht hp
            cases u <;> cases v
            · have HE : Hid (ptTo zs (k + 1) = 0) := HN.out.trans HPP.out
              go_wp2_with (first | (go_at_call 53; refine (l1In_c _ _ _ _).mono ?_; rintro e w1 ⟨rfl, rfl⟩; rw [HK.out]) | (go_at_call 75; refine (l2Role_c _ _ _).mono ?_; rintro e w2 ⟨rfl, hb2⟩; rw [HT.out]; have q3 : w2.cell? ⟨wr.heap.size, 3, none⟩ = some (.int .i64 x.l) := (hb2.cell (p := ⟨wr.heap.size, 3, none⟩) (by simp)).trans (by simp); have q4 : w2.cell? ⟨wr.heap.size, 4, none⟩ = some (.int .i64 x.r) := (hb2.cell (p := ⟨wr.heap.size, 4, none⟩) (by simp)).trans (by simp)) | fail)
              exact ⟨⟨k + 1, by omega, by go_num, HE.out, hnx.trans ((below_new hb2).mono hnx.size)⟩, by simp [intOf]; omega⟩
            all_goals
              have E : Hid (c = 1) := HST.out 1 HPP.out (by decide)
              go_wp2_with (first | (go_at_call 53; refine (l1In_c _ _ _ _).mono ?_; rintro e w1 ⟨rfl, rfl⟩; rw [HK.out]) | (go_at_call 75; refine (l2Role_c _ _ _).mono ?_; rintro e w2 ⟨rfl, hb2⟩; rw [HT.out]; have q3 : w2.cell? ⟨wr.heap.size, 3, none⟩ = some (.int .i64 x.l) := (hb2.cell (p := ⟨wr.heap.size, 3, none⟩) (by simp)).trans (by simp); have q4 : w2.cell? ⟨wr.heap.size, 4, none⟩ = some (.int .i64 x.r) := (hb2.cell (p := ⟨wr.heap.size, 4, none⟩) (by simp)).trans (by simp)) | fail)
              go_ret
              exact ⟨by rw [E.out]; rfl, hnx.trans ((below_new hb2).mono hnx.size)⟩
        · have b1 : (x.k == 1) = false := by simp [ek]
          obtain ⟨u, hu⟩ : ∃ u, (decide (0 ≤ x.l) && decide (x.l ≤ (k : Int) - 1)) = u := ⟨_, rfl⟩
          obtain ⟨v, hv⟩ : ∃ v, (decide (0 ≤ x.r) && decide (x.r ≤ (k : Int) - 1)) = v := ⟨_, rfl⟩
          obtain ⟨t, ht⟩ : ∃ t, eqRo (x.ro, x.rn) (0, 0) = t := ⟨_, rfl⟩
          have hp : ptOne k x = if t = false then 1 else if u = false then 3 else if v = false then 3 else 0 := by
            unfold ptOne
            rw [if_neg (by omega), if_neg ek]
            have h1 : t = true ↔ (x.ro = 0 ∧ x.rn = 0) := by rw [← ht, eqRo_iff]; simp
            have h2 : u = true ↔ (0 ≤ x.l ∧ x.l < (k : Int)) := by rw [← hu]; simp; omega
            have h3 : v = true ↔ (0 ≤ x.r ∧ x.r < (k : Int)) := by rw [← hv]; simp; omega
            simp only [← h1, ← h2, ← h3]
            cases t <;> cases u <;> cases v <;> simp
          have hn : ∀ w, (binOp .neq 66 (.agg #[.int .i64 x.ro, .int .i64 x.rn]) (.agg #[.int .i64 0, .int .i64 0])).run Tryz.prog w = .ok (.bool (!t)) w := fun w => by rw [← ht]; exact ro_neq (x.ro, x.rn) (0, 0) w
          have HPP : Hid (ptOne k x = if t = false then 1 else if u = false then 3 else if v = false then 3 else 0) := hp
          have HU : Hid ((decide (0 ≤ x.l) && decide (x.l ≤ (k : Int) - 1)) = u) := hu
          have HV : Hid ((decide (0 ≤ x.r) && decide (x.r ≤ (k : Int) - 1)) = v) := hv
          have A7 : Below w.heap.size w ((wr.alloc (.cells #[.int .i64 x.k, .int .i64 x.ro, .int .i64 x.rn, .int .i64 x.l, .int .i64 x.r] 104)).alloc (.cells #[.int .i64 0, .int .i64 0] 66)) := A5.alloc A5.size _
          clear ht0 ek ht hu hv hp
          cases t
          · have E : Hid (c = 1) := HST.out 1 HPP.out (by decide)
            go_wp2_with (first | (go_at_call 53; refine (l1In_c _ _ _ _).mono ?_; rintro e w1 ⟨rfl, rfl⟩; rw [HK.out]) | fail)
            go_ret
            exact ⟨by rw [E.out]; rfl, A7⟩
          · cases u
            · have E : Hid (c = 3) := HST.out 3 HPP.out (by decide)
              go_wp2_with (first | (go_at_call 53; refine (l1In_c _ _ _ _).mono ?_; rintro e w1 ⟨rfl, rfl⟩; first | rw [HK.out] | rw [HU.out] | rw [HV.out]) | fail)
              go_ret
              exact ⟨by rw [E.out]; rfl, A7⟩
            · cases v
              · have E : Hid (c = 3) := HST.out 3 HPP.out (by decide)
                go_wp2_with (first | (go_at_call 53; refine (l1In_c _ _ _ _).mono ?_; rintro e w1 ⟨rfl, rfl⟩; first | rw [HK.out] | rw [HU.out] | rw [HV.out]) | fail)
                go_ret
                exact ⟨by rw [E.out]; rfl, A7⟩
              · have HE : Hid (ptTo zs (k + 1) = 0) := HN.out.trans HPP.out
                go_wp2_with (first | (go_at_call 53; refine (l1In_c _ _ _ _).mono ?_; rintro e w1 ⟨rfl, rfl⟩; first | rw [HK.out] | rw [HU.out] | rw [HV.out]) | fail)
                exact ⟨⟨k + 1, by omega, by go_num, HE.out, A7⟩, by simp [intOf]; omega⟩
    · have hkn : k = n := by omega
      subst hkn
      go_wp2
      go_ret
      exact ⟨by rw [← HC.out, HP.out]; rfl, hnx⟩

set_option maxRecDepth 100000 in
theorem l4Fault_c (a : Option Addr) (n cap : Nat) (zs : List PartI) (w : World) (hm : n ≤ maxLen) (h : PartsIn w a n zs) :
    Calls Tryz.prog 43 #[.slice a n cap] w fun e w' => e = .returned (.int .i64 (ptCode zs)) ∧ Below w.heap.size w w' := by
  have hl := h.1
  unfold maxLen at hm
  have hm' : (n : Int) ≤ 9223372036854775807 := by omega
  unfold ptCode
  rw [hl]
  by_cases h1 : n < 1
  · have h1' : (n : Int) < 1 := by omega
    rw [if_pos h1]
    clear h hl h1
    go_enter Tryz.func43, Tryz.ntmps43
    go_wp2
    go_ret
    exact ⟨rfl, Below.refl _ _⟩
  · rw [if_neg h1]
    by_cases h8 : 8 < n
    · have h1' : ¬ ((n : Int) < 1) := by omega
      have h8' : (8 : Int) < (n : Int) := by omega
      rw [if_pos h8]
      clear h hl h1 h8
      go_enter Tryz.func43, Tryz.ntmps43
      go_wp2
      go_ret
      exact ⟨rfl, Below.refl _ _⟩
    · rw [if_neg h8]
      exact l4Fault_few a n cap zs _ w (by omega) (by omega) h rfl

end Go.Proofs.YtaeigimgobilaaaGreatDoor

namespace Go.Proofs.YtaeigimgobilaaaGreatDoor
open Go.RowKit
set_option linter.unusedVariables false
set_option linter.unusedSimpArgs false

/-- The code of the first forms. -/
def fmTo (pss : List (List PartI)) : Nat → Int
  | 0 => 0
  | k + 1 => if fmTo pss k ≠ 0 then fmTo pss k else match pss[k]? with
    | none => 0
    | some x => ptCode x

def fmCode (pss : List (List PartI)) : Int := if 4 < pss.length then 2 else fmTo pss pss.length

theorem fmTo_stay (zs : List (List PartI)) (k m : Nat) (c : Int) (hc : c ≠ 0) (h : fmTo zs k = c) (hm : k ≤ m) : fmTo zs m = c := by
  induction m with
  | zero => obtain rfl : k = 0 := by omega
            exact h
  | succ m ih =>
    by_cases e : k = m + 1
    · subst e; exact h
    · have := ih (by omega)
      simp only [fmTo, this]
      rw [if_pos hc]

theorem fmTo_next {zs : List (List PartI)} {k : Nat} {x : List PartI} (hk : zs[k]? = some x) (h0 : fmTo zs k = 0) : fmTo zs (k + 1) = ptCode x := by
  simp [fmTo, h0, hk]

theorem partsL_at {fs : List FormI} {k : Nat} {x : FormI} (h : fs[k]? = some x) : (partsL fs)[k]? = some x.ps := by
  unfold partsL
  rw [List.getElem?_map, h]
  rfl

theorem partsL_len (fs : List FormI) : (partsL fs).length = fs.length := by unfold partsL; simp

/-- What ConfigFault tells. -/
def cfCode (e f : Int) (zs : List RuleI) (pss : List (List PartI)) (cs : List Int) : Int := if inR e 1 9 = false then 3 else if inR f 1 2 = false then 3 else orJ (polCode zs) (orJ (fmCode pss) (clCode cs))

theorem cf_zero {e f : Int} {zs : List RuleI} {pss : List (List PartI)} {cs : List Int} (h : cfCode e f zs pss cs = 0) : inR e 1 9 = true ∧ inR f 1 2 = true ∧ polCode zs = 0 ∧ fmCode pss = 0 ∧ clCode cs = 0 := by
  unfold cfCode at h
  split at h
  · cases h
  · split at h
    · cases h
    · rename_i q1 q2
      unfold orJ at h
      split at h
      · split at h
        · exact ⟨by simpa using q1, by simpa using q2, by assumption, by assumption, h⟩
        · exact absurd h (by assumption)
      · exact absurd h (by assumption)

theorem fm_zero {pss : List (List PartI)} (h : fmCode pss = 0) : pss.length ≤ 4 ∧ ∀ (k : Nat) (x : List PartI), pss[k]? = some x → ptCode x = 0 := by
  unfold fmCode at h
  split at h
  · cases h
  · refine ⟨by omega, fun k x e => ?_⟩
    have hk : k < pss.length := by
      by_cases q : k < pss.length
      · exact q
      · rw [List.getElem?_eq_none (by omega)] at e; cases e
    have key : ∀ j, j ≤ pss.length → fmTo pss j = 0 := fun j hj => by
      by_cases q : fmTo pss j = 0
      · exact q
      · have := fmTo_stay pss j pss.length _ q rfl hj
        rw [this] at h
        exact absurd h q
    have h1 := key (k + 1) (by omega)
    rw [fmTo_next e (key k (by omega))] at h1
    exact h1

set_option maxHeartbeats 400000 in
theorem or364_c (g : Nat) (c d f : Int) (w : World) (h0 : w.cell? ⟨g, 0, none⟩ = some (.int .i64 c)) (h1 : w.cell? ⟨g, 1, none⟩ = some (.int .i64 d)) (h2 : w.cell? ⟨g, 2, none⟩ = some (.int .i64 f)) :
    Calls Tryz.prog 59 #[.slice (some ⟨g, 0, none⟩) 3 3] w fun e w' => e = .returned (.int .i64 (orJ c (orJ d f))) ∧ w = w' := by
  go_enter Tryz.func59, Tryz.ntmps59
  go_wp2
  go_loop [8] (fun i => ∃ k : Nat, k ≤ 3 ∧ i = .int .i64 (k : Int) ∧ (1 ≤ k → c = 0) ∧ (2 ≤ k → d = 0) ∧ (3 ≤ k → f = 0)) (fun i => 3 - (intOf i).toNat)
  case atStart => exact ⟨0, by omega, rfl, fun h => by omega, fun h => by omega, fun h => by omega⟩
  case round =>
    obtain ⟨k, hk, rfl, hc, hd, hf⟩ := hrel
    have hk' : k = 0 ∨ k = 1 ∨ k = 2 ∨ k = 3 := by omega
    rcases hk' with rfl | rfl | rfl | rfl
    · clear hc hd hf
      by_cases e : c = 0
      · have b : (c != 0) = false := by simp [e]
        have HE : Hid (c = 0) := e
        clear e
        go_wp2
        exact ⟨⟨1, by omega, by go_num, fun _ => HE.out, fun h => by omega, fun h => by omega⟩, by simp [intOf]⟩
      · have b : (c != 0) = true := by simp [e]
        go_wp2
        go_ret
        exact ⟨by simp [orJ, e], rfl⟩
    · have HC : Hid (c = 0) := hc (by omega)
      clear hc hd hf
      by_cases e : d = 0
      · have b : (d != 0) = false := by simp [e]
        have HE : Hid (d = 0) := e
        clear e
        go_wp2
        exact ⟨⟨2, by omega, by go_num, fun _ => HC.out, fun _ => HE.out, fun h => by omega⟩, by simp [intOf]⟩
      · have b : (d != 0) = true := by simp [e]
        go_wp2
        go_ret
        exact ⟨by simp [orJ, HC.out, e], rfl⟩
    · have HC : Hid (c = 0) := hc (by omega)
      have HD : Hid (d = 0) := hd (by omega)
      clear hc hd hf
      by_cases e : f = 0
      · have b : (f != 0) = false := by simp [e]
        have HE : Hid (f = 0) := e
        clear e
        go_wp2
        exact ⟨⟨3, by omega, by go_num, fun _ => HC.out, fun _ => HD.out, fun _ => HE.out⟩, by simp [intOf]⟩
      · have b : (f != 0) = true := by simp [e]
        go_wp2
        go_ret
        exact ⟨by simp [orJ, HC.out, HD.out], rfl⟩
    · have HC : Hid (c = 0) := hc (by omega)
      have HD : Hid (d = 0) := hd (by omega)
      have HF : Hid (f = 0) := hf (by omega)
      clear hc hd hf
      go_wp2
      go_ret
      exact ⟨by simp [orJ, HC.out, HD.out, HF.out], rfl⟩

/-- Three cells of each of two locks stand. -/
def SixC (w : World) (b : Nat) (x y : LkI) : Prop := (w.cell? ⟨b, 0, none⟩ = some (.int .i64 x.e) ∧ w.cell? ⟨b, 1, none⟩ = some (.int .i64 x.c) ∧ w.cell? ⟨b, 2, none⟩ = some (.int .i64 x.p)) ∧ (w.cell? ⟨b + 1, 0, none⟩ = some (.int .i64 y.e) ∧ w.cell? ⟨b + 1, 1, none⟩ = some (.int .i64 y.c) ∧ w.cell? ⟨b + 1, 2, none⟩ = some (.int .i64 y.p))

theorem kpC_new {W w : World} (h : (∀ b o, b < W.heap.size → w.cell? ⟨b, o, none⟩ = W.cell? ⟨b, o, none⟩) ∧ Below W.heap.size W w) (o : Obj) : (∀ b i, b < W.heap.size → (w.alloc o).cell? ⟨b, i, none⟩ = W.cell? ⟨b, i, none⟩) ∧ Below W.heap.size W (w.alloc o) :=
  kp_step h ((Below.refl _ _).alloc (Nat.le_refl _) _)

set_option maxHeartbeats 1000000 in
theorem formsFault_c (a : Option Addr) (n cap : Nat) (fs : List FormI) (w : World) (hn : n ≤ 1048576) (hle : FormsLe 1048576 fs) (h : FormsIn w a n fs) :
    Calls Tryz.prog 61 #[.slice a n cap] w fun e w' => e = .returned (.int .i64 (fmCode (partsL fs))) ∧ Below w.heap.size w w' := by
  have H : Hid (FormsIn w a n fs) := h
  have HZ : Hid ((partsL fs).length = n) := by show (partsL fs).length = n; rw [partsL_len]; exact h.1
  have HLE : Hid (FormsLe 1048576 fs) := hle
  clear h hle
  by_cases h4 : 4 < n
  · have HC : Hid (fmCode (partsL fs) = 2) := by show fmCode (partsL fs) = 2; unfold fmCode; rw [if_pos (by rw [HZ.out]; exact h4)]
    have h4' : (4 : Int) < (n : Int) := by omega
    go_enter Tryz.func61, Tryz.ntmps61
    go_wp2
    go_ret
    exact ⟨by rw [HC.out]; rfl, Below.refl _ _⟩
  · have HC : Hid (fmCode (partsL fs) = fmTo (partsL fs) n) := by show fmCode (partsL fs) = fmTo (partsL fs) n; unfold fmCode; rw [if_neg (by rw [HZ.out]; exact h4), HZ.out]
    have h4' : (n : Int) ≤ 4 := by omega
    rw [HC.out]
    go_enter Tryz.func61, Tryz.ntmps61
    go_wp2
    go_loopw [11] (fun i wr => ∃ k : Nat, k ≤ n ∧ i = .int .i64 (k : Int) ∧ fmTo (partsL fs) k = 0 ∧ Below w.heap.size w wr) (fun i _ => n - (intOf i).toNat)
    case atStart => exact ⟨0, Nat.zero_le _, rfl, rfl, Below.refl _ _⟩
    case round =>
      obtain ⟨k, hk, rfl, hz, hnx⟩ := hrel
      have HK : Hid (fmTo (partsL fs) k = 0) := hz
      clear hz
      by_cases hlt : k < n
      · obtain ⟨b, off, x, rfl, hs, hr⟩ := H.out.at hlt
        have HS : Hid ((partsL fs)[k]? = some x.ps) := partsL_at hs
        have hx : x.n ≤ 1048576 := HLE.out k x hs
        have hb : b < w.heap.size := hr.lt
        have hc := (hr.below hnx).1
        have HP : Hid (PartsIn wr x.a x.n x.ps) := (hr.below hnx).2
        clear hs hr
        have hlt' : (k : Int) < (n : Int) := by omega
        have hA : Below wr.heap.size wr (wr.alloc (.cells #[.slice x.a x.n x.cap] 42)) := (Below.refl _ _).alloc (Nat.le_refl _) _
        obtain ⟨q, hq⟩ : ∃ q, ptCode x.ps = q := ⟨_, rfl⟩
        go_wp2_with fail
        refine (implPartsFault_c x.a x.n x.cap x.ps _ (by unfold maxLen; omega) (HP.out.below hA)).mono ?_
        rintro e w1 ⟨rfl, hb1⟩
        rw [hq]
        have hb01 : Below w.heap.size w w1 := hnx.trans ((hA.trans (hb1.mono hA.size)).mono hnx.size)
        have HQ : Hid (fmTo (partsL fs) (k + 1) = q) := by show fmTo (partsL fs) (k + 1) = q; rw [fmTo_next HS.out HK.out]; exact hq
        clear hc hq hA hb1
        by_cases q0 : q = 0
        · have qb : (q != 0) = false := by simp [q0]
          have HQ0 : Hid (q = 0) := q0
          clear q0
          go_wp2
          exact ⟨⟨k + 1, by omega, by go_num, by rw [HQ.out]; exact HQ0.out, hb01⟩, by simp [intOf]; omega⟩
        · have qb : (q != 0) = true := by simp [q0]
          have HE : Hid (fmTo (partsL fs) n = q) := fmTo_stay _ _ _ _ q0 HQ.out (by omega)
          go_wp2
          go_ret
          exact ⟨by rw [HE.out]; rfl, hb01⟩
      · have hkn : k = n := by omega
        subst hkn
        go_wp2
        go_ret
        exact ⟨by rw [HK.out]; rfl, hnx⟩

set_option maxHeartbeats 400000 in
theorem classFault_c (a : Option Addr) (n cap : Nat) (zs : List Int) (w : World) (h : IntIn w a n zs) :
    Calls Tryz.prog 62 #[.slice a n cap] w fun e w' => e = .returned (.int .i64 (clCode zs)) ∧ w = w' := by
  have HI : Hid (IntIn w a n zs) := h
  clear h
  go_enter Tryz.func62, Tryz.ntmps62
  go_wp2_with (go_at_call 90; refine (implClassesFault_c _ _ _ zs _ HI.out).mono ?_; rintro e w' ⟨rfl, rfl⟩)
  go_ret
  exact ⟨rfl, rfl⟩

set_option maxHeartbeats 400000 in
theorem epochOf_c (c : ConfI) (w : World) : Calls Tryz.prog 24 #[.agg #[.int .i64 c.e, .int .i64 c.f, .slice c.ra c.rn c.rc, .slice c.fa c.fn c.fc, .slice c.ca c.cn c.cc]] w fun e w' => e = .returned (.agg #[.slice c.ca c.cn c.cc, .int .i64 c.e, .int .i64 c.f, .slice c.ra c.rn c.rc, .slice c.fa c.fn c.fc]) ∧ Below w.heap.size w w' := by
  go_enter Tryz.func24, Tryz.ntmps24
  go_wp2
  go_returns
  exact ⟨rfl, by go_grown⟩

set_option maxRecDepth 100000 in
set_option maxHeartbeats 2000000 in
theorem epochFault_c (c : ConfI) (w : World) (hle : ConfLe 1048576 c) (hrc : c.rn ≤ c.rc) (hrm : c.rc ≤ maxLen) (h : ConfIn w c) :
    Calls Tryz.prog 30 #[.agg #[.slice c.ca c.cn c.cc, .int .i64 c.e, .int .i64 c.f, .slice c.ra c.rn c.rc, .slice c.fa c.fn c.fc]] w fun e w' => e = .returned (.int .i64 (cfCode c.e c.f c.zs (partsL c.fs) c.cs)) ∧ Below w.heap.size w w' := by
  obtain ⟨t1, h1⟩ : ∃ t, inR c.e 1 9 = t := ⟨_, rfl⟩
  obtain ⟨t2, h2⟩ : ∃ t, inR c.f 1 2 = t := ⟨_, rfl⟩
  have H1 : Hid (inR c.e 1 9 = t1) := h1
  have H2 : Hid (inR c.f 1 2 = t2) := h2
  cases t1
  · have HV : Hid (cfCode c.e c.f c.zs (partsL c.fs) c.cs = 3) := by show cfCode _ _ _ _ _ = 3; unfold cfCode; rw [if_pos h1]
    clear h1 h2 h
    go_enter Tryz.func30, Tryz.ntmps30
    go_wp2_with (first | (go_at_call 57; refine (iEpoch_c _ _).mono ?_; rintro e w' ⟨rfl, rfl⟩; rw [H1.out]))
    go_ret
    exact ⟨by rw [HV.out]; rfl, by go_grown⟩
  · cases t2
    · have HV : Hid (cfCode c.e c.f c.zs (partsL c.fs) c.cs = 3) := by show cfCode _ _ _ _ _ = 3; unfold cfCode; rw [if_neg (by simp [h1]), if_pos h2]
      clear h1 h2 h
      go_enter Tryz.func30, Tryz.ntmps30
      go_wp2_with (first | (go_at_call 57; refine (iEpoch_c _ _).mono ?_; rintro e w' ⟨rfl, rfl⟩; rw [H1.out]) | (go_at_call 58; refine (iBad_c _ _).mono ?_; rintro e w' ⟨rfl, rfl⟩; rw [H2.out]))
      go_ret
      exact ⟨by rw [HV.out]; rfl, by go_grown⟩
    · have HV : Hid (cfCode c.e c.f c.zs (partsL c.fs) c.cs = orJ (polCode c.zs) (orJ (fmCode (partsL c.fs)) (clCode c.cs))) := by show cfCode _ _ _ _ _ = _; unfold cfCode; rw [if_neg (by simp [h1]), if_neg (by simp [h2])]
      rw [HV.out]
      obtain ⟨W, hW⟩ : ∃ W, W = w.alloc (.cells #[.slice c.ca c.cn c.cc, .int .i64 c.e, .int .i64 c.f, .slice c.ra c.rn c.rc, .slice c.fa c.fn c.fc] 58) := ⟨_, rfl⟩
      have hs : W.heap.size = w.heap.size + 1 := by rw [hW]; simp
      have B0 : Below w.heap.size w W := by rw [hW]; exact (Below.refl _ _).alloc (Nat.le_refl _) _
      have c0 : W.cell? ⟨w.heap.size, 0, none⟩ = some (.slice c.ca c.cn c.cc) := by rw [hW]; simp
      have c3 : W.cell? ⟨w.heap.size, 3, none⟩ = some (.slice c.ra c.rn c.rc) := by rw [hW]; simp
      have c4 : W.cell? ⟨w.heap.size, 4, none⟩ = some (.slice c.fa c.fn c.fc) := by rw [hW]; simp
      have HP : Hid (∀ w2 : World, (∀ b o, b < W.heap.size → w2.cell? ⟨b, o, none⟩ = W.cell? ⟨b, o, none⟩) ∧ Below W.heap.size W w2 → Calls Tryz.prog 60 #[.slice c.ra c.rn c.rc] w2 fun e w' => e = .returned (.int .i64 (polCode c.zs)) ∧ Below w2.heap.size w2 w') := fun w2 q => implPolicyFault_c c.ra c.rn c.rc c.zs w2 hle.rules hrc hrm (h.rules.below (B0.trans (q.2.mono (by omega))))
      have HF : Hid (∀ w2 : World, (∀ b o, b < W.heap.size → w2.cell? ⟨b, o, none⟩ = W.cell? ⟨b, o, none⟩) ∧ Below W.heap.size W w2 → Calls Tryz.prog 61 #[.slice c.fa c.fn c.fc] w2 fun e w' => e = .returned (.int .i64 (fmCode (partsL c.fs))) ∧ Below w2.heap.size w2 w') := fun w2 q => formsFault_c c.fa c.fn c.fc c.fs w2 hle.forms hle.parts (h.forms.below (B0.trans (q.2.mono (by omega))))
      have HK : Hid (∀ w2 : World, (∀ b o, b < W.heap.size → w2.cell? ⟨b, o, none⟩ = W.cell? ⟨b, o, none⟩) ∧ Below W.heap.size W w2 → Calls Tryz.prog 62 #[.slice c.ca c.cn c.cc] w2 fun e w' => e = .returned (.int .i64 (clCode c.cs)) ∧ Below w2.heap.size w2 w') := fun w2 q => (classFault_c c.ca c.cn c.cc c.cs w2 (h.classes.below (B0.trans (q.2.mono (by omega))))).mono fun e w' hh => ⟨hh.1, hh.2 ▸ Below.refl _ _⟩
      clear h hle h1 h2
      generalize polCode c.zs = p at HP ⊢
      generalize fmCode (partsL c.fs) = q at HF ⊢
      generalize clCode c.cs = r at HK ⊢
      go_enter Tryz.func30, Tryz.ntmps30
      go_wp2_with (first | (go_at_call 57; refine (iEpoch_c _ _).mono ?_; rintro e w' ⟨rfl, rfl⟩; rw [H1.out]) | (go_at_call 58; refine (iBad_c _ _).mono ?_; rintro e w' ⟨rfl, rfl⟩; rw [H2.out]))
      rw [← hW]
      clear hW
      go_region_held3 (fun w' => (∀ b o, b < W.heap.size → w'.cell? ⟨b, o, none⟩ = W.cell? ⟨b, o, none⟩) ∧ Below W.heap.size W w') (first | exact hS | exact kp_drew _ | exact kpC_new (by assumption) _)
        (first | (go_at_call 60; refine (HP.out _ (by assumption)).mono ?_; rintro e w' ⟨rfl, hb2⟩; have hS := kp_step (by assumption) hb2) | (go_at_call 61; refine (HF.out _ (by assumption)).mono ?_; rintro e w' ⟨rfl, hb2⟩; have hS := kp_step (by assumption) hb2) | (go_at_call 62; refine (HK.out _ (by assumption)).mono ?_; rintro e w' ⟨rfl, hb2⟩; have hS := kp_step (by assumption) hb2) | (go_at_call 59; refine (or364_c _ p q r _ ?_ ?_ ?_).mono ?_; (· simp [go_sem]); (· simp [go_sem]); (· simp [go_sem]); rintro e w' ⟨rfl, rfl⟩))
      all_goals
        have hS3 := kpC_new hS (.cells #[.int .i64 p, .int .i64 q, .int .i64 r] 2)
        go_wp2
        go_ret
        exact ⟨rfl, B0.trans (hS3.2.mono (by omega))⟩

set_option maxRecDepth 20000 in
set_option maxHeartbeats 1000000 in
theorem implConfigFault_c (c : ConfI) (w : World) (hle : ConfLe 1048576 c) (hrc : c.rn ≤ c.rc) (hrm : c.rc ≤ maxLen) (h : ConfIn w c) :
    Calls Tryz.prog 10 #[.agg #[.int .i64 c.e, .int .i64 c.f, .slice c.ra c.rn c.rc, .slice c.fa c.fn c.fc, .slice c.ca c.cn c.cc]] w fun e w' => e = .returned (.int .i64 (cfCode c.e c.f c.zs (partsL c.fs) c.cs)) ∧ Below w.heap.size w w' := by
  have H : Hid (ConfIn w c) := h
  have HLE : Hid (ConfLe 1048576 c) := hle
  clear h hle
  have hA : Below w.heap.size w (w.alloc (.cells #[.int .i64 c.e, .int .i64 c.f, .slice c.ra c.rn c.rc, .slice c.fa c.fn c.fc, .slice c.ca c.cn c.cc] 28)) := (Below.refl _ _).alloc (Nat.le_refl _) _
  obtain ⟨v, hv⟩ : ∃ v, cfCode c.e c.f c.zs (partsL c.fs) c.cs = v := ⟨_, rfl⟩
  rw [hv]
  have HF : Hid (∀ w2 : World, Below w.heap.size w w2 → Calls Tryz.prog 30 #[.agg #[.slice c.ca c.cn c.cc, .int .i64 c.e, .int .i64 c.f, .slice c.ra c.rn c.rc, .slice c.fa c.fn c.fc]] w2 fun e w' => e = .returned (.int .i64 v) ∧ Below w2.heap.size w2 w') := fun w2 q => by rw [← hv]; exact epochFault_c c w2 HLE.out hrc hrm (H.out.below q)
  clear hv
  go_enter Tryz.func10, Tryz.ntmps10
  go_wp2_with fail
  refine (epochOf_c c _).mono ?_
  rintro e w1 ⟨rfl, hb1⟩
  have hB1 : Below w.heap.size w w1 := hA.trans (hb1.mono hA.size)
  clear hA hb1
  go_wp2_with fail
  refine (HF.out _ hB1).mono ?_
  rintro e w2 ⟨rfl, hb2⟩
  have hB2 : Below w.heap.size w w2 := hB1.trans (hb2.mono hB1.size)
  clear hb2 hB1
  go_wp2
  go_ret
  exact ⟨rfl, hB2⟩

set_option maxRecDepth 20000 in
set_option maxHeartbeats 2000000 in
theorem l6Fault_c (g : Nat) (c : ConfI) (w : World) (hle : ConfLe 1048576 c) (hk : ConfAt w g c) (h : ConfIn w c) :
    Calls Tryz.prog 19 #[.pointer (some ⟨g, 0, none⟩)] w fun e w' => e = .returned (.int .i64 (cfCode c.e c.f c.zs (partsL c.fs) c.cs)) ∧ Below w.heap.size w w' := by
  obtain ⟨t1, h1⟩ : ∃ t, inR c.e 1 9 = t := ⟨_, rfl⟩
  obtain ⟨t2, h2⟩ : ∃ t, inR c.f 1 2 = t := ⟨_, rfl⟩
  have H1 : Hid (inR c.e 1 9 = t1) := h1
  have H2 : Hid (inR c.f 1 2 = t2) := h2
  have hg : g < w.heap.size := hk.lt
  have HK : Hid (ConfAt w g c) := hk
  obtain ⟨k0, k1, k2, k3, k4⟩ := hk
  cases t1
  · have HV : Hid (cfCode c.e c.f c.zs (partsL c.fs) c.cs = 3) := by show cfCode _ _ _ _ _ = 3; unfold cfCode; rw [if_pos h1]
    clear h1 h2 h
    go_enter Tryz.func19, Tryz.ntmps19
    go_wp2_with (first | (go_at_call 40; refine (sEpoch_c _ _).mono ?_; rintro e w' ⟨rfl, rfl⟩; rw [H1.out]))
    go_ret
    exact ⟨by rw [HV.out]; rfl, by go_grown⟩
  · cases t2
    · have HV : Hid (cfCode c.e c.f c.zs (partsL c.fs) c.cs = 3) := by show cfCode _ _ _ _ _ = 3; unfold cfCode; rw [if_neg (by simp [h1]), if_pos h2]
      clear h1 h2 h
      go_enter Tryz.func19, Tryz.ntmps19
      go_wp2_with (first | (go_at_call 40; refine (sEpoch_c _ _).mono ?_; rintro e w' ⟨rfl, rfl⟩; rw [H1.out]) | (go_at_call 41; refine (l6F_c _ _).mono ?_; rintro e w' ⟨rfl, rfl⟩; rw [H2.out]))
      go_ret
      exact ⟨by rw [HV.out]; rfl, by go_grown⟩
    · have HV : Hid (cfCode c.e c.f c.zs (partsL c.fs) c.cs = orJ (polCode c.zs) (orJ (fmCode (partsL c.fs)) (clCode c.cs))) := by show cfCode _ _ _ _ _ = _; unfold cfCode; rw [if_neg (by simp [h1]), if_neg (by simp [h2])]
      rw [HV.out]
      have HLE : Hid (ConfLe 1048576 c) := hle
      have H : Hid (ConfIn w c) := h
      clear h1 h2 h hle
      obtain ⟨p, hp⟩ : ∃ p, polCode c.zs = p := ⟨_, rfl⟩
      obtain ⟨r, hr⟩ : ∃ r, clCode c.cs = r := ⟨_, rfl⟩
      have HP : Hid (Calls Tryz.prog 42 #[.slice c.ra c.rn c.rc] w fun e w' => e = .returned (.int .i64 p) ∧ Below w.heap.size w w') := by rw [← hp]; exact l2Fault_c c.ra c.rn c.rc c.zs w HLE.out.rules H.out.rules
      have HR : Hid (∀ w2 : World, Below w.heap.size w w2 → Calls Tryz.prog 44 #[.slice c.ca c.cn c.cc] w2 fun e w' => e = .returned (.int .i64 r) ∧ w2 = w') := fun w2 q => by rw [← hr]; exact l5Classes_c c.ca c.cn c.cc c.cs w2 (H.out.classes.below q)
      rw [hp, hr]
      clear hp hr
      have HZ : Hid ((partsL c.fs).length = c.fn) := by show (partsL c.fs).length = c.fn; rw [partsL_len]; exact H.out.forms.1
      have hfn : (c.fn : Int) ≤ 1048576 := by have := HLE.out.forms; omega
      go_enter Tryz.func19, Tryz.ntmps19
      go_wp2_with (first | (go_at_call 40; refine (sEpoch_c _ _).mono ?_; rintro e w' ⟨rfl, rfl⟩; rw [H1.out]) | (go_at_call 41; refine (l6F_c _ _).mono ?_; rintro e w' ⟨rfl, rfl⟩; rw [H2.out]) | fail)
      refine HP.out.mono ?_
      rintro e w1 ⟨rfl, hb1⟩
      obtain ⟨d0, d1, d2, d3, d4⟩ := HK.out.below hb1
      have hg1 : g < w1.heap.size := by have := hb1.size; omega
      clear k0 k1 k2 k3 k4 d0 d1 d2
      by_cases p0 : p = 0
      · have pb : (p != 0) = false := by simp [p0]
        have HPO : Hid (∀ x, orJ p x = x) := fun x => by simp [orJ, p0]
        clear p0
        by_cases h4 : 4 < c.fn
        · have HC : Hid (fmCode (partsL c.fs) = 2) := by show fmCode (partsL c.fs) = 2; unfold fmCode; rw [if_pos (by rw [HZ.out]; exact h4)]
          have h4' : (4 : Int) < (c.fn : Int) := by omega
          go_wp2
          go_ret
          exact ⟨by rw [HPO.out, HC.out]; rfl, hb1⟩
        · have HC : Hid (fmCode (partsL c.fs) = fmTo (partsL c.fs) c.fn) := by show fmCode (partsL c.fs) = fmTo (partsL c.fs) c.fn; unfold fmCode; rw [if_neg (by rw [HZ.out]; exact h4), HZ.out]
          have h4' : (c.fn : Int) ≤ 4 := by omega
          go_wp2
          go_loopw [4] (fun i wr => ∃ k : Nat, k ≤ c.fn ∧ i = .int .i64 (k : Int) ∧ fmTo (partsL c.fs) k = 0 ∧ Below w.heap.size w wr) (fun i _ => c.fn - (intOf i).toNat)
          case atStart => exact ⟨0, Nat.zero_le _, rfl, rfl, hb1⟩
          case round =>
            obtain ⟨k, hk, rfl, hz, hnx⟩ := hrel
            have HK0 : Hid (fmTo (partsL c.fs) k = 0) := hz
            obtain ⟨m0, m1, m2, m3, m4⟩ := HK.out.below hnx
            have hgr : g < wr.heap.size := by have := hnx.size; omega
            clear hz d3 d4 m0 m1 m2
            by_cases hlt : k < c.fn
            · obtain ⟨b, off, x, hfa, hs, hr⟩ := H.out.forms.at hlt
              have HS : Hid ((partsL c.fs)[k]? = some x.ps) := partsL_at hs
              have hx : x.n ≤ 1048576 := HLE.out.parts k x hs
              have hb : b < w.heap.size := hr.lt
              have hc := (hr.below hnx).1
              have HPI : Hid (PartsIn wr x.a x.n x.ps) := (hr.below hnx).2
              rw [hfa] at m3
              have hbr : b < wr.heap.size := by have := hnx.size; omega
              clear hs hr hfa
              have hlt' : (k : Int) < (c.fn : Int) := by omega
              obtain ⟨q, hq⟩ : ∃ q, ptCode x.ps = q := ⟨_, rfl⟩
              go_wp2_with fail
              refine (l4Fault_c x.a x.n x.cap x.ps _ (by unfold maxLen; omega) HPI.out).mono ?_
              rintro e w2 ⟨rfl, hb2⟩
              rw [hq]
              have hb02 : Below w.heap.size w w2 := hnx.trans (hb2.mono hnx.size)
              have HQ : Hid (fmTo (partsL c.fs) (k + 1) = q) := by show fmTo (partsL c.fs) (k + 1) = q; rw [fmTo_next HS.out HK0.out]; exact hq
              clear hc hq hb2 m3 m4
              by_cases q0 : q = 0
              · have qb : (q != 0) = false := by simp [q0]
                have HQ0 : Hid (q = 0) := q0
                clear q0
                go_wp2
                exact ⟨⟨k + 1, by omega, by go_num, by rw [HQ.out]; exact HQ0.out, hb02⟩, by simp [intOf]; omega⟩
              · have qb : (q != 0) = true := by simp [q0]
                have HE : Hid (orJ (fmCode (partsL c.fs)) r = q) := by
                  show orJ _ _ = _
                  rw [HC.out, fmTo_stay _ _ c.fn _ q0 HQ.out (by omega)]
                  simp [orJ, q0]
                go_wp2
                go_ret
                exact ⟨by rw [HPO.out, HE.out]; rfl, hb02⟩
            · have hkn : k = c.fn := by omega
              have HE : Hid (orJ (fmCode (partsL c.fs)) r = r) := by
                show orJ _ _ = _
                rw [HC.out, ← hkn, HK0.out]
                simp [orJ]
              have hlt' : ¬ ((k : Int) < (c.fn : Int)) := by omega
              clear hkn
              go_wp2_with fail
              refine (HR.out _ hnx).mono ?_
              rintro e w2 ⟨rfl, rfl⟩
              go_wp2
              go_ret
              exact ⟨by rw [HPO.out, HE.out]; rfl, hnx⟩
      · have pb : (p != 0) = true := by simp [p0]
        have HPO : Hid (∀ x, orJ p x = p) := fun x => by simp [orJ, p0]
        clear p0
        go_wp2
        go_ret
        exact ⟨by rw [HPO.out]; rfl, hb1⟩

set_option maxRecDepth 20000 in
set_option maxHeartbeats 1000000 in
theorem specConfigFault_c (c : ConfI) (w : World) (hle : ConfLe 1048576 c) (h : ConfIn w c) :
    Calls Tryz.prog 11 #[.agg #[.int .i64 c.e, .int .i64 c.f, .slice c.ra c.rn c.rc, .slice c.fa c.fn c.fc, .slice c.ca c.cn c.cc]] w fun e w' => e = .returned (.int .i64 (cfCode c.e c.f c.zs (partsL c.fs) c.cs)) ∧ Below w.heap.size w w' := by
  have hA : Below w.heap.size w (w.alloc (.cells #[.int .i64 c.e, .int .i64 c.f, .slice c.ra c.rn c.rc, .slice c.fa c.fn c.fc, .slice c.ca c.cn c.cc] 28)) := (Below.refl _ _).alloc (Nat.le_refl _) _
  have HC : Hid (Calls Tryz.prog 19 #[.pointer (some ⟨w.heap.size, 0, none⟩)] (w.alloc (.cells #[.int .i64 c.e, .int .i64 c.f, .slice c.ra c.rn c.rc, .slice c.fa c.fn c.fc, .slice c.ca c.cn c.cc] 28)) fun e w' => e = .returned (.int .i64 (cfCode c.e c.f c.zs (partsL c.fs) c.cs)) ∧ Below (w.alloc (.cells #[.int .i64 c.e, .int .i64 c.f, .slice c.ra c.rn c.rc, .slice c.fa c.fn c.fc, .slice c.ca c.cn c.cc] 28)).heap.size (w.alloc (.cells #[.int .i64 c.e, .int .i64 c.f, .slice c.ra c.rn c.rc, .slice c.fa c.fn c.fc, .slice c.ca c.cn c.cc] 28)) w') := l6Fault_c w.heap.size c _ hle (ConfAt.new w c _) (h.below hA)
  clear h hle
  generalize cfCode c.e c.f c.zs (partsL c.fs) c.cs = v at HC ⊢
  go_enter Tryz.func11, Tryz.ntmps11
  go_wp2_with fail
  refine HC.out.mono ?_
  rintro e w1 ⟨rfl, hb1⟩
  have hB1 : Below w.heap.size w w1 := hA.trans (hb1.mono hA.size)
  clear hA hb1
  go_wp2
  go_ret
  exact ⟨rfl, hB1⟩

end Go.Proofs.YtaeigimgobilaaaGreatDoor

namespace Go.Proofs.YtaeigimgobilaaaGreatDoor
open Go.RowKit
set_option linter.unusedVariables false
set_option linter.unusedSimpArgs false

/-- Which of the 256 sets are told. -/
abbrev TS := Nat → Bool
def noT : TS := fun _ => false
def putT (T : TS) (x : Nat) : TS := fun y => if y = x then true else T y
def oneT (s : Int) : TS := fun x => (List.range 8).any fun p => (x == 2 ^ p) && hasI s ((p : Int) + 1)
def okAB (ap : Bool) (a b : Nat) : Bool := !(ap && (a &&& b != 0))
def bothT (ap : Bool) (L R : TS) : TS := fun x => (List.range 256).any fun a => L a && (List.range 256).any fun b => R b && okAB ap a b && (a ||| b == x)

theorem bothT_iff {ap : Bool} {L R : TS} {x : Nat} : bothT ap L R x = true ↔ ∃ a b, a < 256 ∧ b < 256 ∧ L a = true ∧ R b = true ∧ okAB ap a b = true ∧ a ||| b = x := by
  unfold bothT
  rw [List.any_eq_true]
  constructor
  · rintro ⟨a, ha, h⟩
    rw [Bool.and_eq_true, List.any_eq_true] at h
    obtain ⟨hL, b, hb, h⟩ := h
    rw [Bool.and_eq_true, Bool.and_eq_true] at h
    exact ⟨a, b, List.mem_range.1 ha, List.mem_range.1 hb, hL, h.1.1, h.1.2, by simpa using h.2⟩
  · rintro ⟨a, b, ha, hb, hL, hR, ho, rfl⟩
    refine ⟨a, List.mem_range.2 ha, ?_⟩
    rw [Bool.and_eq_true, List.any_eq_true]
    exact ⟨hL, b, List.mem_range.2 hb, by simp [hR, ho]⟩

/-- What two loops have put so far. -/
def Both (ap : Bool) (L R : TS) (i j : Nat) (T : TS) : Prop := ∀ x, x < 256 → (T x = true ↔ ∃ a b, (a < i ∨ a = i ∧ b < j) ∧ a < 256 ∧ b < 256 ∧ L a = true ∧ R b = true ∧ okAB ap a b = true ∧ a ||| b = x)

theorem both_start (ap : Bool) (L R : TS) : Both ap L R 0 0 noT := by
  intro x hx
  constructor
  · intro h; cases h
  · rintro ⟨a, b, h, _⟩; omega

theorem both_skip {ap : Bool} {L R : TS} {i j : Nat} {T : TS} (h : Both ap L R i j T) (hl : L i = false) : Both ap L R (i + 1) 0 T := by
  intro x hx
  rw [h x hx]
  constructor
  · rintro ⟨a, b, h0, h1⟩
    exact ⟨a, b, by omega, h1⟩
  · rintro ⟨a, b, h0, h1, h2, h3, h4⟩
    have : a ≠ i := fun e => by rw [e, hl] at h3; cases h3
    exact ⟨a, b, by omega, h1, h2, h3, h4⟩

theorem both_next {ap : Bool} {L R : TS} {i : Nat} {T : TS} (h : Both ap L R i 256 T) : Both ap L R (i + 1) 0 T := by
  intro x hx
  rw [h x hx]
  constructor
  · rintro ⟨a, b, h0, h1⟩
    exact ⟨a, b, by omega, h1⟩
  · rintro ⟨a, b, h0, h1, h2, h3⟩
    exact ⟨a, b, by omega, h1, h2, h3⟩

theorem both_no {ap : Bool} {L R : TS} {i j : Nat} {T : TS} (h : Both ap L R i j T) (hn : (R j && okAB ap i j) = false) : Both ap L R i (j + 1) T := by
  intro x hx
  rw [h x hx]
  constructor
  · rintro ⟨a, b, h0, h1⟩
    exact ⟨a, b, by omega, h1⟩
  · rintro ⟨a, b, h0, h1, h2, h3, h4, h5, h6⟩
    have : ¬ (a = i ∧ b = j) := by
      rintro ⟨rfl, rfl⟩
      rw [h4, h5] at hn; cases hn
    exact ⟨a, b, by omega, h1, h2, h3, h4, h5, h6⟩

theorem both_put {ap : Bool} {L R : TS} {i j : Nat} {T : TS} (h : Both ap L R i j T) (hi : i < 256) (hj : j < 256) (hL : L i = true) (hn : (R j && okAB ap i j) = true) : Both ap L R i (j + 1) (putT T (i ||| j)) := by
  rw [Bool.and_eq_true] at hn
  intro x hx
  unfold putT
  by_cases e : x = i ||| j
  · rw [if_pos e]
    exact ⟨fun _ => ⟨i, j, by omega, hi, hj, hL, hn.1, hn.2, e.symm⟩, fun _ => rfl⟩
  · rw [if_neg e, h x hx]
    constructor
    · rintro ⟨a, b, h0, h1⟩
      exact ⟨a, b, by omega, h1⟩
    · rintro ⟨a, b, h0, h1, h2, h3, h4, h5, h6⟩
      have : ¬ (a = i ∧ b = j) := by
        rintro ⟨rfl, rfl⟩
        exact e h6.symm
      exact ⟨a, b, by omega, h1, h2, h3, h4, h5, h6⟩

theorem both_end {ap : Bool} {L R : TS} {j : Nat} {T : TS} (h : Both ap L R 256 j T) : ∀ x, x < 256 → T x = bothT ap L R x := by
  intro x hx
  rw [Bool.eq_iff_iff, h x hx, bothT_iff]
  constructor
  · rintro ⟨a, b, h0, h1⟩
    exact ⟨a, b, h1⟩
  · rintro ⟨a, b, h1, h2, h3⟩
    exact ⟨a, b, .inl h1, h1, h2, h3⟩

/-- The first principals of a set, each alone. -/
def oneTo (s : Int) (k : Nat) : TS := fun x => (List.range k).any fun p => (x == 2 ^ p) && hasI s ((p : Int) + 1)
theorem oneTo_next (s : Int) (k : Nat) : oneTo s (k + 1) = if hasI s ((k : Int) + 1) = true then putT (oneTo s k) (2 ^ k) else oneTo s k := by
  funext x
  have e0 : oneTo s (k + 1) x = (oneTo s k x || ((x == 2 ^ k) && hasI s ((k : Int) + 1))) := by
    unfold oneTo
    rw [List.range_succ, List.any_append]
    simp only [List.any_cons, List.any_nil, Bool.or_false]
  rw [e0]
  cases h : hasI s ((k : Int) + 1)
  · rw [Bool.and_false, Bool.or_false, if_neg (by simp)]
  · rw [Bool.and_true, if_pos rfl]
    unfold putT
    by_cases e : x = 2 ^ k
    · rw [if_pos e, e]; simp
    · rw [if_neg e, show (x == 2 ^ k) = false by simpa using e, Bool.or_false]

/-- The 256 cells. -/
def arrT (T : TS) : Array Value := ((List.range 256).map fun i => Value.bool (T i)).toArray

theorem arrT_size (T : TS) : (arrT T).size = 256 := by simp [arrT]
theorem arrT_at (T : TS) {i : Nat} (h : i < 256) : (arrT T)[i]? = some (.bool (T i)) := by simp [arrT, h]
theorem arrT_ext {T U : TS} (h : ∀ x, x < 256 → T x = U x) : arrT T = arrT U := by
  unfold arrT
  congr 1
  apply List.map_congr_left
  intro x hx
  rw [h x (List.mem_range.1 hx)]
theorem arrT_put (T : TS) {i : Nat} (h : i < 256) : (arrT T).setIfInBounds i (.bool true) = arrT (putT T i) := by
  apply Array.ext_getElem?
  intro j
  rw [Array.getElem?_setIfInBounds]
  by_cases hj : j < 256
  · by_cases e : i = j
    · subst e
      rw [if_pos rfl, if_pos (by rw [arrT_size]; exact h), arrT_at _ h]; simp [putT]
    · rw [if_neg e, arrT_at _ hj, arrT_at _ hj]; simp [putT, show ¬ j = i from fun q => e q.symm]
  · rw [if_neg (by omega), Array.getElem?_eq_none (by rw [arrT_size]; omega), Array.getElem?_eq_none (by rw [arrT_size]; omega)]
theorem arrT_cells (T : TS) : (arrT T).all (·.oneCell') = true := by
  rw [Array.all_eq_true']
  intro v hv
  simp [arrT] at hv
  obtain ⟨i, _, rfl⟩ := hv
  rfl

/-- What a part tells, out of what the parts ahead tell. -/
def tellOne (f : RoI → Int) (ts : List TS) (p : PartI) : TS := if p.k = 1 then oneT (f (p.ro, p.rn)) else bothT (decide (p.k = 3)) (ts[p.l.toNat]?.getD noT) (ts[p.r.toNat]?.getD noT)
def tellsTo (f : RoI → Int) (zs : List PartI) : Nat → List TS
  | 0 => []
  | k + 1 => match zs[k]? with
    | none => tellsTo f zs k
    | some p => tellsTo f zs k ++ [tellOne f (tellsTo f zs k) p]
theorem tellsTo_next {zs : List PartI} {k : Nat} {p : PartI} (h : zs[k]? = some p) (f : RoI → Int) : tellsTo f zs (k + 1) = tellsTo f zs k ++ [tellOne f (tellsTo f zs k) p] := by
  simp [tellsTo, h]
theorem tellsTo_len (f : RoI → Int) (zs : List PartI) : ∀ k, k ≤ zs.length → (tellsTo f zs k).length = k
  | 0, _ => rfl
  | k + 1, h => by
    rw [tellsTo_next (List.getElem?_eq_getElem (show k < zs.length by omega))]
    simp [tellsTo_len f zs k (by omega)]
/-- What the last part tells. -/
def tellsL (f : RoI → Int) (zs : List PartI) : TS := (tellsTo f zs zs.length)[zs.length - 1]?.getD noT

/-- The sets that are told, rising. -/
def setsTo (T : TS) (k : Nat) : List Int := ((List.range k).filter T).map (fun n : Nat => (n : Int))
def setsL (T : TS) : List Int := setsTo T 256
theorem setsTo_next (T : TS) (k : Nat) : setsTo T (k + 1) = if T k = true then setsTo T k ++ [(k : Int)] else setsTo T k := by
  unfold setsTo
  rw [List.range_succ, List.filter_append, List.map_append]
  cases h : T k <;> simp [h]
theorem setsTo_len (T : TS) (k : Nat) : (setsTo T k).length ≤ k := by
  unfold setsTo
  rw [List.length_map]
  have := List.length_filter_le T (List.range k)
  simpa using this

/-- How many a set has. -/
def pcN (x : Nat) : Nat := (listTo (x : Int) 8).length
theorem pc_le : ∀ n : Fin 256, pcN n.val ≤ 8 := by decide +kernel
def IsLeast (T : TS) (x : Nat) : Prop := x < 256 ∧ T x = true ∧ ∀ y, y < 256 → T y = true → pcN x < pcN y ∨ (pcN x = pcN y ∧ x ≤ y)
theorem least_unique {T : TS} {x y : Nat} (h : IsLeast T x) (g : IsLeast T y) : x = y := by
  have h1 := h.2.2 y g.1 g.2.1
  have h2 := g.2.2 x h.1 h.2.1
  omega

end Go.Proofs.YtaeigimgobilaaaGreatDoor
