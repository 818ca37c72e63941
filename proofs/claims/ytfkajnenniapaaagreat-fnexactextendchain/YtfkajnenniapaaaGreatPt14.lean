/- Contracts. -/
import Derived.Test.YtfkajnenniapaaaGreatPt05
import Derived.Test.YtfkajnenniapaaaGreatPt13
namespace Go.Proofs.YtfkajnenniapaaaGreat
set_option maxRecDepth 100000
set_option maxHeartbeats 8000000
open Go.RowKit
set_option linter.unusedVariables false
set_option linter.unusedSimpArgs false

theorem ro_neq (p q : RoI) (w : World) : (binOp .neq 127 (.agg #[.int .i64 p.1, .int .i64 p.2]) (.agg #[.int .i64 q.1, .int .i64 q.2])).run Tryz.prog w = .ok (.bool (!eqRo p q)) w := by
 obtain ⟨a0, a1⟩ := p
 obtain ⟨b0, b1⟩ := q
 simp only [eqRo]
 cases e0 : (a0 == b0)
 ·simp [go_sem, e0]
 cases e1 : (a1 == b1)
 ·simp [go_sem, e0, e1]
 ·simp [go_sem, e0, e1]
theorem l1In_c (v lo hi : Int) (w : World) : Calls Tryz.prog 56 #[.int .i64 v, .int .i64 lo, .int .i64 hi] w fun e w' => e = .returned (.bool (decide (lo ≤ v) && decide (v ≤ hi))) ∧ w = w' := by
 cases h0 : decide (lo ≤ v)
 ·go_enter Tryz.func56, Tryz.ntmps56
  go_wp2
  go_ret
  exact ⟨by simp, rfl⟩
 ·cases h1 : decide (v ≤ hi)
  all_goals
   go_enter Tryz.func56, Tryz.ntmps56
   go_wp2
   go_ret
   exact ⟨by simp, rfl⟩
theorem isAhead_c (v : Int) (k : Nat) (hk : k ≤ 1000) (w : World) : Calls Tryz.prog 173 #[.int .i64 v, .int .i64 (k : Int)] w fun e w' => e = .returned (.bool (decide (0 ≤ v) && decide (v < (k : Int)))) ∧ w = w' := by
 have hk' : (k : Int) ≤ 1000 := by omega
 cases h0 : decide (0 ≤ v)
 ·go_enter Tryz.func173, Tryz.ntmps173
  go_wp2
  go_ret
  exact ⟨by simp, rfl⟩
 ·cases h1 : decide (v < (k : Int))
  all_goals
   go_enter Tryz.func173, Tryz.ntmps173
   go_wp2
   go_ret
   exact ⟨by simp, rfl⟩
theorem partFault_1 (x : PartI) (k : Nat) (w : World) (hk : k ≤ 1000) (e1 : x.k = 1) :
  Calls Tryz.prog 159 #[.agg #[.int .i64 x.k, .int .i64 x.ro, .int .i64 x.rn, .int .i64 x.l, .int .i64 x.r], .int .i64 (k : Int)] w fun e w' => e = .returned (.int .i64 (ptOne k x)) ∧ Below w.heap.size w w' := by
 have hk' : (k : Int) ≤ 1000 := by omega
 have b1 : (x.k == 1) = true := by simp [e1]
 obtain ⟨t, ht⟩ : ∃ t, roleB x.ro x.rn = t := ⟨_, rfl⟩
 cases t
 ·have hp : ptOne k x = 3 := by simp [ptOne, e1, ht]
  have hc : roleCode x.ro x.rn = 3 := by simp [roleCode, ht]
  rw [hp]
  clear e1 ht hp
  go_enter Tryz.func159, Tryz.ntmps159
  go_wp2_with (first | (go_at_call 155; refine (implRoleFault_c _ _ _).mono ?_; rintro e w1 ⟨rfl, hb1⟩; rw [hc]) | fail)
  go_ret
  exact ⟨rfl, below_new hb1⟩
 ·have hc : roleCode x.ro x.rn = 0 := by simp [roleCode, ht]
  obtain ⟨u, hu⟩ : ∃ u, (x.l != 0) = u := ⟨_, rfl⟩
  obtain ⟨v, hv⟩ : ∃ v, (x.r != 0) = v := ⟨_, rfl⟩
  have hp : ptOne k x = if (u || v) = true then 1 else 0 := by
   rw [← hu, ← hv]
   simp only [ptOne, e1, ht]
   by_cases q1 : x.l = 0 <;> by_cases q2 : x.r = 0 <;> simp [q1, q2]
  rw [hp]
  clear e1 ht hp
  cases u <;> cases v
  all_goals
   go_enter Tryz.func159, Tryz.ntmps159
   go_wp2_with (first | (go_at_call 155; refine (implRoleFault_c _ _ _).mono ?_; rintro e w1 ⟨rfl, hb1⟩; rw [hc]; have q3 : w1.cell? ⟨w.heap.size, 3, none⟩ = some (.int .i64 x.l) := (hb1.cell (p := ⟨w.heap.size, 3, none⟩) (by simp)).trans (by simp); have q4 : w1.cell? ⟨w.heap.size, 4, none⟩ = some (.int .i64 x.r) := (hb1.cell (p := ⟨w.heap.size, 4, none⟩) (by simp)).trans (by simp)) | fail)
   go_ret
   exact ⟨rfl, below_new hb1⟩
theorem partFault_bad (x : PartI) (k : Nat) (w : World) (e1 : ¬ (1 ≤ x.k ∧ x.k ≤ 3)) :
  Calls Tryz.prog 159 #[.agg #[.int .i64 x.k, .int .i64 x.ro, .int .i64 x.rn, .int .i64 x.l, .int .i64 x.r], .int .i64 (k : Int)] w fun e w' => e = .returned (.int .i64 (ptOne k x)) ∧ Below w.heap.size w w' := by
 have b1 : (x.k == 1) = false := by simp; omega
 have b2 : (x.k == 2) = false := by simp; omega
 have b3 : (x.k == 3) = false := by simp; omega
 have hp : ptOne k x = 1 := by simp only [ptOne, if_pos e1]
 rw [hp]
 clear e1 hp
 go_enter Tryz.func159, Tryz.ntmps159
 go_wp2_with fail
 go_ret
 exact ⟨rfl, by go_grown⟩
theorem partFault_2 (x : PartI) (k : Nat) (w : World) (hk : k ≤ 1000) (e1 : x.k = 2 ∨ x.k = 3) :
  Calls Tryz.prog 159 #[.agg #[.int .i64 x.k, .int .i64 x.ro, .int .i64 x.rn, .int .i64 x.l, .int .i64 x.r], .int .i64 (k : Int)] w fun e w' => e = .returned (.int .i64 (ptOne k x)) ∧ Below w.heap.size w w' := by
 have hk' : (k : Int) ≤ 1000 := by omega
 have b1 : (x.k == 1) = false := by simp; omega
 obtain ⟨u, hu⟩ : ∃ u, (decide (0 ≤ x.l) && decide (x.l < (k : Int))) = u := ⟨_, rfl⟩
 obtain ⟨v, hv⟩ : ∃ v, (decide (0 ≤ x.r) && decide (x.r < (k : Int))) = v := ⟨_, rfl⟩
 obtain ⟨t, ht⟩ : ∃ t, eqRo (x.ro, x.rn) (0, 0) = t := ⟨_, rfl⟩
 have hp : ptOne k x = if t = false then 1 else if u = false then 3 else if v = false then 3 else 0 := by
  have ek : ¬ x.k = 1 := by omega
  unfold ptOne
  rw [if_neg (by omega), if_neg ek]
  have h1 : t = true ↔ (x.ro = 0 ∧ x.rn = 0) := by rw [← ht, eqRo_iff]; simp
  have h2 : u = true ↔ (0 ≤ x.l ∧ x.l < (k : Int)) := by rw [← hu]; simp
  have h3 : v = true ↔ (0 ≤ x.r ∧ x.r < (k : Int)) := by rw [← hv]; simp
  simp only [← h1, ← h2, ← h3]
  cases t <;> cases u <;> cases v <;> simp
 rw [hp]
 have hn : ∀ w, (binOp .neq 127 (.agg #[.int .i64 x.ro, .int .i64 x.rn]) (.agg #[.int .i64 0, .int .i64 0])).run Tryz.prog w = .ok (.bool (!t)) w := fun w => by rw [← ht]; exact ro_neq (x.ro, x.rn) (0, 0) w
 have HU : Hid ((decide (0 ≤ x.l) && decide (x.l < (k : Int))) = u) := hu
 have HV : Hid ((decide (0 ≤ x.r) && decide (x.r < (k : Int))) = v) := hv
 clear hp ht hu hv
 rcases e1 with e1 | e1
 ·have b2 : (x.k == 2) = true := by simp; omega
  clear e1
  cases t
  ·go_enter Tryz.func159, Tryz.ntmps159
   go_wp2_with fail
   go_ret
   exact ⟨rfl, by go_grown⟩
  ·cases u <;> cases v
   all_goals
    go_enter Tryz.func159, Tryz.ntmps159
    go_wp2_with (first | (go_at_call 173; refine (isAhead_c _ _ hk _).mono ?_; rintro e w1 ⟨rfl, rfl⟩; first | rw [HU.out] | rw [HV.out]) | fail)
    go_ret
    exact ⟨rfl, by go_grown⟩
 ·have b2 : (x.k == 2) = false := by simp; omega
  have b3 : (x.k == 3) = true := by simp; omega
  clear e1
  cases t
  ·go_enter Tryz.func159, Tryz.ntmps159
   go_wp2_with fail
   go_ret
   exact ⟨rfl, by go_grown⟩
  ·cases u <;> cases v
   all_goals
    go_enter Tryz.func159, Tryz.ntmps159
    go_wp2_with (first | (go_at_call 173; refine (isAhead_c _ _ hk _).mono ?_; rintro e w1 ⟨rfl, rfl⟩; first | rw [HU.out] | rw [HV.out]) | fail)
    go_ret
    exact ⟨rfl, by go_grown⟩
theorem partFault_c (x : PartI) (k : Nat) (w : World) (hk : k ≤ 1000) :
  Calls Tryz.prog 159 #[.agg #[.int .i64 x.k, .int .i64 x.ro, .int .i64 x.rn, .int .i64 x.l, .int .i64 x.r], .int .i64 (k : Int)] w fun e w' => e = .returned (.int .i64 (ptOne k x)) ∧ Below w.heap.size w w' := by
 by_cases h : 1 ≤ x.k ∧ x.k ≤ 3
 ·by_cases h1 : x.k = 1
  ·exact partFault_1 x k w hk h1
  ·exact partFault_2 x k w hk (by omega)
 ·exact partFault_bad x k w h
theorem implParts_few (a : Option Addr) (n cap : Nat) (zs : List PartI) (c : Int) (w : World) (h1 : 1 ≤ n) (h8 : n ≤ 8) (h : PartsIn w a n zs) (hc : ptTo zs n = c) :
  Calls Tryz.prog 149 #[.slice a n cap] w fun e w' => e = .returned (.int .i64 c) ∧ Below w.heap.size w w' := by
 have H : Hid (PartsIn w a n zs) := h
 have HC : Hid (ptTo zs n = c) := hc
 clear h hc
 have hn1 : ¬ ((n : Int) < 1) := by omega
 have hn8 : ¬ ((8 : Int) < (n : Int)) := by omega
 have hn' : (n : Int) ≤ 8 := by omega
 go_enter Tryz.func149, Tryz.ntmps149
 go_wp2
 go_loopw [16] (fun i wr => ∃ k : Nat, k ≤ n ∧ i = .int .i64 (k : Int) ∧ ptTo zs k = 0 ∧ Below w.heap.size w wr) (fun i _ => n - (intOf i).toNat)
 case atStart => exact ⟨0, Nat.zero_le _, rfl, rfl, Below.refl _ _⟩
 case round =>
  obtain ⟨k, hk, rfl, hp, hnx⟩ := hrel
  have HP : Hid (ptTo zs k = 0) := hp
  clear hp
  by_cases hlt : k < n
  ·obtain ⟨b, off, x, rfl, hs, hx⟩ := H.out.at hlt
   have HN : Hid (ptTo zs (k + 1) = ptOne k x) := ptTo_next hs HP.out
   clear hs
   obtain ⟨g0, g1, g2, g3, g4⟩ := hx.below hnx
   clear hx
   have hlt' : (k : Int) < (n : Int) := by omega
   go_wp2_with fail
   refine (partFault_c x k _ (by omega)).mono ?_
   rintro e w1 ⟨rfl, hb1⟩
   have hnx1 : Below w.heap.size w w1 := hnx.trans ((below_new hb1).mono hnx.size)
   clear hb1 g0 g1 g2 g3 g4
   by_cases hz : ptOne k x = 0
   ·have HE : Hid (ptTo zs (k + 1) = 0) := HN.out.trans hz
    rw [hz]
    clear hz
    go_wp2
    exact ⟨⟨k + 1, by omega, by go_num, HE.out, hnx1⟩, by simp [intOf]; omega⟩
   ·have E : Hid (c = ptOne k x) := HC.out.symm.trans (ptTo_stay zs (k + 1) n _ hz HN.out (by omega))
    have hzb : (ptOne k x != 0) = true := by simpa using hz
    clear hz
    go_wp2
    go_ret
    exact ⟨by rw [E.out]; rfl, hnx1⟩
  ·have hkn : k = n := by omega
   subst hkn
   go_wp2
   go_ret
   exact ⟨by rw [← HC.out, HP.out]; rfl, hnx⟩
theorem implPartsFault_c (a : Option Addr) (n cap : Nat) (zs : List PartI) (w : World) (hm : n ≤ maxLen) (h : PartsIn w a n zs) :
  Calls Tryz.prog 149 #[.slice a n cap] w fun e w' => e = .returned (.int .i64 (ptCode zs)) ∧ Below w.heap.size w w' := by
 have hl := h.1
 unfold maxLen at hm
 have hm' : (n : Int) ≤ 9223372036854775807 := by omega
 unfold ptCode
 rw [hl]
 by_cases h1 : n < 1
 ·have h1' : (n : Int) < 1 := by omega
  rw [if_pos h1]
  clear h hl h1
  go_enter Tryz.func149, Tryz.ntmps149
  go_wp2
  go_ret
  exact ⟨rfl, Below.refl _ _⟩
 ·rw [if_neg h1]
  by_cases h8 : 8 < n
  ·have h1' : ¬ ((n : Int) < 1) := by omega
   have h8' : (8 : Int) < (n : Int) := by omega
   rw [if_pos h8]
   clear h hl h1 h8
   go_enter Tryz.func149, Tryz.ntmps149
   go_wp2
   go_ret
   exact ⟨rfl, Below.refl _ _⟩
  ·rw [if_neg h8]
   exact implParts_few a n cap zs _ w (by omega) (by omega) h rfl

end Go.Proofs.YtfkajnenniapaaaGreat
