/-
  CONTRACTS: slices.Index and slices.Contains over rules.
  Conditions: each contract bears its own.
  CONTRACTS on rules in impl: bodyFault, kinds 1 to 3.
  Conditions: each contract bears its own.
  CONTRACTS on rules in impl: bodyFault, kind 4.
  Conditions: each contract bears its own.
  CONTRACTS on rules in impl: withoutBody, hasStray.
  Conditions: each contract bears its own.
-/
import Derived.Test.YtnfolmjdicfobaaGreatDoorPl02
import Derived.Test.YtnfolmjdicfobaaGreatDoorPl15
import Derived.Test.YtnfolmjdicfobaaGreatDoorPl01
import Derived.Deep.RegionHeld3
namespace Go.Proofs.YtnfolmjdicfobaaGreatDoor
open Go.RowKit
set_option linter.unusedVariables false
set_option linter.unusedSimpArgs false
attribute [local go_sem ↓] rule_eql

set_option maxHeartbeats 1000000 in
theorem slIndex_c (a : Option Addr) (n cap : Nat) (zs : List RuleI) (r : RuleI) (w : World) (hn : n ≤ 1048576) (h : RulesIn w a n zs) :
    Calls Tryz.prog 151 #[.slice a n cap, .agg #[.int .i64 r.k, .int .i64 r.ho, .int .i64 r.hn, .int .i64 r.w, .int .i64 r.oo, .int .i64 r.on, .int .i64 r.to, .int .i64 r.tn]] w fun e w' => (∃ i : Int, e = .returned (.int .i64 i) ∧ ((0 ≤ i ∧ r ∈ zs) ∨ (i = -1 ∧ ¬ r ∈ zs))) ∧ Below w.heap.size w w' := by
  have H : Hid (RulesIn w a n zs) := h
  have hz : Hid (zs.length = n) := h.1
  clear h
  have hn' : (n : Int) ≤ 1048576 := by omega
  have HB : Hid (RuleAt (w.alloc (.cells #[.int .i64 r.k, .int .i64 r.ho, .int .i64 r.hn, .int .i64 r.w, .int .i64 r.oo, .int .i64 r.on, .int .i64 r.to, .int .i64 r.tn] 81)) w.heap.size 0 r) := RuleAt.new w r _
  go_enter Tryz.func151, Tryz.ntmps151
  go_wp2
  go_loopw [8] (fun i wr => ∃ k : Nat, k ≤ n ∧ i = .int .i64 (k : Int) ∧ ¬ r ∈ zs.take k ∧ ∃ m, wr = (w.alloc (.cells #[.int .i64 r.k, .int .i64 r.ho, .int .i64 r.hn, .int .i64 r.w, .int .i64 r.oo, .int .i64 r.on, .int .i64 r.to, .int .i64 r.tn] 81)).drewN m) (fun i _ => n - (intOf i).toNat)
  case atStart => exact ⟨0, Nat.zero_le _, rfl, by simp, 0, rfl⟩
  case round =>
    obtain ⟨k, hk, rfl, hm, m, rfl⟩ := hrel
    have HM : Hid (¬ r ∈ zs.take k) := hm
    clear hm
    by_cases hlt : k < n
    · obtain ⟨b, off, s, rfl, hs, hr⟩ := H.out.at hlt
      have HS : Hid (zs[k]? = some s) := hs
      clear hs
      have hb : b < w.heap.size := World.block_lt_of_cell? w ⟨b, off + k * 8, none⟩ hr.1
      obtain ⟨h0, h1, h2, h3, h4, h5, h6, h7⟩ := hr
      obtain ⟨b0, b1, b2, b3, b4, b5, b6, b7⟩ := HB.out
      simp only [Nat.zero_add] at b0 b1 b2 b3 b4 b5 b6 b7
      have hlt' : (k : Int) < (n : Int) := by omega
      cases hsame : sameB r s
      · have HF : Hid (sameB r s = false) := hsame
        have HN : Hid (¬ r ∈ zs.take (k + 1)) := by
          show ¬ r ∈ zs.take (k + 1)
          rw [mem_take_iff]
          rintro ⟨j, hj, hjs⟩
          by_cases e : j = k
          · subst e
            rw [HS.out] at hjs
            simp [sameB] at hsame
            exact hsame (Option.some.inj hjs).symm
          · exact HM.out ((mem_take_iff _ _ _).2 ⟨j, by omega, hjs⟩)
        clear hsame
        have hsame : sameB r s = false := HF.out
        go_wp2
        go_quiet (fail)
        go_wp2
        exact ⟨⟨k + 1, by omega, by go_num, HN.out, _, rfl⟩, by simp [intOf]; omega⟩
      · have HI : Hid (r ∈ zs) := by
          show r ∈ zs
          simp [sameB] at hsame
          subst hsame
          exact List.mem_of_getElem? HS.out
        go_wp2
        go_quiet (fail)
        go_wp2
        go_ret
        exact ⟨⟨_, rfl, Or.inl ⟨by omega, HI.out⟩⟩, by first | exact bdN ((Below.refl _ _).alloc (Nat.le_refl _) _) _ | exact bdN (bdN ((Below.refl _ _).alloc (Nat.le_refl _) _) _) _⟩
    · have hkn : k = n := by omega
      subst hkn
      have HN : Hid (¬ r ∈ zs) := by
        have := HM.out
        rw [List.take_of_length_le (by rw [hz.out]; exact Nat.le_refl _)] at this
        exact this
      go_wp2
      go_ret
      exact ⟨⟨_, rfl, Or.inr ⟨rfl, HN.out⟩⟩, bdN (by go_grown) _⟩

set_option maxHeartbeats 400000 in
theorem slContains_c (a : Option Addr) (n cap : Nat) (zs : List RuleI) (r : RuleI) (w : World) (hn : n ≤ 1048576) (h : RulesIn w a n zs) :
    Calls Tryz.prog 122 #[.slice a n cap, .agg #[.int .i64 r.k, .int .i64 r.ho, .int .i64 r.hn, .int .i64 r.w, .int .i64 r.oo, .int .i64 r.on, .int .i64 r.to, .int .i64 r.tn]] w fun e w' => e = .returned (.bool (decide (r ∈ zs))) ∧ Below w.heap.size w w' := by
  have H : Hid (RulesIn (w.alloc (.cells #[.int .i64 r.k, .int .i64 r.ho, .int .i64 r.hn, .int .i64 r.w, .int .i64 r.oo, .int .i64 r.on, .int .i64 r.to, .int .i64 r.tn] 81)) a n zs) := h.below ((Below.refl _ _).alloc (Nat.le_refl _) _)
  clear h
  have HB : Hid (RuleAt (w.alloc (.cells #[.int .i64 r.k, .int .i64 r.ho, .int .i64 r.hn, .int .i64 r.w, .int .i64 r.oo, .int .i64 r.on, .int .i64 r.to, .int .i64 r.tn] 81)) w.heap.size 0 r) := RuleAt.new w r _
  obtain ⟨b0, b1, b2, b3, b4, b5, b6, b7⟩ := HB.out
  simp only [Nat.zero_add] at b0 b1 b2 b3 b4 b5 b6 b7
  go_enter Tryz.func122, Tryz.ntmps122
  go_wp2_with fail
  refine (slIndex_c a n cap zs r _ hn H.out).mono ?_
  rintro e w1 ⟨⟨i, rfl, hi⟩, hb1⟩
  have HX : Hid (decide (0 ≤ i) = decide (r ∈ zs)) := by
    show decide (0 ≤ i) = decide (r ∈ zs)
    rcases hi with ⟨h1, h2⟩ | ⟨rfl, h2⟩
    · simp [h1, h2]
    · simp [h2]
  clear hi b0 b1 b2 b3 b4 b5 b6 b7
  go_wp2
  go_ret
  exact ⟨by rw [HX.out]; rfl, below_new hb1⟩

end Go.Proofs.YtnfolmjdicfobaaGreatDoor

namespace Go.Proofs.YtnfolmjdicfobaaGreatDoor
open Go.RowKit
set_option linter.unusedVariables false
set_option linter.unusedSimpArgs false
attribute [local go_sem] ta11 ta12 ta13 ta14 ta21 ta22 ta23 ta24 ta31 ta32 ta33 ta34 ta41 ta42 ta43 ta44

set_option maxHeartbeats 400000 in
theorem bodyFault_1 (p : Int) (w : World) :
    Calls Tryz.prog 148 #[.iface 200 (.agg #[.int .i64 p])] w fun e w' =>
      e = .returned (.int .i64 (if prinB p = true then 0 else 3)) ∧ Below w.heap.size w w' := by
  cases hp : prinB p
  all_goals
    go_enter Tryz.func148, Tryz.ntmps148
    go_wp2
    refine wp_loop_rounds 1 ?_
    rw [rounds_succ]
    go_wp2_with (first | (go_at_call 137; refine (isPrin_c _ _).mono ?_; rintro e w1 ⟨rfl, rfl⟩; rw [hp]) | go_in)
    go_ret
    exact ⟨rfl, by go_grown⟩

set_option maxHeartbeats 400000 in
theorem bodyFault_2 (o n : Int) (w : World) :
    Calls Tryz.prog 148 #[.iface 202 (.agg #[.int .i64 o, .int .i64 n])] w fun e w' =>
      e = .returned (.int .i64 (if roleB o n = true then 0 else 3)) ∧ Below w.heap.size w w' := by
  cases hr : roleB o n
  · have hc : roleCode o n = 3 := by simp [roleCode, hr]
    go_enter Tryz.func148, Tryz.ntmps148
    go_wp2
    refine wp_loop_rounds 2 ?_
    rw [rounds_succ]
    go_wp2_with (first | (go_at_call 105; refine (implRoleFault_c _ _ _).mono ?_; rintro e w1 ⟨rfl, hb1⟩; rw [hc]) | go_in)
    go_ret
    exact ⟨rfl, below_new3 hb1⟩
  · have hc : roleCode o n = 0 := by simp [roleCode, hr]
    go_enter Tryz.func148, Tryz.ntmps148
    go_wp2
    refine wp_loop_rounds 2 ?_
    rw [rounds_succ]
    go_wp2_with (first | (go_at_call 105; refine (implRoleFault_c _ _ _).mono ?_; rintro e w1 ⟨rfl, hb1⟩; rw [hc]) | go_in)
    rw [rounds_succ]
    go_wp2
    go_ret
    exact ⟨rfl, below_new3 hb1⟩

set_option maxHeartbeats 400000 in
theorem bodyFault_3 (o n m : Int) (w : World) :
    Calls Tryz.prog 148 #[.iface 204 (.agg #[.int .i64 o, .int .i64 n, .int .i64 m])] w fun e w' =>
      e = .returned (.int .i64 (if (roleB o n && nameB m) = true then 0 else 3)) ∧ Below w.heap.size w w' := by
  cases hr : roleB o n
  · have hc : roleCode o n = 3 := by simp [roleCode, hr]
    go_enter Tryz.func148, Tryz.ntmps148
    go_wp2
    refine wp_loop_rounds 2 ?_
    rw [rounds_succ]
    go_wp2_with (first | (go_at_call 105; refine (implRoleFault_c _ _ _).mono ?_; rintro e w1 ⟨rfl, hb1⟩; rw [hc]) | go_in)
    go_ret
    exact ⟨rfl, below_new3 hb1⟩
  · have hc : roleCode o n = 0 := by simp [roleCode, hr]
    cases hp : nameB m
    all_goals
      go_enter Tryz.func148, Tryz.ntmps148
      go_wp2
      refine wp_loop_rounds 2 ?_
      rw [rounds_succ]
      go_wp2_with (first | (go_at_call 105; refine (implRoleFault_c _ _ _).mono ?_; rintro e w1 ⟨rfl, hb1⟩; rw [hc]) | go_in)
      rw [rounds_succ]
      go_wp2_with (first | (go_at_call 138; refine (isName_c _ _).mono ?_; rintro e w2 ⟨rfl, rfl⟩; rw [hp]) | go_in)
      go_ret
      exact ⟨rfl, (below_new3 hb1).alloc (below_new3 hb1).size _⟩

end Go.Proofs.YtnfolmjdicfobaaGreatDoor

namespace Go.Proofs.YtnfolmjdicfobaaGreatDoor
open Go.RowKit
set_option linter.unusedVariables false
set_option linter.unusedSimpArgs false
attribute [local go_sem] ta11 ta12 ta13 ta14 ta21 ta22 ta23 ta24 ta31 ta32 ta33 ta34 ta41 ta42 ta43 ta44

set_option maxHeartbeats 400000 in
theorem bodyFault_4 (o n p m : Int) (w : World) :
    Calls Tryz.prog 148 #[.iface 206 (.agg #[.int .i64 o, .int .i64 n, .int .i64 p, .int .i64 m])] w fun e w' =>
      e = .returned (.int .i64 (if (roleB o n && roleB p m) = true then 0 else 3)) ∧ Below w.heap.size w w' := by
  cases hr : roleB o n
  · have hc : roleCode o n = 3 := by simp [roleCode, hr]
    go_enter Tryz.func148, Tryz.ntmps148
    go_wp2
    refine wp_loop_rounds 3 ?_
    rw [rounds_succ]
    go_wp2_with (first | (go_at_call 105; refine (implRoleFault_c _ _ _).mono ?_; rintro e w1 ⟨rfl, hb1⟩; rw [hc]) | go_in)
    go_ret
    exact ⟨rfl, below_new3 hb1⟩
  · have hc : roleCode o n = 0 := by simp [roleCode, hr]
    cases hp : roleB p m
    all_goals
      have hd : roleCode p m = if roleB p m = true then 0 else 3 := rfl
      simp only [hp, if_true, Bool.false_eq_true, if_false] at hd
      go_enter Tryz.func148, Tryz.ntmps148
      go_wp2
      refine wp_loop_rounds 3 ?_
      rw [rounds_succ]
      go_wp2_with (first | (go_at_call 105; refine (implRoleFault_c _ _ _).mono ?_; rintro e w1 ⟨rfl, hb1⟩; rw [hc]) | go_in)
      rw [rounds_succ]
      have hz1 := hb1.size
      simp only [World.size_alloc] at hz1
      have hlt : w.heap.size + 1 < w1.heap.size := by omega
      have q0 : w1.cell? ⟨w.heap.size + 1, 2, none⟩ = some (.int .i64 p) := by rw [(bcell2 hb1).1 (w.heap.size + 1) 2 (by simp)]; go_cell
      have q1 : w1.cell? ⟨w.heap.size + 1, 3, none⟩ = some (.int .i64 m) := by rw [(bcell2 hb1).1 (w.heap.size + 1) 3 (by simp)]; go_cell
      go_wp2_with (first | (go_at_call 105; refine (implRoleFault_c _ _ _).mono ?_; rintro e w2 ⟨rfl, hb2⟩; rw [hd]) | go_in)
      first
        | (go_ret; exact ⟨rfl, (below_new3 hb1).trans ((below_new hb2).mono (by omega))⟩)
        | (rw [rounds_succ]; go_wp2; go_ret; exact ⟨rfl, (below_new3 hb1).trans ((below_new hb2).mono (by omega))⟩)

end Go.Proofs.YtnfolmjdicfobaaGreatDoor

namespace Go.Proofs.YtnfolmjdicfobaaGreatDoor
open Go.RowKit
set_option linter.unusedVariables false
set_option linter.unusedSimpArgs false

theorem keep8 {w w' : World} {g : Nat} {k ho hn wh oo on tw tn : Int} (h : w.cell? ⟨g, 0, none⟩ = some (.int .i64 k) ∧ w.cell? ⟨g, 1, none⟩ = some (.int .i64 ho) ∧ w.cell? ⟨g, 2, none⟩ = some (.int .i64 hn) ∧ w.cell? ⟨g, 3, none⟩ = some (.int .i64 wh) ∧ w.cell? ⟨g, 4, none⟩ = some (.int .i64 oo) ∧ w.cell? ⟨g, 5, none⟩ = some (.int .i64 on) ∧ w.cell? ⟨g, 6, none⟩ = some (.int .i64 tw) ∧ w.cell? ⟨g, 7, none⟩ = some (.int .i64 tn)) (hb : Below w.heap.size w w') : w'.cell? ⟨g, 0, none⟩ = some (.int .i64 k) ∧ w'.cell? ⟨g, 1, none⟩ = some (.int .i64 ho) ∧ w'.cell? ⟨g, 2, none⟩ = some (.int .i64 hn) ∧ w'.cell? ⟨g, 3, none⟩ = some (.int .i64 wh) ∧ w'.cell? ⟨g, 4, none⟩ = some (.int .i64 oo) ∧ w'.cell? ⟨g, 5, none⟩ = some (.int .i64 on) ∧ w'.cell? ⟨g, 6, none⟩ = some (.int .i64 tw) ∧ w'.cell? ⟨g, 7, none⟩ = some (.int .i64 tn) := by
  have key : ∀ (o : Nat) (v : Value), w.cell? ⟨g, o, none⟩ = some v → w'.cell? ⟨g, o, none⟩ = some v := fun o v e => (hb.cell (p := ⟨g, o, none⟩) (World.block_lt_of_cell? w ⟨g, o, none⟩ e)).trans e
  obtain ⟨h0, h1, h2, h3, h4, h5, h6, h7⟩ := h
  exact ⟨key _ _ h0, key _ _ h1, key _ _ h2, key _ _ h3, key _ _ h4, key _ _ h5, key _ _ h6, key _ _ h7⟩

set_option maxHeartbeats 400000 in
theorem without_1 (ho hn wh oo on tw tn : Int) (g : Nat) (w : World) (hS : w.cell? ⟨g, 0, none⟩ = some (.int .i64 1) ∧ w.cell? ⟨g, 1, none⟩ = some (.int .i64 ho) ∧ w.cell? ⟨g, 2, none⟩ = some (.int .i64 hn) ∧ w.cell? ⟨g, 3, none⟩ = some (.int .i64 wh) ∧ w.cell? ⟨g, 4, none⟩ = some (.int .i64 oo) ∧ w.cell? ⟨g, 5, none⟩ = some (.int .i64 on) ∧ w.cell? ⟨g, 6, none⟩ = some (.int .i64 tw) ∧ w.cell? ⟨g, 7, none⟩ = some (.int .i64 tn)) :
    Calls Tryz.prog 163 #[.agg #[.int .i64 1, .int .i64 ho, .int .i64 hn, .int .i64 wh, .int .i64 oo, .int .i64 on, .int .i64 tw, .int .i64 tn]] w fun e w' =>
      e = .returned (.agg #[.int .i64 1, .int .i64 ho, .int .i64 hn, .int .i64 0, .int .i64 oo, .int .i64 on, .int .i64 tw, .int .i64 tn]) ∧ (w'.cell? ⟨g, 0, none⟩ = some (.int .i64 1) ∧ w'.cell? ⟨g, 1, none⟩ = some (.int .i64 ho) ∧ w'.cell? ⟨g, 2, none⟩ = some (.int .i64 hn) ∧ w'.cell? ⟨g, 3, none⟩ = some (.int .i64 wh) ∧ w'.cell? ⟨g, 4, none⟩ = some (.int .i64 oo) ∧ w'.cell? ⟨g, 5, none⟩ = some (.int .i64 on) ∧ w'.cell? ⟨g, 6, none⟩ = some (.int .i64 tw) ∧ w'.cell? ⟨g, 7, none⟩ = some (.int .i64 tn)) ∧ Below w.heap.size w w' := by
  have hS' : Hid (w.cell? ⟨g, 0, none⟩ = some (.int .i64 1) ∧ w.cell? ⟨g, 1, none⟩ = some (.int .i64 ho) ∧ w.cell? ⟨g, 2, none⟩ = some (.int .i64 hn) ∧ w.cell? ⟨g, 3, none⟩ = some (.int .i64 wh) ∧ w.cell? ⟨g, 4, none⟩ = some (.int .i64 oo) ∧ w.cell? ⟨g, 5, none⟩ = some (.int .i64 on) ∧ w.cell? ⟨g, 6, none⟩ = some (.int .i64 tw) ∧ w.cell? ⟨g, 7, none⟩ = some (.int .i64 tn)) := hS
  have hg : g < w.heap.size := World.block_lt_of_cell? w ⟨g, 0, none⟩ hS.1
  clear hS
  go_enter Tryz.func163, Tryz.ntmps163
  go_wp2
  go_returns
  exact ⟨rfl, keep8 hS'.out (by go_grown), by go_grown⟩

set_option maxHeartbeats 400000 in
theorem without_2 (ho hn wh oo on tw tn : Int) (g : Nat) (w : World) (hS : w.cell? ⟨g, 0, none⟩ = some (.int .i64 2) ∧ w.cell? ⟨g, 1, none⟩ = some (.int .i64 ho) ∧ w.cell? ⟨g, 2, none⟩ = some (.int .i64 hn) ∧ w.cell? ⟨g, 3, none⟩ = some (.int .i64 wh) ∧ w.cell? ⟨g, 4, none⟩ = some (.int .i64 oo) ∧ w.cell? ⟨g, 5, none⟩ = some (.int .i64 on) ∧ w.cell? ⟨g, 6, none⟩ = some (.int .i64 tw) ∧ w.cell? ⟨g, 7, none⟩ = some (.int .i64 tn)) :
    Calls Tryz.prog 163 #[.agg #[.int .i64 2, .int .i64 ho, .int .i64 hn, .int .i64 wh, .int .i64 oo, .int .i64 on, .int .i64 tw, .int .i64 tn]] w fun e w' =>
      e = .returned (.agg #[.int .i64 2, .int .i64 ho, .int .i64 hn, .int .i64 wh, .int .i64 0, .int .i64 0, .int .i64 tw, .int .i64 tn]) ∧ (w'.cell? ⟨g, 0, none⟩ = some (.int .i64 2) ∧ w'.cell? ⟨g, 1, none⟩ = some (.int .i64 ho) ∧ w'.cell? ⟨g, 2, none⟩ = some (.int .i64 hn) ∧ w'.cell? ⟨g, 3, none⟩ = some (.int .i64 wh) ∧ w'.cell? ⟨g, 4, none⟩ = some (.int .i64 oo) ∧ w'.cell? ⟨g, 5, none⟩ = some (.int .i64 on) ∧ w'.cell? ⟨g, 6, none⟩ = some (.int .i64 tw) ∧ w'.cell? ⟨g, 7, none⟩ = some (.int .i64 tn)) ∧ Below w.heap.size w w' := by
  have hS' : Hid (w.cell? ⟨g, 0, none⟩ = some (.int .i64 2) ∧ w.cell? ⟨g, 1, none⟩ = some (.int .i64 ho) ∧ w.cell? ⟨g, 2, none⟩ = some (.int .i64 hn) ∧ w.cell? ⟨g, 3, none⟩ = some (.int .i64 wh) ∧ w.cell? ⟨g, 4, none⟩ = some (.int .i64 oo) ∧ w.cell? ⟨g, 5, none⟩ = some (.int .i64 on) ∧ w.cell? ⟨g, 6, none⟩ = some (.int .i64 tw) ∧ w.cell? ⟨g, 7, none⟩ = some (.int .i64 tn)) := hS
  have hg : g < w.heap.size := World.block_lt_of_cell? w ⟨g, 0, none⟩ hS.1
  clear hS
  go_enter Tryz.func163, Tryz.ntmps163
  go_wp2
  go_returns
  exact ⟨rfl, keep8 hS'.out (by go_grown), by go_grown⟩

set_option maxHeartbeats 400000 in
theorem without_3 (ho hn wh oo on tw tn : Int) (g : Nat) (w : World) (hS : w.cell? ⟨g, 0, none⟩ = some (.int .i64 3) ∧ w.cell? ⟨g, 1, none⟩ = some (.int .i64 ho) ∧ w.cell? ⟨g, 2, none⟩ = some (.int .i64 hn) ∧ w.cell? ⟨g, 3, none⟩ = some (.int .i64 wh) ∧ w.cell? ⟨g, 4, none⟩ = some (.int .i64 oo) ∧ w.cell? ⟨g, 5, none⟩ = some (.int .i64 on) ∧ w.cell? ⟨g, 6, none⟩ = some (.int .i64 tw) ∧ w.cell? ⟨g, 7, none⟩ = some (.int .i64 tn)) :
    Calls Tryz.prog 163 #[.agg #[.int .i64 3, .int .i64 ho, .int .i64 hn, .int .i64 wh, .int .i64 oo, .int .i64 on, .int .i64 tw, .int .i64 tn]] w fun e w' =>
      e = .returned (.agg #[.int .i64 3, .int .i64 ho, .int .i64 hn, .int .i64 wh, .int .i64 0, .int .i64 0, .int .i64 tw, .int .i64 0]) ∧ (w'.cell? ⟨g, 0, none⟩ = some (.int .i64 3) ∧ w'.cell? ⟨g, 1, none⟩ = some (.int .i64 ho) ∧ w'.cell? ⟨g, 2, none⟩ = some (.int .i64 hn) ∧ w'.cell? ⟨g, 3, none⟩ = some (.int .i64 wh) ∧ w'.cell? ⟨g, 4, none⟩ = some (.int .i64 oo) ∧ w'.cell? ⟨g, 5, none⟩ = some (.int .i64 on) ∧ w'.cell? ⟨g, 6, none⟩ = some (.int .i64 tw) ∧ w'.cell? ⟨g, 7, none⟩ = some (.int .i64 tn)) ∧ Below w.heap.size w w' := by
  have hS' : Hid (w.cell? ⟨g, 0, none⟩ = some (.int .i64 3) ∧ w.cell? ⟨g, 1, none⟩ = some (.int .i64 ho) ∧ w.cell? ⟨g, 2, none⟩ = some (.int .i64 hn) ∧ w.cell? ⟨g, 3, none⟩ = some (.int .i64 wh) ∧ w.cell? ⟨g, 4, none⟩ = some (.int .i64 oo) ∧ w.cell? ⟨g, 5, none⟩ = some (.int .i64 on) ∧ w.cell? ⟨g, 6, none⟩ = some (.int .i64 tw) ∧ w.cell? ⟨g, 7, none⟩ = some (.int .i64 tn)) := hS
  have hg : g < w.heap.size := World.block_lt_of_cell? w ⟨g, 0, none⟩ hS.1
  clear hS
  go_enter Tryz.func163, Tryz.ntmps163
  go_wp2
  go_returns
  exact ⟨rfl, keep8 hS'.out (by go_grown), by go_grown⟩

set_option maxHeartbeats 400000 in
theorem without_4 (ho hn wh oo on tw tn : Int) (g : Nat) (w : World) (hS : w.cell? ⟨g, 0, none⟩ = some (.int .i64 4) ∧ w.cell? ⟨g, 1, none⟩ = some (.int .i64 ho) ∧ w.cell? ⟨g, 2, none⟩ = some (.int .i64 hn) ∧ w.cell? ⟨g, 3, none⟩ = some (.int .i64 wh) ∧ w.cell? ⟨g, 4, none⟩ = some (.int .i64 oo) ∧ w.cell? ⟨g, 5, none⟩ = some (.int .i64 on) ∧ w.cell? ⟨g, 6, none⟩ = some (.int .i64 tw) ∧ w.cell? ⟨g, 7, none⟩ = some (.int .i64 tn)) :
    Calls Tryz.prog 163 #[.agg #[.int .i64 4, .int .i64 ho, .int .i64 hn, .int .i64 wh, .int .i64 oo, .int .i64 on, .int .i64 tw, .int .i64 tn]] w fun e w' =>
      e = .returned (.agg #[.int .i64 4, .int .i64 ho, .int .i64 hn, .int .i64 wh, .int .i64 0, .int .i64 0, .int .i64 0, .int .i64 0]) ∧ (w'.cell? ⟨g, 0, none⟩ = some (.int .i64 4) ∧ w'.cell? ⟨g, 1, none⟩ = some (.int .i64 ho) ∧ w'.cell? ⟨g, 2, none⟩ = some (.int .i64 hn) ∧ w'.cell? ⟨g, 3, none⟩ = some (.int .i64 wh) ∧ w'.cell? ⟨g, 4, none⟩ = some (.int .i64 oo) ∧ w'.cell? ⟨g, 5, none⟩ = some (.int .i64 on) ∧ w'.cell? ⟨g, 6, none⟩ = some (.int .i64 tw) ∧ w'.cell? ⟨g, 7, none⟩ = some (.int .i64 tn)) ∧ Below w.heap.size w w' := by
  have hS' : Hid (w.cell? ⟨g, 0, none⟩ = some (.int .i64 4) ∧ w.cell? ⟨g, 1, none⟩ = some (.int .i64 ho) ∧ w.cell? ⟨g, 2, none⟩ = some (.int .i64 hn) ∧ w.cell? ⟨g, 3, none⟩ = some (.int .i64 wh) ∧ w.cell? ⟨g, 4, none⟩ = some (.int .i64 oo) ∧ w.cell? ⟨g, 5, none⟩ = some (.int .i64 on) ∧ w.cell? ⟨g, 6, none⟩ = some (.int .i64 tw) ∧ w.cell? ⟨g, 7, none⟩ = some (.int .i64 tn)) := hS
  have hg : g < w.heap.size := World.block_lt_of_cell? w ⟨g, 0, none⟩ hS.1
  clear hS
  go_enter Tryz.func163, Tryz.ntmps163
  go_wp2
  go_returns
  exact ⟨rfl, keep8 hS'.out (by go_grown), by go_grown⟩

theorem below_newD {w w1 : World} {o : Obj} (h : Below (w.alloc o).drew.heap.size (w.alloc o).drew w1) : Below w.heap.size w w1 := (((Below.refl _ _).alloc (Nat.le_refl _) _).drew).trans (h.mono (by simp))

set_option maxHeartbeats 2000000 in
theorem stray_1 (ho hn wh oo on tw tn : Int) (w : World) :
    Calls Tryz.prog 147 #[.agg #[.int .i64 1, .int .i64 ho, .int .i64 hn, .int .i64 wh, .int .i64 oo, .int .i64 on, .int .i64 tw, .int .i64 tn]] w fun e w' => e = .returned (.bool (!(oo == 0 && on == 0 && tw == 0 && tn == 0))) ∧ Below w.heap.size w w' := by
  cases e1 : (oo == 0)
  · skip
    go_enter Tryz.func147, Tryz.ntmps147
    go_wp2
    go_region_held3 (fun w' => w'.cell? ⟨w.heap.size, 0, none⟩ = some (.int .i64 1) ∧ w'.cell? ⟨w.heap.size, 1, none⟩ = some (.int .i64 ho) ∧ w'.cell? ⟨w.heap.size, 2, none⟩ = some (.int .i64 hn) ∧ w'.cell? ⟨w.heap.size, 3, none⟩ = some (.int .i64 wh) ∧ w'.cell? ⟨w.heap.size, 4, none⟩ = some (.int .i64 oo) ∧ w'.cell? ⟨w.heap.size, 5, none⟩ = some (.int .i64 on) ∧ w'.cell? ⟨w.heap.size, 6, none⟩ = some (.int .i64 tw) ∧ w'.cell? ⟨w.heap.size, 7, none⟩ = some (.int .i64 tn)) (first | go_keep | exact hS) (first | (go_at_call 163; refine (without_1 ho hn wh oo on tw tn w.heap.size _ ?_).mono ?_; (first | assumption | simp [*]); rintro e w1 ⟨rfl, hS, hb⟩))
    go_wp2
    go_ret
    exact ⟨by simp, below_newD hb⟩
  · skip
    cases e2 : (on == 0)
    · skip
      go_enter Tryz.func147, Tryz.ntmps147
      go_wp2
      go_region_held3 (fun w' => w'.cell? ⟨w.heap.size, 0, none⟩ = some (.int .i64 1) ∧ w'.cell? ⟨w.heap.size, 1, none⟩ = some (.int .i64 ho) ∧ w'.cell? ⟨w.heap.size, 2, none⟩ = some (.int .i64 hn) ∧ w'.cell? ⟨w.heap.size, 3, none⟩ = some (.int .i64 wh) ∧ w'.cell? ⟨w.heap.size, 4, none⟩ = some (.int .i64 oo) ∧ w'.cell? ⟨w.heap.size, 5, none⟩ = some (.int .i64 on) ∧ w'.cell? ⟨w.heap.size, 6, none⟩ = some (.int .i64 tw) ∧ w'.cell? ⟨w.heap.size, 7, none⟩ = some (.int .i64 tn)) (first | go_keep | exact hS) (first | (go_at_call 163; refine (without_1 ho hn wh oo on tw tn w.heap.size _ ?_).mono ?_; (first | assumption | simp [*]); rintro e w1 ⟨rfl, hS, hb⟩))
      go_wp2
      go_ret
      exact ⟨by simp, below_newD hb⟩
    · skip
      cases e3 : (tw == 0)
      · skip
        go_enter Tryz.func147, Tryz.ntmps147
        go_wp2
        go_region_held3 (fun w' => w'.cell? ⟨w.heap.size, 0, none⟩ = some (.int .i64 1) ∧ w'.cell? ⟨w.heap.size, 1, none⟩ = some (.int .i64 ho) ∧ w'.cell? ⟨w.heap.size, 2, none⟩ = some (.int .i64 hn) ∧ w'.cell? ⟨w.heap.size, 3, none⟩ = some (.int .i64 wh) ∧ w'.cell? ⟨w.heap.size, 4, none⟩ = some (.int .i64 oo) ∧ w'.cell? ⟨w.heap.size, 5, none⟩ = some (.int .i64 on) ∧ w'.cell? ⟨w.heap.size, 6, none⟩ = some (.int .i64 tw) ∧ w'.cell? ⟨w.heap.size, 7, none⟩ = some (.int .i64 tn)) (first | go_keep | exact hS) (first | (go_at_call 163; refine (without_1 ho hn wh oo on tw tn w.heap.size _ ?_).mono ?_; (first | assumption | simp [*]); rintro e w1 ⟨rfl, hS, hb⟩))
        go_wp2
        go_ret
        exact ⟨by simp, below_newD hb⟩
      · skip
        cases e4 : (tn == 0)
        · skip
          go_enter Tryz.func147, Tryz.ntmps147
          go_wp2
          go_region_held3 (fun w' => w'.cell? ⟨w.heap.size, 0, none⟩ = some (.int .i64 1) ∧ w'.cell? ⟨w.heap.size, 1, none⟩ = some (.int .i64 ho) ∧ w'.cell? ⟨w.heap.size, 2, none⟩ = some (.int .i64 hn) ∧ w'.cell? ⟨w.heap.size, 3, none⟩ = some (.int .i64 wh) ∧ w'.cell? ⟨w.heap.size, 4, none⟩ = some (.int .i64 oo) ∧ w'.cell? ⟨w.heap.size, 5, none⟩ = some (.int .i64 on) ∧ w'.cell? ⟨w.heap.size, 6, none⟩ = some (.int .i64 tw) ∧ w'.cell? ⟨w.heap.size, 7, none⟩ = some (.int .i64 tn)) (first | go_keep | exact hS) (first | (go_at_call 163; refine (without_1 ho hn wh oo on tw tn w.heap.size _ ?_).mono ?_; (first | assumption | simp [*]); rintro e w1 ⟨rfl, hS, hb⟩))
          go_wp2
          go_ret
          exact ⟨by simp, below_newD hb⟩
        · skip
          go_enter Tryz.func147, Tryz.ntmps147
          go_wp2
          go_region_held3 (fun w' => w'.cell? ⟨w.heap.size, 0, none⟩ = some (.int .i64 1) ∧ w'.cell? ⟨w.heap.size, 1, none⟩ = some (.int .i64 ho) ∧ w'.cell? ⟨w.heap.size, 2, none⟩ = some (.int .i64 hn) ∧ w'.cell? ⟨w.heap.size, 3, none⟩ = some (.int .i64 wh) ∧ w'.cell? ⟨w.heap.size, 4, none⟩ = some (.int .i64 oo) ∧ w'.cell? ⟨w.heap.size, 5, none⟩ = some (.int .i64 on) ∧ w'.cell? ⟨w.heap.size, 6, none⟩ = some (.int .i64 tw) ∧ w'.cell? ⟨w.heap.size, 7, none⟩ = some (.int .i64 tn)) (first | go_keep | exact hS) (first | (go_at_call 163; refine (without_1 ho hn wh oo on tw tn w.heap.size _ ?_).mono ?_; (first | assumption | simp [*]); rintro e w1 ⟨rfl, hS, hb⟩))
          go_wp2
          go_ret
          exact ⟨by simp, below_newD hb⟩

set_option maxHeartbeats 2000000 in
theorem stray_2 (ho hn wh oo on tw tn : Int) (w : World) :
    Calls Tryz.prog 147 #[.agg #[.int .i64 2, .int .i64 ho, .int .i64 hn, .int .i64 wh, .int .i64 oo, .int .i64 on, .int .i64 tw, .int .i64 tn]] w fun e w' => e = .returned (.bool (!(wh == 0 && tw == 0 && tn == 0))) ∧ Below w.heap.size w w' := by
  cases e1 : (wh == 0)
  · skip
    go_enter Tryz.func147, Tryz.ntmps147
    go_wp2
    go_region_held3 (fun w' => w'.cell? ⟨w.heap.size, 0, none⟩ = some (.int .i64 2) ∧ w'.cell? ⟨w.heap.size, 1, none⟩ = some (.int .i64 ho) ∧ w'.cell? ⟨w.heap.size, 2, none⟩ = some (.int .i64 hn) ∧ w'.cell? ⟨w.heap.size, 3, none⟩ = some (.int .i64 wh) ∧ w'.cell? ⟨w.heap.size, 4, none⟩ = some (.int .i64 oo) ∧ w'.cell? ⟨w.heap.size, 5, none⟩ = some (.int .i64 on) ∧ w'.cell? ⟨w.heap.size, 6, none⟩ = some (.int .i64 tw) ∧ w'.cell? ⟨w.heap.size, 7, none⟩ = some (.int .i64 tn)) (first | go_keep | exact hS) (first | (go_at_call 163; refine (without_2 ho hn wh oo on tw tn w.heap.size _ ?_).mono ?_; (first | assumption | simp [*]); rintro e w1 ⟨rfl, hS, hb⟩))
    go_wp2
    go_ret
    exact ⟨by simp, below_newD hb⟩
  · skip
    cases e2 : (tw == 0)
    · skip
      go_enter Tryz.func147, Tryz.ntmps147
      go_wp2
      go_region_held3 (fun w' => w'.cell? ⟨w.heap.size, 0, none⟩ = some (.int .i64 2) ∧ w'.cell? ⟨w.heap.size, 1, none⟩ = some (.int .i64 ho) ∧ w'.cell? ⟨w.heap.size, 2, none⟩ = some (.int .i64 hn) ∧ w'.cell? ⟨w.heap.size, 3, none⟩ = some (.int .i64 wh) ∧ w'.cell? ⟨w.heap.size, 4, none⟩ = some (.int .i64 oo) ∧ w'.cell? ⟨w.heap.size, 5, none⟩ = some (.int .i64 on) ∧ w'.cell? ⟨w.heap.size, 6, none⟩ = some (.int .i64 tw) ∧ w'.cell? ⟨w.heap.size, 7, none⟩ = some (.int .i64 tn)) (first | go_keep | exact hS) (first | (go_at_call 163; refine (without_2 ho hn wh oo on tw tn w.heap.size _ ?_).mono ?_; (first | assumption | simp [*]); rintro e w1 ⟨rfl, hS, hb⟩))
      go_wp2
      go_ret
      exact ⟨by simp, below_newD hb⟩
    · skip
      cases e3 : (tn == 0)
      · skip
        go_enter Tryz.func147, Tryz.ntmps147
        go_wp2
        go_region_held3 (fun w' => w'.cell? ⟨w.heap.size, 0, none⟩ = some (.int .i64 2) ∧ w'.cell? ⟨w.heap.size, 1, none⟩ = some (.int .i64 ho) ∧ w'.cell? ⟨w.heap.size, 2, none⟩ = some (.int .i64 hn) ∧ w'.cell? ⟨w.heap.size, 3, none⟩ = some (.int .i64 wh) ∧ w'.cell? ⟨w.heap.size, 4, none⟩ = some (.int .i64 oo) ∧ w'.cell? ⟨w.heap.size, 5, none⟩ = some (.int .i64 on) ∧ w'.cell? ⟨w.heap.size, 6, none⟩ = some (.int .i64 tw) ∧ w'.cell? ⟨w.heap.size, 7, none⟩ = some (.int .i64 tn)) (first | go_keep | exact hS) (first | (go_at_call 163; refine (without_2 ho hn wh oo on tw tn w.heap.size _ ?_).mono ?_; (first | assumption | simp [*]); rintro e w1 ⟨rfl, hS, hb⟩))
        go_wp2
        go_ret
        exact ⟨by simp, below_newD hb⟩
      · skip
        go_enter Tryz.func147, Tryz.ntmps147
        go_wp2
        go_region_held3 (fun w' => w'.cell? ⟨w.heap.size, 0, none⟩ = some (.int .i64 2) ∧ w'.cell? ⟨w.heap.size, 1, none⟩ = some (.int .i64 ho) ∧ w'.cell? ⟨w.heap.size, 2, none⟩ = some (.int .i64 hn) ∧ w'.cell? ⟨w.heap.size, 3, none⟩ = some (.int .i64 wh) ∧ w'.cell? ⟨w.heap.size, 4, none⟩ = some (.int .i64 oo) ∧ w'.cell? ⟨w.heap.size, 5, none⟩ = some (.int .i64 on) ∧ w'.cell? ⟨w.heap.size, 6, none⟩ = some (.int .i64 tw) ∧ w'.cell? ⟨w.heap.size, 7, none⟩ = some (.int .i64 tn)) (first | go_keep | exact hS) (first | (go_at_call 163; refine (without_2 ho hn wh oo on tw tn w.heap.size _ ?_).mono ?_; (first | assumption | simp [*]); rintro e w1 ⟨rfl, hS, hb⟩))
        go_wp2
        go_ret
        exact ⟨by simp, below_newD hb⟩

set_option maxHeartbeats 2000000 in
theorem stray_3 (ho hn wh oo on tw tn : Int) (w : World) :
    Calls Tryz.prog 147 #[.agg #[.int .i64 3, .int .i64 ho, .int .i64 hn, .int .i64 wh, .int .i64 oo, .int .i64 on, .int .i64 tw, .int .i64 tn]] w fun e w' => e = .returned (.bool (!(wh == 0 && tw == 0))) ∧ Below w.heap.size w w' := by
  cases e1 : (wh == 0)
  · skip
    go_enter Tryz.func147, Tryz.ntmps147
    go_wp2
    go_region_held3 (fun w' => w'.cell? ⟨w.heap.size, 0, none⟩ = some (.int .i64 3) ∧ w'.cell? ⟨w.heap.size, 1, none⟩ = some (.int .i64 ho) ∧ w'.cell? ⟨w.heap.size, 2, none⟩ = some (.int .i64 hn) ∧ w'.cell? ⟨w.heap.size, 3, none⟩ = some (.int .i64 wh) ∧ w'.cell? ⟨w.heap.size, 4, none⟩ = some (.int .i64 oo) ∧ w'.cell? ⟨w.heap.size, 5, none⟩ = some (.int .i64 on) ∧ w'.cell? ⟨w.heap.size, 6, none⟩ = some (.int .i64 tw) ∧ w'.cell? ⟨w.heap.size, 7, none⟩ = some (.int .i64 tn)) (first | go_keep | exact hS) (first | (go_at_call 163; refine (without_3 ho hn wh oo on tw tn w.heap.size _ ?_).mono ?_; (first | assumption | simp [*]); rintro e w1 ⟨rfl, hS, hb⟩))
    go_wp2
    go_ret
    exact ⟨by simp, below_newD hb⟩
  · skip
    cases e2 : (tw == 0)
    · skip
      go_enter Tryz.func147, Tryz.ntmps147
      go_wp2
      go_region_held3 (fun w' => w'.cell? ⟨w.heap.size, 0, none⟩ = some (.int .i64 3) ∧ w'.cell? ⟨w.heap.size, 1, none⟩ = some (.int .i64 ho) ∧ w'.cell? ⟨w.heap.size, 2, none⟩ = some (.int .i64 hn) ∧ w'.cell? ⟨w.heap.size, 3, none⟩ = some (.int .i64 wh) ∧ w'.cell? ⟨w.heap.size, 4, none⟩ = some (.int .i64 oo) ∧ w'.cell? ⟨w.heap.size, 5, none⟩ = some (.int .i64 on) ∧ w'.cell? ⟨w.heap.size, 6, none⟩ = some (.int .i64 tw) ∧ w'.cell? ⟨w.heap.size, 7, none⟩ = some (.int .i64 tn)) (first | go_keep | exact hS) (first | (go_at_call 163; refine (without_3 ho hn wh oo on tw tn w.heap.size _ ?_).mono ?_; (first | assumption | simp [*]); rintro e w1 ⟨rfl, hS, hb⟩))
      go_wp2
      go_ret
      exact ⟨by simp, below_newD hb⟩
    · skip
      go_enter Tryz.func147, Tryz.ntmps147
      go_wp2
      go_region_held3 (fun w' => w'.cell? ⟨w.heap.size, 0, none⟩ = some (.int .i64 3) ∧ w'.cell? ⟨w.heap.size, 1, none⟩ = some (.int .i64 ho) ∧ w'.cell? ⟨w.heap.size, 2, none⟩ = some (.int .i64 hn) ∧ w'.cell? ⟨w.heap.size, 3, none⟩ = some (.int .i64 wh) ∧ w'.cell? ⟨w.heap.size, 4, none⟩ = some (.int .i64 oo) ∧ w'.cell? ⟨w.heap.size, 5, none⟩ = some (.int .i64 on) ∧ w'.cell? ⟨w.heap.size, 6, none⟩ = some (.int .i64 tw) ∧ w'.cell? ⟨w.heap.size, 7, none⟩ = some (.int .i64 tn)) (first | go_keep | exact hS) (first | (go_at_call 163; refine (without_3 ho hn wh oo on tw tn w.heap.size _ ?_).mono ?_; (first | assumption | simp [*]); rintro e w1 ⟨rfl, hS, hb⟩))
      go_wp2
      go_ret
      exact ⟨by simp, below_newD hb⟩

set_option maxHeartbeats 2000000 in
theorem stray_4 (ho hn wh oo on tw tn : Int) (w : World) :
    Calls Tryz.prog 147 #[.agg #[.int .i64 4, .int .i64 ho, .int .i64 hn, .int .i64 wh, .int .i64 oo, .int .i64 on, .int .i64 tw, .int .i64 tn]] w fun e w' => e = .returned (.bool (!(wh == 0))) ∧ Below w.heap.size w w' := by
  cases e1 : (wh == 0)
  · skip
    go_enter Tryz.func147, Tryz.ntmps147
    go_wp2
    go_region_held3 (fun w' => w'.cell? ⟨w.heap.size, 0, none⟩ = some (.int .i64 4) ∧ w'.cell? ⟨w.heap.size, 1, none⟩ = some (.int .i64 ho) ∧ w'.cell? ⟨w.heap.size, 2, none⟩ = some (.int .i64 hn) ∧ w'.cell? ⟨w.heap.size, 3, none⟩ = some (.int .i64 wh) ∧ w'.cell? ⟨w.heap.size, 4, none⟩ = some (.int .i64 oo) ∧ w'.cell? ⟨w.heap.size, 5, none⟩ = some (.int .i64 on) ∧ w'.cell? ⟨w.heap.size, 6, none⟩ = some (.int .i64 tw) ∧ w'.cell? ⟨w.heap.size, 7, none⟩ = some (.int .i64 tn)) (first | go_keep | exact hS) (first | (go_at_call 163; refine (without_4 ho hn wh oo on tw tn w.heap.size _ ?_).mono ?_; (first | assumption | simp [*]); rintro e w1 ⟨rfl, hS, hb⟩))
    go_wp2
    go_ret
    exact ⟨by simp, below_newD hb⟩
  · skip
    go_enter Tryz.func147, Tryz.ntmps147
    go_wp2
    go_region_held3 (fun w' => w'.cell? ⟨w.heap.size, 0, none⟩ = some (.int .i64 4) ∧ w'.cell? ⟨w.heap.size, 1, none⟩ = some (.int .i64 ho) ∧ w'.cell? ⟨w.heap.size, 2, none⟩ = some (.int .i64 hn) ∧ w'.cell? ⟨w.heap.size, 3, none⟩ = some (.int .i64 wh) ∧ w'.cell? ⟨w.heap.size, 4, none⟩ = some (.int .i64 oo) ∧ w'.cell? ⟨w.heap.size, 5, none⟩ = some (.int .i64 on) ∧ w'.cell? ⟨w.heap.size, 6, none⟩ = some (.int .i64 tw) ∧ w'.cell? ⟨w.heap.size, 7, none⟩ = some (.int .i64 tn)) (first | go_keep | exact hS) (first | (go_at_call 163; refine (without_4 ho hn wh oo on tw tn w.heap.size _ ?_).mono ?_; (first | assumption | simp [*]); rintro e w1 ⟨rfl, hS, hb⟩))
    go_wp2
    go_ret
    exact ⟨by simp, below_newD hb⟩

theorem hasStray_c (r : RuleI) (hk : 1 ≤ r.k ∧ r.k ≤ 4) (w : World) :
    Calls Tryz.prog 147 #[.agg #[.int .i64 r.k, .int .i64 r.ho, .int .i64 r.hn, .int .i64 r.w, .int .i64 r.oo, .int .i64 r.on, .int .i64 r.to, .int .i64 r.tn]] w fun e w' =>
      e = .returned (.bool (!bareB r)) ∧ Below w.heap.size w w' := by
  obtain ⟨k, ho, hn, wh, oo, on, tw, tn⟩ := r
  simp only at hk ⊢
  have hk' : k = 1 ∨ k = 2 ∨ k = 3 ∨ k = 4 := by omega
  rcases hk' with rfl | rfl | rfl | rfl
  · exact stray_1 ho hn wh oo on tw tn w
  · exact stray_2 ho hn wh oo on tw tn w
  · exact stray_3 ho hn wh oo on tw tn w
  · exact stray_4 ho hn wh oo on tw tn w

end Go.Proofs.YtnfolmjdicfobaaGreatDoor
