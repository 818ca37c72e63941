/-
  CONTRACTS: spec.l2Roles, spec.RolesIn.
  Conditions: each contract bears its own.
  CONTRACTS: slices.Index and slices.Contains over rules.
  Conditions: each contract bears its own.
  CONTRACTS on rules in impl: bodyFault, kinds 1 to 3.
  Conditions: each contract bears its own.
  CONTRACTS on rules in impl: bodyFault, kind 4.
  Conditions: each contract bears its own.
-/
import Derived.Test.YtpeddanicenohaaGreatRol2
import Derived.Test.YtpeddanicenohaaGreatPol4
import Derived.Test.YtpeddanicenohaaGreatPol1
import Derived.Test.YtpeddanicenohaaGreatRule3
namespace Go.Proofs.YtpeddanicenohaaGreat
open Go.RowKit
set_option linter.unusedVariables false
set_option linter.unusedSimpArgs false

/-- The same members. -/
def SameM (ys : List RoI) (xs : List RoI) : Prop := ∀ x, x ∈ ys ↔ x ∈ xs

theorem SameM.put {ys zs xs : List RoI} {r : RoI} (h : SameM zs xs) (k : ∀ x, x ∈ ys ↔ x = r ∨ x ∈ zs) : SameM ys (xs ++ [r]) := fun x => by
  rw [k x, h x, List.mem_append]
  simp
  constructor
  · rintro (h | h)
    · exact .inr h
    · exact .inl h
  · rintro (h | h)
    · exact .inr h
    · exact .inl h

/-- What stands while the roles are gathered. -/
structure PutS (w wr : World) (v : Value) (xs : List RoI) : Prop where
  ex : ∃ (g m cap : Nat) (ys : List RoI), v = .slice (some ⟨g, 0, none⟩) m cap ∧ m = ys.length ∧ m ≤ xs.length ∧ Owns2 wr w.heap.size (.slice (some ⟨g, 0, none⟩) m cap) ys ∧ SS ys ∧ SameM ys xs
  bel : Below w.heap.size w wr

/-- What a call of RolesIn gives: a code, or the roles, strictly rising, in memory of their own. -/
def GivesR (f : Nat) (a : Option Addr) (n cap : Nat) (c : Int) (ys : List RoI) (w : World) : Prop := Calls Tryz.prog f #[.slice a n cap] w fun e w' => ∃ (a' : Option Addr) (cap' : Nat), e = .returned (.agg #[.int .i64 c, .slice a' ys.length cap']) ∧ Owns2 w' w.heap.size (.slice a' ys.length cap') ys ∧ Below w.heap.size w w'

end Go.Proofs.YtpeddanicenohaaGreat

namespace Go.Proofs.YtpeddanicenohaaGreat
open Go.RowKit
set_option linter.unusedVariables false
set_option linter.unusedSimpArgs false
attribute [local go_sem ↓] rule_eql

set_option maxHeartbeats 1000000 in
theorem slIndex_c (a : Option Addr) (n cap : Nat) (zs : List RuleI) (r : RuleI) (w : World) (hn : n ≤ 1048576) (h : RulesIn w a n zs) :
    Calls Tryz.prog 59 #[.slice a n cap, .agg #[.int .i64 r.k, .int .i64 r.ho, .int .i64 r.hn, .int .i64 r.w, .int .i64 r.oo, .int .i64 r.on, .int .i64 r.to, .int .i64 r.tn]] w fun e w' => (∃ i : Int, e = .returned (.int .i64 i) ∧ ((0 ≤ i ∧ r ∈ zs) ∨ (i = -1 ∧ ¬ r ∈ zs))) ∧ Below w.heap.size w w' := by
  have H : Hid (RulesIn w a n zs) := h
  have hz : Hid (zs.length = n) := h.1
  clear h
  have hn' : (n : Int) ≤ 1048576 := by omega
  have HB : Hid (RuleAt (w.alloc (.cells #[.int .i64 r.k, .int .i64 r.ho, .int .i64 r.hn, .int .i64 r.w, .int .i64 r.oo, .int .i64 r.on, .int .i64 r.to, .int .i64 r.tn] 35)) w.heap.size 0 r) := RuleAt.new w r _
  go_enter Tryz.func59, Tryz.ntmps59
  go_wp2
  go_loopw [8] (fun i wr => ∃ k : Nat, k ≤ n ∧ i = .int .i64 (k : Int) ∧ ¬ r ∈ zs.take k ∧ ∃ m, wr = (w.alloc (.cells #[.int .i64 r.k, .int .i64 r.ho, .int .i64 r.hn, .int .i64 r.w, .int .i64 r.oo, .int .i64 r.on, .int .i64 r.to, .int .i64 r.tn] 35)).drewN m) (fun i _ => n - (intOf i).toNat)
  case atStart => exact ⟨0, Nat.zero_le _, rfl, by simp, 0, rfl⟩
  case round =>
    obtain ⟨k, hk, rfl, hm, m, rfl⟩ := hrel
    have HM : Hid (¬ r ∈ zs.take k) := hm
    clear hm
    by_cases hlt : k < n
    · obtain ⟨b, off, s, rfl, hs, hr⟩ := H.out.at hlt
      have HS : Hid (zs[k]? = some s) := hs
      clear hs
      have hb : b < w.heap.size := World.block_lt_of_cell? w ⟨b, off + k * 8, none⟩ hr.1
      obtain ⟨h0, h1, h2, h3, h4, h5, h6, h7⟩ := hr
      obtain ⟨b0, b1, b2, b3, b4, b5, b6, b7⟩ := HB.out
      simp only [Nat.zero_add] at b0 b1 b2 b3 b4 b5 b6 b7
      have hlt' : (k : Int) < (n : Int) := by omega
      cases hsame : sameB r s
      · have HF : Hid (sameB r s = false) := hsame
        have HN : Hid (¬ r ∈ zs.take (k + 1)) := by
          show ¬ r ∈ zs.take (k + 1)
          rw [mem_take_iff]
          rintro ⟨j, hj, hjs⟩
          by_cases e : j = k
          · subst e
            rw [HS.out] at hjs
            simp [sameB] at hsame
            exact hsame (Option.some.inj hjs).symm
          · exact HM.out ((mem_take_iff _ _ _).2 ⟨j, by omega, hjs⟩)
        clear hsame
        have hsame : sameB r s = false := HF.out
        go_wp2
        go_quiet (fail)
        go_wp2
        exact ⟨⟨k + 1, by omega, by go_num, HN.out, _, rfl⟩, by simp [intOf]; omega⟩
      · have HI : Hid (r ∈ zs) := by
          show r ∈ zs
          simp [sameB] at hsame
          subst hsame
          exact List.mem_of_getElem? HS.out
        go_wp2
        go_quiet (fail)
        go_wp2
        go_ret
        exact ⟨⟨_, rfl, Or.inl ⟨by omega, HI.out⟩⟩, by first | exact bdN ((Below.refl _ _).alloc (Nat.le_refl _) _) _ | exact bdN (bdN ((Below.refl _ _).alloc (Nat.le_refl _) _) _) _⟩
    · have hkn : k = n := by omega
      subst hkn
      have HN : Hid (¬ r ∈ zs) := by
        have := HM.out
        rw [List.take_of_length_le (by rw [hz.out]; exact Nat.le_refl _)] at this
        exact this
      go_wp2
      go_ret
      exact ⟨⟨_, rfl, Or.inr ⟨rfl, HN.out⟩⟩, bdN (by go_grown) _⟩

set_option maxHeartbeats 400000 in
theorem slContains_c (a : Option Addr) (n cap : Nat) (zs : List RuleI) (r : RuleI) (w : World) (hn : n ≤ 1048576) (h : RulesIn w a n zs) :
    Calls Tryz.prog 36 #[.slice a n cap, .agg #[.int .i64 r.k, .int .i64 r.ho, .int .i64 r.hn, .int .i64 r.w, .int .i64 r.oo, .int .i64 r.on, .int .i64 r.to, .int .i64 r.tn]] w fun e w' => e = .returned (.bool (decide (r ∈ zs))) ∧ Below w.heap.size w w' := by
  have H : Hid (RulesIn (w.alloc (.cells #[.int .i64 r.k, .int .i64 r.ho, .int .i64 r.hn, .int .i64 r.w, .int .i64 r.oo, .int .i64 r.on, .int .i64 r.to, .int .i64 r.tn] 35)) a n zs) := h.below ((Below.refl _ _).alloc (Nat.le_refl _) _)
  clear h
  have HB : Hid (RuleAt (w.alloc (.cells #[.int .i64 r.k, .int .i64 r.ho, .int .i64 r.hn, .int .i64 r.w, .int .i64 r.oo, .int .i64 r.on, .int .i64 r.to, .int .i64 r.tn] 35)) w.heap.size 0 r) := RuleAt.new w r _
  obtain ⟨b0, b1, b2, b3, b4, b5, b6, b7⟩ := HB.out
  simp only [Nat.zero_add] at b0 b1 b2 b3 b4 b5 b6 b7
  go_enter Tryz.func36, Tryz.ntmps36
  go_wp2_with fail
  refine (slIndex_c a n cap zs r _ hn H.out).mono ?_
  rintro e w1 ⟨⟨i, rfl, hi⟩, hb1⟩
  have HX : Hid (decide (0 ≤ i) = decide (r ∈ zs)) := by
    show decide (0 ≤ i) = decide (r ∈ zs)
    rcases hi with ⟨h1, h2⟩ | ⟨rfl, h2⟩
    · simp [h1, h2]
    · simp [h2]
  clear hi b0 b1 b2 b3 b4 b5 b6 b7
  go_wp2
  go_ret
  exact ⟨by rw [HX.out]; rfl, below_new hb1⟩

end Go.Proofs.YtpeddanicenohaaGreat

namespace Go.Proofs.YtpeddanicenohaaGreat
open Go.RowKit
set_option linter.unusedVariables false
set_option linter.unusedSimpArgs false
attribute [local go_sem] ta11 ta12 ta13 ta14 ta21 ta22 ta23 ta24 ta31 ta32 ta33 ta34 ta41 ta42 ta43 ta44

set_option maxHeartbeats 400000 in
theorem bodyFault_1 (p : Int) (w : World) :
    Calls Tryz.prog 58 #[.iface 99 (.agg #[.int .i64 p])] w fun e w' =>
      e = .returned (.int .i64 (if prinB p = true then 0 else 3)) ∧ Below w.heap.size w w' := by
  cases hp : prinB p
  all_goals
    go_enter Tryz.func58, Tryz.ntmps58
    go_wp2
    refine wp_loop_rounds 1 ?_
    rw [rounds_succ]
    go_wp2_with (first | (go_at_call 15; refine (isPrin_c _ _).mono ?_; rintro e w1 ⟨rfl, rfl⟩; rw [hp]) | go_in)
    go_ret
    exact ⟨rfl, by go_grown⟩

set_option maxHeartbeats 400000 in
theorem bodyFault_2 (o n : Int) (w : World) :
    Calls Tryz.prog 58 #[.iface 101 (.agg #[.int .i64 o, .int .i64 n])] w fun e w' =>
      e = .returned (.int .i64 (if roleB o n = true then 0 else 3)) ∧ Below w.heap.size w w' := by
  cases hr : roleB o n
  · have hc : roleCode o n = 3 := by simp [roleCode, hr]
    go_enter Tryz.func58, Tryz.ntmps58
    go_wp2
    refine wp_loop_rounds 2 ?_
    rw [rounds_succ]
    go_wp2_with (first | (go_at_call 14; refine (implRoleFault_c _ _ _).mono ?_; rintro e w1 ⟨rfl, hb1⟩; rw [hc]) | go_in)
    go_ret
    exact ⟨rfl, below_new3 hb1⟩
  · have hc : roleCode o n = 0 := by simp [roleCode, hr]
    go_enter Tryz.func58, Tryz.ntmps58
    go_wp2
    refine wp_loop_rounds 2 ?_
    rw [rounds_succ]
    go_wp2_with (first | (go_at_call 14; refine (implRoleFault_c _ _ _).mono ?_; rintro e w1 ⟨rfl, hb1⟩; rw [hc]) | go_in)
    rw [rounds_succ]
    go_wp2
    go_ret
    exact ⟨rfl, below_new3 hb1⟩

set_option maxHeartbeats 400000 in
theorem bodyFault_3 (o n m : Int) (w : World) :
    Calls Tryz.prog 58 #[.iface 103 (.agg #[.int .i64 o, .int .i64 n, .int .i64 m])] w fun e w' =>
      e = .returned (.int .i64 (if (roleB o n && nameB m) = true then 0 else 3)) ∧ Below w.heap.size w w' := by
  cases hr : roleB o n
  · have hc : roleCode o n = 3 := by simp [roleCode, hr]
    go_enter Tryz.func58, Tryz.ntmps58
    go_wp2
    refine wp_loop_rounds 2 ?_
    rw [rounds_succ]
    go_wp2_with (first | (go_at_call 14; refine (implRoleFault_c _ _ _).mono ?_; rintro e w1 ⟨rfl, hb1⟩; rw [hc]) | go_in)
    go_ret
    exact ⟨rfl, below_new3 hb1⟩
  · have hc : roleCode o n = 0 := by simp [roleCode, hr]
    cases hp : nameB m
    all_goals
      go_enter Tryz.func58, Tryz.ntmps58
      go_wp2
      refine wp_loop_rounds 2 ?_
      rw [rounds_succ]
      go_wp2_with (first | (go_at_call 14; refine (implRoleFault_c _ _ _).mono ?_; rintro e w1 ⟨rfl, hb1⟩; rw [hc]) | go_in)
      rw [rounds_succ]
      go_wp2_with (first | (go_at_call 37; refine (isName_c _ _).mono ?_; rintro e w2 ⟨rfl, rfl⟩; rw [hp]) | go_in)
      go_ret
      exact ⟨rfl, (below_new3 hb1).alloc (below_new3 hb1).size _⟩

end Go.Proofs.YtpeddanicenohaaGreat

namespace Go.Proofs.YtpeddanicenohaaGreat
open Go.RowKit
set_option linter.unusedVariables false
set_option linter.unusedSimpArgs false
attribute [local go_sem] ta11 ta12 ta13 ta14 ta21 ta22 ta23 ta24 ta31 ta32 ta33 ta34 ta41 ta42 ta43 ta44

set_option maxHeartbeats 400000 in
theorem bodyFault_4 (o n p m : Int) (w : World) :
    Calls Tryz.prog 58 #[.iface 106 (.agg #[.int .i64 o, .int .i64 n, .int .i64 p, .int .i64 m])] w fun e w' =>
      e = .returned (.int .i64 (if (roleB o n && roleB p m) = true then 0 else 3)) ∧ Below w.heap.size w w' := by
  cases hr : roleB o n
  · have hc : roleCode o n = 3 := by simp [roleCode, hr]
    go_enter Tryz.func58, Tryz.ntmps58
    go_wp2
    refine wp_loop_rounds 3 ?_
    rw [rounds_succ]
    go_wp2_with (first | (go_at_call 14; refine (implRoleFault_c _ _ _).mono ?_; rintro e w1 ⟨rfl, hb1⟩; rw [hc]) | go_in)
    go_ret
    exact ⟨rfl, below_new3 hb1⟩
  · have hc : roleCode o n = 0 := by simp [roleCode, hr]
    cases hp : roleB p m
    all_goals
      have hd : roleCode p m = if roleB p m = true then 0 else 3 := rfl
      simp only [hp, if_true, Bool.false_eq_true, if_false] at hd
      go_enter Tryz.func58, Tryz.ntmps58
      go_wp2
      refine wp_loop_rounds 3 ?_
      rw [rounds_succ]
      go_wp2_with (first | (go_at_call 14; refine (implRoleFault_c _ _ _).mono ?_; rintro e w1 ⟨rfl, hb1⟩; rw [hc]) | go_in)
      rw [rounds_succ]
      have hz1 := hb1.size
      simp only [World.size_alloc] at hz1
      have hlt : w.heap.size + 1 < w1.heap.size := by omega
      have q0 : w1.cell? ⟨w.heap.size + 1, 2, none⟩ = some (.int .i64 p) := by rw [(bcell2 hb1).1 (w.heap.size + 1) 2 (by simp)]; go_cell
      have q1 : w1.cell? ⟨w.heap.size + 1, 3, none⟩ = some (.int .i64 m) := by rw [(bcell2 hb1).1 (w.heap.size + 1) 3 (by simp)]; go_cell
      go_wp2_with (first | (go_at_call 14; refine (implRoleFault_c _ _ _).mono ?_; rintro e w2 ⟨rfl, hb2⟩; rw [hd]) | go_in)
      first
        | (go_ret; exact ⟨rfl, (below_new3 hb1).trans ((below_new hb2).mono (by omega))⟩)
        | (rw [rounds_succ]; go_wp2; go_ret; exact ⟨rfl, (below_new3 hb1).trans ((below_new hb2).mono (by omega))⟩)

end Go.Proofs.YtpeddanicenohaaGreat
