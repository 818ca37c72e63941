/- Contracts. -/
import Derived.Test.YtfkajnenniapaaaGreatPt09
import Derived.Test.YtfkajnenniapaaaGreatPt10
import Derived.Test.YtfkajnenniapaaaGreatPt08
namespace Go.Proofs.YtfkajnenniapaaaGreat
set_option maxRecDepth 100000
set_option maxHeartbeats 8000000
open Go.RowKit
set_option linter.unusedVariables false
set_option linter.unusedSimpArgs false

section
attribute [local go_sem ↓] rule_eql
theorem slIndex_c (a : Option Addr) (n cap : Nat) (zs : List RuleI) (r : RuleI) (w : World) (hn : n ≤ 1048576) (h : RulesIn w a n zs) :
  Calls Tryz.prog 158 #[.slice a n cap, .agg #[.int .i64 r.k, .int .i64 r.ho, .int .i64 r.hn, .int .i64 r.w, .int .i64 r.oo, .int .i64 r.on, .int .i64 r.to, .int .i64 r.tn]] w fun e w' => (∃ i : Int, e = .returned (.int .i64 i) ∧ ((0 ≤ i ∧ r ∈ zs) ∨ (i = -1 ∧ ¬ r ∈ zs))) ∧ Below w.heap.size w w' := by
 have H : Hid (RulesIn w a n zs) := h
 have hz : Hid (zs.length = n) := h.1
 clear h
 have hn' : (n : Int) ≤ 1048576 := by omega
 have HB : Hid (RuleAt (w.alloc (.cells #[.int .i64 r.k, .int .i64 r.ho, .int .i64 r.hn, .int .i64 r.w, .int .i64 r.oo, .int .i64 r.on, .int .i64 r.to, .int .i64 r.tn] 129)) w.heap.size 0 r) := RuleAt.new w r _
 go_enter Tryz.func158, Tryz.ntmps158
 go_wp2
 go_loopw [8] (fun i wr => ∃ k : Nat, k ≤ n ∧ i = .int .i64 (k : Int) ∧ ¬ r ∈ zs.take k ∧ ∃ m, wr = (w.alloc (.cells #[.int .i64 r.k, .int .i64 r.ho, .int .i64 r.hn, .int .i64 r.w, .int .i64 r.oo, .int .i64 r.on, .int .i64 r.to, .int .i64 r.tn] 129)).drewN m) (fun i _ => n - (intOf i).toNat)
 case atStart => exact ⟨0, Nat.zero_le _, rfl, by simp, 0, rfl⟩
 case round =>
  obtain ⟨k, hk, rfl, hm, m, rfl⟩ := hrel
  have HM : Hid (¬ r ∈ zs.take k) := hm
  clear hm
  by_cases hlt : k < n
  ·obtain ⟨b, off, s, rfl, hs, hr⟩ := H.out.at hlt
   have HS : Hid (zs[k]? = some s) := hs
   clear hs
   have hb : b < w.heap.size := zL w ⟨b, off + k * 8, none⟩ hr.1
   obtain ⟨h0, h1, h2, h3, h4, h5, h6, h7⟩ := hr
   obtain ⟨b0, b1, b2, b3, b4, b5, b6, b7⟩ := HB.out
   simp only [Nat.zero_add] at b0 b1 b2 b3 b4 b5 b6 b7
   have hlt' : (k : Int) < (n : Int) := by omega
   cases hsame : sameB r s
   ·have HF : Hid (sameB r s = false) := hsame
    have HN : Hid (¬ r ∈ zs.take (k + 1)) := by
     show ¬ r ∈ zs.take (k + 1)
     rw [mem_take_iff]
     rintro ⟨j, hj, hjs⟩
     by_cases e : j = k
     ·subst e
      rw [HS.out] at hjs
      simp [sameB] at hsame
      exact hsame (Option.some.inj hjs).symm
     ·exact HM.out ((mem_take_iff _ _ _).2 ⟨j, by omega, hjs⟩)
    clear hsame
    have hsame : sameB r s = false := HF.out
    go_wp2
    go_quiet (fail)
    go_wp2
    exact ⟨⟨k + 1, by omega, by go_num, HN.out, _, rfl⟩, by simp [intOf]; omega⟩
   ·have HI : Hid (r ∈ zs) := by
     show r ∈ zs
     simp [sameB] at hsame
     subst hsame
     exact List.mem_of_getElem? HS.out
    go_wp2
    go_quiet (fail)
    go_wp2
    go_ret
    exact ⟨⟨_, rfl, Or.inl ⟨by omega, HI.out⟩⟩, by first | exact bdN (zN) _ | exact bdN (bdN (zN) _) _⟩
  ·have hkn : k = n := by omega
   subst hkn
   have HN : Hid (¬ r ∈ zs) := by
    have := HM.out
    rw [List.take_of_length_le (by rw [hz.out]; exact Nat.le_refl _)] at this
    exact this
   go_wp2
   go_ret
   exact ⟨⟨_, rfl, Or.inr ⟨rfl, HN.out⟩⟩, bdN (by go_grown) _⟩
theorem slContains_c (a : Option Addr) (n cap : Nat) (zs : List RuleI) (r : RuleI) (w : World) (hn : n ≤ 1048576) (h : RulesIn w a n zs) :
  Calls Tryz.prog 148 #[.slice a n cap, .agg #[.int .i64 r.k, .int .i64 r.ho, .int .i64 r.hn, .int .i64 r.w, .int .i64 r.oo, .int .i64 r.on, .int .i64 r.to, .int .i64 r.tn]] w fun e w' => e = .returned (.bool (decide (r ∈ zs))) ∧ Below w.heap.size w w' := by
 have H : Hid (RulesIn (w.alloc (.cells #[.int .i64 r.k, .int .i64 r.ho, .int .i64 r.hn, .int .i64 r.w, .int .i64 r.oo, .int .i64 r.on, .int .i64 r.to, .int .i64 r.tn] 129)) a n zs) := h.below (zN)
 clear h
 have HB : Hid (RuleAt (w.alloc (.cells #[.int .i64 r.k, .int .i64 r.ho, .int .i64 r.hn, .int .i64 r.w, .int .i64 r.oo, .int .i64 r.on, .int .i64 r.to, .int .i64 r.tn] 129)) w.heap.size 0 r) := RuleAt.new w r _
 obtain ⟨b0, b1, b2, b3, b4, b5, b6, b7⟩ := HB.out
 simp only [Nat.zero_add] at b0 b1 b2 b3 b4 b5 b6 b7
 go_enter Tryz.func148, Tryz.ntmps148
 go_wp2_with fail
 refine (slIndex_c a n cap zs r _ hn H.out).mono ?_
 rintro e w1 ⟨⟨i, rfl, hi⟩, hb1⟩
 have HX : Hid (decide (0 ≤ i) = decide (r ∈ zs)) := by
  show decide (0 ≤ i) = decide (r ∈ zs)
  rcases hi with ⟨h1, h2⟩ | ⟨rfl, h2⟩
  ·simp [h1, h2]
  ·simp [h2]
 clear hi b0 b1 b2 b3 b4 b5 b6 b7
 go_wp2
 go_ret
 exact ⟨by rw [HX.out]; rfl, below_new hb1⟩
end

section
attribute [local go_sem] ta11 ta12 ta13 ta14 ta21 ta22 ta23 ta24 ta31 ta32 ta33 ta34 ta41 ta42 ta43 ta44
theorem bodyFault_4 (o n p m : Int) (w : World) :
  Calls Tryz.prog 157 #[.iface 238 (.agg #[.int .i64 o, .int .i64 n, .int .i64 p, .int .i64 m])] w fun e w' =>
   e = .returned (.int .i64 (if (roleB o n && roleB p m) = true then 0 else 3)) ∧ Below w.heap.size w w' := by
 cases hr : roleB o n
 ·have hc : roleCode o n = 3 := by simp [roleCode, hr]
  go_enter Tryz.func157, Tryz.ntmps157
  go_wp2
  refine wp_loop_rounds 3 ?_
  rw [rounds_succ]
  go_wp2_with (first | (go_at_call 155; refine (implRoleFault_c _ _ _).mono ?_; rintro e w1 ⟨rfl, hb1⟩; rw [hc]) | go_in)
  go_ret
  exact ⟨rfl, below_new3 hb1⟩
 ·have hc : roleCode o n = 0 := by simp [roleCode, hr]
  cases hp : roleB p m
  all_goals
   have hd : roleCode p m = if roleB p m = true then 0 else 3 := rfl
   simp only [hp, if_true, Bool.false_eq_true, if_false] at hd
   go_enter Tryz.func157, Tryz.ntmps157
   go_wp2
   refine wp_loop_rounds 3 ?_
   rw [rounds_succ]
   go_wp2_with (first | (go_at_call 155; refine (implRoleFault_c _ _ _).mono ?_; rintro e w1 ⟨rfl, hb1⟩; rw [hc]) | go_in)
   rw [rounds_succ]
   have hz1 := hb1.size
   simp only [World.size_alloc] at hz1
   have hlt : w.heap.size + 1 < w1.heap.size := by omega
   have q0 : w1.cell? ⟨w.heap.size + 1, 2, none⟩ = some (.int .i64 p) := by rw [(bcell2 hb1).1 (w.heap.size + 1) 2 (by simp)]; go_cell
   have q1 : w1.cell? ⟨w.heap.size + 1, 3, none⟩ = some (.int .i64 m) := by rw [(bcell2 hb1).1 (w.heap.size + 1) 3 (by simp)]; go_cell
   go_wp2_with (first | (go_at_call 155; refine (implRoleFault_c _ _ _).mono ?_; rintro e w2 ⟨rfl, hb2⟩; rw [hd]) | go_in)
   first
    | (go_ret; exact ⟨rfl, (below_new3 hb1).trans ((below_new hb2).mono (by omega))⟩)
    | (rw [rounds_succ]; go_wp2; go_ret; exact ⟨rfl, (below_new3 hb1).trans ((below_new hb2).mono (by omega))⟩)
end

theorem ruleFault_in (r : RuleI) (t : TypeId) (v : Value) (w : World) (hk : 1 ≤ r.k ∧ r.k ≤ 4)
  (HO : Hid (∀ w : World, Calls Tryz.prog 154 #[.agg #[.int .i64 r.k, .int .i64 r.ho, .int .i64 r.hn, .int .i64 r.w, .int .i64 r.oo, .int .i64 r.on, .int .i64 r.to, .int .i64 r.tn]] w fun e w' => e = .returned (.iface t v) ∧ Below w.heap.size w w'))
  (HF : Hid (∀ w : World, Calls Tryz.prog 157 #[.iface t v] w fun e w' => e = .returned (.int .i64 (if hasB r = true then 0 else 3)) ∧ Below w.heap.size w w')) :
  Calls Tryz.prog 147 #[.agg #[.int .i64 r.k, .int .i64 r.ho, .int .i64 r.hn, .int .i64 r.w, .int .i64 r.oo, .int .i64 r.on, .int .i64 r.to, .int .i64 r.tn]] w fun e w' => e = .returned (.int .i64 (ruleCode r)) ∧ Below w.heap.size w w' := by
 have hX : Hid (RuleAt (w.alloc (Obj.cells #[.int .i64 r.k, .int .i64 r.ho, .int .i64 r.hn, .int .i64 r.w, .int .i64 r.oo, .int .i64 r.on, .int .i64 r.to, .int .i64 r.tn] 129)) w.heap.size 0 r) := RuleAt.new w r _
 cases hr : roleB r.ho r.hn
 ·have E : Hid (ruleCode r = 3) := by show ruleCode r = 3; simp [ruleCode, hk, hr]
  have hc : roleCode r.ho r.hn = 3 := by simp [roleCode, hr]
  have hb : Below (w.alloc (Obj.cells #[.int .i64 r.k, .int .i64 r.ho, .int .i64 r.hn, .int .i64 r.w, .int .i64 r.oo, .int .i64 r.on, .int .i64 r.to, .int .i64 r.tn] 129)).heap.size (w.alloc (Obj.cells #[.int .i64 r.k, .int .i64 r.ho, .int .i64 r.hn, .int .i64 r.w, .int .i64 r.oo, .int .i64 r.on, .int .i64 r.to, .int .i64 r.tn] 129)) (w.alloc (Obj.cells #[.int .i64 r.k, .int .i64 r.ho, .int .i64 r.hn, .int .i64 r.w, .int .i64 r.oo, .int .i64 r.on, .int .i64 r.to, .int .i64 r.tn] 129)) := Below.refl _ _
  obtain ⟨h0, h1, h2, h3, h4, h5, h6, h7⟩ := hX.out
  simp only [Nat.zero_add] at h0 h1 h2 h3 h4 h5 h6 h7
  go_enter Tryz.func147, Tryz.ntmps147
  go_wp2_with (first | (go_at_call 154; refine (HO.out _).mono ?_; rintro e w1 ⟨rfl, hb1⟩; replace hb := hb.trans (hb1.mono hb.size); clear h0 h1 h2 h3 h4 h5 h6 h7 hb1; obtain ⟨h0, h1, h2, h3, h4, h5, h6, h7⟩ := hX.out.below hb; simp only [Nat.zero_add] at h0 h1 h2 h3 h4 h5 h6 h7) | (go_at_call 155; refine (implRoleFault_c _ _ _).mono ?_; rintro e w1 ⟨rfl, hb1⟩; replace hb := hb.trans (hb1.mono hb.size); clear h0 h1 h2 h3 h4 h5 h6 h7 hb1; obtain ⟨h0, h1, h2, h3, h4, h5, h6, h7⟩ := hX.out.below hb; simp only [Nat.zero_add] at h0 h1 h2 h3 h4 h5 h6 h7; rw [hc]))
  go_ret
  exact ⟨by rw [E.out]; rfl, below_new hb⟩
 ·have hc : roleCode r.ho r.hn = 0 := by simp [roleCode, hr]
  cases hbr : bareB r
  ·have E : Hid (ruleCode r = 1) := by show ruleCode r = 1; simp [ruleCode, hk, hr, hbr]
   have hb : Below (w.alloc (Obj.cells #[.int .i64 r.k, .int .i64 r.ho, .int .i64 r.hn, .int .i64 r.w, .int .i64 r.oo, .int .i64 r.on, .int .i64 r.to, .int .i64 r.tn] 129)).heap.size (w.alloc (Obj.cells #[.int .i64 r.k, .int .i64 r.ho, .int .i64 r.hn, .int .i64 r.w, .int .i64 r.oo, .int .i64 r.on, .int .i64 r.to, .int .i64 r.tn] 129)) (w.alloc (Obj.cells #[.int .i64 r.k, .int .i64 r.ho, .int .i64 r.hn, .int .i64 r.w, .int .i64 r.oo, .int .i64 r.on, .int .i64 r.to, .int .i64 r.tn] 129)) := Below.refl _ _
   obtain ⟨h0, h1, h2, h3, h4, h5, h6, h7⟩ := hX.out
   simp only [Nat.zero_add] at h0 h1 h2 h3 h4 h5 h6 h7
   go_enter Tryz.func147, Tryz.ntmps147
   go_wp2_with (first | (go_at_call 154; refine (HO.out _).mono ?_; rintro e w1 ⟨rfl, hb1⟩; replace hb := hb.trans (hb1.mono hb.size); clear h0 h1 h2 h3 h4 h5 h6 h7 hb1; obtain ⟨h0, h1, h2, h3, h4, h5, h6, h7⟩ := hX.out.below hb; simp only [Nat.zero_add] at h0 h1 h2 h3 h4 h5 h6 h7) | (go_at_call 155; refine (implRoleFault_c _ _ _).mono ?_; rintro e w1 ⟨rfl, hb1⟩; replace hb := hb.trans (hb1.mono hb.size); clear h0 h1 h2 h3 h4 h5 h6 h7 hb1; obtain ⟨h0, h1, h2, h3, h4, h5, h6, h7⟩ := hX.out.below hb; simp only [Nat.zero_add] at h0 h1 h2 h3 h4 h5 h6 h7; rw [hc]) | (go_at_call 156; refine (hasStray_c r hk _).mono ?_; rintro e w1 ⟨rfl, hb1⟩; replace hb := hb.trans (hb1.mono hb.size); clear h0 h1 h2 h3 h4 h5 h6 h7 hb1; obtain ⟨h0, h1, h2, h3, h4, h5, h6, h7⟩ := hX.out.below hb; simp only [Nat.zero_add] at h0 h1 h2 h3 h4 h5 h6 h7; rw [hbr]))
   go_ret
   exact ⟨by rw [E.out]; rfl, below_new hb⟩
  ·have E : Hid (ruleCode r = if hasB r = true then 0 else 3) := by show ruleCode r = if hasB r = true then 0 else 3; simp [ruleCode, hk, hr, hbr]; cases hasB r <;> rfl
   obtain ⟨c, hcc⟩ : ∃ c : Int, c = if hasB r = true then 0 else 3 := ⟨_, rfl⟩
   rw [← hcc] at HF E
   clear hcc
   have hb : Below (w.alloc (Obj.cells #[.int .i64 r.k, .int .i64 r.ho, .int .i64 r.hn, .int .i64 r.w, .int .i64 r.oo, .int .i64 r.on, .int .i64 r.to, .int .i64 r.tn] 129)).heap.size (w.alloc (Obj.cells #[.int .i64 r.k, .int .i64 r.ho, .int .i64 r.hn, .int .i64 r.w, .int .i64 r.oo, .int .i64 r.on, .int .i64 r.to, .int .i64 r.tn] 129)) (w.alloc (Obj.cells #[.int .i64 r.k, .int .i64 r.ho, .int .i64 r.hn, .int .i64 r.w, .int .i64 r.oo, .int .i64 r.on, .int .i64 r.to, .int .i64 r.tn] 129)) := Below.refl _ _
   obtain ⟨h0, h1, h2, h3, h4, h5, h6, h7⟩ := hX.out
   simp only [Nat.zero_add] at h0 h1 h2 h3 h4 h5 h6 h7
   go_enter Tryz.func147, Tryz.ntmps147
   go_wp2_with (first | (go_at_call 154; refine (HO.out _).mono ?_; rintro e w1 ⟨rfl, hb1⟩; replace hb := hb.trans (hb1.mono hb.size); clear h0 h1 h2 h3 h4 h5 h6 h7 hb1; obtain ⟨h0, h1, h2, h3, h4, h5, h6, h7⟩ := hX.out.below hb; simp only [Nat.zero_add] at h0 h1 h2 h3 h4 h5 h6 h7) | (go_at_call 155; refine (implRoleFault_c _ _ _).mono ?_; rintro e w1 ⟨rfl, hb1⟩; replace hb := hb.trans (hb1.mono hb.size); clear h0 h1 h2 h3 h4 h5 h6 h7 hb1; obtain ⟨h0, h1, h2, h3, h4, h5, h6, h7⟩ := hX.out.below hb; simp only [Nat.zero_add] at h0 h1 h2 h3 h4 h5 h6 h7; rw [hc]) | (go_at_call 156; refine (hasStray_c r hk _).mono ?_; rintro e w1 ⟨rfl, hb1⟩; replace hb := hb.trans (hb1.mono hb.size); clear h0 h1 h2 h3 h4 h5 h6 h7 hb1; obtain ⟨h0, h1, h2, h3, h4, h5, h6, h7⟩ := hX.out.below hb; simp only [Nat.zero_add] at h0 h1 h2 h3 h4 h5 h6 h7; rw [hbr]) | (go_at_call 157; refine (HF.out _).mono ?_; rintro e w1 ⟨rfl, hb1⟩; replace hb := hb.trans (hb1.mono hb.size); clear h0 h1 h2 h3 h4 h5 h6 h7 hb1; obtain ⟨h0, h1, h2, h3, h4, h5, h6, h7⟩ := hX.out.below hb; simp only [Nat.zero_add] at h0 h1 h2 h3 h4 h5 h6 h7))
   go_ret
   exact ⟨by rw [E.out]; rfl, below_new hb⟩
theorem implRuleFault_c (r : RuleI) (w : World) :
  Calls Tryz.prog 147 #[.agg #[.int .i64 r.k, .int .i64 r.ho, .int .i64 r.hn, .int .i64 r.w, .int .i64 r.oo, .int .i64 r.on, .int .i64 r.to, .int .i64 r.tn]] w fun e w' =>
   e = .returned (.int .i64 (ruleCode r)) ∧ Below w.heap.size w w' := by
 by_cases hk : 1 ≤ r.k ∧ r.k ≤ 4
 ·have hk' : r.k = 1 ∨ r.k = 2 ∨ r.k = 3 ∨ r.k = 4 := by omega
  rcases hk' with e | e | e | e
  ·have e2 : hasB r = prinB r.w := by simp [hasB, e]
   exact ruleFault_in r _ _ w hk (bodyOf_1 r e) (fun w => by rw [e2]; exact bodyFault_1 r.w w)
  ·have e2 : hasB r = roleB r.oo r.on := by simp [hasB, e]
   exact ruleFault_in r _ _ w hk (bodyOf_2 r e) (fun w => by rw [e2]; exact bodyFault_2 r.oo r.on w)
  ·have e2 : hasB r = (roleB r.oo r.on && nameB r.tn) := by simp [hasB, e]
   exact ruleFault_in r _ _ w hk (bodyOf_3 r e) (fun w => by rw [e2]; exact bodyFault_3 r.oo r.on r.tn w)
  ·have e2 : hasB r = (roleB r.oo r.on && roleB r.to r.tn) := by simp [hasB, e]
   exact ruleFault_in r _ _ w hk (bodyOf_4 r e) (fun w => by rw [e2]; exact bodyFault_4 r.oo r.on r.to r.tn w)
 ·have E : Hid (ruleCode r = 1) := by show ruleCode r = 1; simp [ruleCode, hk]
  go_enter Tryz.func147, Tryz.ntmps147
  go_wp2_with (first | (go_at_call 154; refine (bodyOf_0 r hk _).mono ?_; rintro e w1 ⟨rfl, hb1⟩))
  go_ret
  exact ⟨by rw [E.out]; rfl, below_new hb1⟩

theorem polFault_many (a : Option Addr) (n cap : Nat) (w : World) (hn : n ≤ 1048576) (h16 : 16 < n) :
  Calls Tryz.prog 132 #[.slice a n cap] w fun e w' => e = .returned (.int .i64 2) ∧ Below w.heap.size w w' := by
 have h' : (16 : Int) < (n : Int) := by omega
 go_enter Tryz.func132, Tryz.ntmps132
 go_wp2
 go_ret
 exact ⟨rfl, Below.refl _ _⟩
theorem polFault_few (a : Option Addr) (n cap : Nat) (zs : List RuleI) (c : Int) (w : World) (h16 : n ≤ 16) (hcap : n ≤ cap) (hcm : cap ≤ maxLen) (h : RulesIn w a n zs) (hc : polTo zs n = c) :
  Calls Tryz.prog 132 #[.slice a n cap] w fun e w' => e = .returned (.int .i64 c) ∧ Below w.heap.size w w' := by
 have H : Hid (RulesIn w a n zs) := h
 have hz : Hid (zs.length = n) := h.1
 have HC : Hid (polTo zs n = c) := hc
 clear h hc
 have h' : ¬ ((16 : Int) < (n : Int)) := by omega
 go_enter Tryz.func132, Tryz.ntmps132
 go_wp2
 go_loopw [11] (fun i wr => ∃ k : Nat, k ≤ n ∧ i = .int .i64 (k : Int) ∧ polTo zs k = 0 ∧ Below w.heap.size w wr) (fun i _ => n - (intOf i).toNat)
 case atStart => exact ⟨0, Nat.zero_le _, rfl, rfl, Below.refl _ _⟩
 case round =>
  obtain ⟨k, hk, rfl, hp, hnx⟩ := hrel
  have HP : Hid (polTo zs k = 0) := hp
  clear hp
  by_cases hlt : k < n
  ·obtain ⟨b, off, r, rfl, hs, hr⟩ := H.out.at hlt
   have HS : Hid (zs[k]? = some r) := hs
   clear hs
   obtain ⟨h0, h1, h2, h3, h4, h5, h6, h7⟩ := hr.below hnx
   clear hr
   have hlt' : (k : Int) < (n : Int) := by omega
   go_wp2_with fail
   refine (implRuleFault_c r _).mono ?_
   rintro e w1 ⟨rfl, hb1⟩
   have hz1 := hb1.size
   simp only [World.size_alloc] at hz1
   have hnx1 : Below w.heap.size w w1 := hnx.trans ((below_new hb1).mono hnx.size)
   have hlt1 : wr.heap.size < w1.heap.size := by omega
   have hR : Hid (RuleAt w1 wr.heap.size 0 r) := (RuleAt.new wr r _).below hb1
   clear h0 h1 h2 h3 h4 h5 h6 h7 hb1
   by_cases hcode : ruleCode r = 0
   ·rw [hcode]
    have HO : Hid (ruleCode r = 0) := hcode
    clear hcode
    have HX : Hid (RulesIn w1 (some ⟨b, off, none⟩) k (zs.take k)) := (H.out.cut hk).below hnx1
    have hkc : (k : Int) ≤ (cap : Int) := by omega
    have hk0 : (0 : Int) ≤ (k : Int) := by omega
    obtain ⟨h0, h1, h2, h3, h4, h5, h6, h7⟩ := hR.out
    simp only [Nat.zero_add] at h0 h1 h2 h3 h4 h5 h6 h7
    obtain ⟨t, ht⟩ : ∃ t, t = decide (r ∈ zs.take k) := ⟨_, rfl⟩
    have HC2 : Hid (∀ w2 : World, (∀ b o, b < w1.heap.size → w2.cell? ⟨b, o, none⟩ = w1.cell? ⟨b, o, none⟩) ∧ Below w1.heap.size w1 w2 → Calls Tryz.prog 148 #[.slice (some ⟨b, off, none⟩) k cap, .agg #[.int .i64 r.k, .int .i64 r.ho, .int .i64 r.hn, .int .i64 r.w, .int .i64 r.oo, .int .i64 r.on, .int .i64 r.to, .int .i64 r.tn]] w2 fun e w' => e = .returned (.bool t) ∧ Below w2.heap.size w2 w') := fun w2 hb => by rw [ht]; exact slContains_c _ _ _ _ r w2 (by omega) (HX.out.below hb.2)
    have HT : Hid (t = decide (r ∈ zs.take k)) := ht
    clear ht
    cases t
    ·have HN : Hid (polTo zs (k + 1) = 0) := polTo_good zs k r HS.out HP.out HO.out (by simpa using HT.out)
     go_wp2
     go_region_held3 (fun w' => (∀ b o, b < w1.heap.size → w'.cell? ⟨b, o, none⟩ = w1.cell? ⟨b, o, none⟩) ∧ Below w1.heap.size w1 w') (first | exact hS | exact kp_drew _)
      (first | (go_at_call 148; refine (HC2.out _ (by assumption)).mono ?_; rintro e w' ⟨rfl, hb2⟩; have hS := kp_step (by assumption) hb2))
     go_wp2
     exact ⟨⟨k + 1, by omega, by go_num, HN.out, hnx1.trans (hS.2.mono hnx1.size)⟩, by simp [intOf]; omega⟩
    ·have HI : Hid (c = 6) := HC.out.symm.trans (polTo_stay zs (k + 1) n 6 (by decide) (polTo_same zs k r HS.out HP.out HO.out (by simpa using HT.out)) (by omega))
     go_wp2
     go_region_held3 (fun w' => (∀ b o, b < w1.heap.size → w'.cell? ⟨b, o, none⟩ = w1.cell? ⟨b, o, none⟩) ∧ Below w1.heap.size w1 w') (first | exact hS | exact kp_drew _)
      (first | (go_at_call 148; refine (HC2.out _ (by assumption)).mono ?_; rintro e w' ⟨rfl, hb2⟩; have hS := kp_step (by assumption) hb2))
     go_wp2
     go_ret
     exact ⟨by rw [HI.out]; rfl, hnx1.trans (hS.2.mono hnx1.size)⟩
   ·have E : Hid (c = ruleCode r) := (HC.out.symm.trans (polTo_stay zs (k + 1) n _ hcode (polTo_bad zs k r HS.out HP.out hcode) (by omega)))
    obtain ⟨d, hd⟩ : ∃ d, d = ruleCode r := ⟨_, rfl⟩
    rw [← hd] at hcode E ⊢
    clear hd
    have hne : (d != 0) = true := by simpa using hcode
    go_wp2
    go_ret
    exact ⟨by rw [E.out]; rfl, hnx1⟩
  ·have hkn : k = n := by omega
   subst hkn
   have E : Hid (c = 0) := HC.out.symm.trans HP.out
   go_wp2
   go_ret
   exact ⟨by rw [E.out]; rfl, hnx⟩
theorem implPolicyFault_c (a : Option Addr) (n cap : Nat) (zs : List RuleI) (w : World) (hn : n ≤ 1048576) (hcap : n ≤ cap) (hcm : cap ≤ maxLen) (h : RulesIn w a n zs) :
  Calls Tryz.prog 132 #[.slice a n cap] w fun e w' => e = .returned (.int .i64 (polCode zs)) ∧ Below w.heap.size w w' := by
 have hz := h.1
 by_cases h16 : 16 < n
 ·have e : polCode zs = 2 := by simp [polCode, hz, h16]
  rw [e]
  exact polFault_many a n cap w hn h16
 ·have e : polCode zs = polTo zs n := by simp [polCode, hz, h16]
  rw [e]
  exact polFault_few a n cap zs _ w (by omega) hcap hcm h rfl

end Go.Proofs.YtfkajnenniapaaaGreat
