/- Contracts. -/
import Derived.Test.YtfkajnenniapaaaGreatPr13
import Derived.Test.YtfkajnenniapaaaGreatPr14
import Derived.Test.YtfkajnenniapaaaGreatPr09
namespace Go.Proofs.YtfkajnenniapaaaGreat
set_option maxRecDepth 100000
set_option maxHeartbeats 8000000
open Go.RowKit
set_option linter.unusedVariables false
set_option linter.unusedSimpArgs false

theorem ruleFault_in (r : RuleI) (t : TypeId) (v : Value) (w : World) (hk : 1 ≤ r.k ∧ r.k ≤ 4)
  (HO : Hid (∀ w : World, Calls Tryz.prog 154 #[.agg #[.int .i64 r.k, .int .i64 r.ho, .int .i64 r.hn, .int .i64 r.w, .int .i64 r.oo, .int .i64 r.on, .int .i64 r.to, .int .i64 r.tn]] w fun e w' => e = .returned (.iface t v) ∧ Below w.heap.size w w'))
  (HF : Hid (∀ w : World, Calls Tryz.prog 157 #[.iface t v] w fun e w' => e = .returned (.int .i64 (if hasB r = true then 0 else 3)) ∧ Below w.heap.size w w')) :
  Calls Tryz.prog 147 #[.agg #[.int .i64 r.k, .int .i64 r.ho, .int .i64 r.hn, .int .i64 r.w, .int .i64 r.oo, .int .i64 r.on, .int .i64 r.to, .int .i64 r.tn]] w fun e w' => e = .returned (.int .i64 (ruleCode r)) ∧ Below w.heap.size w w' := by
 have hX : Hid (RuleAt (w.alloc (Obj.cells #[.int .i64 r.k, .int .i64 r.ho, .int .i64 r.hn, .int .i64 r.w, .int .i64 r.oo, .int .i64 r.on, .int .i64 r.to, .int .i64 r.tn] 129)) w.heap.size 0 r) := RuleAt.new w r _
 cases hr : roleB r.ho r.hn
 ·have E : Hid (ruleCode r = 3) := by show ruleCode r = 3; simp [ruleCode, hk, hr]
  have hc : roleCode r.ho r.hn = 3 := by simp [roleCode, hr]
  have hb : Below (w.alloc (Obj.cells #[.int .i64 r.k, .int .i64 r.ho, .int .i64 r.hn, .int .i64 r.w, .int .i64 r.oo, .int .i64 r.on, .int .i64 r.to, .int .i64 r.tn] 129)).heap.size (w.alloc (Obj.cells #[.int .i64 r.k, .int .i64 r.ho, .int .i64 r.hn, .int .i64 r.w, .int .i64 r.oo, .int .i64 r.on, .int .i64 r.to, .int .i64 r.tn] 129)) (w.alloc (Obj.cells #[.int .i64 r.k, .int .i64 r.ho, .int .i64 r.hn, .int .i64 r.w, .int .i64 r.oo, .int .i64 r.on, .int .i64 r.to, .int .i64 r.tn] 129)) := Below.refl _ _
  obtain ⟨h0, h1, h2, h3, h4, h5, h6, h7⟩ := hX.out
  simp only [Nat.zero_add] at h0 h1 h2 h3 h4 h5 h6 h7
  go_enter Tryz.func147, Tryz.ntmps147
  go_wp2_with (first | (go_at_call 154; refine (HO.out _).mono ?_; rintro e w1 ⟨rfl, hb1⟩; replace hb := hb.trans (hb1.mono hb.size); clear h0 h1 h2 h3 h4 h5 h6 h7 hb1; obtain ⟨h0, h1, h2, h3, h4, h5, h6, h7⟩ := hX.out.below hb; simp only [Nat.zero_add] at h0 h1 h2 h3 h4 h5 h6 h7) | (go_at_call 155; refine (implRoleFault_c _ _ _).mono ?_; rintro e w1 ⟨rfl, hb1⟩; replace hb := hb.trans (hb1.mono hb.size); clear h0 h1 h2 h3 h4 h5 h6 h7 hb1; obtain ⟨h0, h1, h2, h3, h4, h5, h6, h7⟩ := hX.out.below hb; simp only [Nat.zero_add] at h0 h1 h2 h3 h4 h5 h6 h7; rw [hc]))
  go_ret
  exact ⟨by rw [E.out]; rfl, below_new hb⟩
 ·have hc : roleCode r.ho r.hn = 0 := by simp [roleCode, hr]
  cases hbr : bareB r
  ·have E : Hid (ruleCode r = 1) := by show ruleCode r = 1; simp [ruleCode, hk, hr, hbr]
   have hb : Below (w.alloc (Obj.cells #[.int .i64 r.k, .int .i64 r.ho, .int .i64 r.hn, .int .i64 r.w, .int .i64 r.oo, .int .i64 r.on, .int .i64 r.to, .int .i64 r.tn] 129)).heap.size (w.alloc (Obj.cells #[.int .i64 r.k, .int .i64 r.ho, .int .i64 r.hn, .int .i64 r.w, .int .i64 r.oo, .int .i64 r.on, .int .i64 r.to, .int .i64 r.tn] 129)) (w.alloc (Obj.cells #[.int .i64 r.k, .int .i64 r.ho, .int .i64 r.hn, .int .i64 r.w, .int .i64 r.oo, .int .i64 r.on, .int .i64 r.to, .int .i64 r.tn] 129)) := Below.refl _ _
   obtain ⟨h0, h1, h2, h3, h4, h5, h6, h7⟩ := hX.out
   simp only [Nat.zero_add] at h0 h1 h2 h3 h4 h5 h6 h7
   go_enter Tryz.func147, Tryz.ntmps147
   go_wp2_with (first | (go_at_call 154; refine (HO.out _).mono ?_; rintro e w1 ⟨rfl, hb1⟩; replace hb := hb.trans (hb1.mono hb.size); clear h0 h1 h2 h3 h4 h5 h6 h7 hb1; obtain ⟨h0, h1, h2, h3, h4, h5, h6, h7⟩ := hX.out.below hb; simp only [Nat.zero_add] at h0 h1 h2 h3 h4 h5 h6 h7) | (go_at_call 155; refine (implRoleFault_c _ _ _).mono ?_; rintro e w1 ⟨rfl, hb1⟩; replace hb := hb.trans (hb1.mono hb.size); clear h0 h1 h2 h3 h4 h5 h6 h7 hb1; obtain ⟨h0, h1, h2, h3, h4, h5, h6, h7⟩ := hX.out.below hb; simp only [Nat.zero_add] at h0 h1 h2 h3 h4 h5 h6 h7; rw [hc]) | (go_at_call 156; refine (hasStray_c r hk _).mono ?_; rintro e w1 ⟨rfl, hb1⟩; replace hb := hb.trans (hb1.mono hb.size); clear h0 h1 h2 h3 h4 h5 h6 h7 hb1; obtain ⟨h0, h1, h2, h3, h4, h5, h6, h7⟩ := hX.out.below hb; simp only [Nat.zero_add] at h0 h1 h2 h3 h4 h5 h6 h7; rw [hbr]))
   go_ret
   exact ⟨by rw [E.out]; rfl, below_new hb⟩
  ·have E : Hid (ruleCode r = if hasB r = true then 0 else 3) := by show ruleCode r = if hasB r = true then 0 else 3; simp [ruleCode, hk, hr, hbr]; cases hasB r <;> rfl
   obtain ⟨c, hcc⟩ : ∃ c : Int, c = if hasB r = true then 0 else 3 := ⟨_, rfl⟩
   rw [← hcc] at HF E
   clear hcc
   have hb : Below (w.alloc (Obj.cells #[.int .i64 r.k, .int .i64 r.ho, .int .i64 r.hn, .int .i64 r.w, .int .i64 r.oo, .int .i64 r.on, .int .i64 r.to, .int .i64 r.tn] 129)).heap.size (w.alloc (Obj.cells #[.int .i64 r.k, .int .i64 r.ho, .int .i64 r.hn, .int .i64 r.w, .int .i64 r.oo, .int .i64 r.on, .int .i64 r.to, .int .i64 r.tn] 129)) (w.alloc (Obj.cells #[.int .i64 r.k, .int .i64 r.ho, .int .i64 r.hn, .int .i64 r.w, .int .i64 r.oo, .int .i64 r.on, .int .i64 r.to, .int .i64 r.tn] 129)) := Below.refl _ _
   obtain ⟨h0, h1, h2, h3, h4, h5, h6, h7⟩ := hX.out
   simp only [Nat.zero_add] at h0 h1 h2 h3 h4 h5 h6 h7
   go_enter Tryz.func147, Tryz.ntmps147
   go_wp2_with (first | (go_at_call 154; refine (HO.out _).mono ?_; rintro e w1 ⟨rfl, hb1⟩; replace hb := hb.trans (hb1.mono hb.size); clear h0 h1 h2 h3 h4 h5 h6 h7 hb1; obtain ⟨h0, h1, h2, h3, h4, h5, h6, h7⟩ := hX.out.below hb; simp only [Nat.zero_add] at h0 h1 h2 h3 h4 h5 h6 h7) | (go_at_call 155; refine (implRoleFault_c _ _ _).mono ?_; rintro e w1 ⟨rfl, hb1⟩; replace hb := hb.trans (hb1.mono hb.size); clear h0 h1 h2 h3 h4 h5 h6 h7 hb1; obtain ⟨h0, h1, h2, h3, h4, h5, h6, h7⟩ := hX.out.below hb; simp only [Nat.zero_add] at h0 h1 h2 h3 h4 h5 h6 h7; rw [hc]) | (go_at_call 156; refine (hasStray_c r hk _).mono ?_; rintro e w1 ⟨rfl, hb1⟩; replace hb := hb.trans (hb1.mono hb.size); clear h0 h1 h2 h3 h4 h5 h6 h7 hb1; obtain ⟨h0, h1, h2, h3, h4, h5, h6, h7⟩ := hX.out.below hb; simp only [Nat.zero_add] at h0 h1 h2 h3 h4 h5 h6 h7; rw [hbr]) | (go_at_call 157; refine (HF.out _).mono ?_; rintro e w1 ⟨rfl, hb1⟩; replace hb := hb.trans (hb1.mono hb.size); clear h0 h1 h2 h3 h4 h5 h6 h7 hb1; obtain ⟨h0, h1, h2, h3, h4, h5, h6, h7⟩ := hX.out.below hb; simp only [Nat.zero_add] at h0 h1 h2 h3 h4 h5 h6 h7))
   go_ret
   exact ⟨by rw [E.out]; rfl, below_new hb⟩
theorem implRuleFault_c (r : RuleI) (w : World) :
  Calls Tryz.prog 147 #[.agg #[.int .i64 r.k, .int .i64 r.ho, .int .i64 r.hn, .int .i64 r.w, .int .i64 r.oo, .int .i64 r.on, .int .i64 r.to, .int .i64 r.tn]] w fun e w' =>
   e = .returned (.int .i64 (ruleCode r)) ∧ Below w.heap.size w w' := by
 by_cases hk : 1 ≤ r.k ∧ r.k ≤ 4
 ·have hk' : r.k = 1 ∨ r.k = 2 ∨ r.k = 3 ∨ r.k = 4 := by omega
  rcases hk' with e | e | e | e
  ·have e2 : hasB r = prinB r.w := by simp [hasB, e]
   exact ruleFault_in r _ _ w hk (bodyOf_1 r e) (fun w => by rw [e2]; exact bodyFault_1 r.w w)
  ·have e2 : hasB r = roleB r.oo r.on := by simp [hasB, e]
   exact ruleFault_in r _ _ w hk (bodyOf_2 r e) (fun w => by rw [e2]; exact bodyFault_2 r.oo r.on w)
  ·have e2 : hasB r = (roleB r.oo r.on && nameB r.tn) := by simp [hasB, e]
   exact ruleFault_in r _ _ w hk (bodyOf_3 r e) (fun w => by rw [e2]; exact bodyFault_3 r.oo r.on r.tn w)
  ·have e2 : hasB r = (roleB r.oo r.on && roleB r.to r.tn) := by simp [hasB, e]
   exact ruleFault_in r _ _ w hk (bodyOf_4 r e) (fun w => by rw [e2]; exact bodyFault_4 r.oo r.on r.to r.tn w)
 ·have E : Hid (ruleCode r = 1) := by show ruleCode r = 1; simp [ruleCode, hk]
  go_enter Tryz.func147, Tryz.ntmps147
  go_wp2_with (first | (go_at_call 154; refine (bodyOf_0 r hk _).mono ?_; rintro e w1 ⟨rfl, hb1⟩))
  go_ret
  exact ⟨by rw [E.out]; rfl, below_new hb1⟩

end Go.Proofs.YtfkajnenniapaaaGreat
