/-
  CONTRACTS: spec.l2Line of a rule without fault, RuleText of both programs.
  Conditions: each contract bears its own.
-/
import Derived.Test.YtajdgbdpmmdlfaaDoorLine1
import Derived.Test.YtajdgbdpmmdlfaaDoorLine2
namespace Go.Proofs.YtajdgbdpmmdlfaaDoor
open Go.RowKit
set_option linter.unusedVariables false
set_option linter.unusedSimpArgs false

theorem l2Line_c (g off : Nat) (r : RuleI) (w : World) (hx : RuleAt w g off r) (hc : ruleCode r = 0) :
    Calls Tryd.prog 54 #[.pointer (some ⟨g, off, none⟩)] w fun e w' => e = .returned (.string (lineT r)) ∧ Below w.heap.size w w' := by
  obtain ⟨hk, hr, hb, hh⟩ := code0 hc
  have hk' : r.k = 1 ∨ r.k = 2 ∨ r.k = 3 ∨ r.k = 4 := by omega
  rcases hk' with e | e | e | e
  · exact l2Line_1 g off r w hx e hr (by simpa [hasB, e] using hh)
  · exact l2Line_2 g off r w hx e hr (by simpa [hasB, e] using hh)
  · have : roleB r.oo r.on = true ∧ nameB r.tn = true := by simpa [hasB, e] using hh
    exact l2Line_3 g off r w hx e hr this.1 this.2
  · have : roleB r.oo r.on = true ∧ roleB r.to r.tn = true := by simpa [hasB, e] using hh
    exact l2Line_4 g off r w hx e hr this.1 this.2

/-- What bodyOf and bodyText do together, of a rule without fault. -/
theorem body_both (r : RuleI) (hc : ruleCode r = 0) : ∃ t v, (∀ w : World, Calls Tryd.prog 59 #[.agg #[.int .i64 r.k, .int .i64 r.ho, .int .i64 r.hn, .int .i64 r.w, .int .i64 r.oo, .int .i64 r.on, .int .i64 r.to, .int .i64 r.tn]] w fun e w' => e = .returned (.iface t v) ∧ Below w.heap.size w w') ∧
    (∀ w : World, Calls Tryd.prog 58 #[.iface t v] w fun e w' => e = .returned (.string (tailT r)) ∧ Below w.heap.size w w') := by
  obtain ⟨hk, hr, hb, hh⟩ := code0 hc
  have hk' : r.k = 1 ∨ r.k = 2 ∨ r.k = 3 ∨ r.k = 4 := by omega
  rcases hk' with e | e | e | e
  · exact ⟨_, _, bodyOf_1 r e, bodyText_1 r e (by simpa [hasB, e] using hh)⟩
  · exact ⟨_, _, bodyOf_2 r e, bodyText_2 r e (by simpa [hasB, e] using hh)⟩
  · have : roleB r.oo r.on = true ∧ nameB r.tn = true := by simpa [hasB, e] using hh
    exact ⟨_, _, bodyOf_3 r e, bodyText_3 r e this.1 this.2⟩
  · have : roleB r.oo r.on = true ∧ roleB r.to r.tn = true := by simpa [hasB, e] using hh
    exact ⟨_, _, bodyOf_4 r e, bodyText_4 r e this.1 this.2⟩

set_option maxHeartbeats 400000 in
theorem specRuleText_in (r : RuleI) (hc : ruleCode r = 0) (w : World) :
    Calls Tryd.prog 28 #[.agg #[.int .i64 r.k, .int .i64 r.ho, .int .i64 r.hn, .int .i64 r.w, .int .i64 r.oo, .int .i64 r.on, .int .i64 r.to, .int .i64 r.tn]] w fun e w' => e = .returned (.agg #[.int .i64 0, .string (lineT r)]) ∧ Below w.heap.size w w' := by
  have hX : Hid (RuleAt ((w.alloc (Obj.cells #[.int .i64 r.k, .int .i64 r.ho, .int .i64 r.hn, .int .i64 r.w, .int .i64 r.oo, .int .i64 r.on, .int .i64 r.to, .int .i64 r.tn] 44)).alloc (Obj.cells #[.int .i64 0, .string ⟨#[]⟩] 29)) w.heap.size 0 r) := (RuleAt.new w r _).below ((Below.refl _ _).alloc (Nat.le_refl _) _)
  go_enter Tryd.func28, Tryd.ntmps28
  go_wp2_with fail
  refine (l2Rule_c _ _ r _ hX.out).mono ?_
  rintro e w1 ⟨rfl, hb1⟩
  rw [hc]
  obtain ⟨hc1, hf1⟩ := bcell hb1
  have hz1 := hb1.size
  simp only [World.size_alloc] at hc1 hf1 hz1
  have hlt1 : w.heap.size + 1 < w1.heap.size := by omega
  go_wp2_with fail
  refine (l2Line_c _ _ r _ (hX.out.below hb1) hc).mono ?_
  rintro e w2 ⟨rfl, hb2⟩
  obtain ⟨hc2, hf2⟩ := bcell hb2
  have hz2 := hb2.size
  have hlt2 : w.heap.size + 1 < w2.heap.size := by omega
  have c0 : w2.cell? ⟨w.heap.size + 1, 0, none⟩ = some (.int .i64 0) := (hc2 _ _ hlt1).trans ((hc1 _ _ (by omega)).trans (by go_cell))
  have c1 : w2.cell? ⟨w.heap.size + 1, 1, none⟩ = some (.string ⟨#[]⟩) := (hc2 _ _ hlt1).trans ((hc1 _ _ (by omega)).trans (by go_cell))
  have f0 : w2.frozen? ⟨w.heap.size + 1, 0, none⟩ = false := (hf2 _ _ hlt1).trans ((hf1 _ _ (by omega)).trans (by simp [go_sem]))
  have f1 : w2.frozen? ⟨w.heap.size + 1, 1, none⟩ = false := (hf2 _ _ hlt1).trans ((hf1 _ _ (by omega)).trans (by simp [go_sem]))
  clear hc1 hf1 hc2 hf2
  go_wp2
  refine bodyPost_ret (v := .agg #[.int .i64 0, .string (lineT r)]) (by simp [results, Tryd.results28, go_sem, c0, c1]) rfl ⟨rfl, ?_⟩
  exact (((below_new (below_new hb1)).trans (hb2.mono (by omega))).setCell (by simp) _).setCell (by simp) _

set_option maxHeartbeats 400000 in
theorem specRuleText_out (r : RuleI) (c : Int) (hcr : ruleCode r = c) (h0 : c ≠ 0) (w : World) :
    Calls Tryd.prog 28 #[.agg #[.int .i64 r.k, .int .i64 r.ho, .int .i64 r.hn, .int .i64 r.w, .int .i64 r.oo, .int .i64 r.on, .int .i64 r.to, .int .i64 r.tn]] w fun e w' => e = .returned (.agg #[.int .i64 c, .string ⟨#[]⟩]) ∧ Below w.heap.size w w' := by
  have hX : Hid (RuleAt ((w.alloc (Obj.cells #[.int .i64 r.k, .int .i64 r.ho, .int .i64 r.hn, .int .i64 r.w, .int .i64 r.oo, .int .i64 r.on, .int .i64 r.to, .int .i64 r.tn] 44)).alloc (Obj.cells #[.int .i64 0, .string ⟨#[]⟩] 29)) w.heap.size 0 r) := (RuleAt.new w r _).below ((Below.refl _ _).alloc (Nat.le_refl _) _)
  have hc0 : (c != 0) = true := by simpa using h0
  go_enter Tryd.func28, Tryd.ntmps28
  go_wp2_with fail
  refine (l2Rule_c _ _ r _ hX.out).mono ?_
  rintro e w1 ⟨rfl, hb1⟩
  rw [hcr]
  clear h0 hcr
  obtain ⟨hc1, hf1⟩ := bcell hb1
  have hz1 := hb1.size
  simp only [World.size_alloc] at hc1 hf1 hz1
  have hlt1 : w.heap.size + 1 < w1.heap.size := by omega
  have c0 : w1.cell? ⟨w.heap.size + 1, 0, none⟩ = some (.int .i64 0) := (hc1 _ _ (by omega)).trans (by go_cell)
  have c1 : w1.cell? ⟨w.heap.size + 1, 1, none⟩ = some (.string ⟨#[]⟩) := (hc1 _ _ (by omega)).trans (by go_cell)
  have f0 : w1.frozen? ⟨w.heap.size + 1, 0, none⟩ = false := (hf1 _ _ (by omega)).trans (by simp [go_sem])
  have f1 : w1.frozen? ⟨w.heap.size + 1, 1, none⟩ = false := (hf1 _ _ (by omega)).trans (by simp [go_sem])
  clear hc1 hf1
  go_wp2
  refine bodyPost_ret (v := .agg #[.int .i64 c, .string ⟨#[]⟩]) (by simp [results, Tryd.results28, go_sem, c0, c1]) rfl ⟨rfl, ?_⟩
  exact ((below_new (below_new hb1)).setCell (by simp) _).setCell (by simp) _

set_option maxHeartbeats 400000 in
theorem implRuleText_out (r : RuleI) (c : Int) (hcr : ruleCode r = c) (h0 : c ≠ 0) (w : World) :
    Calls Tryd.prog 25 #[.agg #[.int .i64 r.k, .int .i64 r.ho, .int .i64 r.hn, .int .i64 r.w, .int .i64 r.oo, .int .i64 r.on, .int .i64 r.to, .int .i64 r.tn]] w fun e w' => e = .returned (.agg #[.int .i64 c, .string ⟨#[]⟩]) ∧ Below w.heap.size w w' := by
  have hc0 : (c != 0) = true := by simpa using h0
  go_enter Tryd.func25, Tryd.ntmps25
  go_wp2_with fail
  refine (implRuleFault_c r _).mono ?_
  rintro e w1 ⟨rfl, hb1⟩
  rw [hcr]
  clear h0 hcr
  obtain ⟨hc1, hf1⟩ := bcell hb1
  have hz1 := hb1.size
  simp only [World.size_alloc] at hc1 hf1 hz1
  have hlt1 : w.heap.size + 1 < w1.heap.size := by omega
  have c0 : w1.cell? ⟨w.heap.size + 1, 0, none⟩ = some (.int .i64 0) := (hc1 _ _ (by omega)).trans (by go_cell)
  have c1 : w1.cell? ⟨w.heap.size + 1, 1, none⟩ = some (.string ⟨#[]⟩) := (hc1 _ _ (by omega)).trans (by go_cell)
  have f0 : w1.frozen? ⟨w.heap.size + 1, 0, none⟩ = false := (hf1 _ _ (by omega)).trans (by simp [go_sem])
  have f1 : w1.frozen? ⟨w.heap.size + 1, 1, none⟩ = false := (hf1 _ _ (by omega)).trans (by simp [go_sem])
  clear hc1 hf1
  go_wp2
  refine bodyPost_ret (v := .agg #[.int .i64 c, .string ⟨#[]⟩]) (by simp [results, Tryd.results25, go_sem, c0, c1]) rfl ⟨rfl, ?_⟩
  exact ((below_new (below_new hb1)).setCell (by simp) _).setCell (by simp) _

end Go.Proofs.YtajdgbdpmmdlfaaDoor
