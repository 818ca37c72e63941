/-
  CONTRACT: impl.RuleText of a rule without fault.
  Conditions: the rule has no fault.
-/
import Derived.Test.YtajdgbdpmmdlfaaDoorLine3
namespace Go.Proofs.YtajdgbdpmmdlfaaDoor
open Go.RowKit
set_option linter.unusedVariables false
set_option linter.unusedSimpArgs false

theorem keepF {g q : Nat} {r : RuleI} {w0 w w' : World} (h : w.cell? ⟨g, 0, none⟩ = some (.int .i64 r.k) ∧ w.cell? ⟨g, 1, none⟩ = some (.int .i64 r.ho) ∧ w.cell? ⟨g, 2, none⟩ = some (.int .i64 r.hn) ∧ w.cell? ⟨g, 3, none⟩ = some (.int .i64 r.w) ∧ w.cell? ⟨g, 4, none⟩ = some (.int .i64 r.oo) ∧ w.cell? ⟨g, 5, none⟩ = some (.int .i64 r.on) ∧ w.cell? ⟨g, 6, none⟩ = some (.int .i64 r.to) ∧ w.cell? ⟨g, 7, none⟩ = some (.int .i64 r.tn) ∧ w.cell? ⟨q, 0, none⟩ = some (.int .i64 0) ∧ w.cell? ⟨q, 1, none⟩ = some (.string ⟨#[]⟩) ∧ w.frozen? ⟨q, 0, none⟩ = false ∧ w.frozen? ⟨q, 1, none⟩ = false ∧ Below w0.heap.size w0 w) (hb : Below w.heap.size w w') : w'.cell? ⟨g, 0, none⟩ = some (.int .i64 r.k) ∧ w'.cell? ⟨g, 1, none⟩ = some (.int .i64 r.ho) ∧ w'.cell? ⟨g, 2, none⟩ = some (.int .i64 r.hn) ∧ w'.cell? ⟨g, 3, none⟩ = some (.int .i64 r.w) ∧ w'.cell? ⟨g, 4, none⟩ = some (.int .i64 r.oo) ∧ w'.cell? ⟨g, 5, none⟩ = some (.int .i64 r.on) ∧ w'.cell? ⟨g, 6, none⟩ = some (.int .i64 r.to) ∧ w'.cell? ⟨g, 7, none⟩ = some (.int .i64 r.tn) ∧ w'.cell? ⟨q, 0, none⟩ = some (.int .i64 0) ∧ w'.cell? ⟨q, 1, none⟩ = some (.string ⟨#[]⟩) ∧ w'.frozen? ⟨q, 0, none⟩ = false ∧ w'.frozen? ⟨q, 1, none⟩ = false ∧ Below w0.heap.size w0 w' := by
  have key : ∀ (g o : Nat) (v : Value), w.cell? ⟨g, o, none⟩ = some v → w'.cell? ⟨g, o, none⟩ = some v := fun g o v e => (hb.cell (p := ⟨g, o, none⟩) (World.block_lt_of_cell? w ⟨g, o, none⟩ e)).trans e
  obtain ⟨h0, h1, h2, h3, h4, h5, h6, h7, c0, c1, f0, f1, hB⟩ := h
  have hq := World.block_lt_of_cell? w ⟨q, 0, none⟩ c0
  exact ⟨key _ _ _ h0, key _ _ _ h1, key _ _ _ h2, key _ _ _ h3, key _ _ _ h4, key _ _ _ h5, key _ _ _ h6, key _ _ _ h7, key _ _ _ c0, key _ _ _ c1, (hb.frozen (p := ⟨q, 0, none⟩) hq).trans f0, (hb.frozen (p := ⟨q, 1, none⟩) hq).trans f1, hB.trans (hb.mono hB.size)⟩

theorem tail_size4 (r : RuleI) (h : 1 ≤ r.k ∧ r.k ≤ 4) : (tailT r).size = 1 ∨ (tailT r).size = 3 ∨ (tailT r).size = 5 ∨ (tailT r).size = 9 := by
  have hk' : r.k = 1 ∨ r.k = 2 ∨ r.k = 3 ∨ r.k = 4 := by omega
  rcases hk' with e | e | e | e
  · left; simp [tailT, tailL, e, ByteArray.size]
  · right; left; simp [tailT, tailL, e, ByteArray.size]
  · right; right; left; simp [tailT, tailL, e, ByteArray.size]
  · right; right; right; simp [tailT, tailL, e, ByteArray.size]

set_option maxRecDepth 20000 in
set_option maxHeartbeats 2000000 in
theorem ruleText_n (n : Nat) (hn : n = 1 ∨ n = 3 ∨ n = 5 ∨ n = 9) (r : RuleI) (hs1 : (tailT r).size = n) (hc : ruleCode r = 0) (w : World) :
    Calls Tryd.prog 25 #[.agg #[.int .i64 r.k, .int .i64 r.ho, .int .i64 r.hn, .int .i64 r.w, .int .i64 r.oo, .int .i64 r.on, .int .i64 r.to, .int .i64 r.tn]] w fun e w' => e = .returned (.agg #[.int .i64 0, .string (lineT r)]) ∧ Below w.heap.size w w' := by
  obtain ⟨t, v, HO, HT⟩ := body_both r hc
  have HO' : Hid (∀ w : World, Calls Tryd.prog 59 #[.agg #[.int .i64 r.k, .int .i64 r.ho, .int .i64 r.hn, .int .i64 r.w, .int .i64 r.oo, .int .i64 r.on, .int .i64 r.to, .int .i64 r.tn]] w fun e w' => e = .returned (.iface t v) ∧ Below w.heap.size w w') := HO
  have HT' : Hid (∀ w : World, Calls Tryd.prog 58 #[.iface t v] w fun e w' => e = .returned (.string (tailT r)) ∧ Below w.heap.size w w') := HT
  clear HO HT
  have hr := (code0 hc).2.1
  have E : Hid (lineT r = roleT r.ho r.hn ++ ⟨#[32, 60, 45, 32]⟩ ++ tailT r) := line_eq r
  have hs0 : (roleT r.ho r.hn).size = 3 := rfl
  rcases hn with rfl | rfl | rfl | rfl
  all_goals
    go_enter Tryd.func25, Tryd.ntmps25
    go_wp2_with fail
    refine (implRuleFault_c r _).mono ?_
    rintro e w1 ⟨rfl, hb1⟩
    rw [hc]
    obtain ⟨d0, d1, d2, d3, d4, d5, d6, d7⟩ := ((RuleAt.new w r _).below ((Below.refl _ _).alloc (Nat.le_refl _) _)).below hb1
    simp only [Nat.zero_add] at d0 d1 d2 d3 d4 d5 d6 d7
    obtain ⟨hc1, hf1⟩ := bcell hb1
    have hz1 := hb1.size
    simp only [World.size_alloc] at hc1 hf1 hz1
    have hlt1 : w.heap.size + 1 < w1.heap.size := by omega
    have c0 : w1.cell? ⟨w.heap.size + 1, 0, none⟩ = some (.int .i64 0) := (hc1 _ _ (by omega)).trans (by go_cell)
    have c1 : w1.cell? ⟨w.heap.size + 1, 1, none⟩ = some (.string ⟨#[]⟩) := (hc1 _ _ (by omega)).trans (by go_cell)
    have f0 : w1.frozen? ⟨w.heap.size + 1, 0, none⟩ = false := (hf1 _ _ (by omega)).trans (by simp [go_sem])
    have f1 : w1.frozen? ⟨w.heap.size + 1, 1, none⟩ = false := (hf1 _ _ (by omega)).trans (by simp [go_sem])
    have B1 : Below w.heap.size w w1 := below_new (below_new hb1)
    clear hc1 hf1
    go_wp2_with fail
    go_region_held3 (fun w' => w'.cell? ⟨w.heap.size, 0, none⟩ = some (.int .i64 r.k) ∧ w'.cell? ⟨w.heap.size, 1, none⟩ = some (.int .i64 r.ho) ∧ w'.cell? ⟨w.heap.size, 2, none⟩ = some (.int .i64 r.hn) ∧ w'.cell? ⟨w.heap.size, 3, none⟩ = some (.int .i64 r.w) ∧ w'.cell? ⟨w.heap.size, 4, none⟩ = some (.int .i64 r.oo) ∧ w'.cell? ⟨w.heap.size, 5, none⟩ = some (.int .i64 r.on) ∧ w'.cell? ⟨w.heap.size, 6, none⟩ = some (.int .i64 r.to) ∧ w'.cell? ⟨w.heap.size, 7, none⟩ = some (.int .i64 r.tn) ∧ Below w.heap.size w w') (first | exact ⟨hS.1, hS.2.1, hS.2.2.1, hS.2.2.2.1, hS.2.2.2.2.1, hS.2.2.2.2.2.1, hS.2.2.2.2.2.2.1, hS.2.2.2.2.2.2.2.1, hS.2.2.2.2.2.2.2.2.2.2.2.2⟩ | exact ⟨d0, d1, d2, d3, d4, d5, d6, d7, B1⟩ | exact ⟨d0, d1, d2, d3, d4, d5, d6, d7, B1.drew⟩ | (obtain ⟨e0, e1, e2, e3, e4, e5, e6, e7, _, _, _, _, eB⟩ := hS; exact ⟨by go_cell, by go_cell, by go_cell, by go_cell, by go_cell, by go_cell, by go_cell, by go_cell, (eB.setCell (by simp) _).setCell (by simp) _⟩))
      (first
        | (go_at_call 57; refine (withS (S := fun w' => w'.cell? ⟨w.heap.size, 0, none⟩ = some (.int .i64 r.k) ∧ w'.cell? ⟨w.heap.size, 1, none⟩ = some (.int .i64 r.ho) ∧ w'.cell? ⟨w.heap.size, 2, none⟩ = some (.int .i64 r.hn) ∧ w'.cell? ⟨w.heap.size, 3, none⟩ = some (.int .i64 r.w) ∧ w'.cell? ⟨w.heap.size, 4, none⟩ = some (.int .i64 r.oo) ∧ w'.cell? ⟨w.heap.size, 5, none⟩ = some (.int .i64 r.on) ∧ w'.cell? ⟨w.heap.size, 6, none⟩ = some (.int .i64 r.to) ∧ w'.cell? ⟨w.heap.size, 7, none⟩ = some (.int .i64 r.tn) ∧ w'.cell? ⟨w.heap.size + 1, 0, none⟩ = some (.int .i64 0) ∧ w'.cell? ⟨w.heap.size + 1, 1, none⟩ = some (.string ⟨#[]⟩) ∧ w'.frozen? ⟨w.heap.size + 1, 0, none⟩ = false ∧ w'.frozen? ⟨w.heap.size + 1, 1, none⟩ = false ∧ Below w.heap.size w w') (fun w' hb => keepF ?_ hb) (roleText_c _ _ hr _)).mono ?_; (first | exact hS | exact ⟨d0, d1, d2, d3, d4, d5, d6, d7, c0, c1, f0, f1, B1⟩ | exact ⟨d0, d1, d2, d3, d4, d5, d6, d7, c0, c1, f0, f1, B1.drew⟩); rintro e w1 ⟨rfl, hS⟩)
        | (go_at_call 59; refine (withS (S := fun w' => w'.cell? ⟨w.heap.size, 0, none⟩ = some (.int .i64 r.k) ∧ w'.cell? ⟨w.heap.size, 1, none⟩ = some (.int .i64 r.ho) ∧ w'.cell? ⟨w.heap.size, 2, none⟩ = some (.int .i64 r.hn) ∧ w'.cell? ⟨w.heap.size, 3, none⟩ = some (.int .i64 r.w) ∧ w'.cell? ⟨w.heap.size, 4, none⟩ = some (.int .i64 r.oo) ∧ w'.cell? ⟨w.heap.size, 5, none⟩ = some (.int .i64 r.on) ∧ w'.cell? ⟨w.heap.size, 6, none⟩ = some (.int .i64 r.to) ∧ w'.cell? ⟨w.heap.size, 7, none⟩ = some (.int .i64 r.tn) ∧ w'.cell? ⟨w.heap.size + 1, 0, none⟩ = some (.int .i64 0) ∧ w'.cell? ⟨w.heap.size + 1, 1, none⟩ = some (.string ⟨#[]⟩) ∧ w'.frozen? ⟨w.heap.size + 1, 0, none⟩ = false ∧ w'.frozen? ⟨w.heap.size + 1, 1, none⟩ = false ∧ Below w.heap.size w w') (fun w' hb => keepF ?_ hb) (HO'.out _)).mono ?_; (first | exact hS | exact ⟨d0, d1, d2, d3, d4, d5, d6, d7, c0, c1, f0, f1, B1⟩ | exact ⟨d0, d1, d2, d3, d4, d5, d6, d7, c0, c1, f0, f1, B1.drew⟩); rintro e w1 ⟨rfl, hS⟩)
        | (go_at_call 58; refine (withS (S := fun w' => w'.cell? ⟨w.heap.size, 0, none⟩ = some (.int .i64 r.k) ∧ w'.cell? ⟨w.heap.size, 1, none⟩ = some (.int .i64 r.ho) ∧ w'.cell? ⟨w.heap.size, 2, none⟩ = some (.int .i64 r.hn) ∧ w'.cell? ⟨w.heap.size, 3, none⟩ = some (.int .i64 r.w) ∧ w'.cell? ⟨w.heap.size, 4, none⟩ = some (.int .i64 r.oo) ∧ w'.cell? ⟨w.heap.size, 5, none⟩ = some (.int .i64 r.on) ∧ w'.cell? ⟨w.heap.size, 6, none⟩ = some (.int .i64 r.to) ∧ w'.cell? ⟨w.heap.size, 7, none⟩ = some (.int .i64 r.tn) ∧ w'.cell? ⟨w.heap.size + 1, 0, none⟩ = some (.int .i64 0) ∧ w'.cell? ⟨w.heap.size + 1, 1, none⟩ = some (.string ⟨#[]⟩) ∧ w'.frozen? ⟨w.heap.size + 1, 0, none⟩ = false ∧ w'.frozen? ⟨w.heap.size + 1, 1, none⟩ = false ∧ Below w.heap.size w w') (fun w' hb => keepF ?_ hb) (HT'.out _)).mono ?_; (first | exact hS | exact ⟨d0, d1, d2, d3, d4, d5, d6, d7, c0, c1, f0, f1, B1⟩ | exact ⟨d0, d1, d2, d3, d4, d5, d6, d7, c0, c1, f0, f1, B1.drew⟩); rintro e w1 ⟨rfl, hS⟩))
    go_wp2
    obtain ⟨_, _, _, _, _, _, _, _, g0, g1, _, _, gB⟩ := hS
    refine bodyPost_ret (v := .agg #[.int .i64 0, .string (lineT r)]) (by simp [results, Tryd.results25, go_sem, g0, g1, E.out]) rfl ⟨rfl, ?_⟩
    exact (gB.setCell (by simp) _).setCell (by simp) _

theorem implRuleText_in (r : RuleI) (hc : ruleCode r = 0) (w : World) :
    Calls Tryd.prog 25 #[.agg #[.int .i64 r.k, .int .i64 r.ho, .int .i64 r.hn, .int .i64 r.w, .int .i64 r.oo, .int .i64 r.on, .int .i64 r.to, .int .i64 r.tn]] w fun e w' => e = .returned (.agg #[.int .i64 0, .string (lineT r)]) ∧ Below w.heap.size w w' :=
  ruleText_n _ (tail_size4 r (code0 hc).1) r rfl hc w

end Go.Proofs.YtajdgbdpmmdlfaaDoor
