/-
  CONTRACT of impl.ParseRule.
  Conditions: the text has at most 1<<20 bytes.
-/
import Derived.Test.YtajdgbdpmmdlfaaDoorRuleD1
import Derived.Test.YtajdgbdpmmdlfaaDoorLine4
import Derived.Deep.DeepCutAuto
import Derived.Deep.CutBlock
namespace Go.Proofs.YtajdgbdpmmdlfaaDoor
open Go.RowKit
set_option linter.unusedVariables false
set_option linter.unusedSimpArgs false

/-- The result's nine cells, as they were made. -/
def Res9At (w : World) (R : Nat) : Prop := w.cell? ⟨R, 0, none⟩ = some (.int .i64 0) ∧ w.cell? ⟨R, 1, none⟩ = some (.int .i64 0) ∧ w.cell? ⟨R, 2, none⟩ = some (.int .i64 0) ∧ w.cell? ⟨R, 3, none⟩ = some (.int .i64 0) ∧ w.cell? ⟨R, 4, none⟩ = some (.int .i64 0) ∧ w.cell? ⟨R, 5, none⟩ = some (.int .i64 0) ∧ w.cell? ⟨R, 6, none⟩ = some (.int .i64 0) ∧ w.cell? ⟨R, 7, none⟩ = some (.int .i64 0) ∧ w.cell? ⟨R, 8, none⟩ = some (.int .i64 0) ∧ w.frozen? ⟨R, 0, none⟩ = false ∧ w.frozen? ⟨R, 1, none⟩ = false ∧ w.frozen? ⟨R, 2, none⟩ = false ∧ w.frozen? ⟨R, 3, none⟩ = false ∧ w.frozen? ⟨R, 4, none⟩ = false ∧ w.frozen? ⟨R, 5, none⟩ = false ∧ w.frozen? ⟨R, 6, none⟩ = false ∧ w.frozen? ⟨R, 7, none⟩ = false ∧ w.frozen? ⟨R, 8, none⟩ = false

theorem Res9At.below {w w' : World} {R : Nat} (h : Res9At w R) (hb : Below w.heap.size w w') : Res9At w' R := by
  have key : ∀ (g o : Nat) (v : Value), w.cell? ⟨g, o, none⟩ = some v → w'.cell? ⟨g, o, none⟩ = some v := fun g o v e => (hb.cell (p := ⟨g, o, none⟩) (World.block_lt_of_cell? w ⟨g, o, none⟩ e)).trans e
  obtain ⟨c0, c1, c2, c3, c4, c5, c6, c7, c8, f0, f1, f2, f3, f4, f5, f6, f7, f8⟩ := h
  have hR := World.block_lt_of_cell? w ⟨R, 0, none⟩ c0
  have kf : ∀ o, w.frozen? ⟨R, o, none⟩ = false → w'.frozen? ⟨R, o, none⟩ = false := fun o e => (hb.frozen (p := ⟨R, o, none⟩) hR).trans e
  exact ⟨key _ _ _ c0, key _ _ _ c1, key _ _ _ c2, key _ _ _ c3, key _ _ _ c4, key _ _ _ c5, key _ _ _ c6, key _ _ _ c7, key _ _ _ c8, kf _ f0, kf _ f1, kf _ f2, kf _ f3, kf _ f4, kf _ f5, kf _ f6, kf _ f7, kf _ f8⟩

theorem Res9At.new (w : World) (t : TypeId) : Res9At (w.alloc (.cells #[.int .i64 0, .int .i64 0, .int .i64 0, .int .i64 0, .int .i64 0, .int .i64 0, .int .i64 0, .int .i64 0, .int .i64 0] t)) w.heap.size := by
  simp [Res9At, go_sem]

set_option maxRecDepth 20000 in
set_option maxHeartbeats 1000000 in
theorem implParse_main (t L : ByteArray) (r : RuleI) (c : Int) (bad : Bool) (w : World) (ht : t.size ≤ 1048576) (hr : r = ruleOfD (digTo t.data.toList t.size)) (HB : Hid (bad = (c != 0 || !(L.toList == t.toList))))
    (HT : Hid (∀ w : World, Calls Tryd.prog 25 #[.agg #[.int .i64 r.k, .int .i64 r.ho, .int .i64 r.hn, .int .i64 r.w, .int .i64 r.oo, .int .i64 r.on, .int .i64 r.to, .int .i64 r.tn]] w fun e w' => e = .returned (.agg #[.int .i64 c, .string L]) ∧ Below w.heap.size w w')) :
    Calls Tryd.prog 24 #[.string t] w fun e w' => e = .returned (if bad = true then .agg #[.int .i64 5, .int .i64 0, .int .i64 0, .int .i64 0, .int .i64 0, .int .i64 0, .int .i64 0, .int .i64 0, .int .i64 0] else .agg #[.int .i64 0, .int .i64 r.k, .int .i64 r.ho, .int .i64 r.hn, .int .i64 r.w, .int .i64 r.oo, .int .i64 r.on, .int .i64 r.to, .int .i64 r.tn]) ∧ Below w.heap.size w w' := by
  have hdl := digTo_le t.data.toList t.size
  go_enter Tryd.func24, Tryd.ntmps24
  go_wp2_with fail
  refine (digitsIn_c t _ ht).mono ?_
  rintro e w1 ⟨a, cap, rfl, hown, hb1⟩
  have HD := ruleOf_c a cap _ (digTo t.data.toList t.size) w1 (by omega) hown
  rw [← hr] at HD
  clear hown hr
  have R1 : Hid (Res9At w1 w.heap.size) := (Res9At.new w _).below hb1
  obtain ⟨nd, hnd⟩ : ∃ nd, nd = (digTo t.data.toList t.size).length := ⟨_, rfl⟩
  rw [← hnd] at HD hdl ⊢
  clear hnd
  go_wp2_with fail
  refine HD.mono ?_
  rintro e w2 ⟨rfl, hb2⟩
  clear HD
  go_wp2_with fail
  refine (HT.out _).mono ?_
  rintro e w3 ⟨rfl, hb3⟩
  have hz1 := hb1.size
  have hz2 := hb2.size
  have hz3 := hb3.size
  simp only [World.size_alloc] at hz1 hz3
  have hlt : w.heap.size < w3.heap.size := by omega
  have hlt2 : w2.heap.size < w3.heap.size := by omega
  have A4 : Below w3.heap.size w3 (w3.alloc (.cells #[.int .i64 c, .string L] 29)) := (Below.refl _ _).alloc (Nat.le_refl _) _
  have R4 : Hid (Res9At (w3.alloc (.cells #[.int .i64 c, .string L] 29)) w.heap.size) := (((R1.out.below hb2).below ((Below.refl _ _).alloc (Nat.le_refl _) _)).below hb3).below A4
  have Q4 : Hid (RuleAt (w3.alloc (.cells #[.int .i64 c, .string L] 29)) w2.heap.size 0 r) := ((RuleAt.new w2 r _).below hb3).below A4
  have B4 : Hid (Below w.heap.size w (w3.alloc (.cells #[.int .i64 c, .string L] 29))) := ((((below_new hb1).trans (hb2.mono (by omega))).alloc (by omega) _).trans (hb3.mono (by simp; omega))).alloc (by omega) _
  clear R1 A4 hb1 hb2 hb3
  go_upto_region 3 with fail
  go_cut [18] (fun s18 wx => s18 = .bool bad ∧ Res9At wx w.heap.size ∧ RuleAt wx w2.heap.size 0 r ∧ Below w.heap.size w wx ∧ w3.heap.size ≤ wx.heap.size)
  case first =>
    by_cases hc : c = 0
    · subst hc
      cases hL : (L.toList == t.toList)
      · have HX : Hid (bad = true) := by rw [HB.out, hL]; rfl
        clear HB
        go_wp2_with fail
        go_meet
        case rel => exact ⟨by rw [HX.out], R4.out, Q4.out, B4.out, by simp⟩
      · have HX : Hid (bad = false) := by rw [HB.out, hL]; rfl
        clear HB
        go_wp2_with fail
        go_meet
        case rel => exact ⟨by rw [HX.out], R4.out, Q4.out, B4.out, by simp⟩
    · have hcn : (c != 0) = true := by simpa using hc
      have HX : Hid (bad = true) := by rw [HB.out, hcn]; rfl
      clear HB
      go_wp2_with fail
      go_meet
      case rel => exact ⟨by rw [HX.out], R4.out, Q4.out, B4.out, by simp⟩
  case rest =>
    obtain ⟨rfl, hR, hQ, hBx, hzx⟩ := hcut
    have hw : w.heap.size < wc.heap.size := by omega
    have hw2 : w2.heap.size < wc.heap.size := by omega
    obtain ⟨c0, c1, c2, c3, c4, c5, c6, c7, c8, f0, f1, f2, f3, f4, f5, f6, f7, f8⟩ := hR
    obtain ⟨d0, d1, d2, d3, d4, d5, d6, d7⟩ := hQ
    simp only [Nat.zero_add] at d0 d1 d2 d3 d4 d5 d6 d7
    clear R4 Q4 B4 HB
    cases bad
    · go_wp2
      refine bodyPost_ret (v := .agg #[.int .i64 0, .int .i64 r.k, .int .i64 r.ho, .int .i64 r.hn, .int .i64 r.w, .int .i64 r.oo, .int .i64 r.on, .int .i64 r.to, .int .i64 r.tn]) (by simp [results, Tryd.results24, go_sem, c0, c1, c2, c3, c4, c5, c6, c7, c8, hw]) rfl ⟨rfl, ?_⟩
      exact hBx |>.setCell (Nat.le_refl _) _ |>.setCell (Nat.le_refl _) _ |>.setCell (Nat.le_refl _) _ |>.setCell (Nat.le_refl _) _ |>.setCell (Nat.le_refl _) _ |>.setCell (Nat.le_refl _) _ |>.setCell (Nat.le_refl _) _ |>.setCell (Nat.le_refl _) _ |>.setCell (Nat.le_refl _) _
    · go_wp2
      refine bodyPost_ret (v := .agg #[.int .i64 5, .int .i64 0, .int .i64 0, .int .i64 0, .int .i64 0, .int .i64 0, .int .i64 0, .int .i64 0, .int .i64 0]) (by simp [results, Tryd.results24, go_sem, c0, c1, c2, c3, c4, c5, c6, c7, c8, hw]) rfl ⟨rfl, ?_⟩
      exact hBx |>.setCell (Nat.le_refl _) _ |>.setCell (Nat.le_refl _) _ |>.setCell (Nat.le_refl _) _ |>.setCell (Nat.le_refl _) _ |>.setCell (Nat.le_refl _) _ |>.setCell (Nat.le_refl _) _ |>.setCell (Nat.le_refl _) _ |>.setCell (Nat.le_refl _) _ |>.setCell (Nat.le_refl _) _

/-- What impl.ParseRule answers. -/
theorem implParseRule_c (t : ByteArray) (ht : t.size ≤ 1048576) (r : RuleI) (hr : r = ruleOfD (digTo t.data.toList t.size)) (w : World) :
    Calls Tryd.prog 24 #[.string t] w fun e w' => e = .returned (if ¬ (ruleCode r = 0 ∧ lineT r = t) then .agg #[.int .i64 5, .int .i64 0, .int .i64 0, .int .i64 0, .int .i64 0, .int .i64 0, .int .i64 0, .int .i64 0, .int .i64 0] else .agg #[.int .i64 0, .int .i64 r.k, .int .i64 r.ho, .int .i64 r.hn, .int .i64 r.w, .int .i64 r.oo, .int .i64 r.on, .int .i64 r.to, .int .i64 r.tn]) ∧ Below w.heap.size w w' := by
  by_cases hc : ruleCode r = 0
  · have h := implParse_main t (lineT r) r 0 (!((lineT r).toList == t.toList)) w ht hr (by show _ = _; simp) (implRuleText_in r hc)
    by_cases hL : lineT r = t
    · rw [if_neg (by simp [hc, hL])]
      rw [str_eq_of hL] at h
      exact h
    · rw [if_pos (by simp [hL])]
      rw [str_ne_of hL] at h
      exact h
  · have h := implParse_main t ⟨#[]⟩ r (ruleCode r) true w ht hr (by show _ = _; simp [hc]) (implRuleText_out r _ rfl hc)
    rw [if_pos (by simp [hc])]
    exact h

end Go.Proofs.YtajdgbdpmmdlfaaDoor
