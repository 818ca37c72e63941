/-
  CONTRACT of spec.ParseRule.
  Conditions: the text has at most 1<<20 bytes.
-/
import Derived.Test.YtajdgbdpmmdlfaaDoorPar3
namespace Go.Proofs.YtajdgbdpmmdlfaaDoor
open Go.RowKit
set_option linter.unusedVariables false
set_option linter.unusedSimpArgs false

set_option maxRecDepth 20000 in
set_option maxHeartbeats 1000000 in
theorem par_short (t : ByteArray) (n : Nat) (ls : List (Nat × ByteArray)) (w : World) (hn : n < 3) (HC : Hid (Cuts t 32 n ls)) :
    Calls Tryd.prog 60 #[.string t] w fun e w' => e = .returned (.tuple #[.agg #[.int .i64 0, .int .i64 0, .int .i64 0, .int .i64 0, .int .i64 0, .int .i64 0, .int .i64 0, .int .i64 0], .bool false]) ∧ Below w.heap.size w w' := by
  have n3 : (n : Int) < 3 := by omega
  go_enter Tryd.func60, Tryd.ntmps60
  go_wp2_with fail
  refine (HC.out _).mono ?_
  rintro e w1 ⟨g, cap, rfl, hg0, hg1, hcs, hb1⟩
  have RR : Hid (ResAt w1 w.heap.size) := (ResAt.new w _).below hb1
  have hBx : Below w.heap.size w w1 := below_new hb1
  have hw : w.heap.size < w1.heap.size := by have := hb1.size; simp only [World.size_alloc] at this; omega
  obtain ⟨r0, r1, r2, r3, r4, r5, r6, r7, e0, e1, e2, e3, e4, e5, e6, e7⟩ := RR.out
  clear hcs hb1 hg0 hg1
  go_wp2
  refine bodyPost_ret (v := .tuple #[.agg #[.int .i64 0, .int .i64 0, .int .i64 0, .int .i64 0, .int .i64 0, .int .i64 0, .int .i64 0, .int .i64 0], .bool false]) (by simp [results, Tryd.results60, go_sem, r0, r1, r2, r3, r4, r5, r6, r7, hw]) rfl ⟨rfl, ?_⟩
  exact hBx |>.setCell (Nat.le_refl _) _ |>.setCell (Nat.le_refl _) _ |>.setCell (Nat.le_refl _) _ |>.setCell (Nat.le_refl _) _ |>.setCell (Nat.le_refl _) _ |>.setCell (Nat.le_refl _) _ |>.setCell (Nat.le_refl _) _ |>.setCell (Nat.le_refl _) _

set_option maxRecDepth 20000 in
set_option maxHeartbeats 1000000 in
theorem specParse_main (t : ByteArray) (r : RuleI) (ok : Bool) (w : World)
    (HP : Hid (∀ w : World, Calls Tryd.prog 60 #[.string t] w fun e w' => e = .returned (.tuple #[.agg #[.int .i64 r.k, .int .i64 r.ho, .int .i64 r.hn, .int .i64 r.w, .int .i64 r.oo, .int .i64 r.on, .int .i64 r.to, .int .i64 r.tn], .bool ok]) ∧ Below w.heap.size w w')) :
    Calls Tryd.prog 26 #[.string t] w fun e w' => e = .returned (if ok = true then .agg #[.int .i64 0, .int .i64 r.k, .int .i64 r.ho, .int .i64 r.hn, .int .i64 r.w, .int .i64 r.oo, .int .i64 r.on, .int .i64 r.to, .int .i64 r.tn] else .agg #[.int .i64 5, .int .i64 0, .int .i64 0, .int .i64 0, .int .i64 0, .int .i64 0, .int .i64 0, .int .i64 0, .int .i64 0]) ∧ Below w.heap.size w w' := by
  cases ok
  all_goals
    go_enter Tryd.func26, Tryd.ntmps26
    go_wp2_with fail
    refine (HP.out _).mono ?_
    rintro e w1 ⟨rfl, hb1⟩
    have hz1 := hb1.size
    simp only [World.size_alloc] at hz1
    have A4 : Below w1.heap.size w1 (w1.alloc (.cells #[.int .i64 r.k, .int .i64 r.ho, .int .i64 r.hn, .int .i64 r.w, .int .i64 r.oo, .int .i64 r.on, .int .i64 r.to, .int .i64 r.tn] 44)) := (Below.refl _ _).alloc (Nat.le_refl _) _
    have R4 : Hid (Res9At (w1.alloc (.cells #[.int .i64 r.k, .int .i64 r.ho, .int .i64 r.hn, .int .i64 r.w, .int .i64 r.oo, .int .i64 r.on, .int .i64 r.to, .int .i64 r.tn] 44)) w.heap.size) := ((Res9At.new w _).below hb1).below A4
    have hBx : Below w.heap.size w (w1.alloc (.cells #[.int .i64 r.k, .int .i64 r.ho, .int .i64 r.hn, .int .i64 r.w, .int .i64 r.oo, .int .i64 r.on, .int .i64 r.to, .int .i64 r.tn] 44)) := (below_new hb1).alloc (by omega) _
    have Q4 : Hid (RuleAt (w1.alloc (.cells #[.int .i64 r.k, .int .i64 r.ho, .int .i64 r.hn, .int .i64 r.w, .int .i64 r.oo, .int .i64 r.on, .int .i64 r.to, .int .i64 r.tn] 44)) w1.heap.size 0 r) := RuleAt.new w1 r _
    have hw : w.heap.size < w1.heap.size + 1 := by omega
    have hw1 : w.heap.size < w1.heap.size := by omega
    clear hb1 A4
    have hw4 : w.heap.size < (w1.alloc (.cells #[.int .i64 r.k, .int .i64 r.ho, .int .i64 r.hn, .int .i64 r.w, .int .i64 r.oo, .int .i64 r.on, .int .i64 r.to, .int .i64 r.tn] 44)).heap.size := by simp; omega
    have hq4 : w1.heap.size < (w1.alloc (.cells #[.int .i64 r.k, .int .i64 r.ho, .int .i64 r.hn, .int .i64 r.w, .int .i64 r.oo, .int .i64 r.on, .int .i64 r.to, .int .i64 r.tn] 44)).heap.size := by simp
    have hne : w1.heap.size ≠ w.heap.size := by omega
    go_upto_region 2 with fail
    generalize w1.alloc (.cells #[.int .i64 r.k, .int .i64 r.ho, .int .i64 r.hn, .int .i64 r.w, .int .i64 r.oo, .int .i64 r.on, .int .i64 r.to, .int .i64 r.tn] 44) = w4 at R4 hBx Q4 hw4 hq4 ⊢
    obtain ⟨c0, c1, c2, c3, c4, c5, c6, c7, c8, f0, f1, f2, f3, f4, f5, f6, f7, f8⟩ := R4.out
    obtain ⟨d0, d1, d2, d3, d4, d5, d6, d7⟩ := Q4.out
    simp only [Nat.zero_add] at d0 d1 d2 d3 d4 d5 d6 d7
    go_wp2
    first
      | (refine bodyPost_ret (v := .agg #[.int .i64 5, .int .i64 0, .int .i64 0, .int .i64 0, .int .i64 0, .int .i64 0, .int .i64 0, .int .i64 0, .int .i64 0]) (by simp [results, Tryd.results26, go_sem, c0, c1, c2, c3, c4, c5, c6, c7, c8, hw4, hw1]) rfl ⟨rfl, ?_⟩
         exact hBx |>.setCell (Nat.le_refl _) _ |>.setCell (Nat.le_refl _) _ |>.setCell (Nat.le_refl _) _ |>.setCell (Nat.le_refl _) _ |>.setCell (Nat.le_refl _) _ |>.setCell (Nat.le_refl _) _ |>.setCell (Nat.le_refl _) _ |>.setCell (Nat.le_refl _) _ |>.setCell (Nat.le_refl _) _)
      | (refine bodyPost_ret (v := .agg #[.int .i64 0, .int .i64 r.k, .int .i64 r.ho, .int .i64 r.hn, .int .i64 r.w, .int .i64 r.oo, .int .i64 r.on, .int .i64 r.to, .int .i64 r.tn]) (by simp [results, Tryd.results26, go_sem, c0, c1, c2, c3, c4, c5, c6, c7, c8, hw4, hw1]) rfl ⟨rfl, ?_⟩
         exact hBx |>.setCell (Nat.le_refl _) _ |>.setCell (Nat.le_refl _) _ |>.setCell (Nat.le_refl _) _ |>.setCell (Nat.le_refl _) _ |>.setCell (Nat.le_refl _) _ |>.setCell (Nat.le_refl _) _ |>.setCell (Nat.le_refl _) _ |>.setCell (Nat.le_refl _) _ |>.setCell (Nat.le_refl _) _)

theorem specParseRule_c (t : ByteArray) (ht : t.size ≤ 1048576) (r : RuleI) (hr : r = ruleOfD (digTo t.data.toList t.size)) (w : World) :
    Calls Tryd.prog 26 #[.string t] w fun e w' => e = .returned (if ¬ (ruleCode r = 0 ∧ lineT r = t) then .agg #[.int .i64 5, .int .i64 0, .int .i64 0, .int .i64 0, .int .i64 0, .int .i64 0, .int .i64 0, .int .i64 0, .int .i64 0] else .agg #[.int .i64 0, .int .i64 r.k, .int .i64 r.ho, .int .i64 r.hn, .int .i64 r.w, .int .i64 r.oo, .int .i64 r.on, .int .i64 r.to, .int .i64 r.tn]) ∧ Below w.heap.size w w' := by
  have hs := same_rule t
  rw [← hr] at hs
  by_cases h3 : 3 ≤ (cutB t 32).length
  · by_cases hok : specOk t
    · have hh := hs.1 ⟨hok.1, hok.2, h3⟩
      have e : parseW t = r := by
        have := (line_words r hh.1).2
        rw [hh.2] at this
        exact this
      have h := specParse_main t (parseW t) true w (fun w => l2Parse_in t ht h3 true (by simp [hok]) w)
      rw [if_neg (by simp [hh])]
      rw [e] at h
      exact h
    · have h := specParse_main t (parseW t) false w (fun w => l2Parse_in t ht h3 false (by simp [hok]) w)
      rw [if_pos (fun hh => hok ⟨(hs.2 hh).1, (hs.2 hh).2.1⟩)]
      exact h
  · have h := specParse_main t emptyR false w (fun w => par_short t _ [] w (by omega) (cuts_of t 32 ht [] (fun j x hj => by simp at hj)))
    rw [if_pos (fun hh => h3 (hs.2 hh).2.2)]
    exact h

end Go.Proofs.YtajdgbdpmmdlfaaDoor
