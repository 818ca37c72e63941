/-
  THE LAW FnRules, out of the contracts of what it calls.
  Conditions: the code can be read, and has at most 1<<20 bytes.
-/
import Derived.Test.YtajdgbdpmmdlfaaDoorDraw5
import Derived.Test.YtajdgbdpmmdlfaaDoorDraw6
import Derived.Test.YtajdgbdpmmdlfaaDoorPar4
import Derived.Test.YtajdgbdpmmdlfaaDoorPol1
import Derived.Test.YtajdgbdpmmdlfaaDoorText3
import Derived.Deep.RegionHeld3
import Derived.Deep.DeepCutAuto
import Derived.Deep.CutBlock
namespace Go.Proofs.YtajdgbdpmmdlfaaDoor
open Go.RowKit
set_option linter.unusedVariables false
set_option linter.unusedSimpArgs false
attribute [local go_sem ↓] rule_eql

theorem fldT0 (c : Int) (s : ByteArray) (w : World) : (Instr.field 29 (.agg #[.int .i64 c, .string s]) 0).run Tryd.prog w = .ok (.int .i64 c) w := by kernel_rfl
theorem fldT1 (c : Int) (s : ByteArray) (w : World) : (Instr.field 29 (.agg #[.int .i64 c, .string s]) 1).run Tryd.prog w = .ok (.string s) w := by kernel_rfl
theorem fldR0 (c : Int) (x : RuleI) (w : World) : (Instr.field 46 (.agg #[.int .i64 c, .int .i64 x.k, .int .i64 x.ho, .int .i64 x.hn, .int .i64 x.w, .int .i64 x.oo, .int .i64 x.on, .int .i64 x.to, .int .i64 x.tn]) 0).run Tryd.prog w = .ok (.int .i64 c) w := by kernel_rfl
theorem fldR1 (c : Int) (x : RuleI) (w : World) : (Instr.field 46 (.agg #[.int .i64 c, .int .i64 x.k, .int .i64 x.ho, .int .i64 x.hn, .int .i64 x.w, .int .i64 x.oo, .int .i64 x.on, .int .i64 x.to, .int .i64 x.tn]) 1).run Tryd.prog w = .ok (.agg #[.int .i64 x.k, .int .i64 x.ho, .int .i64 x.hn, .int .i64 x.w, .int .i64 x.oo, .int .i64 x.on, .int .i64 x.to, .int .i64 x.tn]) w := by kernel_rfl
attribute [local go_sem] fldT0 fldT1 fldR0 fldR1

theorem rule_both (t : ByteArray) (ht : t.size ≤ 1048576) : ∃ (c : Int) (x : RuleI), (∀ w : World, Calls Tryd.prog 24 #[.string t] w fun e w' => e = .returned (.agg #[.int .i64 c, .int .i64 x.k, .int .i64 x.ho, .int .i64 x.hn, .int .i64 x.w, .int .i64 x.oo, .int .i64 x.on, .int .i64 x.to, .int .i64 x.tn]) ∧ Below w.heap.size w w') ∧
    (∀ w : World, Calls Tryd.prog 26 #[.string t] w fun e w' => e = .returned (.agg #[.int .i64 c, .int .i64 x.k, .int .i64 x.ho, .int .i64 x.hn, .int .i64 x.w, .int .i64 x.oo, .int .i64 x.on, .int .i64 x.to, .int .i64 x.tn]) ∧ Below w.heap.size w w') ∧ ((c = 0 ∧ ruleCode x = 0 ∧ lineT x = t) ∨ c = 5) := by
  obtain ⟨r, hr⟩ : ∃ r, r = ruleOfD (digTo t.data.toList t.size) := ⟨_, rfl⟩
  by_cases hok : ruleCode r = 0 ∧ lineT r = t
  · exact ⟨0, r, fun w => by have h := implParseRule_c t ht r hr w; rw [if_neg (by simp [hok])] at h; exact h, fun w => by have h := specParseRule_c t ht r hr w; rw [if_neg (by simp [hok])] at h; exact h, Or.inl ⟨rfl, hok.1, hok.2⟩⟩
  · exact ⟨5, emptyR, fun w => by have h := implParseRule_c t ht r hr w; rw [if_pos hok] at h; exact h, fun w => by have h := specParseRule_c t ht r hr w; rw [if_pos hok] at h; exact h, Or.inr rfl⟩

theorem rule_back (x : RuleI) (h : ruleCode x = 0) (w : World) : Calls Tryd.prog 24 #[.string (lineT x)] w fun e w' => e = .returned (.agg #[.int .i64 0, .int .i64 x.k, .int .i64 x.ho, .int .i64 x.hn, .int .i64 x.w, .int .i64 x.oo, .int .i64 x.on, .int .i64 x.to, .int .i64 x.tn]) ∧ Below w.heap.size w w' := by
  have hs := line_size x
  have h := implParseRule_c (lineT x) (by omega) x (line_digits x h).symm w
  rw [if_neg (by simp [*])] at h
  exact h

set_option maxRecDepth 20000 in
set_option maxHeartbeats 4000000 in
theorem rules_inner (a : Option Addr) (len cap : Nat) (ys : List Int) (w : World) (hl : len ≤ 1048576) (h : CodeIn w a len ys) :
    Calls Tryd.prog 4 #[.slice a len cap] w fun e w' => e = .returned (.bool true) ∧ Below w.heap.size w w' := by
  have hl' : (len : Int) ≤ 1048576 := by omega
  have CC : Hid (CodeIn w a len ys) := h
  clear h
  go_enter Tryd.func4, Tryd.ntmps4
  go_wp2_with (first | (go_at_call 10; go_in) | fail)
  refine (drawParseRule_c w a len cap ys CC.out hl).mono ?_
  rintro e w1 ⟨t, ht, rfl, hb1⟩
  obtain ⟨c, x, h1, h2, h3⟩ := rule_both t ht
  have HI : Hid (∀ w : World, Calls Tryd.prog 24 #[.string t] w fun e w' => e = .returned (.agg #[.int .i64 c, .int .i64 x.k, .int .i64 x.ho, .int .i64 x.hn, .int .i64 x.w, .int .i64 x.oo, .int .i64 x.on, .int .i64 x.to, .int .i64 x.tn]) ∧ Below w.heap.size w w') := h1
  have HSP : Hid (∀ w : World, Calls Tryd.prog 26 #[.string t] w fun e w' => e = .returned (.agg #[.int .i64 c, .int .i64 x.k, .int .i64 x.ho, .int .i64 x.hn, .int .i64 x.w, .int .i64 x.oo, .int .i64 x.on, .int .i64 x.to, .int .i64 x.tn]) ∧ Below w.heap.size w w') := h2
  have H3 : Hid ((c = 0 ∧ ruleCode x = 0 ∧ lineT x = t) ∨ c = 5) := h3
  clear h1 h2 h3
  go_wp2_with fail
  refine (HI.out _).mono ?_
  rintro e w2 ⟨rfl, hb2⟩
  clear HI
  have hz1 := hb1.size
  have hz2 := hb2.size
  have B3 : Hid (Below w.heap.size w (w2.alloc (.cells #[.int .i64 c, .int .i64 x.k, .int .i64 x.ho, .int .i64 x.hn, .int .i64 x.w, .int .i64 x.oo, .int .i64 x.on, .int .i64 x.to, .int .i64 x.tn] 46))) := (hb1.trans (hb2.mono hz1)).alloc (by omega) _
  have U0 : (w2.alloc (.cells #[.int .i64 c, .int .i64 x.k, .int .i64 x.ho, .int .i64 x.hn, .int .i64 x.w, .int .i64 x.oo, .int .i64 x.on, .int .i64 x.to, .int .i64 x.tn] 46)).cell? ⟨w2.heap.size, 0, none⟩ = some (.int .i64 c) := by simp
  have U1 : RuleAt (w2.alloc (.cells #[.int .i64 c, .int .i64 x.k, .int .i64 x.ho, .int .i64 x.hn, .int .i64 x.w, .int .i64 x.oo, .int .i64 x.on, .int .i64 x.to, .int .i64 x.tn] 46)) w2.heap.size 1 x := by simp [RuleAt]
  have hU : w2.heap.size < (w2.alloc (.cells #[.int .i64 c, .int .i64 x.k, .int .i64 x.ho, .int .i64 x.hn, .int .i64 x.w, .int .i64 x.oo, .int .i64 x.on, .int .i64 x.to, .int .i64 x.tn] 46)).heap.size := by simp
  clear hb1 hb2
  go_upto_region 5 with fail
  generalize w2.alloc (.cells #[.int .i64 c, .int .i64 x.k, .int .i64 x.ho, .int .i64 x.hn, .int .i64 x.w, .int .i64 x.oo, .int .i64 x.on, .int .i64 x.to, .int .i64 x.tn] 46) = w3 at B3 U0 U1 hU ⊢
  generalize w2.heap.size = g at U0 U1 hU ⊢
  obtain ⟨ya, yb, yc, yd, ye, yf, yg, yh⟩ := U1
  simp only [Nat.reduceAdd] at ya yb yc yd ye yf yg yh
  go_cut [37] (fun s37 wx => s37 = .bool false ∧ Below w.heap.size w wx)
  case first =>
    rcases H3.out with ⟨hc, hx, hxt⟩ | hc
    · subst hc
      have HRT : Hid (∀ w : World, Calls Tryd.prog 25 #[.agg #[.int .i64 x.k, .int .i64 x.ho, .int .i64 x.hn, .int .i64 x.w, .int .i64 x.oo, .int .i64 x.on, .int .i64 x.to, .int .i64 x.tn]] w fun e w' => e = .returned (.agg #[.int .i64 0, .string t]) ∧ Below w.heap.size w w') := fun w => by have h := implRuleText_in x hx w; rw [hxt] at h; exact h
      clear hx hxt H3 HSP
      refine wp_region_held_drew (S := (fun w' => (∀ b o, b < w3.heap.size → w'.cell? ⟨b, o, none⟩ = w3.cell? ⟨b, o, none⟩) ∧ Below w3.heap.size w3 w')) (by kernel_rfl) (kp_drew _) (fun hHeld => ?_)
      refine wpAnyH_take (i := 0) (v := ?_) rfl (by kernel_rfl) (by kernel_rfl) (by kernel_rfl) (fun _ _ _ h => h) (Or.inl ⟨by kernel_rfl, ?_⟩) (by assumption) ?_
      rotate_left 1
      · intro w hSw; (try dsimp only at hSw); go_simp; try (with_reducible rfl)
      try simp only [Act.put, List.getElem_toArray, List.getElem_cons_succ, List.getElem_cons_zero, List.setIfInBounds_toArray, List.set_cons_zero, List.set_cons_succ]
      refine wpAnyH_take (i := 1) (v := ?_) rfl (by kernel_rfl) (by kernel_rfl) (by kernel_rfl) (fun _ _ _ h => h) (Or.inl ⟨by kernel_rfl, ?_⟩) (by assumption) ?_
      rotate_left 1
      · intro w hSw; (try dsimp only at hSw); go_simp; try (with_reducible rfl)
      try simp only [Act.put, List.getElem_toArray, List.getElem_cons_succ, List.getElem_cons_zero, List.setIfInBounds_toArray, List.set_cons_zero, List.set_cons_succ]
      refine wpAnyH_take (i := 2) (v := ?_) rfl (by kernel_rfl) (by kernel_rfl) (by kernel_rfl) (fun _ _ _ h => h) (Or.inl ⟨by kernel_rfl, ?_⟩) (by assumption) ?_
      rotate_left 1
      · intro w hSw; (try dsimp only at hSw); go_simp; try (with_reducible rfl)
      try simp only [Act.put, List.getElem_toArray, List.getElem_cons_succ, List.getElem_cons_zero, List.setIfInBounds_toArray, List.set_cons_zero, List.set_cons_succ]
      refine wpAnyH_take (i := 3) (v := ?_) rfl (by kernel_rfl) (by kernel_rfl) (by kernel_rfl) (fun _ _ _ h => h) (Or.inl ⟨by kernel_rfl, ?_⟩) (by assumption) ?_
      rotate_left 1
      · intro w hSw; (try dsimp only at hSw); go_simp; try (with_reducible rfl)
      try simp only [Act.put, List.getElem_toArray, List.getElem_cons_succ, List.getElem_cons_zero, List.setIfInBounds_toArray, List.set_cons_zero, List.set_cons_succ]
      refine wpAnyH_take (i := 4) (v := ?_) rfl (by kernel_rfl) (by kernel_rfl) (by kernel_rfl) (fun _ _ _ h => h) (Or.inl ⟨by kernel_rfl, ?_⟩) (by assumption) ?_
      rotate_left 1
      · intro w hSw; (try dsimp only at hSw); go_simp; try (with_reducible rfl)
      try simp only [Act.put, List.getElem_toArray, List.getElem_cons_succ, List.getElem_cons_zero, List.setIfInBounds_toArray, List.set_cons_zero, List.set_cons_succ]
      refine wpAnyH_take (i := 5) (v := ?_) rfl (by kernel_rfl) (by kernel_rfl) (by kernel_rfl) (fun _ _ _ h => h) (Or.inl ⟨by kernel_rfl, ?_⟩) (by assumption) ?_
      rotate_left 1
      · intro w hSw; (try dsimp only at hSw); go_simp; try (with_reducible rfl)
      try simp only [Act.put, List.getElem_toArray, List.getElem_cons_succ, List.getElem_cons_zero, List.setIfInBounds_toArray, List.set_cons_zero, List.set_cons_succ]
      refine wpAnyH_take (i := 8) (v := ?_) rfl (by kernel_rfl) (by kernel_rfl) (by kernel_rfl) (fun _ _ _ h => h) (Or.inl ⟨by kernel_rfl, ?_⟩) (by assumption) ?_
      rotate_left 1
      · intro w hSw; (try dsimp only at hSw); go_simp; try (with_reducible rfl)
      try simp only [Act.put, List.getElem_toArray, List.getElem_cons_succ, List.getElem_cons_zero, List.setIfInBounds_toArray, List.set_cons_zero, List.set_cons_succ]
      refine wpAnyH_ready (rs := [6]) (by kernel_rfl) (by simp) ?_
      refine AllReadyH.cons rfl (fun K hK => ?_) AllReadyH.nil
      go_simp
      refine (HRT.out _).mono ?_
      rintro e w4 ⟨rfl, hb4⟩
      have hS := kp_step hHeld hb4
      simp only
      refine hK.out _ _ hS (fun hHeld => ?_)
      clear hK K
      try simp only [Act.put, List.getElem_toArray, List.getElem_cons_succ, List.getElem_cons_zero, List.setIfInBounds_toArray, List.set_cons_zero, List.set_cons_succ]
      refine wpAnyH_take (i := 7) (v := ?_) rfl (by kernel_rfl) (by kernel_rfl) (by kernel_rfl) (fun _ _ _ h => h) (Or.inl ⟨by kernel_rfl, ?_⟩) (by assumption) ?_
      rotate_left 1
      · intro w hSw; (try dsimp only at hSw); go_simp; try (with_reducible rfl)
      try simp only [Act.put, List.getElem_toArray, List.getElem_cons_succ, List.getElem_cons_zero, List.setIfInBounds_toArray, List.set_cons_zero, List.set_cons_succ]
      refine wpAnyH_take (i := 9) (v := ?_) rfl (by kernel_rfl) (by kernel_rfl) (by kernel_rfl) (fun _ _ _ h => h) (Or.inl ⟨by kernel_rfl, ?_⟩) (by assumption) ?_
      rotate_left 1
      · intro w hSw; (try dsimp only at hSw); go_simp; try (with_reducible rfl)
      try simp only [Act.put, List.getElem_toArray, List.getElem_cons_succ, List.getElem_cons_zero, List.setIfInBounds_toArray, List.set_cons_zero, List.set_cons_succ]
      refine wpAnyH_take (i := 10) (v := ?_) rfl (by kernel_rfl) (by kernel_rfl) (by kernel_rfl) (fun _ _ _ h => h) (Or.inl ⟨by kernel_rfl, ?_⟩) (by assumption) ?_
      rotate_left 1
      · intro w hSw; (try dsimp only at hSw); go_simp; try (with_reducible rfl)
      try simp only [Act.put, List.getElem_toArray, List.getElem_cons_succ, List.getElem_cons_zero, List.setIfInBounds_toArray, List.set_cons_zero, List.set_cons_succ]
      refine wpAnyH_take (i := 11) (v := ?_) rfl (by kernel_rfl) (by kernel_rfl) (by kernel_rfl) (fun _ _ _ h => h) (Or.inl ⟨by kernel_rfl, ?_⟩) (by assumption) ?_
      rotate_left 1
      · intro w hSw; (try dsimp only at hSw); go_simp; try (with_reducible rfl)
      try simp only [Act.put, List.getElem_toArray, List.getElem_cons_succ, List.getElem_cons_zero, List.setIfInBounds_toArray, List.set_cons_zero, List.set_cons_succ]
      refine wpAnyH_take (i := 12) (v := ?_) rfl (by kernel_rfl) (by kernel_rfl) (by kernel_rfl) (fun _ _ _ h => h) (Or.inl ⟨by kernel_rfl, ?_⟩) (by assumption) ?_
      rotate_left 1
      · intro w hSw; (try dsimp only at hSw); go_simp; try (with_reducible rfl)
      try simp only [Act.put, List.getElem_toArray, List.getElem_cons_succ, List.getElem_cons_zero, List.setIfInBounds_toArray, List.set_cons_zero, List.set_cons_succ]
      refine wpAnyH_take (i := 13) (v := ?_) rfl (by kernel_rfl) (by kernel_rfl) (by kernel_rfl) (fun _ _ _ h => h) (Or.inl ⟨by kernel_rfl, ?_⟩) (by assumption) ?_
      rotate_left 1
      · intro w hSw; (try dsimp only at hSw); go_simp; try (with_reducible rfl)
      try simp only [Act.put, List.getElem_toArray, List.getElem_cons_succ, List.getElem_cons_zero, List.setIfInBounds_toArray, List.set_cons_zero, List.set_cons_succ]
      refine wpAnyH_take (i := 14) (v := ?_) rfl (by kernel_rfl) (by kernel_rfl) (by kernel_rfl) (fun _ _ _ h => h) (Or.inl ⟨by kernel_rfl, ?_⟩) (by assumption) ?_
      rotate_left 1
      · intro w hSw; (try dsimp only at hSw); go_simp; try (with_reducible rfl)
      try simp only [Act.put, List.getElem_toArray, List.getElem_cons_succ, List.getElem_cons_zero, List.setIfInBounds_toArray, List.set_cons_zero, List.set_cons_succ]
      refine wpAnyH_take (i := 15) (v := ?_) rfl (by kernel_rfl) (by kernel_rfl) (by kernel_rfl) (fun _ _ _ h => h) (Or.inl ⟨by kernel_rfl, ?_⟩) (by assumption) ?_
      rotate_left 1
      · intro w hSw; (try dsimp only at hSw); go_simp; try (with_reducible rfl)
      try simp only [Act.put, List.getElem_toArray, List.getElem_cons_succ, List.getElem_cons_zero, List.setIfInBounds_toArray, List.set_cons_zero, List.set_cons_succ]
      refine wpAnyH_take (i := 16) (v := undef) rfl (by kernel_rfl) (by kernel_rfl) (by kernel_rfl) (fun _ _ _ h => h) (Or.inr ⟨by kernel_rfl, rfl⟩) (by assumption) ?_
      try simp only [Act.put, List.getElem_toArray, List.getElem_cons_succ, List.getElem_cons_zero, List.setIfInBounds_toArray, List.set_cons_zero, List.set_cons_succ]
      refine wpAnyH_take (i := 17) (v := undef) rfl (by kernel_rfl) (by kernel_rfl) (by kernel_rfl) (fun _ _ _ h => h) (Or.inr ⟨by kernel_rfl, rfl⟩) (by assumption) ?_
      try simp only [Act.put, List.getElem_toArray, List.getElem_cons_succ, List.getElem_cons_zero, List.setIfInBounds_toArray, List.set_cons_zero, List.set_cons_succ]
      refine wpAnyH_take (i := 18) (v := undef) rfl (by kernel_rfl) (by kernel_rfl) (by kernel_rfl) (fun _ _ _ h => h) (Or.inr ⟨by kernel_rfl, rfl⟩) (by assumption) ?_
      try simp only [Act.put, List.getElem_toArray, List.getElem_cons_succ, List.getElem_cons_zero, List.setIfInBounds_toArray, List.set_cons_zero, List.set_cons_succ]
      refine wpAnyH_take (i := 19) (v := undef) rfl (by kernel_rfl) (by kernel_rfl) (by kernel_rfl) (fun _ _ _ h => h) (Or.inr ⟨by kernel_rfl, rfl⟩) (by assumption) ?_
      try simp only [Act.put, List.getElem_toArray, List.getElem_cons_succ, List.getElem_cons_zero, List.setIfInBounds_toArray, List.set_cons_zero, List.set_cons_succ]
      refine wpAnyH_take (i := 20) (v := undef) rfl (by kernel_rfl) (by kernel_rfl) (by kernel_rfl) (fun _ _ _ h => h) (Or.inr ⟨by kernel_rfl, rfl⟩) (by assumption) ?_
      try simp only [Act.put, List.getElem_toArray, List.getElem_cons_succ, List.getElem_cons_zero, List.setIfInBounds_toArray, List.set_cons_zero, List.set_cons_succ]
      refine wpAnyH_take (i := 21) (v := undef) rfl (by kernel_rfl) (by kernel_rfl) (by kernel_rfl) (fun _ _ _ h => h) (Or.inr ⟨by kernel_rfl, rfl⟩) (by assumption) ?_
      try simp only [Act.put, List.getElem_toArray, List.getElem_cons_succ, List.getElem_cons_zero, List.setIfInBounds_toArray, List.set_cons_zero, List.set_cons_succ]
      refine wpAnyH_take (i := 22) (v := ?_) rfl (by kernel_rfl) (by kernel_rfl) (by kernel_rfl) (fun _ _ _ h => h) (Or.inl ⟨by kernel_rfl, ?_⟩) (by assumption) ?_
      rotate_left 1
      · intro w hSw; (try dsimp only at hSw); go_simp; try (with_reducible rfl)
      try simp only [Act.put, List.getElem_toArray, List.getElem_cons_succ, List.getElem_cons_zero, List.setIfInBounds_toArray, List.set_cons_zero, List.set_cons_succ]
      refine wpAnyH_take (i := 23) (v := ?_) rfl (by kernel_rfl) (by kernel_rfl) (by kernel_rfl) (fun _ _ _ h => h) (Or.inl ⟨by kernel_rfl, ?_⟩) (by assumption) ?_
      rotate_left 1
      · intro w hSw; (try dsimp only at hSw); go_simp; try (with_reducible rfl)
      try simp only [Act.put, List.getElem_toArray, List.getElem_cons_succ, List.getElem_cons_zero, List.setIfInBounds_toArray, List.set_cons_zero, List.set_cons_succ]
      refine wpAnyH_done (by kernel_rfl) ?_ _
      go_wp2_with fail
      go_meet
      case rel => exact ⟨rfl, B3.out.trans (hHeld.2.mono B3.out.size)⟩
    · subst hc
      clear H3
      refine wp_region_held_drew (S := (fun w' => (∀ b o, b < w3.heap.size → w'.cell? ⟨b, o, none⟩ = w3.cell? ⟨b, o, none⟩) ∧ Below w3.heap.size w3 w')) (by kernel_rfl) (kp_drew _) (fun hHeld => ?_)
      refine wpAnyH_take (i := 0) (v := ?_) rfl (by kernel_rfl) (by kernel_rfl) (by kernel_rfl) (fun _ _ _ h => h) (Or.inl ⟨by kernel_rfl, ?_⟩) (by assumption) ?_
      rotate_left 1
      · intro w hSw; (try dsimp only at hSw); go_simp; try (with_reducible rfl)
      try simp only [Act.put, List.getElem_toArray, List.getElem_cons_succ, List.getElem_cons_zero, List.setIfInBounds_toArray, List.set_cons_zero, List.set_cons_succ]
      refine wpAnyH_take (i := 1) (v := ?_) rfl (by kernel_rfl) (by kernel_rfl) (by kernel_rfl) (fun _ _ _ h => h) (Or.inl ⟨by kernel_rfl, ?_⟩) (by assumption) ?_
      rotate_left 1
      · intro w hSw; (try dsimp only at hSw); go_simp; try (with_reducible rfl)
      try simp only [Act.put, List.getElem_toArray, List.getElem_cons_succ, List.getElem_cons_zero, List.setIfInBounds_toArray, List.set_cons_zero, List.set_cons_succ]
      refine wpAnyH_take (i := 2) (v := ?_) rfl (by kernel_rfl) (by kernel_rfl) (by kernel_rfl) (fun _ _ _ h => h) (Or.inl ⟨by kernel_rfl, ?_⟩) (by assumption) ?_
      rotate_left 1
      · intro w hSw; (try dsimp only at hSw); go_simp; try (with_reducible rfl)
      try simp only [Act.put, List.getElem_toArray, List.getElem_cons_succ, List.getElem_cons_zero, List.setIfInBounds_toArray, List.set_cons_zero, List.set_cons_succ]
      refine wpAnyH_take (i := 3) (v := ?_) rfl (by kernel_rfl) (by kernel_rfl) (by kernel_rfl) (fun _ _ _ h => h) (Or.inl ⟨by kernel_rfl, ?_⟩) (by assumption) ?_
      rotate_left 1
      · intro w hSw; (try dsimp only at hSw); go_simp; try (with_reducible rfl)
      try simp only [Act.put, List.getElem_toArray, List.getElem_cons_succ, List.getElem_cons_zero, List.setIfInBounds_toArray, List.set_cons_zero, List.set_cons_succ]
      refine wpAnyH_take (i := 4) (v := undef) rfl (by kernel_rfl) (by kernel_rfl) (by kernel_rfl) (fun _ _ _ h => h) (Or.inr ⟨by kernel_rfl, rfl⟩) (by assumption) ?_
      try simp only [Act.put, List.getElem_toArray, List.getElem_cons_succ, List.getElem_cons_zero, List.setIfInBounds_toArray, List.set_cons_zero, List.set_cons_succ]
      refine wpAnyH_take (i := 5) (v := undef) rfl (by kernel_rfl) (by kernel_rfl) (by kernel_rfl) (fun _ _ _ h => h) (Or.inr ⟨by kernel_rfl, rfl⟩) (by assumption) ?_
      try simp only [Act.put, List.getElem_toArray, List.getElem_cons_succ, List.getElem_cons_zero, List.setIfInBounds_toArray, List.set_cons_zero, List.set_cons_succ]
      refine wpAnyH_take (i := 6) (v := undef) rfl (by kernel_rfl) (by kernel_rfl) (by kernel_rfl) (fun _ _ _ h => h) (Or.inr ⟨by kernel_rfl, rfl⟩) (by assumption) ?_
      try simp only [Act.put, List.getElem_toArray, List.getElem_cons_succ, List.getElem_cons_zero, List.setIfInBounds_toArray, List.set_cons_zero, List.set_cons_succ]
      refine wpAnyH_take (i := 7) (v := undef) rfl (by kernel_rfl) (by kernel_rfl) (by kernel_rfl) (fun _ _ _ h => h) (Or.inr ⟨by kernel_rfl, rfl⟩) (by assumption) ?_
      try simp only [Act.put, List.getElem_toArray, List.getElem_cons_succ, List.getElem_cons_zero, List.setIfInBounds_toArray, List.set_cons_zero, List.set_cons_succ]
      refine wpAnyH_take (i := 8) (v := undef) rfl (by kernel_rfl) (by kernel_rfl) (by kernel_rfl) (fun _ _ _ h => h) (Or.inr ⟨by kernel_rfl, rfl⟩) (by assumption) ?_
      try simp only [Act.put, List.getElem_toArray, List.getElem_cons_succ, List.getElem_cons_zero, List.setIfInBounds_toArray, List.set_cons_zero, List.set_cons_succ]
      refine wpAnyH_take (i := 9) (v := undef) rfl (by kernel_rfl) (by kernel_rfl) (by kernel_rfl) (fun _ _ _ h => h) (Or.inr ⟨by kernel_rfl, rfl⟩) (by assumption) ?_
      try simp only [Act.put, List.getElem_toArray, List.getElem_cons_succ, List.getElem_cons_zero, List.setIfInBounds_toArray, List.set_cons_zero, List.set_cons_succ]
      refine wpAnyH_take (i := 10) (v := ?_) rfl (by kernel_rfl) (by kernel_rfl) (by kernel_rfl) (fun _ _ _ h => h) (Or.inl ⟨by kernel_rfl, ?_⟩) (by assumption) ?_
      rotate_left 1
      · intro w hSw; (try dsimp only at hSw); go_simp; try (with_reducible rfl)
      try simp only [Act.put, List.getElem_toArray, List.getElem_cons_succ, List.getElem_cons_zero, List.setIfInBounds_toArray, List.set_cons_zero, List.set_cons_succ]
      refine wpAnyH_take (i := 11) (v := ?_) rfl (by kernel_rfl) (by kernel_rfl) (by kernel_rfl) (fun _ _ _ h => h) (Or.inl ⟨by kernel_rfl, ?_⟩) (by assumption) ?_
      rotate_left 1
      · intro w hSw; (try dsimp only at hSw); go_simp; try (with_reducible rfl)
      try simp only [Act.put, List.getElem_toArray, List.getElem_cons_succ, List.getElem_cons_zero, List.setIfInBounds_toArray, List.set_cons_zero, List.set_cons_succ]
      refine wpAnyH_take (i := 12) (v := ?_) rfl (by kernel_rfl) (by kernel_rfl) (by kernel_rfl) (fun _ _ _ h => h) (Or.inl ⟨by kernel_rfl, ?_⟩) (by assumption) ?_
      rotate_left 1
      · intro w hSw; (try dsimp only at hSw); go_simp; try (with_reducible rfl)
      try simp only [Act.put, List.getElem_toArray, List.getElem_cons_succ, List.getElem_cons_zero, List.setIfInBounds_toArray, List.set_cons_zero, List.set_cons_succ]
      refine wpAnyH_take (i := 13) (v := ?_) rfl (by kernel_rfl) (by kernel_rfl) (by kernel_rfl) (fun _ _ _ h => h) (Or.inl ⟨by kernel_rfl, ?_⟩) (by assumption) ?_
      rotate_left 1
      · intro w hSw; (try dsimp only at hSw); go_simp; try (with_reducible rfl)
      try simp only [Act.put, List.getElem_toArray, List.getElem_cons_succ, List.getElem_cons_zero, List.setIfInBounds_toArray, List.set_cons_zero, List.set_cons_succ]
      refine wpAnyH_take (i := 14) (v := ?_) rfl (by kernel_rfl) (by kernel_rfl) (by kernel_rfl) (fun _ _ _ h => h) (Or.inl ⟨by kernel_rfl, ?_⟩) (by assumption) ?_
      rotate_left 1
      · intro w hSw; (try dsimp only at hSw); go_simp; try (with_reducible rfl)
      try simp only [Act.put, List.getElem_toArray, List.getElem_cons_succ, List.getElem_cons_zero, List.setIfInBounds_toArray, List.set_cons_zero, List.set_cons_succ]
      refine wpAnyH_take (i := 15) (v := ?_) rfl (by kernel_rfl) (by kernel_rfl) (by kernel_rfl) (fun _ _ _ h => h) (Or.inl ⟨by kernel_rfl, ?_⟩) (by assumption) ?_
      rotate_left 1
      · intro w hSw; (try dsimp only at hSw); go_simp; try (with_reducible rfl)
      try simp only [Act.put, List.getElem_toArray, List.getElem_cons_succ, List.getElem_cons_zero, List.setIfInBounds_toArray, List.set_cons_zero, List.set_cons_succ]
      refine wpAnyH_take (i := 16) (v := ?_) rfl (by kernel_rfl) (by kernel_rfl) (by kernel_rfl) (fun _ _ _ h => h) (Or.inl ⟨by kernel_rfl, ?_⟩) (by assumption) ?_
      rotate_left 1
      · intro w hSw; (try dsimp only at hSw); go_simp; try (with_reducible rfl)
      try simp only [Act.put, List.getElem_toArray, List.getElem_cons_succ, List.getElem_cons_zero, List.setIfInBounds_toArray, List.set_cons_zero, List.set_cons_succ]
      refine wpAnyH_take (i := 19) (v := ?_) rfl (by kernel_rfl) (by kernel_rfl) (by kernel_rfl) (fun _ _ _ h => h) (Or.inl ⟨by kernel_rfl, ?_⟩) (by assumption) ?_
      rotate_left 1
      · intro w hSw; (try dsimp only at hSw); go_simp; try (with_reducible rfl)
      try simp only [Act.put, List.getElem_toArray, List.getElem_cons_succ, List.getElem_cons_zero, List.setIfInBounds_toArray, List.set_cons_zero, List.set_cons_succ]
      refine wpAnyH_take (i := 20) (v := ?_) rfl (by kernel_rfl) (by kernel_rfl) (by kernel_rfl) (fun _ _ _ h => h) (Or.inl ⟨by kernel_rfl, ?_⟩) (by assumption) ?_
      rotate_left 1
      · intro w hSw; (try dsimp only at hSw); go_simp; try (with_reducible rfl)
      try simp only [Act.put, List.getElem_toArray, List.getElem_cons_succ, List.getElem_cons_zero, List.setIfInBounds_toArray, List.set_cons_zero, List.set_cons_succ]
      refine wpAnyH_ready (rs := [17]) (by kernel_rfl) (by simp) ?_
      refine AllReadyH.cons rfl (fun K hK => ?_) AllReadyH.nil
      go_simp
      refine (HSP.out _).mono ?_
      rintro e w4 ⟨rfl, hb4⟩
      have hS := kp_step hHeld hb4
      simp only
      refine hK.out _ _ hS (fun hHeld => ?_)
      clear hK K
      try simp only [Act.put, List.getElem_toArray, List.getElem_cons_succ, List.getElem_cons_zero, List.setIfInBounds_toArray, List.set_cons_zero, List.set_cons_succ]
      refine wpAnyH_take (i := 18) (v := ?_) rfl (by kernel_rfl) (by kernel_rfl) (by kernel_rfl) (fun _ _ _ h => h) (Or.inl ⟨by kernel_rfl, ?_⟩) (by assumption) ?_
      rotate_left 1
      · intro w hSw; (try dsimp only at hSw); go_simp; try (with_reducible rfl)
      try simp only [Act.put, List.getElem_toArray, List.getElem_cons_succ, List.getElem_cons_zero, List.setIfInBounds_toArray, List.set_cons_zero, List.set_cons_succ]
      refine wpAnyH_take (i := 21) (v := ?_) rfl (by kernel_rfl) (by kernel_rfl) (by kernel_rfl) (fun _ _ _ h => h) (Or.inl ⟨by kernel_rfl, ?_⟩) (by assumption) ?_
      rotate_left 1
      · intro w hSw; (try dsimp only at hSw); go_simp; try (with_reducible rfl)
      try simp only [Act.put, List.getElem_toArray, List.getElem_cons_succ, List.getElem_cons_zero, List.setIfInBounds_toArray, List.set_cons_zero, List.set_cons_succ]
      refine wpAnyH_take (i := 22) (v := ?_) rfl (by kernel_rfl) (by kernel_rfl) (by kernel_rfl) (fun _ _ _ h => h) (Or.inl ⟨by kernel_rfl, ?_⟩) (by assumption) ?_
      rotate_left 1
      · intro w hSw; (try dsimp only at hSw); go_simp; try (with_reducible rfl)
      try simp only [Act.put, List.getElem_toArray, List.getElem_cons_succ, List.getElem_cons_zero, List.setIfInBounds_toArray, List.set_cons_zero, List.set_cons_succ]
      refine wpAnyH_take (i := 23) (v := ?_) rfl (by kernel_rfl) (by kernel_rfl) (by kernel_rfl) (fun _ _ _ h => h) (Or.inl ⟨by kernel_rfl, ?_⟩) (by assumption) ?_
      rotate_left 1
      · intro w hSw; (try dsimp only at hSw); go_simp; try (with_reducible rfl)
      try simp only [Act.put, List.getElem_toArray, List.getElem_cons_succ, List.getElem_cons_zero, List.setIfInBounds_toArray, List.set_cons_zero, List.set_cons_succ]
      refine wpAnyH_done (by kernel_rfl) ?_ _
      go_wp2_with fail
      go_meet
      case rel => exact ⟨rfl, B3.out.trans (hHeld.2.mono B3.out.size)⟩
  case rest =>
    obtain ⟨rfl, hbc⟩ := hcut
    have BC : Hid (Below w.heap.size w wc) := hbc
    clear hbc U0 ya yb yc yd ye yf yg yh hU B3 H3 HSP
    have CC2 : Hid (CodeIn wc a len ys) := CC.out.kept (row := none) ⟨BC.out.os, BC.out.tape, BC.out.output, BC.out.size, fun k hk _ => BC.out.block k hk⟩ (fun _ _ _ => .inr (by simp))
    go_wp2_with fail
    refine (drawRuleText_c wc a len cap ys CC2.out hl).mono ?_
    rintro e w5 ⟨r, rfl, hb5⟩
    obtain ⟨d, s, hT, hS, hd⟩ : ∃ (d : Int) (s : ByteArray), (∀ w : World, Calls Tryd.prog 25 #[.agg #[.int .i64 r.k, .int .i64 r.ho, .int .i64 r.hn, .int .i64 r.w, .int .i64 r.oo, .int .i64 r.on, .int .i64 r.to, .int .i64 r.tn]] w fun e w' => e = .returned (.agg #[.int .i64 d, .string s]) ∧ Below w.heap.size w w') ∧ (∀ w : World, Calls Tryd.prog 28 #[.agg #[.int .i64 r.k, .int .i64 r.ho, .int .i64 r.hn, .int .i64 r.w, .int .i64 r.oo, .int .i64 r.on, .int .i64 r.to, .int .i64 r.tn]] w fun e w' => e = .returned (.agg #[.int .i64 d, .string s]) ∧ Below w.heap.size w w') ∧ d = ruleCode r ∧ (d = 0 → s = lineT r) := by
      by_cases hc : ruleCode r = 0
      · exact ⟨0, lineT r, implRuleText_in r hc, specRuleText_in r hc, hc.symm, fun _ => rfl⟩
      · exact ⟨ruleCode r, ⟨#[]⟩, implRuleText_out r _ rfl hc, specRuleText_out r _ rfl hc, rfl, fun h => absurd h hc⟩
    have HT : Hid (∀ w : World, Calls Tryd.prog 25 #[.agg #[.int .i64 r.k, .int .i64 r.ho, .int .i64 r.hn, .int .i64 r.w, .int .i64 r.oo, .int .i64 r.on, .int .i64 r.to, .int .i64 r.tn]] w fun e w' => e = .returned (.agg #[.int .i64 d, .string s]) ∧ Below w.heap.size w w') := hT
    have HS : Hid (∀ w : World, Calls Tryd.prog 28 #[.agg #[.int .i64 r.k, .int .i64 r.ho, .int .i64 r.hn, .int .i64 r.w, .int .i64 r.oo, .int .i64 r.on, .int .i64 r.to, .int .i64 r.tn]] w fun e w' => e = .returned (.agg #[.int .i64 d, .string s]) ∧ Below w.heap.size w w') := hS
    have HF : Hid (∀ w : World, Calls Tryd.prog 29 #[.agg #[.int .i64 r.k, .int .i64 r.ho, .int .i64 r.hn, .int .i64 r.w, .int .i64 r.oo, .int .i64 r.on, .int .i64 r.to, .int .i64 r.tn]] w fun e w' => e = .returned (.int .i64 d) ∧ Below w.heap.size w w') := fun w => by rw [hd.1]; exact implRuleFault_c r w
    have HDD : Hid (d = ruleCode r ∧ (d = 0 → s = lineT r)) := hd
    clear hT hS hd
    go_wp2_with fail
    refine (HT.out _).mono ?_
    rintro e w6 ⟨rfl, hb6⟩
    have hz5 := hb5.size
    have hz6 := hb6.size
    simp only [World.size_alloc] at hz6
    have RR : Hid (RuleAt (w6.alloc (.cells #[.int .i64 d, .string s] 29)) w5.heap.size 0 r) := ((RuleAt.new w5 r _).below hb6).below ((Below.refl _ _).alloc (Nat.le_refl _) _)
    have T0 : (w6.alloc (.cells #[.int .i64 d, .string s] 29)).cell? ⟨w6.heap.size, 0, none⟩ = some (.int .i64 d) := by simp
    have T1 : (w6.alloc (.cells #[.int .i64 d, .string s] 29)).cell? ⟨w6.heap.size, 1, none⟩ = some (.string s) := by simp
    have hl5 : w5.heap.size < (w6.alloc (.cells #[.int .i64 d, .string s] 29)).heap.size := by simp; omega
    have hl6 : w6.heap.size < (w6.alloc (.cells #[.int .i64 d, .string s] 29)).heap.size := by simp
    have B7 : Hid (Below w.heap.size w (w6.alloc (.cells #[.int .i64 d, .string s] 29))) := (((BC.out.trans (hb5.mono BC.out.size)).alloc (by have := BC.out.size; omega) _).trans (hb6.mono (by have := BC.out.size; simp; omega))).alloc (by have := BC.out.size; omega) _
    clear hb5 hb6 HT
    go_upto_region 9 with fail
    generalize w6.alloc (.cells #[.int .i64 d, .string s] 29) = w7 at RR T0 T1 hl5 hl6 B7 ⊢
    generalize w5.heap.size = g5 at RR hl5 ⊢
    generalize w6.heap.size = g6 at T0 T1 hl6 ⊢
    obtain ⟨za, zb, zc, zd, ze, zf, zg, zh⟩ := RR.out
    simp only [Nat.zero_add] at za zb zc zd ze zf zg zh
    by_cases hd0 : d = 0
    · subst hd0
      obtain ⟨hd1, hd2⟩ := HDD.out
      have hs2 := hd2 rfl
      have hcode : ruleCode r = 0 := hd1.symm
      have hls := line_size r
      rw [← hs2] at hls
      have hrole := (code0 hcode).2.1
      have HPB : Hid (∀ w : World, Calls Tryd.prog 24 #[.string s] w fun e w' => e = .returned (.agg #[.int .i64 0, .int .i64 r.k, .int .i64 r.ho, .int .i64 r.hn, .int .i64 r.w, .int .i64 r.oo, .int .i64 r.on, .int .i64 r.to, .int .i64 r.tn]) ∧ Below w.heap.size w w') := fun w => by rw [hs2]; exact rule_back r hcode w
      have HRT : Hid (∀ w : World, Calls Tryd.prog 30 #[.agg #[.int .i64 r.ho, .int .i64 r.hn]] w fun e w' => e = .returned (.agg #[.int .i64 0, .string (roleT r.ho r.hn)]) ∧ Below w.heap.size w w') := fun w => implRoleText_in _ _ hrole w
      have HRF : Hid (∀ w : World, Calls Tryd.prog 31 #[.agg #[.int .i64 r.ho, .int .i64 r.hn]] w fun e w' => e = .returned (.int .i64 0) ∧ Below w.heap.size w w') := fun w => by have h := implRoleFault_c r.ho r.hn w; rw [show roleCode r.ho r.hn = 0 by simp [roleCode, hrole]] at h; exact h
      have hs6 : (6 : Int) < (s.size : Int) := by omega
      obtain ⟨rt, hrt⟩ : ∃ rt, rt = roleT r.ho r.hn := ⟨_, rfl⟩
      have hrs : rt.size = 3 := by rw [hrt]; simp [roleT, ByteArray.size]
      have hrs' : ((rt.size : Int) == 3) = true := by rw [hrs]; rfl
      rw [← hrt] at HRT
      have hsame : sameB r r = true := by simp [sameB]
      clear hd1 hd2 hs2 hcode hls hrole HDD hrt hrs HS HF
      go_wp2_with fail
      refine (HRT.out _).mono ?_
      rintro e w8 ⟨rfl, hb8⟩
      have hz8 := hb8.size
      have RR8 : Hid (RuleAt (w8.alloc (.cells #[.int .i64 0, .string rt] 29)) g5 0 r) := (RR.out.below hb8).below ((Below.refl _ _).alloc (Nat.le_refl _) _)
      have V0 : (w8.alloc (.cells #[.int .i64 0, .string rt] 29)).cell? ⟨w8.heap.size, 0, none⟩ = some (.int .i64 0) := by simp
      have V1 : (w8.alloc (.cells #[.int .i64 0, .string rt] 29)).cell? ⟨w8.heap.size, 1, none⟩ = some (.string rt) := by simp
      have W0 : (w8.alloc (.cells #[.int .i64 0, .string rt] 29)).cell? ⟨g6, 0, none⟩ = some (.int .i64 0) := by rw [World.cell?_alloc_past _ _ _ (by show g6 < w8.heap.size; omega)]; exact (hb8.cell (p := ⟨g6, 0, none⟩) hl6).trans T0
      have W1 : (w8.alloc (.cells #[.int .i64 0, .string rt] 29)).cell? ⟨g6, 1, none⟩ = some (.string s) := by rw [World.cell?_alloc_past _ _ _ (by show g6 < w8.heap.size; omega)]; exact (hb8.cell (p := ⟨g6, 1, none⟩) hl6).trans T1
      have hm5 : g5 < (w8.alloc (.cells #[.int .i64 0, .string rt] 29)).heap.size := by simp; omega
      have hm6 : g6 < (w8.alloc (.cells #[.int .i64 0, .string rt] 29)).heap.size := by simp; omega
      have hm8 : w8.heap.size < (w8.alloc (.cells #[.int .i64 0, .string rt] 29)).heap.size := by simp
      have B9 : Hid (Below w.heap.size w (w8.alloc (.cells #[.int .i64 0, .string rt] 29))) := (B7.out.trans (hb8.mono B7.out.size)).alloc (by have := B7.out.size; omega) _
      clear hb8 HRT RR T0 T1 hl5 hl6 za zb zc zd ze zf zg zh B7 hz8
      go_upto_region 12 with fail
      generalize w8.alloc (.cells #[.int .i64 0, .string rt] 29) = w9 at RR8 V0 V1 W0 W1 hm5 hm6 hm8 B9 ⊢
      generalize w8.heap.size = g8 at V0 V1 hm8 ⊢
      obtain ⟨za, zb, zc, zd, ze, zf, zg, zh⟩ := RR8.out
      simp only [Nat.zero_add] at za zb zc zd ze zf zg zh
      go_region_held3 (fun w' => (∀ b o, b < w9.heap.size → w'.cell? ⟨b, o, none⟩ = w9.cell? ⟨b, o, none⟩) ∧ Below w9.heap.size w9 w') (first | exact hS | exact kp_drew _ | assumption)
        (first | (go_at_call 24; refine (HPB.out _).mono ?_; rintro e w' ⟨rfl, hb8⟩; have hS := kp_step (by assumption) hb8) | (go_at_call 31; refine (HRF.out _).mono ?_; rintro e w' ⟨rfl, hb8⟩; have hS := kp_step (by assumption) hb8))
      go_wp2
      go_ret
      exact ⟨rfl, B9.out.trans (hS.2.mono B9.out.size)⟩
    · have hdn : (d != 0) = true := by simpa using hd0
      go_wp2_with fail
      go_region_held3 (fun w' => (∀ b o, b < w7.heap.size → w'.cell? ⟨b, o, none⟩ = w7.cell? ⟨b, o, none⟩) ∧ Below w7.heap.size w7 w') (first | exact hS | exact kp_drew _ | assumption)
        (first | (go_at_call 28; refine (HS.out _).mono ?_; rintro e w' ⟨rfl, hb8⟩; have hS := kp_step (by assumption) hb8) | (go_at_call 29; refine (HF.out _).mono ?_; rintro e w' ⟨rfl, hb8⟩; have hS := kp_step (by assumption) hb8))
      go_wp2
      go_ret
      exact ⟨rfl, B7.out.trans (hS.2.mono B7.out.size)⟩

end Go.Proofs.YtajdgbdpmmdlfaaDoor
