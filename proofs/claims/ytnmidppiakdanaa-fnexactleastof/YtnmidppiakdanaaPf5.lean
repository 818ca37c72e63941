/-
  CONTRACTS: impl.ProofOf; what both programs' ProofOf answers.
  Conditions: each contract bears its own.
-/
import Derived.Test.YtnmidppiakdanaaPf4
import Derived.Test.YtnmidppiakdanaaPf2
import Derived.Test.YtnmidppiakdanaaMo1
import Derived.Test.YtnmidppiakdanaaList2
namespace Go.Proofs.Ytnmidppiakdanaa
open Go.RowKit
set_option linter.unusedVariables false
set_option linter.unusedSimpArgs false

theorem owns_lower1 {w : World} {B B' : Nat} {v : Value} {n : Nat} {xs : List Value} (h : w.ownsRow B 2 1 v n xs) (hb : B' ≤ B) : w.ownsRow B' 2 1 v n xs := by
  refine ⟨h.1, ?_⟩
  rcases h.2 with h' | ⟨g, cap, cur, e, hg, rest⟩
  · exact .inl h'
  · exact .inr ⟨g, cap, cur, e, Nat.le_trans hb hg, rest⟩

theorem owns_box1 {w : World} {B b0 : Nat} {v x y : Value} {n : Nat} {xs : List Value} (h : w.ownsRow B 2 1 v n xs) (hB : b0 < B) : ((w.setCell ⟨b0, 0, none⟩ x).setCell ⟨b0, 1, none⟩ y).ownsRow b0 2 1 v n xs := by
  have h6 := owns_lower1 h (show b0 + 1 ≤ B by omega)
  have h7 := ownsRow_setCell_below (ownsRow_setCell_below h6 (a := ⟨b0, 0, none⟩) (by simp) x) (a := ⟨b0, 1, none⟩) (by simp) y
  exact owns_lower1 h7 (by omega)

set_option maxRecDepth 100000 in
set_option maxHeartbeats 2000000 in
theorem implProof_bad (a : Option Addr) (n cap : Nat) (zs : List RuleI) (r : RoI) (p c d : Int) (w : World) (hn : n ≤ 1048576) (hcap : n ≤ cap) (hcm : cap ≤ maxLen) (h : RulesIn w a n zs) (hc : memCode zs r = c) (hd : (c ≠ 0 ∧ d = c) ∨ (c = 0 ∧ prinB p = false ∧ d = 3)) : GivesP 36 a n cap r p d [] w := by
  obtain ⟨W, hW⟩ : ∃ W, W = (w.alloc (.cells #[.int .i64 r.1, .int .i64 r.2] 35)).alloc (.cells #[.int .i64 0, .slice none 0 0] 64) := ⟨_, rfl⟩
  have hs : W.heap.size = w.heap.size + 2 := by rw [hW]; simp
  have B0 : Below w.heap.size w W := by rw [hW]; exact ((Below.refl _ _).alloc (Nat.le_refl _) _).alloc (by simp) _
  have r0 : W.cell? ⟨w.heap.size, 0, none⟩ = some (.int .i64 r.1) := by rw [hW]; simp
  have r1 : W.cell? ⟨w.heap.size, 1, none⟩ = some (.int .i64 r.2) := by rw [hW]; simp
  have c0 : W.cell? ⟨w.heap.size + 1, 0, none⟩ = some (.int .i64 0) := by rw [hW]; simp
  have c1 : W.cell? ⟨w.heap.size + 1, 1, none⟩ = some (.slice none 0 0) := by rw [hW]; simp
  have f0 : ∀ j, W.frozen? ⟨w.heap.size + 1, j, none⟩ = false := fun j => by rw [hW]; simp [go_sem]
  have HP : Hid (∀ w2 : World, (∀ b o, b < W.heap.size → w2.cell? ⟨b, o, none⟩ = W.cell? ⟨b, o, none⟩) ∧ Below W.heap.size W w2 → Calls Try.prog 24 #[.slice a n cap] w2 fun e w' => e = .returned (.int .i64 (polCode zs)) ∧ Below w2.heap.size w2 w') := fun w2 q => implPolicyFault_c a n cap zs w2 hn hcap hcm (h.below (B0.trans (q.2.mono (by omega))))
  have HC : Hid (orC (polCode zs) (roleCode r.1 r.2) = c) := hc
  clear h hc
  generalize polCode zs = pc at HP HC
  generalize hq : roleCode r.1 r.2 = q at HC
  rcases hd with ⟨h0, rfl⟩ | ⟨rfl, hp, rfl⟩
  · have hcn : (d != 0) = true := by simpa using h0
    unfold GivesP
    go_enter Try.func36, Try.ntmps36
    go_wp2
    rw [← hW]
    clear hW
    go_region_held3 (fun w' => (∀ b o, b < W.heap.size → w'.cell? ⟨b, o, none⟩ = W.cell? ⟨b, o, none⟩) ∧ Below W.heap.size W w') (first | exact hS | exact kp_drew _ | exact kp_new (by assumption) _)
      (first | (go_at_call 24; refine (HP.out _ (by assumption)).mono ?_; rintro e w' ⟨rfl, hb2⟩; have hS := kp_step (by assumption) hb2) | (go_at_call 68; refine (implRoleFault_c _ _ _).mono ?_; rintro e w' ⟨rfl, hb2⟩; rw [hq]; have hS := kp_step (by assumption) hb2) | (go_at_call 61; refine (or64_c _ pc q _ ?_ ?_).mono ?_; (· simp [go_sem]); (· simp [go_sem]); rintro e w' ⟨rfl, rfl⟩))
    all_goals
      have hS3 := kp_new hS (.cells #[.int .i64 pc, .int .i64 q] 2)
      rw [HC.out]
      generalize w'.alloc (.cells #[.int .i64 pc, .int .i64 q] 2) = w3 at hS3 ⊢
      have hz3 := hS3.2.size
      have hw : w.heap.size + 1 < w3.heap.size := by omega
      have d0 := (hS3.1 (w.heap.size + 1) 0 (by omega)).trans c0
      have d1 := (hS3.1 (w.heap.size + 1) 1 (by omega)).trans c1
      have g0 : w3.frozen? ⟨w.heap.size + 1, 0, none⟩ = false := (hS3.2.frozen (p := ⟨w.heap.size + 1, 0, none⟩) (by show w.heap.size + 1 < W.heap.size; omega)).trans (f0 0)
      have g1 : w3.frozen? ⟨w.heap.size + 1, 1, none⟩ = false := (hS3.2.frozen (p := ⟨w.heap.size + 1, 1, none⟩) (by show w.heap.size + 1 < W.heap.size; omega)).trans (f0 1)
      have hBx : Below w.heap.size w w3 := B0.trans (hS3.2.mono (by omega))
      go_wp2
      refine bodyPost_ret (v := .agg #[.int .i64 d, .slice none 0 0]) (by simp [results, Try.results36, go_sem, d0, d1, hw]) rfl ⟨none, 0, rfl, World.ownsRow_nil _ _ _ _, ?_⟩
      exact hBx |>.setCell (by simp) _ |>.setCell (by simp) _
  · unfold GivesP
    go_enter Try.func36, Try.ntmps36
    go_wp2
    rw [← hW]
    clear hW
    go_region_held3 (fun w' => (∀ b o, b < W.heap.size → w'.cell? ⟨b, o, none⟩ = W.cell? ⟨b, o, none⟩) ∧ Below W.heap.size W w') (first | exact hS | exact kp_drew _ | exact kp_new (by assumption) _)
      (first | (go_at_call 24; refine (HP.out _ (by assumption)).mono ?_; rintro e w' ⟨rfl, hb2⟩; have hS := kp_step (by assumption) hb2) | (go_at_call 68; refine (implRoleFault_c _ _ _).mono ?_; rintro e w' ⟨rfl, hb2⟩; rw [hq]; have hS := kp_step (by assumption) hb2) | (go_at_call 61; refine (or64_c _ pc q _ ?_ ?_).mono ?_; (· simp [go_sem]); (· simp [go_sem]); rintro e w' ⟨rfl, rfl⟩))
    all_goals
      have hS3 := kp_new hS (.cells #[.int .i64 pc, .int .i64 q] 2)
      rw [HC.out]
      generalize w'.alloc (.cells #[.int .i64 pc, .int .i64 q] 2) = w3 at hS3 ⊢
      have hz3 := hS3.2.size
      have hw : w.heap.size + 1 < w3.heap.size := by omega
      have d0 := (hS3.1 (w.heap.size + 1) 0 (by omega)).trans c0
      have d1 := (hS3.1 (w.heap.size + 1) 1 (by omega)).trans c1
      have g0 : w3.frozen? ⟨w.heap.size + 1, 0, none⟩ = false := (hS3.2.frozen (p := ⟨w.heap.size + 1, 0, none⟩) (by show w.heap.size + 1 < W.heap.size; omega)).trans (f0 0)
      have g1 : w3.frozen? ⟨w.heap.size + 1, 1, none⟩ = false := (hS3.2.frozen (p := ⟨w.heap.size + 1, 1, none⟩) (by show w.heap.size + 1 < W.heap.size; omega)).trans (f0 1)
      have hBx : Below w.heap.size w w3 := B0.trans (hS3.2.mono (by omega))
      go_wp2_with (first | (go_at_call 91; refine (isPrin_c p _).mono ?_; rintro e w' ⟨rfl, rfl⟩; rw [hp]) | fail)
      refine bodyPost_ret (v := .agg #[.int .i64 3, .slice none 0 0]) (by simp [results, Try.results36, go_sem, d0, d1, hw]) rfl ⟨none, 0, rfl, World.ownsRow_nil _ _ _ _, ?_⟩
      exact hBx |>.setCell (by simp) _ |>.setCell (by simp) _

set_option maxRecDepth 100000 in
set_option maxHeartbeats 2000000 in
theorem implProof_ok (a : Option Addr) (n cap : Nat) (zs : List RuleI) (r : RoI) (p d : Int) (ls : List Int) (w : World) (hcap : n ≤ cap) (hcm : cap ≤ maxLen) (h : RulesIn w a n zs) (hc : polCode zs = 0) (hr : roleB r.1 r.2 = true) (hp : prinB p = true)
    (HA : Hid (∀ k : Nat, (∀ j, j < k → noneHit zs (ofG (itG zs j)) r p) → (∀ x : Int, ¬ noneHit zs (ofG (itG zs k)) r p → hitAt (ofG (itG zs k)) r p zs 0 = x → d = 0 ∧ ls = [(k : Int) + 1, x]) ∧ (noneHit zs (ofG (itG zs k)) r p → stepG zs (itG zs k) = itG zs k → d = 4 ∧ ls = []))) :
    GivesP 36 a n cap r p d ls w := by
  have hn : n ≤ 16 := pol_n16 h.1 hc
  have hp' : 1 ≤ p ∧ p ≤ 8 := by simpa [prinB] using hp
  obtain ⟨W, hW⟩ : ∃ W, W = (w.alloc (.cells #[.int .i64 r.1, .int .i64 r.2] 35)).alloc (.cells #[.int .i64 0, .slice none 0 0] 64) := ⟨_, rfl⟩
  have hs : W.heap.size = w.heap.size + 2 := by rw [hW]; simp
  have B0 : Below w.heap.size w W := by rw [hW]; exact ((Below.refl _ _).alloc (Nat.le_refl _) _).alloc (by simp) _
  have r0 : W.cell? ⟨w.heap.size, 0, none⟩ = some (.int .i64 r.1) := by rw [hW]; simp
  have r1 : W.cell? ⟨w.heap.size, 1, none⟩ = some (.int .i64 r.2) := by rw [hW]; simp
  have c0 : W.cell? ⟨w.heap.size + 1, 0, none⟩ = some (.int .i64 0) := by rw [hW]; simp
  have c1 : W.cell? ⟨w.heap.size + 1, 1, none⟩ = some (.slice none 0 0) := by rw [hW]; simp
  have f0 : ∀ j, W.frozen? ⟨w.heap.size + 1, j, none⟩ = false := fun j => by rw [hW]; simp [go_sem]
  have HP : Hid (∀ w2 : World, (∀ b o, b < W.heap.size → w2.cell? ⟨b, o, none⟩ = W.cell? ⟨b, o, none⟩) ∧ Below W.heap.size W w2 → Calls Try.prog 24 #[.slice a n cap] w2 fun e w' => e = .returned (.int .i64 0) ∧ Below w2.heap.size w2 w') := fun w2 q => by have := implPolicyFault_c a n cap zs w2 (by omega) hcap hcm (h.below (B0.trans (q.2.mono (by omega)))); rwa [hc] at this
  have HT : Hid (∀ w2 : World, Below W.heap.size W w2 → Calls Try.prog 92 #[.slice a n cap, .agg #[.int .i64 r.1, .int .i64 r.2], .int .u8 (bitI p)] w2 fun e w' => ∃ (a' : Option Addr) (cap' : Nat), e = .returned (.agg #[.int .i64 d, .slice a' ls.length cap']) ∧ w'.ownsRow W.heap.size 2 1 (.slice a' ls.length cap') ls.length (ls.map (Value.int .i64)) ∧ Below W.heap.size W w') := fun w2 q => by
    refine (proofOf_c eqMaps_c a n cap zs r p d ls w2 (h.below (B0.trans (q.mono (by omega)))) hn (fun z hz => ?_) hp'.1 hp'.2 HA).mono ?_
    · obtain ⟨j, hj⟩ := List.mem_iff_getElem?.1 hz
      have hc2 := hc
      unfold polCode at hc2
      split at hc2
      · cases hc2
      · have hjl : j < zs.length := by
          by_cases q : j < zs.length
          · exact q
          · rw [List.getElem?_eq_none (by omega)] at hj; cases hj
        exact polTo_all _ hc2 j z hjl hj
    · rintro e w' ⟨a', cap', rfl, ho, hb⟩
      exact ⟨a', cap', rfl, owns_lower1 ho q.size, q.trans (hb.mono q.size)⟩
  have hq : roleCode r.1 r.2 = 0 := by simp [roleCode, hr]
  clear h hc HA
  unfold GivesP
  go_enter Try.func36, Try.ntmps36
  go_wp2
  rw [← hW]
  clear hW
  go_region_held3 (fun w' => (∀ b o, b < W.heap.size → w'.cell? ⟨b, o, none⟩ = W.cell? ⟨b, o, none⟩) ∧ Below W.heap.size W w') (first | exact hS | exact kp_drew _ | exact kp_new (by assumption) _)
    (first | (go_at_call 24; refine (HP.out _ (by assumption)).mono ?_; rintro e w' ⟨rfl, hb2⟩; have hS := kp_step (by assumption) hb2) | (go_at_call 68; refine (implRoleFault_c _ _ _).mono ?_; rintro e w' ⟨rfl, hb2⟩; rw [hq]; have hS := kp_step (by assumption) hb2) | (go_at_call 61; refine (or64_c _ 0 0 _ ?_ ?_).mono ?_; (· simp [go_sem]); (· simp [go_sem]); rintro e w' ⟨rfl, rfl⟩))
  all_goals
    have hS3 := kp_new hS (.cells #[.int .i64 0, .int .i64 0] 2)
    rw [show orC 0 0 = 0 from rfl]
    generalize w'.alloc (.cells #[.int .i64 0, .int .i64 0] 2) = w3 at hS3 ⊢
    have hz3 := hS3.2.size
    have q0 := (hS3.1 w.heap.size 0 (by omega)).trans r0
    have q1 := (hS3.1 w.heap.size 1 (by omega)).trans r1
    have hlz : w.heap.size < w3.heap.size := by omega
    go_wp2_with (first | (go_at_call 91; refine (isPrin_c p _).mono ?_; rintro e w' ⟨rfl, rfl⟩; rw [hp]) | fail)
    go_region_with (first | (go_at_call 93; refine (bitOf_c p hp'.1 hp'.2 _).mono ?_; rintro e wb ⟨rfl, rfl⟩) | (go_at_call 92; refine (HT.out _ (by first | exact hS3.2 | exact hS3.2.drew)).mono ?_; rintro e w4 ⟨a', cap', rfl, hown, hb4⟩; have d0 := (hb4.cell (p := ⟨w.heap.size + 1, 0, none⟩) (by show w.heap.size + 1 < W.heap.size; omega)).trans c0; have d1 := (hb4.cell (p := ⟨w.heap.size + 1, 1, none⟩) (by show w.heap.size + 1 < W.heap.size; omega)).trans c1; have g0 := (hb4.frozen (p := ⟨w.heap.size + 1, 0, none⟩) (by show w.heap.size + 1 < W.heap.size; omega)).trans (f0 0); have g1 := (hb4.frozen (p := ⟨w.heap.size + 1, 1, none⟩) (by show w.heap.size + 1 < W.heap.size; omega)).trans (f0 1); have hz4 := hb4.size))
  all_goals
    have hw : w.heap.size + 1 < w4.heap.size := by omega
    have hBx : Below w.heap.size w w4 := B0.trans (hb4.mono (by omega))
    have HO : Hid (w4.ownsRow (w.heap.size + 2) 2 1 (.slice a' ls.length cap') ls.length (ls.map (Value.int .i64))) := by rw [← hs]; exact hown
    clear hown
    go_wp2
    refine bodyPost_ret (v := .agg #[.int .i64 d, .slice a' ls.length cap']) (by simp [results, Try.results36, go_sem, d0, d1, hw]) rfl ⟨a', cap', rfl, ?_, ?_⟩
    · exact owns_lower1 (owns_box1 HO.out (by omega)) (by omega)
    · exact hBx |>.setCell (by simp) _ |>.setCell (by simp) _

theorem proof_both (zs : List RuleI) (r : RoI) (p : Int) (n : Nat) (hn : n ≤ 1048576) (hz : zs.length = n) : ∃ (c : Int) (ls : List Int), ls.length ≤ 2 ∧
    (∀ (g : Nat) (w : World), RulesAt w g 0 zs → GivesP 33 (some ⟨g, 0, none⟩) n n r p c ls w) ∧
    (∀ (g : Nat) (w : World), RulesAt w g 0 zs → GivesP 36 (some ⟨g, 0, none⟩) n n r p c ls w) := by
  have hm : n ≤ maxLen := by unfold maxLen; omega
  by_cases hc : polCode zs = 0
  · cases hr : roleB r.1 r.2
    · have e : memCode zs r = 3 := by simp [memCode, orC, hc, roleCode, hr]
      exact ⟨3, [], by simp, fun g w h => specProof_bad _ _ _ _ _ 3 0 3 _ (.inl ⟨by decide, rfl⟩) (fun w' hb => specMembersOf_role _ _ _ _ _ _ hn ((RulesIn.of hz h).below hb) hc hr), fun g w h => implProof_bad _ _ _ _ _ _ _ _ _ hn (Nat.le_refl _) hm (RulesIn.of hz h) e (.inl ⟨by decide, rfl⟩)⟩
    · obtain ⟨gs, hg⟩ := all_some zs hc
      have e : memCode zs r = 0 := by simp [memCode, orC, hc, roleCode, hr]
      have hok := (pol_ok hc).2
      have hok1 : ∀ z ∈ zs, okR z := fun z q => (hok z q).1
      have hS : ∀ (g : Nat) (w : World), RulesAt w g 0 zs → ∀ w', Below w.heap.size w w' → GivesI 86 (some ⟨g, 0, none⟩) n n r 0 (ofG gs r) w' := fun g w h w' hb => specMembersOf_ok _ _ _ _ _ _ _ ((RulesIn.of hz h).below hb) hc hr hg
      cases hp : prinB p
      · exact ⟨3, [], by simp, fun g w h => specProof_bad _ _ _ _ _ 0 (ofG gs r) 3 _ (.inr (.inl ⟨rfl, hp, rfl⟩)) (hS g w h), fun g w h => implProof_bad _ _ _ _ _ _ 0 _ _ hn (Nat.le_refl _) hm (RulesIn.of hz h) e (.inr ⟨rfl, hp, rfl⟩)⟩
      · have hp' : 1 ≤ p ∧ p ≤ 8 := by simpa [prinB] using hp
        cases hh : hasI (ofG gs r) p
        · have hnot : ¬ Has zs r p := fun q => by
            have := (hg.as r p hp'.1 hp'.2).2 q
            rw [hh] at this; cases this
          refine ⟨4, [], by simp, fun g w h => specProof_bad _ _ _ _ _ 0 (ofG gs r) 4 _ (.inr (.inr ⟨rfl, hp, ofG_set hg.sg r, hh, rfl⟩)) (hS g w h), fun g w h => implProof_ok _ _ _ zs _ _ _ _ _ (Nat.le_refl _) hm (RulesIn.of hz h) hc hr hp ?_⟩
          exact fun k hk => ⟨fun x hx _ => absurd (none_of_not hok1 hnot k) hx, fun _ _ => ⟨rfl, rfl⟩⟩
        · have hHas := (hg.as r p hp'.1 hp'.2).1 hh
          obtain ⟨N, hN, h1, h2⟩ := first_few hok1 hHas
          refine ⟨0, [(N : Int) + 1, hitAt (ofG (itG zs N)) r p zs 0], by simp, fun g w h => specProof_ok _ _ _ zs _ _ _ N _ (RulesIn.of hz h) (pol_n16 hz hc) hok hp (ofG_set hg.sg r) hh hN h1 h2 (hS g w h), fun g w h => implProof_ok _ _ _ zs _ _ _ _ _ (Nat.le_refl _) hm (RulesIn.of hz h) hc hr hp ?_⟩
          refine fun k hk => ⟨fun x hx ex => ?_, fun hx hst => ?_⟩
          · have : k = N := by
              by_cases q : k < N
              · exact absurd (h2 k q) hx
              · by_cases q2 : N < k
                · exact absurd (hk N q2) h1
                · omega
            subst this
            exact ⟨rfl, by rw [ex]⟩
          · exfalso
            refine not_of_still hok1 hp'.1 hp'.2 (n := k) (fun j hj => ?_) hst hHas
            by_cases q : j = k
            · subst q; exact hx
            · exact hk j (by omega)
  · have e : memCode zs r = polCode zs := by simp [memCode, orC, hc]
    exact ⟨polCode zs, [], by simp, fun g w h => specProof_bad _ _ _ _ _ (polCode zs) 0 _ _ (.inl ⟨hc, rfl⟩) (fun w' hb => specMembersOf_pol _ _ _ _ _ _ _ hn ((RulesIn.of hz h).below hb) rfl hc), fun g w h => implProof_bad _ _ _ _ _ _ _ _ _ hn (Nat.le_refl _) hm (RulesIn.of hz h) e (.inl ⟨hc, rfl⟩)⟩

end Go.Proofs.Ytnmidppiakdanaa
