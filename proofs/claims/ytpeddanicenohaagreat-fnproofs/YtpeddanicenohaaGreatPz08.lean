/-
  CONTRACTS of laws.eqIntsResult (two that are alike), laws.markIntsResult and laws.heldIntsResult.
  Conditions: each contract bears its own.
  CONTRACTS: impl.ProofOf; what both programs' ProofOf answers.
  Conditions: each contract bears its own.
  PLAIN WORDS for FnProofs: few steps give something new. No Go text is walked here.
  Conditions: each fact bears its own.
  PLAIN WORDS on the fault of grants. No Go text is walked here.
  Conditions: each fact bears its own.
-/
import Derived.Test.YtpeddanicenohaaGreatPz07
import Derived.Test.YtpeddanicenohaaGreatPz06
import Derived.Test.YtpeddanicenohaaGreatGr8
namespace Go.Proofs.YtpeddanicenohaaGreat
open Go.RowKit
set_option linter.unusedVariables false

/-- The marks k, k + 1, .. -/
def marks (k n : Nat) : List Int := (List.range n).map (fun i => ((k + i : Nat) : Int))

theorem marks_len (k n : Nat) : (marks k n).length = n := by simp [marks]
theorem marks_at (k n j : Nat) (h : j < n) : (marks k n)[j]?.getD 0 = ((k + j : Nat) : Int) := by simp [marks, h]

theorem owns_parts {w : World} {b : Nat} {t : TypeId} {a : Option Addr} {n cap : Nat} {xs : List Value} (h : w.ownsRow b t 1 (.slice a n cap) n xs) :
    xs.length = n ∧ (n = 0 ∨ ∃ g, a = some ⟨g, 0, none⟩) := by
  refine ⟨by simpa using h.1, ?_⟩
  rcases h.2 with ⟨h', h0⟩ | ⟨g, cap', cur, h', _⟩
  · exact .inl h0
  · simp at h'; exact .inr ⟨g, h'.1⟩

theorem row_of_owns {w : World} {b : Nat} {a : Option Addr} {n cap : Nat} {zs : List Int} (h : w.ownsRow b 2 1 (.slice a n cap) n (zs.map (Value.int .i64))) : RowIn w a n zs := by
  obtain ⟨hl, hc⟩ := owns_parts h
  simp at hl
  refine ⟨by omega, fun k hk => ?_⟩
  rcases hc with h0 | ⟨g, rfl⟩
  · omega
  · refine ⟨g, 0, rfl, ?_⟩
    rw [Nat.zero_add, h.cellAt k (by omega)]
    simp [List.getElem?_eq_getElem (show k < zs.length by omega)]

/-- A row that another block's writes leave. -/
theorem RowIn.kept {w w' : World} {a : Option Addr} {n : Nat} {zs : List Int} {row : Option Nat} (h : RowIn w a n zs) (hg : w.grownBy w' row) (hne : ∀ g off, a = some ⟨g, off, none⟩ → some g ≠ row) : RowIn w' a n zs := by
  refine ⟨h.1, fun k hk => ?_⟩
  obtain ⟨g, off, e, hc⟩ := h.2 k hk
  exact ⟨g, off, e, hg.cell hc (hne g off e)⟩

theorem owns_block {w : World} {b : Nat} {a : Option Addr} {n cap : Nat} {xs : List Value} (h : w.ownsRow b 2 1 (.slice a n cap) n xs) : ∀ g off, a = some ⟨g, off, none⟩ → b ≤ g ∧ g < w.heap.size := by
  intro g off e
  subst e
  exact h.lt g rfl

theorem owns_below {w w' : World} {b : Nat} {v : Value} {n : Nat} {xs : List Value} (h : w.ownsRow b 2 1 v n xs) (hb : Below w.heap.size w w') : w'.ownsRow b 2 1 v n xs :=
  h.kept (row := none) ⟨hb.os, hb.tape, hb.output, hb.size, fun k hk _ => hb.block k hk⟩ (by rcases h.2 with ⟨rfl, _⟩ | ⟨g, cap, cur, rfl, _⟩; exact .inl rfl; exact .inr (by simp [Value.ownBlock]))

end Go.Proofs.YtpeddanicenohaaGreat

namespace Go.Proofs.YtpeddanicenohaaGreat
open Go.RowKit
set_option linter.unusedVariables false
set_option linter.unusedSimpArgs false

theorem owns_lower1 {w : World} {B B' : Nat} {v : Value} {n : Nat} {xs : List Value} (h : w.ownsRow B 2 1 v n xs) (hb : B' ≤ B) : w.ownsRow B' 2 1 v n xs := by
  refine ⟨h.1, ?_⟩
  rcases h.2 with h' | ⟨g, cap, cur, e, hg, rest⟩
  · exact .inl h'
  · exact .inr ⟨g, cap, cur, e, Nat.le_trans hb hg, rest⟩

theorem owns_box1 {w : World} {B b0 : Nat} {v x y : Value} {n : Nat} {xs : List Value} (h : w.ownsRow B 2 1 v n xs) (hB : b0 < B) : ((w.setCell ⟨b0, 0, none⟩ x).setCell ⟨b0, 1, none⟩ y).ownsRow b0 2 1 v n xs := by
  have h6 := owns_lower1 h (show b0 + 1 ≤ B by omega)
  have h7 := ownsRow_setCell_below (ownsRow_setCell_below h6 (a := ⟨b0, 0, none⟩) (by simp) x) (a := ⟨b0, 1, none⟩) (by simp) y
  exact owns_lower1 h7 (by omega)

set_option maxRecDepth 100000 in
set_option maxHeartbeats 2000000 in
theorem implProof_bad (a : Option Addr) (n cap : Nat) (zs : List RuleI) (r : RoI) (p c d : Int) (w : World) (hn : n ≤ 1048576) (hcap : n ≤ cap) (hcm : cap ≤ maxLen) (h : RulesIn w a n zs) (hc : memCode zs r = c) (hd : (c ≠ 0 ∧ d = c) ∨ (c = 0 ∧ prinB p = false ∧ d = 3)) : GivesP 6 a n cap r p d [] w := by
  obtain ⟨W, hW⟩ : ∃ W, W = (w.alloc (.cells #[.int .i64 r.1, .int .i64 r.2] 26)).alloc (.cells #[.int .i64 0, .slice none 0 0] 31) := ⟨_, rfl⟩
  have hs : W.heap.size = w.heap.size + 2 := by rw [hW]; simp
  have B0 : Below w.heap.size w W := by rw [hW]; exact ((Below.refl _ _).alloc (Nat.le_refl _) _).alloc (by simp) _
  have r0 : W.cell? ⟨w.heap.size, 0, none⟩ = some (.int .i64 r.1) := by rw [hW]; simp
  have r1 : W.cell? ⟨w.heap.size, 1, none⟩ = some (.int .i64 r.2) := by rw [hW]; simp
  have c0 : W.cell? ⟨w.heap.size + 1, 0, none⟩ = some (.int .i64 0) := by rw [hW]; simp
  have c1 : W.cell? ⟨w.heap.size + 1, 1, none⟩ = some (.slice none 0 0) := by rw [hW]; simp
  have f0 : ∀ j, W.frozen? ⟨w.heap.size + 1, j, none⟩ = false := fun j => by rw [hW]; simp [go_sem]
  have HP : Hid (∀ w2 : World, (∀ b o, b < W.heap.size → w2.cell? ⟨b, o, none⟩ = W.cell? ⟨b, o, none⟩) ∧ Below W.heap.size W w2 → Calls Tryz.prog 13 #[.slice a n cap] w2 fun e w' => e = .returned (.int .i64 (polCode zs)) ∧ Below w2.heap.size w2 w') := fun w2 q => implPolicyFault_c a n cap zs w2 hn hcap hcm (h.below (B0.trans (q.2.mono (by omega))))
  have HC : Hid (orC (polCode zs) (roleCode r.1 r.2) = c) := hc
  clear h hc
  generalize polCode zs = pc at HP HC
  generalize hq : roleCode r.1 r.2 = q at HC
  rcases hd with ⟨h0, rfl⟩ | ⟨rfl, hp, rfl⟩
  · have hcn : (d != 0) = true := by simpa using h0
    unfold GivesP
    go_enter Tryz.func6, Tryz.ntmps6
    go_wp2
    rw [← hW]
    clear hW
    go_region_held3 (fun w' => (∀ b o, b < W.heap.size → w'.cell? ⟨b, o, none⟩ = W.cell? ⟨b, o, none⟩) ∧ Below W.heap.size W w') (first | exact hS | exact kp_drew _ | exact kp_new (by assumption) _)
      (first | (go_at_call 13; refine (HP.out _ (by assumption)).mono ?_; rintro e w' ⟨rfl, hb2⟩; have hS := kp_step (by assumption) hb2) | (go_at_call 14; refine (implRoleFault_c _ _ _).mono ?_; rintro e w' ⟨rfl, hb2⟩; rw [hq]; have hS := kp_step (by assumption) hb2) | (go_at_call 12; refine (or64_c _ pc q _ ?_ ?_).mono ?_; (· simp [go_sem]); (· simp [go_sem]); rintro e w' ⟨rfl, rfl⟩))
    all_goals
      have hS3 := kp_new hS (.cells #[.int .i64 pc, .int .i64 q] 2)
      rw [HC.out]
      generalize w'.alloc (.cells #[.int .i64 pc, .int .i64 q] 2) = w3 at hS3 ⊢
      have hz3 := hS3.2.size
      have hw : w.heap.size + 1 < w3.heap.size := by omega
      have d0 := (hS3.1 (w.heap.size + 1) 0 (by omega)).trans c0
      have d1 := (hS3.1 (w.heap.size + 1) 1 (by omega)).trans c1
      have g0 : w3.frozen? ⟨w.heap.size + 1, 0, none⟩ = false := (hS3.2.frozen (p := ⟨w.heap.size + 1, 0, none⟩) (by show w.heap.size + 1 < W.heap.size; omega)).trans (f0 0)
      have g1 : w3.frozen? ⟨w.heap.size + 1, 1, none⟩ = false := (hS3.2.frozen (p := ⟨w.heap.size + 1, 1, none⟩) (by show w.heap.size + 1 < W.heap.size; omega)).trans (f0 1)
      have hBx : Below w.heap.size w w3 := B0.trans (hS3.2.mono (by omega))
      go_wp2
      refine bodyPost_ret (v := .agg #[.int .i64 d, .slice none 0 0]) (by simp [results, Tryz.results6, go_sem, d0, d1, hw]) rfl ⟨none, 0, rfl, World.ownsRow_nil _ _ _ _, ?_⟩
      exact hBx |>.setCell (by simp) _ |>.setCell (by simp) _
  · unfold GivesP
    go_enter Tryz.func6, Tryz.ntmps6
    go_wp2
    rw [← hW]
    clear hW
    go_region_held3 (fun w' => (∀ b o, b < W.heap.size → w'.cell? ⟨b, o, none⟩ = W.cell? ⟨b, o, none⟩) ∧ Below W.heap.size W w') (first | exact hS | exact kp_drew _ | exact kp_new (by assumption) _)
      (first | (go_at_call 13; refine (HP.out _ (by assumption)).mono ?_; rintro e w' ⟨rfl, hb2⟩; have hS := kp_step (by assumption) hb2) | (go_at_call 14; refine (implRoleFault_c _ _ _).mono ?_; rintro e w' ⟨rfl, hb2⟩; rw [hq]; have hS := kp_step (by assumption) hb2) | (go_at_call 12; refine (or64_c _ pc q _ ?_ ?_).mono ?_; (· simp [go_sem]); (· simp [go_sem]); rintro e w' ⟨rfl, rfl⟩))
    all_goals
      have hS3 := kp_new hS (.cells #[.int .i64 pc, .int .i64 q] 2)
      rw [HC.out]
      generalize w'.alloc (.cells #[.int .i64 pc, .int .i64 q] 2) = w3 at hS3 ⊢
      have hz3 := hS3.2.size
      have hw : w.heap.size + 1 < w3.heap.size := by omega
      have d0 := (hS3.1 (w.heap.size + 1) 0 (by omega)).trans c0
      have d1 := (hS3.1 (w.heap.size + 1) 1 (by omega)).trans c1
      have g0 : w3.frozen? ⟨w.heap.size + 1, 0, none⟩ = false := (hS3.2.frozen (p := ⟨w.heap.size + 1, 0, none⟩) (by show w.heap.size + 1 < W.heap.size; omega)).trans (f0 0)
      have g1 : w3.frozen? ⟨w.heap.size + 1, 1, none⟩ = false := (hS3.2.frozen (p := ⟨w.heap.size + 1, 1, none⟩) (by show w.heap.size + 1 < W.heap.size; omega)).trans (f0 1)
      have hBx : Below w.heap.size w w3 := B0.trans (hS3.2.mono (by omega))
      go_wp2_with (first | (go_at_call 15; refine (isPrin_c p _).mono ?_; rintro e w' ⟨rfl, rfl⟩; rw [hp]) | fail)
      refine bodyPost_ret (v := .agg #[.int .i64 3, .slice none 0 0]) (by simp [results, Tryz.results6, go_sem, d0, d1, hw]) rfl ⟨none, 0, rfl, World.ownsRow_nil _ _ _ _, ?_⟩
      exact hBx |>.setCell (by simp) _ |>.setCell (by simp) _

set_option maxRecDepth 100000 in
set_option maxHeartbeats 2000000 in
theorem implProof_ok (a : Option Addr) (n cap : Nat) (zs : List RuleI) (r : RoI) (p d : Int) (ls : List Int) (w : World) (hcap : n ≤ cap) (hcm : cap ≤ maxLen) (h : RulesIn w a n zs) (hc : polCode zs = 0) (hr : roleB r.1 r.2 = true) (hp : prinB p = true)
    (HA : Hid (∀ k : Nat, (∀ j, j < k → noneHit zs (ofG (itG zs j)) r p) → (∀ x : Int, ¬ noneHit zs (ofG (itG zs k)) r p → hitAt (ofG (itG zs k)) r p zs 0 = x → d = 0 ∧ ls = [(k : Int) + 1, x]) ∧ (noneHit zs (ofG (itG zs k)) r p → stepG zs (itG zs k) = itG zs k → d = 4 ∧ ls = []))) :
    GivesP 6 a n cap r p d ls w := by
  have hn : n ≤ 16 := pol_n16 h.1 hc
  have hp' : 1 ≤ p ∧ p ≤ 8 := by simpa [prinB] using hp
  obtain ⟨W, hW⟩ : ∃ W, W = (w.alloc (.cells #[.int .i64 r.1, .int .i64 r.2] 26)).alloc (.cells #[.int .i64 0, .slice none 0 0] 31) := ⟨_, rfl⟩
  have hs : W.heap.size = w.heap.size + 2 := by rw [hW]; simp
  have B0 : Below w.heap.size w W := by rw [hW]; exact ((Below.refl _ _).alloc (Nat.le_refl _) _).alloc (by simp) _
  have r0 : W.cell? ⟨w.heap.size, 0, none⟩ = some (.int .i64 r.1) := by rw [hW]; simp
  have r1 : W.cell? ⟨w.heap.size, 1, none⟩ = some (.int .i64 r.2) := by rw [hW]; simp
  have c0 : W.cell? ⟨w.heap.size + 1, 0, none⟩ = some (.int .i64 0) := by rw [hW]; simp
  have c1 : W.cell? ⟨w.heap.size + 1, 1, none⟩ = some (.slice none 0 0) := by rw [hW]; simp
  have f0 : ∀ j, W.frozen? ⟨w.heap.size + 1, j, none⟩ = false := fun j => by rw [hW]; simp [go_sem]
  have HP : Hid (∀ w2 : World, (∀ b o, b < W.heap.size → w2.cell? ⟨b, o, none⟩ = W.cell? ⟨b, o, none⟩) ∧ Below W.heap.size W w2 → Calls Tryz.prog 13 #[.slice a n cap] w2 fun e w' => e = .returned (.int .i64 0) ∧ Below w2.heap.size w2 w') := fun w2 q => by have := implPolicyFault_c a n cap zs w2 (by omega) hcap hcm (h.below (B0.trans (q.2.mono (by omega)))); rwa [hc] at this
  have HT : Hid (∀ w2 : World, Below W.heap.size W w2 → Calls Tryz.prog 16 #[.slice a n cap, .agg #[.int .i64 r.1, .int .i64 r.2], .int .u8 (bitI p)] w2 fun e w' => ∃ (a' : Option Addr) (cap' : Nat), e = .returned (.agg #[.int .i64 d, .slice a' ls.length cap']) ∧ w'.ownsRow W.heap.size 2 1 (.slice a' ls.length cap') ls.length (ls.map (Value.int .i64)) ∧ Below W.heap.size W w') := fun w2 q => by
    refine (proofOf_c eqMaps_c a n cap zs r p d ls w2 (h.below (B0.trans (q.mono (by omega)))) hn (fun z hz => ?_) hp'.1 hp'.2 HA).mono ?_
    · obtain ⟨j, hj⟩ := List.mem_iff_getElem?.1 hz
      have hc2 := hc
      unfold polCode at hc2
      split at hc2
      · cases hc2
      · have hjl : j < zs.length := by
          by_cases q : j < zs.length
          · exact q
          · rw [List.getElem?_eq_none (by omega)] at hj; cases hj
        exact polTo_all _ hc2 j z hjl hj
    · rintro e w' ⟨a', cap', rfl, ho, hb⟩
      exact ⟨a', cap', rfl, owns_lower1 ho q.size, q.trans (hb.mono q.size)⟩
  have hq : roleCode r.1 r.2 = 0 := by simp [roleCode, hr]
  clear h hc HA
  unfold GivesP
  go_enter Tryz.func6, Tryz.ntmps6
  go_wp2
  rw [← hW]
  clear hW
  go_region_held3 (fun w' => (∀ b o, b < W.heap.size → w'.cell? ⟨b, o, none⟩ = W.cell? ⟨b, o, none⟩) ∧ Below W.heap.size W w') (first | exact hS | exact kp_drew _ | exact kp_new (by assumption) _)
    (first | (go_at_call 13; refine (HP.out _ (by assumption)).mono ?_; rintro e w' ⟨rfl, hb2⟩; have hS := kp_step (by assumption) hb2) | (go_at_call 14; refine (implRoleFault_c _ _ _).mono ?_; rintro e w' ⟨rfl, hb2⟩; rw [hq]; have hS := kp_step (by assumption) hb2) | (go_at_call 12; refine (or64_c _ 0 0 _ ?_ ?_).mono ?_; (· simp [go_sem]); (· simp [go_sem]); rintro e w' ⟨rfl, rfl⟩))
  all_goals
    have hS3 := kp_new hS (.cells #[.int .i64 0, .int .i64 0] 2)
    rw [show orC 0 0 = 0 from rfl]
    generalize w'.alloc (.cells #[.int .i64 0, .int .i64 0] 2) = w3 at hS3 ⊢
    have hz3 := hS3.2.size
    have q0 := (hS3.1 w.heap.size 0 (by omega)).trans r0
    have q1 := (hS3.1 w.heap.size 1 (by omega)).trans r1
    have hlz : w.heap.size < w3.heap.size := by omega
    go_wp2_with (first | (go_at_call 15; refine (isPrin_c p _).mono ?_; rintro e w' ⟨rfl, rfl⟩; rw [hp]) | fail)
    go_region_with (first | (go_at_call 17; refine (bitOf_c p hp'.1 hp'.2 _).mono ?_; rintro e wb ⟨rfl, rfl⟩) | (go_at_call 16; refine (HT.out _ (by first | exact hS3.2 | exact hS3.2.drew)).mono ?_; rintro e w4 ⟨a', cap', rfl, hown, hb4⟩; have d0 := (hb4.cell (p := ⟨w.heap.size + 1, 0, none⟩) (by show w.heap.size + 1 < W.heap.size; omega)).trans c0; have d1 := (hb4.cell (p := ⟨w.heap.size + 1, 1, none⟩) (by show w.heap.size + 1 < W.heap.size; omega)).trans c1; have g0 := (hb4.frozen (p := ⟨w.heap.size + 1, 0, none⟩) (by show w.heap.size + 1 < W.heap.size; omega)).trans (f0 0); have g1 := (hb4.frozen (p := ⟨w.heap.size + 1, 1, none⟩) (by show w.heap.size + 1 < W.heap.size; omega)).trans (f0 1); have hz4 := hb4.size))
  all_goals
    have hw : w.heap.size + 1 < w4.heap.size := by omega
    have hBx : Below w.heap.size w w4 := B0.trans (hb4.mono (by omega))
    have HO : Hid (w4.ownsRow (w.heap.size + 2) 2 1 (.slice a' ls.length cap') ls.length (ls.map (Value.int .i64))) := by rw [← hs]; exact hown
    clear hown
    go_wp2
    refine bodyPost_ret (v := .agg #[.int .i64 d, .slice a' ls.length cap']) (by simp [results, Tryz.results6, go_sem, d0, d1, hw]) rfl ⟨a', cap', rfl, ?_, ?_⟩
    · exact owns_lower1 (owns_box1 HO.out (by omega)) (by omega)
    · exact hBx |>.setCell (by simp) _ |>.setCell (by simp) _

theorem proof_both (zs : List RuleI) (r : RoI) (p : Int) (n : Nat) (hn : n ≤ 1048576) (hz : zs.length = n) : ∃ (c : Int) (ls : List Int), ls.length ≤ 2 ∧
    (∀ (g : Nat) (w : World), RulesAt w g 0 zs → GivesP 7 (some ⟨g, 0, none⟩) n n r p c ls w) ∧
    (∀ (g : Nat) (w : World), RulesAt w g 0 zs → GivesP 6 (some ⟨g, 0, none⟩) n n r p c ls w) := by
  have hm : n ≤ maxLen := by unfold maxLen; omega
  by_cases hc : polCode zs = 0
  · cases hr : roleB r.1 r.2
    · have e : memCode zs r = 3 := by simp [memCode, orC, hc, roleCode, hr]
      exact ⟨3, [], by simp, fun g w h => specProof_bad _ _ _ _ _ 3 0 3 _ (.inl ⟨by decide, rfl⟩) (fun w' hb => specMembersOf_role _ _ _ _ _ _ hn ((RulesIn.of hz h).below hb) hc hr), fun g w h => implProof_bad _ _ _ _ _ _ _ _ _ hn (Nat.le_refl _) hm (RulesIn.of hz h) e (.inl ⟨by decide, rfl⟩)⟩
    · obtain ⟨gs, hg⟩ := all_some zs hc
      have e : memCode zs r = 0 := by simp [memCode, orC, hc, roleCode, hr]
      have hok := (pol_ok hc).2
      have hok1 : ∀ z ∈ zs, okR z := fun z q => (hok z q).1
      have hS : ∀ (g : Nat) (w : World), RulesAt w g 0 zs → ∀ w', Below w.heap.size w w' → GivesI 18 (some ⟨g, 0, none⟩) n n r 0 (ofG gs r) w' := fun g w h w' hb => specMembersOf_ok _ _ _ _ _ _ _ ((RulesIn.of hz h).below hb) hc hr hg
      cases hp : prinB p
      · exact ⟨3, [], by simp, fun g w h => specProof_bad _ _ _ _ _ 0 (ofG gs r) 3 _ (.inr (.inl ⟨rfl, hp, rfl⟩)) (hS g w h), fun g w h => implProof_bad _ _ _ _ _ _ 0 _ _ hn (Nat.le_refl _) hm (RulesIn.of hz h) e (.inr ⟨rfl, hp, rfl⟩)⟩
      · have hp' : 1 ≤ p ∧ p ≤ 8 := by simpa [prinB] using hp
        cases hh : hasI (ofG gs r) p
        · have hnot : ¬ Has zs r p := fun q => by
            have := (hg.al r p hp'.1 hp'.2).2 q
            rw [hh] at this; cases this
          refine ⟨4, [], by simp, fun g w h => specProof_bad _ _ _ _ _ 0 (ofG gs r) 4 _ (.inr (.inr ⟨rfl, hp, ofG_set hg.sg r, hh, rfl⟩)) (hS g w h), fun g w h => implProof_ok _ _ _ zs _ _ _ _ _ (Nat.le_refl _) hm (RulesIn.of hz h) hc hr hp ?_⟩
          exact fun k hk => ⟨fun x hx _ => absurd (none_of_not hok1 hnot k) hx, fun _ _ => ⟨rfl, rfl⟩⟩
        · have hHas := (hg.al r p hp'.1 hp'.2).1 hh
          obtain ⟨N, hN, h1, h2⟩ := first_few hok1 hHas
          refine ⟨0, [(N : Int) + 1, hitAt (ofG (itG zs N)) r p zs 0], by simp, fun g w h => specProof_ok _ _ _ zs _ _ _ N _ (RulesIn.of hz h) (pol_n16 hz hc) hok hp (ofG_set hg.sg r) hh hN h1 h2 (hS g w h), fun g w h => implProof_ok _ _ _ zs _ _ _ _ _ (Nat.le_refl _) hm (RulesIn.of hz h) hc hr hp ?_⟩
          refine fun k hk => ⟨fun x hx ex => ?_, fun hx hst => ?_⟩
          · have : k = N := by
              by_cases q : k < N
              · exact absurd (h2 k q) hx
              · by_cases q2 : N < k
                · exact absurd (hk N q2) h1
                · omega
            subst this
            exact ⟨rfl, by rw [ex]⟩
          · exfalso
            refine not_of_still hok1 hp'.1 hp'.2 (n := k) (fun j hj => ?_) hst hHas
            by_cases q : j = k
            · subst q; exact hx
            · exact hk j (by omega)
  · have e : memCode zs r = polCode zs := by simp [memCode, orC, hc]
    exact ⟨polCode zs, [], by simp, fun g w h => specProof_bad _ _ _ _ _ (polCode zs) 0 _ _ (.inl ⟨hc, rfl⟩) (fun w' hb => specMembersOf_pol _ _ _ _ _ _ _ hn ((RulesIn.of hz h).below hb) rfl hc), fun g w h => implProof_bad _ _ _ _ _ _ _ _ _ hn (Nat.le_refl _) hm (RulesIn.of hz h) e (.inl ⟨hc, rfl⟩)⟩

end Go.Proofs.YtpeddanicenohaaGreat

namespace Go.Proofs.YtpeddanicenohaaGreat
open Go.RowKit
set_option linter.unusedVariables false
set_option linter.unusedSimpArgs false

theorem countP_le {α : Type} {p q : α → Bool} : ∀ (l : List α), (∀ x ∈ l, p x = true → q x = true) → l.countP p ≤ l.countP q
  | [], _ => by simp
  | a :: l, h => by
    have ih := countP_le l (fun x hx => h x (by simp [hx]))
    have ha := h a (by simp)
    rw [List.countP_cons, List.countP_cons]
    cases e : p a
    · simp; omega
    · rw [ha e]; simp; omega

theorem countP_less {α : Type} {p q : α → Bool} : ∀ (l : List α), (∀ x ∈ l, p x = true → q x = true) → (∃ x ∈ l, q x = true ∧ p x = false) → l.countP p < l.countP q
  | [], _, h => by obtain ⟨x, hx, _⟩ := h; simp at hx
  | a :: l, h, ⟨x, hx, hq, hp⟩ => by
    have hl := countP_le l (fun y hy => h y (by simp [hy]))
    rw [List.countP_cons, List.countP_cons]
    rcases List.mem_cons.1 hx with rfl | hx
    · rw [hq, hp]; simp; omega
    · have ih := countP_less l (fun y hy => h y (by simp [hy])) ⟨x, hx, hq, hp⟩
      have ha := h a (by simp)
      cases e : p a
      · simp; omega
      · rw [ha e]; simp; omega

/-- Who may have what. -/
def allRP : List (RoI × Int) := allRo.flatMap (fun r => [(r, 1), (r, 2), (r, 3), (r, 4), (r, 5), (r, 6), (r, 7), (r, 8)])

theorem allRP_len : allRP.length = 320 := by decide +kernel

theorem mem_allRP {r : RoI} {p : Int} (h : roleB r.1 r.2 = true) (h0 : 1 ≤ p) (h1 : p ≤ 8) : (r, p) ∈ allRP := by
  refine List.mem_flatMap.2 ⟨r, mem_allRo h, ?_⟩
  have : p = 1 ∨ p = 2 ∨ p = 3 ∨ p = 4 ∨ p = 5 ∨ p = 6 ∨ p = 7 ∨ p = 8 := by omega
  rcases this with rfl | rfl | rfl | rfl | rfl | rfl | rfl | rfl <;> simp

def hasRP (gs : List GrI) (x : RoI × Int) : Bool := hasI (ofG gs x.1) x.2

theorem few_step {zs : List RuleI} {gs : List GrI} (hz : ∀ z ∈ zs, okR z) (hg : SG gs) (h : stepG zs gs ≠ gs) : allRP.countP (hasRP gs) < allRP.countP (hasRP (stepG zs gs)) := by
  refine countP_less _ (fun x _ q => (has_step hz hg x.1 x.2).2 (.inl q)) (Classical.byContradiction (fun hno => h ?_))
  have hs := sg_step hz hg
  refine sg_ext hs hg (fun r => set_ext (ofG_set hs r) (ofG_set hg r) (fun p h0 h1 => ?_))
  cases q : hasI (ofG (stepG zs gs) r) p
  · cases q2 : hasI (ofG gs r) p
    · rfl
    · rw [(has_step hz hg r p).2 (.inl q2)] at q; cases q
  · cases q2 : hasI (ofG gs r) p
    · exfalso
      have hne : ofG (stepG zs gs) r ≠ 0 := fun e => by rw [e, hasI_zero] at q; cases q
      have hr := hs.ro _ (ofG_some hne)
      exact hno ⟨(r, p), mem_allRP hr h0 h1, q, q2⟩
    · rfl

theorem it_few {zs : List RuleI} (hz : ∀ z ∈ zs, okR z) : ∀ (n : Nat), (∀ k, k < n → stepG zs (itG zs k) ≠ itG zs k) → n ≤ allRP.countP (hasRP (itG zs n))
  | 0, _ => Nat.zero_le _
  | n + 1, h => by
    have i := it_few hz n (fun k hk => h k (by omega))
    have s := few_step hz (sg_it hz n) (h n (by omega))
    show n + 1 ≤ allRP.countP (hasRP (stepG zs (itG zs n)))
    omega

theorem it_ends_few {zs : List RuleI} (hz : ∀ z ∈ zs, okR z) : ∃ n, n ≤ 320 ∧ stepG zs (itG zs n) = itG zs n := by
  refine Classical.byContradiction (fun hno => ?_)
  have h1 := it_few (zs := zs) hz 321 (fun k hk e => hno ⟨k, by omega, e⟩)
  have h2 := List.countP_le_length (p := hasRP (itG zs 321)) (l := allRP)
  rw [allRP_len] at h2
  omega

end Go.Proofs.YtpeddanicenohaaGreat

namespace Go.Proofs.YtpeddanicenohaaGreat
open Go.RowKit

def setIn (s : Int) : Bool := decide (0 ≤ s) && decide (s ≤ 255)

/-- The grant ahead stands ahead. -/
def prevB (gs : List GrI) (k : Nat) (x : GrI) : Bool := match k with
  | 0 => true
  | j + 1 => match gs[j]? with | some y => ltR y.1 x.1 | none => true

def gfOne (gs : List GrI) (k : Nat) (x : GrI) : Int := if roleB x.1.1 x.1.2 = false then 3 else if setIn x.2 = false then 3 else if x.2 = 0 then 1 else if prevB gs k x = false then 1 else 0

def gfTo (gs : List GrI) : Nat → Int
  | 0 => 0
  | k + 1 => if gfTo gs k ≠ 0 then gfTo gs k else match gs[k]? with
    | none => 0
    | some x => gfOne gs k x

def gfCode (gs : List GrI) : Int := if 40 < gs.length then 2 else gfTo gs gs.length

theorem gfTo_stay (gs : List GrI) (k m : Nat) (c : Int) (hc : c ≠ 0) (h : gfTo gs k = c) (hm : k ≤ m) : gfTo gs m = c := by
  induction m with
  | zero => obtain rfl : k = 0 := by omega
            exact h
  | succ m ih =>
    by_cases e : k = m + 1
    · subst e; exact h
    · have := ih (by omega)
      simp only [gfTo, this]
      rw [if_pos hc]

theorem gfTo_next {gs : List GrI} {k : Nat} {x : GrI} (hk : gs[k]? = some x) (h0 : gfTo gs k = 0) : gfTo gs (k + 1) = gfOne gs k x := by
  simp [gfTo, h0, hk]

theorem gfOne_zero {gs : List GrI} {k : Nat} {x : GrI} : gfOne gs k x = 0 ↔ roleB x.1.1 x.1.2 = true ∧ (1 ≤ x.2 ∧ x.2 ≤ 255) ∧ prevB gs k x = true := by
  unfold gfOne setIn
  cases h1 : roleB x.1.1 x.1.2 <;> cases h2 : prevB gs k x <;> simp
  · intro h3
    split at h3 <;> cases h3
  · constructor
    · intro h
      split at h
      · cases h
      · rename_i q
        split at h
        · cases h
        · simp at q; omega
    · intro h
      rw [if_neg (by simp; omega), if_neg (by omega)]

theorem gf_take {gs : List GrI} : ∀ k, k ≤ gs.length → gfTo gs k = 0 → SG (gs.take k)
  | 0, _, _ => by simpa using sg_nil
  | k + 1, hk, h => by
    have h0 : gfTo gs k = 0 := by
      by_cases q : gfTo gs k = 0
      · exact q
      · exact absurd (gfTo_stay gs k (k + 1) _ q rfl (by omega)) (by rw [h]; exact fun e => q e.symm)
    have hx : gs[k]? = some gs[k] := List.getElem?_eq_getElem (by omega)
    rw [gfTo_next hx h0] at h
    obtain ⟨h1, h2, h3⟩ := gfOne_zero.1 h
    have i := gf_take k (by omega) h0
    rw [List.take_succ_eq_append_getElem (by omega)]
    refine ⟨List.pairwise_append.2 ⟨i.up, by simp, fun a ha b hb => ?_⟩, fun x hx => ?_, fun x hx => ?_⟩
    · simp at hb
      rw [hb]
      obtain ⟨j, hj⟩ := List.mem_iff_getElem?.1 ha
      have hjk : j < k := by
        by_cases q : j < k
        · exact q
        · rw [List.getElem?_eq_none (by simp; omega)] at hj; cases hj
      match k, hk, hx, h3, i, ha, hj, hjk with
      | m + 1, hk, hx, h3, i, ha, hj, hjk =>
        have hy : gs[m]? = some gs[m] := List.getElem?_eq_getElem (by omega)
        simp only [prevB, hy] at h3
        by_cases e : j = m
        · subst e
          rw [List.getElem?_take, if_pos (by omega), hy] at hj
          rw [← Option.some.inj hj]
          exact h3
        · have hp := List.pairwise_iff_getElem.1 i.up j m (by simp; omega) (by simp; omega) (by omega)
          rw [List.getElem_take, List.getElem_take] at hp
          rw [List.getElem?_take, if_pos (by omega), List.getElem?_eq_getElem (by omega)] at hj
          rw [← Option.some.inj hj]
          exact ltR_trans hp h3
    · rcases List.mem_append.1 hx with q | q
      · exact i.ro x q
      · simp at q; rw [q]; exact h1
    · rcases List.mem_append.1 hx with q | q
      · exact i.st x q
      · simp at q; rw [q]; exact h2

theorem gf_sg {gs : List GrI} (h : gfCode gs = 0) : SG gs := by
  unfold gfCode at h
  split at h
  · cases h
  · have := gf_take gs.length (Nat.le_refl _) h
    rwa [List.take_length] at this

theorem sg_gf {gs : List GrI} (h : SG gs) : gfCode gs = 0 := by
  have hl := sg_len h
  unfold gfCode
  rw [if_neg (by omega)]
  have key : ∀ k, k ≤ gs.length → gfTo gs k = 0 := by
    intro k
    induction k with
    | zero => intro _; rfl
    | succ k ih =>
      intro hk
      have hx : gs[k]? = some gs[k] := List.getElem?_eq_getElem (by omega)
      rw [gfTo_next hx (ih (by omega))]
      refine gfOne_zero.2 ⟨h.ro _ (List.getElem_mem _), h.st _ (List.getElem_mem _), ?_⟩
      match k, hk, hx with
      | 0, _, _ => rfl
      | j + 1, hk, _ =>
        simp only [prevB, List.getElem?_eq_getElem (show j < gs.length by omega)]
        exact List.pairwise_iff_getElem.1 h.up j (j + 1) (by omega) (by omega) (by omega)
  exact key _ (Nat.le_refl _)

theorem prevB_of {gs : List GrI} {j : Nat} {y : GrI} (h : gs[j]? = some y) (x : GrI) : prevB gs (j + 1) x = ltR y.1 x.1 := by simp [prevB, h]

end Go.Proofs.YtpeddanicenohaaGreat
