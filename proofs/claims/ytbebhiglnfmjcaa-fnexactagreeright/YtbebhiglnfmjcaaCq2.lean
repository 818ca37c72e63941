/-
  CONTRACTS: chapter 10, the program: headFault, msgsFault, nodeFault, CastFault.
  Conditions: each contract bears its own.
-/
import Derived.Test.YtbebhiglnfmjcaaCq1
namespace Go.Proofs.Ytbebhiglnfmjcaa
open Go.RowKit
set_option linter.unusedVariables false
set_option linter.unusedSimpArgs false
attribute [local go_sem] fldN0 fldN1
attribute [local go_sem ↓] ms_eql

theorem rise_true {ys : List Int} (h : riseB ys = true) : (!riseB ys) = false := by rw [h]; rfl

set_option maxRecDepth 20000 in
set_option maxHeartbeats 2000000 in
theorem headFault_c (g : Nat) (c : CastI) (w : World) (hb : BoxV g [.int .i64 c.f, .int .i64 c.s, .slice c.ba c.bn c.bc, .slice c.na c.nn c.nc, .slice c.ma c.mn c.mc] w) (h : CastIn w c) (hle : CastLe 1048576 c) :
    Calls Try.prog 45 #[.pointer (some ⟨g, 0, none⟩)] w fun e w' => e = .returned (.int .i64 (hdCode c.f c.s c.bs c.nn c.mn)) ∧ Below w.heap.size w w' := by
  have c0 := hb 0 _ rfl
  have hgl : g < w.heap.size := World.block_lt_of_cell? w ⟨g, 0, none⟩ c0
  have HB : Hid (Hold g (g + 1) (BoxV g [.int .i64 c.f, .int .i64 c.s, .slice c.ba c.bn c.bc, .slice c.na c.nn c.nc, .slice c.ma c.mn c.mc]) w) := BoxV.hold hb hgl
  have HI : Hid (IntIn w c.ba c.bn c.bs) := h.bad
  have HZ : Hid (c.bs.length = c.bn) := h.bad.1
  have hbn : c.bn ≤ 1048576 := hle.bad
  have hbi : (c.bn : Int) ≤ 1048576 := by omega
  have hni : (c.nn : Int) ≤ 1048576 := by have := hle.nodes; omega
  have hmi : (c.mn : Int) ≤ 1048576 := by have := hle.msgs; omega
  obtain ⟨K, hK⟩ : ∃ K, hdCode c.f c.s c.bs c.nn c.mn = K := ⟨_, rfl⟩
  have HK : Hid (hdCode c.f c.s c.bs c.nn c.mn = K) := hK
  rw [hK]
  clear hb h hle hK
  cases hf : inR c.f 1 2
  · have HNF : Hid (∀ w : World, Calls Try.prog 64 #[.int .i64 c.f] w fun e w' => e = .returned (.agg #[.int .i64 3, .int .i64 0]) ∧ Below w.heap.size w w') := fun w => by
      have q := implNeedOf_c c.f w
      unfold GivesNF nfCode nfVal at q
      rw [hf] at q
      exact q
    have HK3 : Hid (K = 3) := by show K = 3; rw [← HK.out]; unfold hdCode; rw [hf]; rfl
    clear hf HK
    go_enter Try.func45, Try.ntmps45
    go_wp2_with fail
    refine (HNF.out _).mono ?_
    rintro e w1 ⟨rfl, hb1⟩
    go_wp2
    go_ret
    exact ⟨by rw [HK3.out]; rfl, hb1⟩
  · obtain ⟨hf1, hf2⟩ := (inR_iff c.f 1 2).1 hf
    have HNF : Hid (∀ w : World, Calls Try.prog 64 #[.int .i64 c.f] w fun e w' => e = .returned (.agg #[.int .i64 0, .int .i64 (2 * c.f + 1)]) ∧ Below w.heap.size w w') := fun w => by
      have q := implNeedOf_c c.f w
      unfold GivesNF nfCode nfVal at q
      rw [hf] at q
      exact q
    have HRF : Hid (∀ w : World, Calls Try.prog 53 #[.int .i64 c.f] w fun e w' => e = .returned (.agg #[.int .i64 0, .int .i64 (3 * c.f + 1)]) ∧ Below w.heap.size w w') := fun w => by
      have q := implReplicasOf_c c.f w
      unfold GivesNF nfCode nfVal at q
      rw [hf] at q
      exact q
    have HK2 : Hid ((if (inR c.s 1 (3 * c.f + 1) && rngAll c.f c.bs) = true then (if c.f < (c.bn : Int) ∨ 200 < c.mn then 2 else if riseB c.bs = true ∧ (c.nn : Int) = 3 * c.f + 1 then 0 else 1) else 3) = K) := by
      show _ = K
      rw [← HK.out]
      unfold hdCode
      rw [hf, if_pos rfl, HZ.out]
    clear hf HK
    go_enter Try.func45, Try.ntmps45
    go_wp2_with fail
    refine (HNF.out _).mono ?_
    rintro e w1 ⟨rfl, hb1⟩
    have X1 := hidP (HB.out.below hb1)
    have B1 := hidP hb1
    have d0 := X1.out.out 0 _ rfl
    have hg1 : g < w1.heap.size := Nat.lt_of_lt_of_le hgl hb1.size
    clear hb1 c0
    go_wp2_with fail
    refine (HRF.out _).mono ?_
    rintro e w2 ⟨rfl, hb2⟩
    clear d0 hg1
    obtain ⟨V, hV⟩ : ∃ V, V = w2.alloc (.cells #[.int .i64 0, .int .i64 (3 * c.f + 1)] 37) := ⟨_, rfl⟩
    have AV : Below w2.heap.size w2 V := by rw [hV]; exact (Below.refl _ _).alloc (Nat.le_refl _) _
    have XV := hidP ((X1.out.below hb2).below AV)
    have BV : Hid (Below w.heap.size w V) := (B1.out.trans (hb2.mono B1.out.size)).trans (AV.mono (Nat.le_trans B1.out.size hb2.size))
    have MV : Hid (Hold w2.heap.size (w2.heap.size + 1) (BoxV w2.heap.size [.int .i64 0, .int .i64 (3 * c.f + 1)]) V) := by rw [hV]; exact boxV_new w2 #[.int .i64 0, .int .i64 (3 * c.f + 1)] 37
    clear hb2 AV X1 B1
    have hmf : ∀ (fn : Fn) (first cap : Array Value) (w : World), (Instr.makeFunc fn first cap).run Try.prog w = .ok (.func fn first cap) w := fun _ _ _ _ => rfl
    go_upto_region 6 with fail
    rw [← hV]
    clear hV
    generalize w2.heap.size = bm at MV ⊢
    have v1 := XV.out.out 1 _ rfl
    have v2 := XV.out.out 2 _ rfl
    have hgV : g < V.heap.size := Nat.lt_of_lt_of_le hgl BV.out.size
    obtain ⟨t, ht⟩ : ∃ t, inR c.s 1 (3 * c.f + 1) = t := ⟨_, rfl⟩
    have HNM : Hid (∀ W : World, Below V.heap.size V W → Calls Try.prog 89 #[.int .i64 c.s, .pointer (some ⟨bm, 0, none⟩)] W fun e w' => e = .returned (.bool (!t)) ∧ Below W.heap.size W w') := fun W hW => by rw [← ht]; exact noMember_c bm c.s c.f W (MV.out.below hW).out
    have HNS : Hid (∀ W : World, Below V.heap.size V W → Calls Try.prog 90 #[.slice c.ba c.bn c.bc, .func (.func 89) #[] #[.pointer (some ⟨bm, 0, none⟩)]] W fun e w' => e = .returned (.bool (!rngAll c.f c.bs)) ∧ Below W.heap.size W w') := fun W hW => noMembers_c bm c.ba c.bn c.bc c.bs c.f W hbn (HI.out.below (BV.out.trans (hW.mono BV.out.size))) (MV.out.below hW).out
    have HT : Hid (inR c.s 1 (3 * c.f + 1) = t) := ht
    clear ht
    go_wp2_with fail
    refine (HNM.out _ (Below.refl _ _)).mono ?_
    rintro e w3 ⟨rfl, hb3⟩
    have B3 := hidP (BV.out.trans (hb3.mono BV.out.size))
    have X3 := hidP (XV.out.below hb3)
    have M3 := hidP (MV.out.below hb3)
    have V3 := hidP hb3
    clear hb3 v1 v2 hgV
    cases t
    · have HK3 : Hid (K = 3) := by show K = 3; rw [← HK2.out, HT.out]; rfl
      clear HK2
      go_wp2
      go_ret
      exact ⟨by rw [HK3.out]; rfl, B3.out⟩
    · have u2 := X3.out.out 2 _ rfl
      have hg3 : g < w3.heap.size := Nat.lt_of_lt_of_le hgl B3.out.size
      obtain ⟨s, hs⟩ : ∃ s, rngAll c.f c.bs = s := ⟨_, rfl⟩
      have HS : Hid (rngAll c.f c.bs = s) := hs
      rw [hs] at HNS
      clear hs
      go_wp2_with fail
      refine (HNS.out _ V3.out).mono ?_
      rintro e w4 ⟨rfl, hb4⟩
      have B4 := hidP (B3.out.trans (hb4.mono B3.out.size))
      have X4 := hidP (X3.out.below hb4)
      have M4 := hidP (M3.out.below hb4)
      clear hb4 u2 hg3 X3 M3 V3 XV MV BV B3 HNM HNS
      cases s
      · have HK3 : Hid (K = 3) := by show K = 3; rw [← HK2.out, HT.out, HS.out]; rfl
        clear HK2
        go_wp2
        go_ret
        exact ⟨by rw [HK3.out]; rfl, B4.out⟩
      have HK4 : Hid ((if c.f < (c.bn : Int) ∨ 200 < c.mn then 2 else if riseB c.bs = true ∧ (c.nn : Int) = 3 * c.f + 1 then 0 else 1) = K) := by
        show _ = K
        rw [← HK2.out, HT.out, HS.out]
        rfl
      have u0 := X4.out.out 0 _ rfl
      have u2 := X4.out.out 2 _ rfl
      have u4 := X4.out.out 4 _ rfl
      have hg4 : g < w4.heap.size := Nat.lt_of_lt_of_le hgl B4.out.size
      clear HK2 HT HS
      by_cases q1 : c.f < (c.bn : Int)
      · have HK5 : Hid (K = 2) := by show K = 2; rw [← HK4.out, if_pos (.inl q1)]
        clear HK4
        go_wp2_with fail
        go_quiet (fail)
        go_wp2
        go_ret
        exact ⟨by rw [HK5.out]; rfl, below_drewN B4.out _⟩
      by_cases q2 : 200 < c.mn
      · have HK5 : Hid (K = 2) := by show K = 2; rw [← HK4.out, if_pos (.inr q2)]
        have q2' : (200 : Int) < (c.mn : Int) := by omega
        clear HK4
        go_wp2_with fail
        go_quiet (fail)
        go_wp2
        go_ret
        exact ⟨by rw [HK5.out]; rfl, below_drewN B4.out _⟩
      have HK5 : Hid ((if riseB c.bs = true ∧ (c.nn : Int) = 3 * c.f + 1 then 0 else 1) = K) := by
        show _ = K
        have q12 : ¬ (c.f < (c.bn : Int) ∨ 200 < c.mn) := fun q => q.elim q1 q2
        rw [← HK4.out, if_neg q12]
      have q2' : ¬ (200 : Int) < (c.mn : Int) := by omega
      clear HK4
      go_wp2_with fail
      go_quiet (fail)
      go_upto_region 10 with fail
      obtain ⟨nq1, rfl⟩ : ∃ q, q = nq := ⟨_, rfl⟩
      obtain ⟨W5, hW5⟩ : ∃ W, W = w4.drewN nq1 := ⟨_, rfl⟩
      have b45 : Below w4.heap.size w4 W5 := by rw [hW5]; exact below_drewN (Below.refl _ _) _
      rw [← hW5]
      have B5 := hidP (B4.out.trans (b45.mono B4.out.size))
      have X5 := hidP (X4.out.below b45)
      have M5 := hidP (M4.out.below b45)
      clear hW5 b45 X4 M4 B4 u0 u2 u4 hg4
      have u2 := X5.out.out 2 _ rfl
      have u3 := X5.out.out 3 _ rfl
      have m1 := M5.out.out 1 _ rfl
      have hg5 : g < W5.heap.size := Nat.lt_of_lt_of_le hgl B5.out.size
      have hm5 : bm < W5.heap.size := M5.out.le
      obtain ⟨r, hr⟩ : ∃ r, riseB c.bs = r := ⟨_, rfl⟩
      have HRS : Hid (∀ W : World, Below W5.heap.size W5 W → Calls Try.prog 91 #[.slice c.ba c.bn c.bc] W fun e w' => e = .returned (.bool r) ∧ Below W.heap.size W w') := fun W hW => by rw [← hr]; exact rise_c c.ba c.bn c.bc c.bs W hbn (HI.out.below (B5.out.trans (hW.mono B5.out.size)))
      have HR : Hid (riseB c.bs = r) := hr
      clear hr
      cases r
      · have HK6 : Hid (K = 1) := by show K = 1; rw [← HK5.out, if_neg (fun q => by rw [HR.out] at q; cases q.1)]
        clear HK5
        refine wp_region_held_drew (S := fun w' => KC W5 w') (by kernel_rfl) (kp_drew _) (fun hHeld => ?_)
        refine wpAnyH_take (i := 0) (v := ?_) rfl (by kernel_rfl) (by kernel_rfl) (by kernel_rfl) (fun _ _ _ h => h) (Or.inl ⟨by kernel_rfl, ?_⟩) (by assumption) ?_
        rotate_left 1
        · intro w hSw; (try dsimp only at hSw); go_simp; try (with_reducible rfl)
        try simp only [Act.put, List.getElem_toArray, List.getElem_cons_succ, List.getElem_cons_zero, List.setIfInBounds_toArray, List.set_cons_zero, List.set_cons_succ]
        refine wpAnyH_take (i := 1) (v := ?_) rfl (by kernel_rfl) (by kernel_rfl) (by kernel_rfl) (fun _ _ _ h => h) (Or.inl ⟨by kernel_rfl, ?_⟩) (by assumption) ?_
        rotate_left 1
        · intro w hSw; (try dsimp only at hSw); go_simp; try (with_reducible rfl)
        try simp only [Act.put, List.getElem_toArray, List.getElem_cons_succ, List.getElem_cons_zero, List.setIfInBounds_toArray, List.set_cons_zero, List.set_cons_succ]
        refine wpAnyH_take (i := 2) (v := ?_) rfl (by kernel_rfl) (by kernel_rfl) (by kernel_rfl) (fun _ _ _ h => h) (Or.inl ⟨by kernel_rfl, ?_⟩) (by assumption) ?_
        rotate_left 1
        · intro w hSw; (try dsimp only at hSw); go_simp; try (with_reducible rfl)
        try simp only [Act.put, List.getElem_toArray, List.getElem_cons_succ, List.getElem_cons_zero, List.setIfInBounds_toArray, List.set_cons_zero, List.set_cons_succ]
        refine wpAnyH_take (i := 3) (v := ?_) rfl (by kernel_rfl) (by kernel_rfl) (by kernel_rfl) (fun _ _ _ h => h) (Or.inl ⟨by kernel_rfl, ?_⟩) (by assumption) ?_
        rotate_left 1
        · intro w hSw; (try dsimp only at hSw); go_simp; try (with_reducible rfl)
        try simp only [Act.put, List.getElem_toArray, List.getElem_cons_succ, List.getElem_cons_zero, List.setIfInBounds_toArray, List.set_cons_zero, List.set_cons_succ]
        refine wpAnyH_ready (rs := [4]) (by kernel_rfl) (by simp) ?_
        refine AllReadyH.cons rfl (fun K hK => ?_) AllReadyH.nil
        go_simp
        refine (HRS.out _ hHeld.2).mono ?_
        rintro d wA ⟨rfl, hbA⟩
        have hS := kp_step hHeld hbA
        refine hK.out _ _ hS (fun hHeld => ?_)
        clear hK K
        try simp only [Act.put, List.getElem_toArray, List.getElem_cons_succ, List.getElem_cons_zero, List.setIfInBounds_toArray, List.set_cons_zero, List.set_cons_succ]
        refine wpAnyH_take (i := 5) (v := ?_) rfl (by kernel_rfl) (by kernel_rfl) (by kernel_rfl) (fun _ _ _ h => h) (Or.inl ⟨by kernel_rfl, ?_⟩) (by assumption) ?_
        rotate_left 1
        · intro w hSw; (try dsimp only at hSw); go_simp; try (with_reducible rfl)
        try simp only [Act.put, List.getElem_toArray, List.getElem_cons_succ, List.getElem_cons_zero, List.setIfInBounds_toArray, List.set_cons_zero, List.set_cons_succ]
        refine wpAnyH_take (i := 6) (v := ?_) rfl (by kernel_rfl) (by kernel_rfl) (by kernel_rfl) (fun _ _ _ h => h) (Or.inl ⟨by kernel_rfl, ?_⟩) (by assumption) ?_
        rotate_left 1
        · intro w hSw; (try dsimp only at hSw); go_simp; try (with_reducible rfl)
        try simp only [Act.put, List.getElem_toArray, List.getElem_cons_succ, List.getElem_cons_zero, List.setIfInBounds_toArray, List.set_cons_zero, List.set_cons_succ]
        refine wpAnyH_take (i := 7) (v := undef) rfl (by kernel_rfl) (by kernel_rfl) (by kernel_rfl) (fun _ _ _ h => h) (Or.inr ⟨by kernel_rfl, rfl⟩) (by assumption) ?_
        try simp only [Act.put, List.getElem_toArray, List.getElem_cons_succ, List.getElem_cons_zero, List.setIfInBounds_toArray, List.set_cons_zero, List.set_cons_succ]
        refine wpAnyH_take (i := 8) (v := undef) rfl (by kernel_rfl) (by kernel_rfl) (by kernel_rfl) (fun _ _ _ h => h) (Or.inr ⟨by kernel_rfl, rfl⟩) (by assumption) ?_
        try simp only [Act.put, List.getElem_toArray, List.getElem_cons_succ, List.getElem_cons_zero, List.setIfInBounds_toArray, List.set_cons_zero, List.set_cons_succ]
        refine wpAnyH_take (i := 9) (v := undef) rfl (by kernel_rfl) (by kernel_rfl) (by kernel_rfl) (fun _ _ _ h => h) (Or.inr ⟨by kernel_rfl, rfl⟩) (by assumption) ?_
        try simp only [Act.put, List.getElem_toArray, List.getElem_cons_succ, List.getElem_cons_zero, List.setIfInBounds_toArray, List.set_cons_zero, List.set_cons_succ]
        refine wpAnyH_take (i := 10) (v := undef) rfl (by kernel_rfl) (by kernel_rfl) (by kernel_rfl) (fun _ _ _ h => h) (Or.inr ⟨by kernel_rfl, rfl⟩) (by assumption) ?_
        try simp only [Act.put, List.getElem_toArray, List.getElem_cons_succ, List.getElem_cons_zero, List.setIfInBounds_toArray, List.set_cons_zero, List.set_cons_succ]
        refine wpAnyH_take (i := 11) (v := undef) rfl (by kernel_rfl) (by kernel_rfl) (by kernel_rfl) (fun _ _ _ h => h) (Or.inr ⟨by kernel_rfl, rfl⟩) (by assumption) ?_
        try simp only [Act.put, List.getElem_toArray, List.getElem_cons_succ, List.getElem_cons_zero, List.setIfInBounds_toArray, List.set_cons_zero, List.set_cons_succ]
        refine wpAnyH_take (i := 12) (v := undef) rfl (by kernel_rfl) (by kernel_rfl) (by kernel_rfl) (fun _ _ _ h => h) (Or.inr ⟨by kernel_rfl, rfl⟩) (by assumption) ?_
        try simp only [Act.put, List.getElem_toArray, List.getElem_cons_succ, List.getElem_cons_zero, List.setIfInBounds_toArray, List.set_cons_zero, List.set_cons_succ]
        refine wpAnyH_take (i := 13) (v := undef) rfl (by kernel_rfl) (by kernel_rfl) (by kernel_rfl) (fun _ _ _ h => h) (Or.inr ⟨by kernel_rfl, rfl⟩) (by assumption) ?_
        try simp only [Act.put, List.getElem_toArray, List.getElem_cons_succ, List.getElem_cons_zero, List.setIfInBounds_toArray, List.set_cons_zero, List.set_cons_succ]
        refine wpAnyH_take (i := 14) (v := undef) rfl (by kernel_rfl) (by kernel_rfl) (by kernel_rfl) (fun _ _ _ h => h) (Or.inr ⟨by kernel_rfl, rfl⟩) (by assumption) ?_
        try simp only [Act.put, List.getElem_toArray, List.getElem_cons_succ, List.getElem_cons_zero, List.setIfInBounds_toArray, List.set_cons_zero, List.set_cons_succ]
        refine wpAnyH_take (i := 15) (v := ?_) rfl (by kernel_rfl) (by kernel_rfl) (by kernel_rfl) (fun _ _ _ h => h) (Or.inl ⟨by kernel_rfl, ?_⟩) (by assumption) ?_
        rotate_left 1
        · intro w hSw; (try dsimp only at hSw); go_simp; try (with_reducible rfl)
        try simp only [Act.put, List.getElem_toArray, List.getElem_cons_succ, List.getElem_cons_zero, List.setIfInBounds_toArray, List.set_cons_zero, List.set_cons_succ]
        refine wpAnyH_done (by kernel_rfl) ?_ _
        clear hHeld u2 u3 m1
        go_wp2
        go_ret
        exact ⟨by rw [HK6.out]; rfl, B5.out.trans (hS.2.mono B5.out.size)⟩
      · by_cases q3 : (c.nn : Int) = 3 * c.f + 1
        · have HK6 : Hid (K = 0) := by show K = 0; rw [← HK5.out, if_pos ⟨HR.out, q3⟩]
          have q3' : ((c.nn : Int) != 3 * c.f + 1) = false := by simp [q3]
          clear HK5 q3
          go_region_held3 (fun w' => KC W5 w') (first | exact hS | exact kp_drew _ | assumption)
            (first | (go_at_call 91; refine (HRS.out _ (by first | exact hS.2 | exact (kp_drew _).2 | assumption)).mono ?_; rintro e w' ⟨rfl, hbA⟩; have hS := kp_step (by first | exact hS | exact kp_drew _) hbA))
          clear u2 u3 m1
          go_wp2
          go_ret
          exact ⟨by rw [HK6.out]; rfl, B5.out.trans (hS.2.mono B5.out.size)⟩
        · have HK6 : Hid (K = 1) := by show K = 1; rw [← HK5.out, if_neg (fun q => q3 q.2)]
          have q3' : ((c.nn : Int) != 3 * c.f + 1) = true := by simp [q3]
          clear HK5 q3
          go_region_held3 (fun w' => KC W5 w') (first | exact hS | exact kp_drew _ | assumption)
            (first | (go_at_call 91; refine (HRS.out _ (by first | exact hS.2 | exact (kp_drew _).2 | assumption)).mono ?_; rintro e w' ⟨rfl, hbA⟩; have hS := kp_step (by first | exact hS | exact kp_drew _) hbA))
          clear u2 u3 m1
          go_wp2
          go_ret
          exact ⟨by rw [HK6.out]; rfl, B5.out.trans (hS.2.mono B5.out.size)⟩

end Go.Proofs.Ytbebhiglnfmjcaa
