/-
  CONTRACTS: StatementFault of both programs.
  Conditions: each contract bears its own.
-/
import Derived.Test.YthogdfnaojijhaaSt1
namespace Go.Proofs.Ythogdfnaojijhaa
open Go.RowKit
set_option linter.unusedVariables false
set_option linter.unusedSimpArgs false

theorem StAt.new (w : World) (x : StI) (t : TypeId) : StAt (w.alloc (.cells #[.int .i64 x.k, .int .i64 x.e, .int .i64 x.f, .int .i64 x.s, .int .i64 x.n] t)) w.heap.size 0 x := by
  simp [StAt]

set_option maxHeartbeats 1000000 in
theorem inBounds_c (x : StI) (w : World) : Calls Try.prog 65 #[.agg #[.int .i64 x.k, .int .i64 x.e, .int .i64 x.f, .int .i64 x.s, .int .i64 x.n]] w fun e w' => e = .returned (.bool (rngB x)) ∧ Below w.heap.size w w' := by
  obtain ⟨xk, xe, xf, xs, xn⟩ := x
  unfold rngB
  simp only
  cases he : inR xe 1 9
  · go_enter Try.func65, Try.ntmps65
    go_wp2_with (go_at_call 77; refine (iEpoch_c _ _).mono ?_; rintro e w' ⟨rfl, rfl⟩; rw [he])
    go_ret
    exact ⟨rfl, by go_grown⟩
  · cases hk : formK xk
    · cases hn : inR xn 0 7
      all_goals
        go_enter Try.func65, Try.ntmps65
        go_wp2_with (first
          | (go_at_call 77; refine (iEpoch_c _ _).mono ?_; rintro e w' ⟨rfl, rfl⟩; rw [he])
          | (go_at_call 76; refine (saysForm_c _ _).mono ?_; rintro e w' ⟨rfl, rfl⟩; rw [hk])
          | (go_at_call 79; refine (isNext_c _ _).mono ?_; rintro e w' ⟨rfl, rfl⟩; rw [hn]))
        go_ret
        exact ⟨rfl, by go_grown⟩
    · cases hf : inR xf 1 4
      · go_enter Try.func65, Try.ntmps65
        go_wp2_with (first
          | (go_at_call 77; refine (iEpoch_c _ _).mono ?_; rintro e w' ⟨rfl, rfl⟩; rw [he])
          | (go_at_call 76; refine (saysForm_c _ _).mono ?_; rintro e w' ⟨rfl, rfl⟩; rw [hk])
          | (go_at_call 78; refine (iForm_c _ _).mono ?_; rintro e w' ⟨rfl, rfl⟩; rw [hf]))
        go_ret
        exact ⟨rfl, by go_grown⟩
      · by_cases hs : xs = 0
        · subst hs
          go_enter Try.func65, Try.ntmps65
          go_wp2_with (first
            | (go_at_call 77; refine (iEpoch_c _ _).mono ?_; rintro e w' ⟨rfl, rfl⟩; rw [he])
            | (go_at_call 76; refine (saysForm_c _ _).mono ?_; rintro e w' ⟨rfl, rfl⟩; rw [hk])
            | (go_at_call 78; refine (iForm_c _ _).mono ?_; rintro e w' ⟨rfl, rfl⟩; rw [hf]))
          go_ret
          exact ⟨rfl, by go_grown⟩
        · have hsb : (xs != 0) = true := by simpa using hs
          obtain ⟨c, hc⟩ : ∃ c, setCode xs = c := ⟨_, rfl⟩
          have HV : Hid (inR xs 1 255 = (c == 0)) := by
            show inR xs 1 255 = (c == 0)
            rw [← hc]
            unfold setCode
            rw [Bool.eq_iff_iff, inR_iff]
            by_cases q : inR xs 0 255 = true
            · rw [if_pos q]
              rw [inR_iff] at q
              simp
              omega
            · rw [if_neg q]
              rw [inR_iff] at q
              simp
              omega
          have HC : Hid (setCode xs = c) := hc
          clear hc hs
          go_enter Try.func65, Try.ntmps65
          go_wp2_with (first
            | (go_at_call 77; refine (iEpoch_c _ _).mono ?_; rintro e w' ⟨rfl, rfl⟩; rw [he])
            | (go_at_call 76; refine (saysForm_c _ _).mono ?_; rintro e w' ⟨rfl, rfl⟩; rw [hk])
            | (go_at_call 78; refine (iForm_c _ _).mono ?_; rintro e w' ⟨rfl, rfl⟩; rw [hf])
            | (go_at_call 72; refine (iSetFault_c _ _).mono ?_; rintro e w' ⟨rfl, rfl⟩; rw [HC.out]))
          go_ret
          exact ⟨by rw [HV.out]; rfl, by go_grown⟩

theorem st_neq (x y : StI) (w : World) : (binOp .neq 36 (.agg #[.int .i64 x.k, .int .i64 x.e, .int .i64 x.f, .int .i64 x.s, .int .i64 x.n]) (.agg #[.int .i64 y.k, .int .i64 y.e, .int .i64 y.f, .int .i64 y.s, .int .i64 y.n])).run Try.prog w = .ok (.bool (!(sameSt x y))) w := by
  have h := st_eql x y w
  simp only [binOp, Sem.run_bind] at h ⊢
  revert h
  cases (Op.equal 36 (.agg #[.int .i64 x.k, .int .i64 x.e, .int .i64 x.f, .int .i64 x.s, .int .i64 x.n]) (.agg #[.int .i64 y.k, .int .i64 y.e, .int .i64 y.f, .int .i64 y.s, .int .i64 y.n])).run Try.prog w <;> simp [Result.andThen]

set_option maxHeartbeats 1000000 in
theorem implStatementFault_c (x : StI) (w : World) : Calls Try.prog 35 #[.agg #[.int .i64 x.k, .int .i64 x.e, .int .i64 x.f, .int .i64 x.s, .int .i64 x.n]] w fun e w' => e = .returned (.int .i64 (stCode x)) ∧ Below w.heap.size w w' := by
  obtain ⟨W, hW⟩ : ∃ W, W = w.alloc (.cells #[.int .i64 x.k, .int .i64 x.e, .int .i64 x.f, .int .i64 x.s, .int .i64 x.n] 36) := ⟨_, rfl⟩
  have B0 : Below w.heap.size w W := by rw [hW]; exact (Below.refl _ _).alloc (Nat.le_refl _) _
  have hz : w.heap.size < W.heap.size := by rw [hW]; simp
  have HX : Hid (StAt W w.heap.size 0 x) := by rw [hW]; exact StAt.new w x _
  have HWE : Hid (W = w.alloc (.cells #[.int .i64 x.k, .int .i64 x.e, .int .i64 x.f, .int .i64 x.s, .int .i64 x.n] 36)) := hW
  clear hW
  cases hk : inR x.k 1 4
  · have HT : Hid (swT x.k = ⟨#[]⟩) := sw_out hk
    have hC : Hid (stCode x = 1) := by show stCode x = 1; unfold stCode; rw [if_pos hk]
    rw [hC.out]
    clear hk
    go_enter Try.func35, Try.ntmps35
    go_wp2_with fail
    rw [← HWE.out]
    obtain ⟨x0, x1, x2, x3, x4⟩ := HX.out
    simp only [Nat.zero_add] at x0 x1 x2 x3 x4
    refine wp_region_held_drew (S := fun w' => (∀ b o, b < W.heap.size → w'.cell? ⟨b, o, none⟩ = W.cell? ⟨b, o, none⟩) ∧ Below W.heap.size W w') (by kernel_rfl) (kp_drew _) (fun hHeld => ?_)
    refine wpAnyH_take (i := 0) (v := ?_) rfl (by kernel_rfl) (by kernel_rfl) (by kernel_rfl) (fun _ _ _ h => h) (Or.inl ⟨by kernel_rfl, ?_⟩) (by assumption) ?_
    rotate_left 1
    · intro w hSw; (try dsimp only at hSw); go_simp; try (with_reducible rfl)
    try simp only [Act.put, List.getElem_toArray, List.getElem_cons_succ, List.getElem_cons_zero, List.setIfInBounds_toArray, List.set_cons_zero, List.set_cons_succ]
    refine wpAnyH_take (i := 1) (v := ?_) rfl (by kernel_rfl) (by kernel_rfl) (by kernel_rfl) (fun _ _ _ h => h) (Or.inl ⟨by kernel_rfl, ?_⟩) (by assumption) ?_
    rotate_left 1
    · intro w hSw; (try dsimp only at hSw); go_simp; try (with_reducible rfl)
    try simp only [Act.put, List.getElem_toArray, List.getElem_cons_succ, List.getElem_cons_zero, List.setIfInBounds_toArray, List.set_cons_zero, List.set_cons_succ]
    refine wpAnyH_ready (rs := [2]) (by kernel_rfl) (by simp) ?_
    refine AllReadyH.cons rfl (fun K hK => ?_) AllReadyH.nil
    go_simp
    refine (sayWord_c _ _).mono ?_
    rintro e w' ⟨rfl, rfl⟩
    rw [HT.out]
    have hS := hHeld
    refine hK.out _ _ hS (fun hHeld => ?_)
    clear hK K
    try simp only [Act.put, List.getElem_toArray, List.getElem_cons_succ, List.getElem_cons_zero, List.setIfInBounds_toArray, List.set_cons_zero, List.set_cons_succ]
    refine wpAnyH_take (i := 3) (v := ?_) rfl (by kernel_rfl) (by kernel_rfl) (by kernel_rfl) (fun _ _ _ h => h) (Or.inl ⟨by kernel_rfl, ?_⟩) (by assumption) ?_
    rotate_left 1
    · intro w hSw; (try dsimp only at hSw); go_simp; try (with_reducible rfl)
    try simp only [Act.put, List.getElem_toArray, List.getElem_cons_succ, List.getElem_cons_zero, List.setIfInBounds_toArray, List.set_cons_zero, List.set_cons_succ]
    refine wpAnyH_take (i := 4) (v := ?_) rfl (by kernel_rfl) (by kernel_rfl) (by kernel_rfl) (fun _ _ _ h => h) (Or.inl ⟨by kernel_rfl, ?_⟩) (by assumption) ?_
    rotate_left 1
    · intro w hSw; (try dsimp only at hSw); go_simp; try (with_reducible rfl)
    try simp only [Act.put, List.getElem_toArray, List.getElem_cons_succ, List.getElem_cons_zero, List.setIfInBounds_toArray, List.set_cons_zero, List.set_cons_succ]
    refine wpAnyH_take (i := 5) (v := undef) rfl (by kernel_rfl) (by kernel_rfl) (by kernel_rfl) (fun _ _ _ h => h) (Or.inr ⟨by kernel_rfl, rfl⟩) (by assumption) ?_
    try simp only [Act.put, List.getElem_toArray, List.getElem_cons_succ, List.getElem_cons_zero, List.setIfInBounds_toArray, List.set_cons_zero, List.set_cons_succ]
    refine wpAnyH_take (i := 6) (v := undef) rfl (by kernel_rfl) (by kernel_rfl) (by kernel_rfl) (fun _ _ _ h => h) (Or.inr ⟨by kernel_rfl, rfl⟩) (by assumption) ?_
    try simp only [Act.put, List.getElem_toArray, List.getElem_cons_succ, List.getElem_cons_zero, List.setIfInBounds_toArray, List.set_cons_zero, List.set_cons_succ]
    refine wpAnyH_take (i := 7) (v := undef) rfl (by kernel_rfl) (by kernel_rfl) (by kernel_rfl) (fun _ _ _ h => h) (Or.inr ⟨by kernel_rfl, rfl⟩) (by assumption) ?_
    try simp only [Act.put, List.getElem_toArray, List.getElem_cons_succ, List.getElem_cons_zero, List.setIfInBounds_toArray, List.set_cons_zero, List.set_cons_succ]
    refine wpAnyH_take (i := 8) (v := undef) rfl (by kernel_rfl) (by kernel_rfl) (by kernel_rfl) (fun _ _ _ h => h) (Or.inr ⟨by kernel_rfl, rfl⟩) (by assumption) ?_
    try simp only [Act.put, List.getElem_toArray, List.getElem_cons_succ, List.getElem_cons_zero, List.setIfInBounds_toArray, List.set_cons_zero, List.set_cons_succ]
    refine wpAnyH_take (i := 9) (v := ?_) rfl (by kernel_rfl) (by kernel_rfl) (by kernel_rfl) (fun _ _ _ h => h) (Or.inl ⟨by kernel_rfl, ?_⟩) (by assumption) ?_
    rotate_left 1
    · intro w hSw; (try dsimp only at hSw); go_simp; try (with_reducible rfl)
    try simp only [Act.put, List.getElem_toArray, List.getElem_cons_succ, List.getElem_cons_zero, List.setIfInBounds_toArray, List.set_cons_zero, List.set_cons_succ]
    refine wpAnyH_done (by kernel_rfl) ?_ _
    go_wp2
    go_ret
    exact ⟨rfl, B0.trans (hHeld.2.mono B0.size)⟩
  · have hT0 := byteNe_of (sw_in hk)
    obtain ⟨T, hT⟩ : ∃ T, swT x.k = T := ⟨_, rfl⟩
    have HT : Hid (swT x.k = T) := hT
    have hw : T.toList.isEmpty = false := by
      rw [hT] at hT0
      cases q : T.toList with
      | nil => rw [q] at hT0; simp at hT0
      | cons a as' => rfl
    obtain ⟨y, hy⟩ : ∃ y, ownI x = y := ⟨_, rfl⟩
    have HO := own_c x
    rw [hy] at HO
    have HOO : Hid (∀ w : World, Calls Try.prog 64 #[.agg #[.int .i64 x.k, .int .i64 x.e, .int .i64 x.f, .int .i64 x.s, .int .i64 x.n]] w fun e w' => e = .returned (.agg #[.int .i64 y.k, .int .i64 y.e, .int .i64 y.f, .int .i64 y.s, .int .i64 y.n]) ∧ Below w.heap.size w w') := HO
    have HB : Hid (∀ w : World, Calls Try.prog 65 #[.agg #[.int .i64 x.k, .int .i64 x.e, .int .i64 x.f, .int .i64 x.s, .int .i64 x.n]] w fun e w' => e = .returned (.bool (rngB x)) ∧ Below w.heap.size w w') := inBounds_c x
    have hE : ∀ w : World, _ := fun w => st_neq x y w
    have hob : ownB x = sameSt x y := by unfold ownB; rw [hy]
    obtain ⟨t, ht⟩ : ∃ t, sameSt x y = t := ⟨_, rfl⟩
    obtain ⟨r, hr⟩ : ∃ r, rngB x = r := ⟨_, rfl⟩
    have HC : Hid (stCode x = if t = false then 1 else if r = false then 3 else 0) := by show stCode x = _; unfold stCode; rw [if_neg (by rw [hk]; simp), hob, ht, hr]
    rw [ht] at hE
    rw [hr] at HB
    rw [HC.out]
    clear HO hob hk hT0 hT hy ht hr
    go_enter Try.func35, Try.ntmps35
    go_wp2_with fail
    rw [← HWE.out]
    obtain ⟨x0, x1, x2, x3, x4⟩ := HX.out
    simp only [Nat.zero_add] at x0 x1 x2 x3 x4
    go_region_held3 (fun w' => (∀ b o, b < W.heap.size → w'.cell? ⟨b, o, none⟩ = W.cell? ⟨b, o, none⟩) ∧ Below W.heap.size W w') (first | exact hS | exact kp_drew _)
      (first | (go_at_call 63; refine (sayWord_c _ _).mono ?_; rintro e w' ⟨rfl, rfl⟩; rw [HT.out])
             | (go_at_call 64; refine (HOO.out _).mono ?_; rintro e w' ⟨rfl, hb1⟩; have hS := kp_step (by assumption) hb1))
    cases t
    · go_wp2
      go_ret
      exact ⟨rfl, B0.trans (hS.2.mono B0.size)⟩
    · obtain ⟨x0, x1, x2, x3, x4⟩ := HX.out.below hS.2 hz
      simp only [Nat.zero_add] at x0 x1 x2 x3 x4
      go_wp2_with fail
      refine (HB.out _).mono ?_
      rintro e w2 ⟨rfl, hb2⟩
      cases r
      all_goals
        go_wp2
        go_ret
        exact ⟨rfl, (B0.trans (hS.2.mono B0.size)).trans (hb2.mono (by have := hS.2.size; omega))⟩

end Go.Proofs.Ythogdfnaojijhaa
