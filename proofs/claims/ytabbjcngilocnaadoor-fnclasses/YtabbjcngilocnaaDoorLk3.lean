/-
  CONTRACTS: LocksFault of both programs.
  Conditions: each contract bears its own.
-/
import Derived.Test.YtabbjcngilocnaaDoorLk2
import Derived.Test.YtabbjcngilocnaaDoorRole1
import Derived.Deep.CutBlock
namespace Go.Proofs.YtabbjcngilocnaaDoor
open Go.RowKit
set_option linter.unusedVariables false
set_option linter.unusedSimpArgs false

theorem prevL_of {gs : List LkI} {j : Nat} {x y : LkI} (h : gs[j]? = some y) : prevL gs (j + 1) x = ltL y x := by simp [prevL, h]

theorem lk_three {gs : List LkI} {k n : Nat} {x : LkI} {c : Int} (hc : lkTo gs n = c) (hn : lkTo gs (k + 1) = lkOne gs k x) (hk : k < n) (h : okL x = false) : c = 3 :=
  hc.symm.trans (lkTo_stay gs (k + 1) n 3 (by decide) (by rw [hn]; simp [lkOne, h]) (by omega))

set_option maxRecDepth 100000 in
set_option maxHeartbeats 2000000 in
theorem l5Fault_few (a : Option Addr) (n cap : Nat) (gs : List LkI) (c : Int) (w : World) (h200 : n ≤ 200) (h : LkIn w a n gs) (hc : lkTo gs n = c) :
    Calls Tryd.prog 24 #[.slice a n cap] w fun e w' => e = .returned (.int .i64 c) ∧ Below w.heap.size w w' := by
  have H : Hid (LkIn w a n gs) := h
  have HC : Hid (lkTo gs n = c) := hc
  clear h hc
  have h' : ¬ ((200 : Int) < (n : Int)) := by omega
  have hn' : (n : Int) ≤ 200 := by omega
  go_enter Tryd.func24, Tryd.ntmps24
  go_wp2
  go_loopw [3] (fun i wr => ∃ k : Nat, k ≤ n ∧ i = .int .i64 (k : Int) ∧ lkTo gs k = 0 ∧ Below w.heap.size w wr) (fun i _ => n - (intOf i).toNat)
  case atStart => exact ⟨0, Nat.zero_le _, rfl, rfl, Below.refl _ _⟩
  case round =>
    obtain ⟨k, hk, rfl, hp, hnx⟩ := hrel
    have HP : Hid (lkTo gs k = 0) := hp
    clear hp
    by_cases hlt : k < n
    · obtain ⟨b, off, x, rfl, hs, hx, hbl⟩ := H.out.at hlt
      have HN : Hid (lkTo gs (k + 1) = lkOne gs k x) := lkTo_next hs HP.out
      clear hs
      obtain ⟨g0, g1, g2, g3⟩ := hx.below hnx hbl
      have hbw : b < wr.heap.size := Nat.lt_of_lt_of_le hbl hnx.size
      have hlt' : (k : Int) < (n : Int) := by omega
      obtain ⟨t1, h1⟩ : ∃ t, inR x.e 1 9 = t := ⟨_, rfl⟩
      obtain ⟨t2, h2⟩ : ∃ t, inR x.c 0 3 = t := ⟨_, rfl⟩
      obtain ⟨t3, h3⟩ : ∃ t, inR x.p 1 8 = t := ⟨_, rfl⟩
      obtain ⟨t4, h4⟩ : ∃ t, inR x.f 1 4 = t := ⟨_, rfl⟩
      have HV : Hid (okL x = (t1 && t2 && t3 && t4)) := by show okL x = _; rw [okL, h1, h2, h3, h4]
      have H1 : Hid (inR x.e 1 9 = t1) := h1
      have H2 : Hid (inR x.c 0 3 = t2) := h2
      have H3 : Hid (inR x.p 1 8 = t3) := h3
      have H4 : Hid (inR x.f 1 4 = t4) := h4
      clear h1 h2 h3 h4
      go_upto_region 7 with fail
      obtain ⟨w1, hw1⟩ : ∃ w1, w1 = wr.alloc (.cells #[.int .i64 x.e, .int .i64 x.c, .int .i64 x.p, .int .i64 x.f] 36) := ⟨_, rfl⟩
      rw [← hw1]
      have hb1 : Below wr.heap.size wr w1 := by rw [hw1]; exact (Below.refl _ _).alloc (Nat.le_refl _) _
      have hlt1 : wr.heap.size < w1.heap.size := by rw [hw1]; simp
      have hnx1 : Below w.heap.size w w1 := hnx.trans (hb1.mono hnx.size)
      have b0 : w1.cell? ⟨wr.heap.size, 0, none⟩ = some (.int .i64 x.e) := by rw [hw1]; simp
      have b1 : w1.cell? ⟨wr.heap.size, 1, none⟩ = some (.int .i64 x.c) := by rw [hw1]; simp
      have b2 : w1.cell? ⟨wr.heap.size, 2, none⟩ = some (.int .i64 x.p) := by rw [hw1]; simp
      have b3 : w1.cell? ⟨wr.heap.size, 3, none⟩ = some (.int .i64 x.f) := by rw [hw1]; simp
      have hold : ∀ o, w1.cell? ⟨b, o, none⟩ = wr.cell? ⟨b, o, none⟩ := fun o => hb1.cell (p := ⟨b, o, none⟩) hbw
      clear hw1 hb1 g0 g1 g2 g3
      cases t1
      · have E : Hid (c = 3) := lk_three HC.out HN.out hlt HV.out
        clear hold
        go_wp2_with (first | (go_at_call 48; refine (sEpoch_c _ _).mono ?_; rintro e w' ⟨rfl, rfl⟩; rw [H1.out]))
        go_ret
        exact ⟨by rw [E.out]; rfl, hnx1⟩
      cases t2
      · have E : Hid (c = 3) := lk_three HC.out HN.out hlt HV.out
        clear hold
        go_wp2_with (first | (go_at_call 48; refine (sEpoch_c _ _).mono ?_; rintro e w' ⟨rfl, rfl⟩; rw [H1.out]) | (go_at_call 49; refine (cin_c _ _ _ _).mono ?_; rintro e w' ⟨rfl, rfl⟩; rw [H2.out]))
        go_ret
        exact ⟨by rw [E.out]; rfl, hnx1⟩
      cases t3
      · have E : Hid (c = 3) := lk_three HC.out HN.out hlt HV.out
        clear hold
        go_wp2_with (first | (go_at_call 48; refine (sEpoch_c _ _).mono ?_; rintro e w' ⟨rfl, rfl⟩; rw [H1.out]) | (go_at_call 49; refine (cin_c _ _ _ _).mono ?_; rintro e w' ⟨rfl, rfl⟩; rw [H2.out]) | (go_at_call 50; refine (sPrin_c _ _).mono ?_; rintro e w' ⟨rfl, rfl⟩; rw [H3.out]))
        go_ret
        exact ⟨by rw [E.out]; rfl, hnx1⟩
      cases t4
      · have E : Hid (c = 3) := lk_three HC.out HN.out hlt HV.out
        clear hold
        go_wp2_with (first | (go_at_call 48; refine (sEpoch_c _ _).mono ?_; rintro e w' ⟨rfl, rfl⟩; rw [H1.out]) | (go_at_call 49; refine (cin_c _ _ _ _).mono ?_; rintro e w' ⟨rfl, rfl⟩; rw [H2.out]) | (go_at_call 50; refine (sPrin_c _ _).mono ?_; rintro e w' ⟨rfl, rfl⟩; rw [H3.out]) | (go_at_call 51; refine (sForm_c _ _).mono ?_; rintro e w' ⟨rfl, rfl⟩; rw [H4.out]))
        go_ret
        exact ⟨by rw [E.out]; rfl, hnx1⟩
      obtain rfl | ⟨j, rfl⟩ : k = 0 ∨ ∃ j, k = j + 1 := by cases k; exact .inl rfl; exact .inr ⟨_, rfl⟩
      · have HE : Hid (lkTo gs 1 = 0) := HN.out.trans (lkOne_zero.2 ⟨HV.out, rfl⟩)
        clear hold
        go_wp2_with (first | (go_at_call 48; refine (sEpoch_c _ _).mono ?_; rintro e w' ⟨rfl, rfl⟩; rw [H1.out]) | (go_at_call 49; refine (cin_c _ _ _ _).mono ?_; rintro e w' ⟨rfl, rfl⟩; rw [H2.out]) | (go_at_call 50; refine (sPrin_c _ _).mono ?_; rintro e w' ⟨rfl, rfl⟩; rw [H3.out]) | (go_at_call 51; refine (sForm_c _ _).mono ?_; rintro e w' ⟨rfl, rfl⟩; rw [H4.out]))
        go_quiet (fail)
        go_wp2
        exact ⟨⟨0 + 1, by omega, by go_num, HE.out, below_drewN hnx1 _⟩, by simp [intOf]; omega⟩
      · obtain ⟨b', off', y, e', hy, hyx, _⟩ := H.out.at (k := j) (by omega)
        cases e'
        obtain ⟨q0, q1, q2, q3⟩ := hyx.below hnx hbl
        have HV2 : Hid (lkOne gs (j + 1) x = if ltL y x = false then 1 else 0) := by show lkOne gs (j + 1) x = _; simp [lkOne, HV.out, prevL_of hy]
        have y0 := (hold _).trans q0
        have y1 := (hold _).trans q1
        have y2 := (hold _).trans q2
        have y3 := (hold _).trans q3
        clear hyx hy hold q0 q1 q2 q3
        have hbv : b < w1.heap.size := by omega
        have hj1 : (j : Int) < (n : Int) := by omega
        have hj0 : (0 : Int) ≤ (j : Int) := by omega
        have hjw : IntKind.i64.wrap ((j : Int) + 1 - 1) = (j : Int) := by rw [IntKind.wrap_i64]; omega
        have hjw2 : IntKind.i64.wrap (j : Int) = (j : Int) := by rw [IntKind.wrap_i64]; omega
        have hjw3 : IntKind.i64.wrap (((j + 1 : Nat) : Int) - 1) = (j : Int) := by rw [IntKind.wrap_i64]; omega
        have hpos1 : (0 : Int) < (j : Int) + 1 := by omega
        go_wp2_with (first | (go_at_call 48; refine (sEpoch_c _ _).mono ?_; rintro e w' ⟨rfl, rfl⟩; rw [H1.out]) | (go_at_call 49; refine (cin_c _ _ _ _).mono ?_; rintro e w' ⟨rfl, rfl⟩; rw [H2.out]) | (go_at_call 50; refine (sPrin_c _ _).mono ?_; rintro e w' ⟨rfl, rfl⟩; rw [H3.out]) | (go_at_call 51; refine (sForm_c _ _).mono ?_; rintro e w' ⟨rfl, rfl⟩; rw [H4.out]))
        obtain ⟨v, hv⟩ : ∃ v, ltL y x = v := ⟨_, rfl⟩
        have HCm : Hid (∀ w2 : World, Calls Tryd.prog 52 #[.agg #[.int .i64 y.e, .int .i64 y.c, .int .i64 y.p, .int .i64 y.f], .agg #[.int .i64 x.e, .int .i64 x.c, .int .i64 x.p, .int .i64 x.f]] w2 fun e w' => e = .returned (.bool v) ∧ Below w2.heap.size w2 w') := fun w2 => by rw [← hv]; exact l5Ahead_c y x w2
        cases v
        · have E : Hid (c = 1) := HC.out.symm.trans (lkTo_stay gs (j + 1 + 1) n 1 (by decide) (by rw [HN.out, HV2.out, if_pos hv]) (by omega))
          clear hv
          go_region_held3 (fun w' => (∀ b o, b < w1.heap.size → w'.cell? ⟨b, o, none⟩ = w1.cell? ⟨b, o, none⟩) ∧ Below w1.heap.size w1 w') (first | exact hS | exact kp_drew _)
            (first | (go_at_call 52; refine (HCm.out _).mono ?_; rintro e w' ⟨rfl, hb2⟩; have hS := kp_step (by assumption) hb2))
          go_wp2
          go_ret
          exact ⟨by rw [E.out]; rfl, hnx1.trans (hS.2.mono hnx1.size)⟩
        · have HE : Hid (lkTo gs (j + 1 + 1) = 0) := by show lkTo gs (j + 1 + 1) = 0; rw [HN.out, HV2.out, if_neg (by simp [hv])]
          clear hv
          go_region_held3 (fun w' => (∀ b o, b < w1.heap.size → w'.cell? ⟨b, o, none⟩ = w1.cell? ⟨b, o, none⟩) ∧ Below w1.heap.size w1 w') (first | exact hS | exact kp_drew _)
            (first | (go_at_call 52; refine (HCm.out _).mono ?_; rintro e w' ⟨rfl, hb2⟩; have hS := kp_step (by assumption) hb2))
          go_wp2
          exact ⟨⟨j + 1 + 1, by omega, by go_num, HE.out, hnx1.trans (hS.2.mono hnx1.size)⟩, by simp [intOf]; omega⟩
    · have hkn : k = n := by omega
      subst hkn
      have E : Hid (c = 0) := HC.out.symm.trans HP.out
      go_wp2
      go_ret
      exact ⟨by rw [E.out]; rfl, hnx⟩

set_option maxHeartbeats 400000 in
theorem l5Fault_many (a : Option Addr) (n cap : Nat) (w : World) (h200 : 200 < n) :
    Calls Tryd.prog 24 #[.slice a n cap] w fun e w' => e = .returned (.int .i64 2) ∧ Below w.heap.size w w' := by
  have h' : (200 : Int) < (n : Int) := by omega
  go_enter Tryd.func24, Tryd.ntmps24
  go_wp2
  go_ret
  exact ⟨rfl, Below.refl _ _⟩

theorem l5Fault_c (a : Option Addr) (n cap : Nat) (gs : List LkI) (w : World) (h : LkIn w a n gs) :
    Calls Tryd.prog 24 #[.slice a n cap] w fun e w' => e = .returned (.int .i64 (lkCode gs)) ∧ Below w.heap.size w w' := by
  have hz := h.1
  by_cases h40 : 200 < n
  · have e : lkCode gs = 2 := by simp [lkCode, hz, h40]
    rw [e]
    exact l5Fault_many a n cap w h40
  · have e : lkCode gs = lkTo gs n := by simp [lkCode, hz, h40]
    rw [e]
    exact l5Fault_few a n cap gs _ w (by omega) h rfl

set_option maxRecDepth 100000 in
set_option maxHeartbeats 2000000 in
theorem locksFault_few (a : Option Addr) (n cap : Nat) (gs : List LkI) (c : Int) (w : World) (h200 : n ≤ 200) (h : LkIn w a n gs) (hc : lkTo gs n = c) :
    Calls Tryd.prog 12 #[.slice a n cap] w fun e w' => e = .returned (.int .i64 c) ∧ Below w.heap.size w w' := by
  have H : Hid (LkIn w a n gs) := h
  have HC : Hid (lkTo gs n = c) := hc
  clear h hc
  have h' : ¬ ((200 : Int) < (n : Int)) := by omega
  have hn' : (n : Int) ≤ 200 := by omega
  go_enter Tryd.func12, Tryd.ntmps12
  go_wp2
  go_loopw [10] (fun i wr => ∃ k : Nat, k ≤ n ∧ i = .int .i64 (k : Int) ∧ lkTo gs k = 0 ∧ Below w.heap.size w wr) (fun i _ => n - (intOf i).toNat)
  case atStart => exact ⟨0, Nat.zero_le _, rfl, rfl, Below.refl _ _⟩
  case round =>
    obtain ⟨k, hk, rfl, hp, hnx⟩ := hrel
    have HP : Hid (lkTo gs k = 0) := hp
    clear hp
    by_cases hlt : k < n
    · obtain ⟨b, off, x, rfl, hs, hx, hbl⟩ := H.out.at hlt
      have HN : Hid (lkTo gs (k + 1) = lkOne gs k x) := lkTo_next hs HP.out
      clear hs
      obtain ⟨g0, g1, g2, g3⟩ := hx.below hnx hbl
      have hbw : b < wr.heap.size := Nat.lt_of_lt_of_le hbl hnx.size
      have hlt' : (k : Int) < (n : Int) := by omega
      obtain ⟨t, ht⟩ : ∃ t, okL x = t := ⟨_, rfl⟩
      have HT : Hid (okL x = t) := ht
      clear ht
      go_wp2_with fail
      refine (isLock_c x _).mono ?_
      rintro e w1 ⟨rfl, hb1⟩
      rw [HT.out]
      have hz1 := hb1.size
      simp only [World.size_alloc] at hz1
      have hnx1 : Below w.heap.size w w1 := hnx.trans ((below_new hb1).mono hnx.size)
      have hlt1 : wr.heap.size < w1.heap.size := by omega
      have b0 : w1.cell? ⟨wr.heap.size, 0, none⟩ = some (.int .i64 x.e) := (hb1.cell (p := ⟨wr.heap.size, 0, none⟩) (by simp)).trans (by simp)
      have b1 : w1.cell? ⟨wr.heap.size, 1, none⟩ = some (.int .i64 x.c) := (hb1.cell (p := ⟨wr.heap.size, 1, none⟩) (by simp)).trans (by simp)
      have b2 : w1.cell? ⟨wr.heap.size, 2, none⟩ = some (.int .i64 x.p) := (hb1.cell (p := ⟨wr.heap.size, 2, none⟩) (by simp)).trans (by simp)
      have b3 : w1.cell? ⟨wr.heap.size, 3, none⟩ = some (.int .i64 x.f) := (hb1.cell (p := ⟨wr.heap.size, 3, none⟩) (by simp)).trans (by simp)
      have hold : ∀ o, w1.cell? ⟨b, o, none⟩ = wr.cell? ⟨b, o, none⟩ := fun o => ((below_new hb1).cell (p := ⟨b, o, none⟩) hbw)
      clear hb1 g0 g1 g2 g3
      cases t
      · have E : Hid (c = 3) := lk_three HC.out HN.out hlt HT.out
        clear hold
        go_wp2
        go_ret
        exact ⟨by rw [E.out]; rfl, hnx1⟩
      obtain rfl | ⟨j, rfl⟩ : k = 0 ∨ ∃ j, k = j + 1 := by cases k; exact .inl rfl; exact .inr ⟨_, rfl⟩
      · have HE : Hid (lkTo gs 1 = 0) := HN.out.trans (lkOne_zero.2 ⟨HT.out, rfl⟩)
        clear hold
        go_wp2
        go_quiet (fail)
        go_wp2
        exact ⟨⟨0 + 1, by omega, by go_num, HE.out, below_drewN hnx1 _⟩, by simp [intOf]; omega⟩
      · obtain ⟨b', off', y, e', hy, hyx, _⟩ := H.out.at (k := j) (by omega)
        cases e'
        obtain ⟨q0, q1, q2, q3⟩ := hyx.below hnx hbl
        have HV2 : Hid (lkOne gs (j + 1) x = if ltL y x = false then 1 else 0) := by show lkOne gs (j + 1) x = _; simp [lkOne, HT.out, prevL_of hy]
        have y0 := (hold _).trans q0
        have y1 := (hold _).trans q1
        have y2 := (hold _).trans q2
        have y3 := (hold _).trans q3
        clear hyx hy hold q0 q1 q2 q3
        have hbv : b < w1.heap.size := by omega
        have hj1 : (j : Int) < (n : Int) := by omega
        have hj0 : (0 : Int) ≤ (j : Int) := by omega
        have hjw : IntKind.i64.wrap ((j : Int) + 1 - 1) = (j : Int) := by rw [IntKind.wrap_i64]; omega
        have hjw2 : IntKind.i64.wrap (j : Int) = (j : Int) := by rw [IntKind.wrap_i64]; omega
        have hjw3 : IntKind.i64.wrap (((j + 1 : Nat) : Int) - 1) = (j : Int) := by rw [IntKind.wrap_i64]; omega
        have hpos1 : (0 : Int) < (j : Int) + 1 := by omega
        go_wp2
        obtain ⟨v, hv⟩ : ∃ v, cfL y x = v := ⟨_, rfl⟩
        have HCm : Hid (∀ w2 : World, Calls Tryd.prog 35 #[.agg #[.int .i64 y.e, .int .i64 y.c, .int .i64 y.p, .int .i64 y.f], .agg #[.int .i64 x.e, .int .i64 x.c, .int .i64 x.p, .int .i64 x.f]] w2 fun e w' => e = .returned (.int .i64 v) ∧ Below w2.heap.size w2 w') := fun w2 => by rw [← hv]; exact compareLocks_c y x w2
        have hge : (v < 0) ↔ ltL y x = true := by rw [← hv]; exact cfL_neg y x
        by_cases hpos : 0 ≤ v
        · have E : Hid (c = 1) := HC.out.symm.trans (lkTo_stay gs (j + 1 + 1) n 1 (by decide) (by rw [HN.out, HV2.out, if_pos (by cases q : ltL y x; rfl; have := hge.2 q; omega)]) (by omega))
          clear hge hv
          go_region_held3 (fun w' => (∀ b o, b < w1.heap.size → w'.cell? ⟨b, o, none⟩ = w1.cell? ⟨b, o, none⟩) ∧ Below w1.heap.size w1 w') (first | exact hS | exact kp_drew _)
            (first | (go_at_call 35; refine (HCm.out _).mono ?_; rintro e w' ⟨rfl, hb2⟩; have hS := kp_step (by assumption) hb2))
          go_wp2
          go_ret
          exact ⟨by rw [E.out]; rfl, hnx1.trans (hS.2.mono hnx1.size)⟩
        · have hneg : v < 0 := by omega
          have HE : Hid (lkTo gs (j + 1 + 1) = 0) := by show lkTo gs (j + 1 + 1) = 0; rw [HN.out, HV2.out, if_neg (by rw [hge.1 hneg]; simp)]
          clear hge hv hpos
          go_region_held3 (fun w' => (∀ b o, b < w1.heap.size → w'.cell? ⟨b, o, none⟩ = w1.cell? ⟨b, o, none⟩) ∧ Below w1.heap.size w1 w') (first | exact hS | exact kp_drew _)
            (first | (go_at_call 35; refine (HCm.out _).mono ?_; rintro e w' ⟨rfl, hb2⟩; have hS := kp_step (by assumption) hb2))
          go_wp2
          exact ⟨⟨j + 1 + 1, by omega, by go_num, HE.out, hnx1.trans (hS.2.mono hnx1.size)⟩, by simp [intOf]; omega⟩
    · have hkn : k = n := by omega
      subst hkn
      have E : Hid (c = 0) := HC.out.symm.trans HP.out
      go_wp2
      go_ret
      exact ⟨by rw [E.out]; rfl, hnx⟩

set_option maxHeartbeats 400000 in
theorem locksFault_many (a : Option Addr) (n cap : Nat) (w : World) (h200 : 200 < n) :
    Calls Tryd.prog 12 #[.slice a n cap] w fun e w' => e = .returned (.int .i64 2) ∧ Below w.heap.size w w' := by
  have h' : (200 : Int) < (n : Int) := by omega
  go_enter Tryd.func12, Tryd.ntmps12
  go_wp2
  go_ret
  exact ⟨rfl, Below.refl _ _⟩

theorem implLocksFault_c (a : Option Addr) (n cap : Nat) (gs : List LkI) (w : World) (h : LkIn w a n gs) :
    Calls Tryd.prog 12 #[.slice a n cap] w fun e w' => e = .returned (.int .i64 (lkCode gs)) ∧ Below w.heap.size w w' := by
  have hz := h.1
  by_cases h40 : 200 < n
  · have e : lkCode gs = 2 := by simp [lkCode, hz, h40]
    rw [e]
    exact locksFault_many a n cap w h40
  · have e : lkCode gs = lkTo gs n := by simp [lkCode, hz, h40]
    rw [e]
    exact locksFault_few a n cap gs _ w (by omega) h rfl

end Go.Proofs.YtabbjcngilocnaaDoor
