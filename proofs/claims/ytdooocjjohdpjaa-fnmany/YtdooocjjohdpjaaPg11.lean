/-
  CONTRACTS: LocksFault of both programs.
  Conditions: each contract bears its own.
  CONTRACTS: slices.BinarySearchFunc over locks; FormOf of both programs.
  Conditions: each contract bears its own.
  CONTRACTS: FormOf of both programs.
  Conditions: each contract bears its own.
  CONTRACTS: the draws of forms: spec.l1Chance, spec.l4Draw, spec.l4Bent, spec.l4With.
  Conditions: each contract bears its own.
-/
import Derived.Test.YtdooocjjohdpjaaPg10
import Derived.Test.YtdooocjjohdpjaaPg01
import Derived.Deep.CutBlock
import Derived.Shelf.Abstract
import Derived.Test.YtdooocjjohdpjaaPg09
namespace Go.Proofs.Ytdooocjjohdpjaa
open Go.RowKit
set_option linter.unusedVariables false
set_option linter.unusedSimpArgs false

theorem prevL_of {gs : List LkI} {j : Nat} {x y : LkI} (h : gs[j]? = some y) : prevL gs (j + 1) x = ltL y x := by simp [prevL, h]

theorem lk_three {gs : List LkI} {k n : Nat} {x : LkI} {c : Int} (hc : lkTo gs n = c) (hn : lkTo gs (k + 1) = lkOne gs k x) (hk : k < n) (h : okL x = false) : c = 3 :=
  hc.symm.trans (lkTo_stay gs (k + 1) n 3 (by decide) (by rw [hn]; simp [lkOne, h]) (by omega))

set_option maxRecDepth 100000 in
set_option maxHeartbeats 2000000 in
theorem l5Fault_few (a : Option Addr) (n cap : Nat) (gs : List LkI) (c : Int) (w : World) (h200 : n ≤ 200) (h : LkIn w a n gs) (hc : lkTo gs n = c) :
    Calls Try.prog 86 #[.slice a n cap] w fun e w' => e = .returned (.int .i64 c) ∧ Below w.heap.size w w' := by
  have H : Hid (LkIn w a n gs) := h
  have HC : Hid (lkTo gs n = c) := hc
  clear h hc
  have h' : ¬ ((200 : Int) < (n : Int)) := by omega
  have hn' : (n : Int) ≤ 200 := by omega
  go_enter Try.func86, Try.ntmps86
  go_wp2
  go_loopw [3] (fun i wr => ∃ k : Nat, k ≤ n ∧ i = .int .i64 (k : Int) ∧ lkTo gs k = 0 ∧ Below w.heap.size w wr) (fun i _ => n - (intOf i).toNat)
  case atStart => exact ⟨0, Nat.zero_le _, rfl, rfl, Below.refl _ _⟩
  case round =>
    obtain ⟨k, hk, rfl, hp, hnx⟩ := hrel
    have HP : Hid (lkTo gs k = 0) := hp
    clear hp
    by_cases hlt : k < n
    · obtain ⟨b, off, x, rfl, hs, hx, hbl⟩ := H.out.at hlt
      have HN : Hid (lkTo gs (k + 1) = lkOne gs k x) := lkTo_next hs HP.out
      clear hs
      obtain ⟨g0, g1, g2, g3⟩ := hx.below hnx hbl
      have hbw : b < wr.heap.size := Nat.lt_of_lt_of_le hbl hnx.size
      have hlt' : (k : Int) < (n : Int) := by omega
      obtain ⟨t1, h1⟩ : ∃ t, inR x.e 1 9 = t := ⟨_, rfl⟩
      obtain ⟨t2, h2⟩ : ∃ t, inR x.c 0 3 = t := ⟨_, rfl⟩
      obtain ⟨t3, h3⟩ : ∃ t, inR x.p 1 8 = t := ⟨_, rfl⟩
      obtain ⟨t4, h4⟩ : ∃ t, inR x.f 1 4 = t := ⟨_, rfl⟩
      have HV : Hid (okL x = (t1 && t2 && t3 && t4)) := by show okL x = _; rw [okL, h1, h2, h3, h4]
      have H1 : Hid (inR x.e 1 9 = t1) := h1
      have H2 : Hid (inR x.c 0 3 = t2) := h2
      have H3 : Hid (inR x.p 1 8 = t3) := h3
      have H4 : Hid (inR x.f 1 4 = t4) := h4
      clear h1 h2 h3 h4
      go_upto_region 7 with fail
      obtain ⟨w1, hw1⟩ : ∃ w1, w1 = wr.alloc (.cells #[.int .i64 x.e, .int .i64 x.c, .int .i64 x.p, .int .i64 x.f] 121) := ⟨_, rfl⟩
      rw [← hw1]
      have hb1 : Below wr.heap.size wr w1 := by rw [hw1]; exact (Below.refl _ _).alloc (Nat.le_refl _) _
      have hlt1 : wr.heap.size < w1.heap.size := by rw [hw1]; simp
      have hnx1 : Below w.heap.size w w1 := hnx.trans (hb1.mono hnx.size)
      have b0 : w1.cell? ⟨wr.heap.size, 0, none⟩ = some (.int .i64 x.e) := by rw [hw1]; simp
      have b1 : w1.cell? ⟨wr.heap.size, 1, none⟩ = some (.int .i64 x.c) := by rw [hw1]; simp
      have b2 : w1.cell? ⟨wr.heap.size, 2, none⟩ = some (.int .i64 x.p) := by rw [hw1]; simp
      have b3 : w1.cell? ⟨wr.heap.size, 3, none⟩ = some (.int .i64 x.f) := by rw [hw1]; simp
      have hold : ∀ o, w1.cell? ⟨b, o, none⟩ = wr.cell? ⟨b, o, none⟩ := fun o => hb1.cell (p := ⟨b, o, none⟩) hbw
      clear hw1 hb1 g0 g1 g2 g3
      cases t1
      · have E : Hid (c = 3) := lk_three HC.out HN.out hlt HV.out
        clear hold
        go_wp2_with (first | (go_at_call 136; refine (sEpoch_c _ _).mono ?_; rintro e w' ⟨rfl, rfl⟩; rw [H1.out]))
        go_ret
        exact ⟨by rw [E.out]; rfl, hnx1⟩
      cases t2
      · have E : Hid (c = 3) := lk_three HC.out HN.out hlt HV.out
        clear hold
        go_wp2_with (first | (go_at_call 136; refine (sEpoch_c _ _).mono ?_; rintro e w' ⟨rfl, rfl⟩; rw [H1.out]) | (go_at_call 134; refine (cin_c _ _ _ _).mono ?_; rintro e w' ⟨rfl, rfl⟩; rw [H2.out]))
        go_ret
        exact ⟨by rw [E.out]; rfl, hnx1⟩
      cases t3
      · have E : Hid (c = 3) := lk_three HC.out HN.out hlt HV.out
        clear hold
        go_wp2_with (first | (go_at_call 136; refine (sEpoch_c _ _).mono ?_; rintro e w' ⟨rfl, rfl⟩; rw [H1.out]) | (go_at_call 134; refine (cin_c _ _ _ _).mono ?_; rintro e w' ⟨rfl, rfl⟩; rw [H2.out]) | (go_at_call 137; refine (sPrin_c _ _).mono ?_; rintro e w' ⟨rfl, rfl⟩; rw [H3.out]))
        go_ret
        exact ⟨by rw [E.out]; rfl, hnx1⟩
      cases t4
      · have E : Hid (c = 3) := lk_three HC.out HN.out hlt HV.out
        clear hold
        go_wp2_with (first | (go_at_call 136; refine (sEpoch_c _ _).mono ?_; rintro e w' ⟨rfl, rfl⟩; rw [H1.out]) | (go_at_call 134; refine (cin_c _ _ _ _).mono ?_; rintro e w' ⟨rfl, rfl⟩; rw [H2.out]) | (go_at_call 137; refine (sPrin_c _ _).mono ?_; rintro e w' ⟨rfl, rfl⟩; rw [H3.out]) | (go_at_call 82; refine (sForm_c _ _).mono ?_; rintro e w' ⟨rfl, rfl⟩; rw [H4.out]))
        go_ret
        exact ⟨by rw [E.out]; rfl, hnx1⟩
      obtain rfl | ⟨j, rfl⟩ : k = 0 ∨ ∃ j, k = j + 1 := by cases k; exact .inl rfl; exact .inr ⟨_, rfl⟩
      · have HE : Hid (lkTo gs 1 = 0) := HN.out.trans (lkOne_zero.2 ⟨HV.out, rfl⟩)
        clear hold
        go_wp2_with (first | (go_at_call 136; refine (sEpoch_c _ _).mono ?_; rintro e w' ⟨rfl, rfl⟩; rw [H1.out]) | (go_at_call 134; refine (cin_c _ _ _ _).mono ?_; rintro e w' ⟨rfl, rfl⟩; rw [H2.out]) | (go_at_call 137; refine (sPrin_c _ _).mono ?_; rintro e w' ⟨rfl, rfl⟩; rw [H3.out]) | (go_at_call 82; refine (sForm_c _ _).mono ?_; rintro e w' ⟨rfl, rfl⟩; rw [H4.out]))
        go_quiet (fail)
        go_wp2
        exact ⟨⟨0 + 1, by omega, by go_num, HE.out, below_drewN hnx1 _⟩, by simp [intOf]; omega⟩
      · obtain ⟨b', off', y, e', hy, hyx, _⟩ := H.out.at (k := j) (by omega)
        cases e'
        obtain ⟨q0, q1, q2, q3⟩ := hyx.below hnx hbl
        have HV2 : Hid (lkOne gs (j + 1) x = if ltL y x = false then 1 else 0) := by show lkOne gs (j + 1) x = _; simp [lkOne, HV.out, prevL_of hy]
        have y0 := (hold _).trans q0
        have y1 := (hold _).trans q1
        have y2 := (hold _).trans q2
        have y3 := (hold _).trans q3
        clear hyx hy hold q0 q1 q2 q3
        have hbv : b < w1.heap.size := by omega
        have hj1 : (j : Int) < (n : Int) := by omega
        have hj0 : (0 : Int) ≤ (j : Int) := by omega
        have hjw : IntKind.i64.wrap ((j : Int) + 1 - 1) = (j : Int) := by rw [IntKind.wrap_i64]; omega
        have hjw2 : IntKind.i64.wrap (j : Int) = (j : Int) := by rw [IntKind.wrap_i64]; omega
        have hjw3 : IntKind.i64.wrap (((j + 1 : Nat) : Int) - 1) = (j : Int) := by rw [IntKind.wrap_i64]; omega
        have hpos1 : (0 : Int) < (j : Int) + 1 := by omega
        go_wp2_with (first | (go_at_call 136; refine (sEpoch_c _ _).mono ?_; rintro e w' ⟨rfl, rfl⟩; rw [H1.out]) | (go_at_call 134; refine (cin_c _ _ _ _).mono ?_; rintro e w' ⟨rfl, rfl⟩; rw [H2.out]) | (go_at_call 137; refine (sPrin_c _ _).mono ?_; rintro e w' ⟨rfl, rfl⟩; rw [H3.out]) | (go_at_call 82; refine (sForm_c _ _).mono ?_; rintro e w' ⟨rfl, rfl⟩; rw [H4.out]))
        obtain ⟨v, hv⟩ : ∃ v, ltL y x = v := ⟨_, rfl⟩
        have HCm : Hid (∀ w2 : World, Calls Try.prog 138 #[.agg #[.int .i64 y.e, .int .i64 y.c, .int .i64 y.p, .int .i64 y.f], .agg #[.int .i64 x.e, .int .i64 x.c, .int .i64 x.p, .int .i64 x.f]] w2 fun e w' => e = .returned (.bool v) ∧ Below w2.heap.size w2 w') := fun w2 => by rw [← hv]; exact l5Ahead_c y x w2
        cases v
        · have E : Hid (c = 1) := HC.out.symm.trans (lkTo_stay gs (j + 1 + 1) n 1 (by decide) (by rw [HN.out, HV2.out, if_pos hv]) (by omega))
          clear hv
          go_region_held3 (fun w' => (∀ b o, b < w1.heap.size → w'.cell? ⟨b, o, none⟩ = w1.cell? ⟨b, o, none⟩) ∧ Below w1.heap.size w1 w') (first | exact hS | exact kp_drew _)
            (first | (go_at_call 138; refine (HCm.out _).mono ?_; rintro e w' ⟨rfl, hb2⟩; have hS := kp_step (by assumption) hb2))
          go_wp2
          go_ret
          exact ⟨by rw [E.out]; rfl, hnx1.trans (hS.2.mono hnx1.size)⟩
        · have HE : Hid (lkTo gs (j + 1 + 1) = 0) := by show lkTo gs (j + 1 + 1) = 0; rw [HN.out, HV2.out, if_neg (by simp [hv])]
          clear hv
          go_region_held3 (fun w' => (∀ b o, b < w1.heap.size → w'.cell? ⟨b, o, none⟩ = w1.cell? ⟨b, o, none⟩) ∧ Below w1.heap.size w1 w') (first | exact hS | exact kp_drew _)
            (first | (go_at_call 138; refine (HCm.out _).mono ?_; rintro e w' ⟨rfl, hb2⟩; have hS := kp_step (by assumption) hb2))
          go_wp2
          exact ⟨⟨j + 1 + 1, by omega, by go_num, HE.out, hnx1.trans (hS.2.mono hnx1.size)⟩, by simp [intOf]; omega⟩
    · have hkn : k = n := by omega
      subst hkn
      have E : Hid (c = 0) := HC.out.symm.trans HP.out
      go_wp2
      go_ret
      exact ⟨by rw [E.out]; rfl, hnx⟩

set_option maxHeartbeats 400000 in
theorem l5Fault_many (a : Option Addr) (n cap : Nat) (w : World) (h200 : 200 < n) :
    Calls Try.prog 86 #[.slice a n cap] w fun e w' => e = .returned (.int .i64 2) ∧ Below w.heap.size w w' := by
  have h' : (200 : Int) < (n : Int) := by omega
  go_enter Try.func86, Try.ntmps86
  go_wp2
  go_ret
  exact ⟨rfl, Below.refl _ _⟩

theorem l5Fault_c (a : Option Addr) (n cap : Nat) (gs : List LkI) (w : World) (h : LkIn w a n gs) :
    Calls Try.prog 86 #[.slice a n cap] w fun e w' => e = .returned (.int .i64 (lkCode gs)) ∧ Below w.heap.size w w' := by
  have hz := h.1
  by_cases h40 : 200 < n
  · have e : lkCode gs = 2 := by simp [lkCode, hz, h40]
    rw [e]
    exact l5Fault_many a n cap w h40
  · have e : lkCode gs = lkTo gs n := by simp [lkCode, hz, h40]
    rw [e]
    exact l5Fault_few a n cap gs _ w (by omega) h rfl

set_option maxHeartbeats 400000 in
theorem specLocksFault_c (a : Option Addr) (n cap : Nat) (gs : List LkI) (w : World) (h : LkIn w a n gs) :
    Calls Try.prog 38 #[.slice a n cap] w fun e w' => e = .returned (.int .i64 (lkCode gs)) ∧ Below w.heap.size w w' := by
  have H : Hid (LkIn w a n gs) := h
  clear h
  go_enter Try.func38, Try.ntmps38
  go_wp2_with (first | (go_at_call 86; refine (l5Fault_c a n cap gs _ H.out).mono ?_; rintro e w1 ⟨rfl, hb1⟩) | go_in)
  go_ret
  exact ⟨rfl, hb1⟩

set_option maxRecDepth 100000 in
set_option maxHeartbeats 2000000 in
theorem locksFault_few (a : Option Addr) (n cap : Nat) (gs : List LkI) (c : Int) (w : World) (h200 : n ≤ 200) (h : LkIn w a n gs) (hc : lkTo gs n = c) :
    Calls Try.prog 40 #[.slice a n cap] w fun e w' => e = .returned (.int .i64 c) ∧ Below w.heap.size w w' := by
  have H : Hid (LkIn w a n gs) := h
  have HC : Hid (lkTo gs n = c) := hc
  clear h hc
  have h' : ¬ ((200 : Int) < (n : Int)) := by omega
  have hn' : (n : Int) ≤ 200 := by omega
  go_enter Try.func40, Try.ntmps40
  go_wp2
  go_loopw [10] (fun i wr => ∃ k : Nat, k ≤ n ∧ i = .int .i64 (k : Int) ∧ lkTo gs k = 0 ∧ Below w.heap.size w wr) (fun i _ => n - (intOf i).toNat)
  case atStart => exact ⟨0, Nat.zero_le _, rfl, rfl, Below.refl _ _⟩
  case round =>
    obtain ⟨k, hk, rfl, hp, hnx⟩ := hrel
    have HP : Hid (lkTo gs k = 0) := hp
    clear hp
    by_cases hlt : k < n
    · obtain ⟨b, off, x, rfl, hs, hx, hbl⟩ := H.out.at hlt
      have HN : Hid (lkTo gs (k + 1) = lkOne gs k x) := lkTo_next hs HP.out
      clear hs
      obtain ⟨g0, g1, g2, g3⟩ := hx.below hnx hbl
      have hbw : b < wr.heap.size := Nat.lt_of_lt_of_le hbl hnx.size
      have hlt' : (k : Int) < (n : Int) := by omega
      obtain ⟨t, ht⟩ : ∃ t, okL x = t := ⟨_, rfl⟩
      have HT : Hid (okL x = t) := ht
      clear ht
      go_wp2_with fail
      refine (isLock_c x _).mono ?_
      rintro e w1 ⟨rfl, hb1⟩
      rw [HT.out]
      have hz1 := hb1.size
      simp only [World.size_alloc] at hz1
      have hnx1 : Below w.heap.size w w1 := hnx.trans ((below_new hb1).mono hnx.size)
      have hlt1 : wr.heap.size < w1.heap.size := by omega
      have b0 : w1.cell? ⟨wr.heap.size, 0, none⟩ = some (.int .i64 x.e) := (hb1.cell (p := ⟨wr.heap.size, 0, none⟩) (by simp)).trans (by simp)
      have b1 : w1.cell? ⟨wr.heap.size, 1, none⟩ = some (.int .i64 x.c) := (hb1.cell (p := ⟨wr.heap.size, 1, none⟩) (by simp)).trans (by simp)
      have b2 : w1.cell? ⟨wr.heap.size, 2, none⟩ = some (.int .i64 x.p) := (hb1.cell (p := ⟨wr.heap.size, 2, none⟩) (by simp)).trans (by simp)
      have b3 : w1.cell? ⟨wr.heap.size, 3, none⟩ = some (.int .i64 x.f) := (hb1.cell (p := ⟨wr.heap.size, 3, none⟩) (by simp)).trans (by simp)
      have hold : ∀ o, w1.cell? ⟨b, o, none⟩ = wr.cell? ⟨b, o, none⟩ := fun o => ((below_new hb1).cell (p := ⟨b, o, none⟩) hbw)
      clear hb1 g0 g1 g2 g3
      cases t
      · have E : Hid (c = 3) := lk_three HC.out HN.out hlt HT.out
        clear hold
        go_wp2
        go_ret
        exact ⟨by rw [E.out]; rfl, hnx1⟩
      obtain rfl | ⟨j, rfl⟩ : k = 0 ∨ ∃ j, k = j + 1 := by cases k; exact .inl rfl; exact .inr ⟨_, rfl⟩
      · have HE : Hid (lkTo gs 1 = 0) := HN.out.trans (lkOne_zero.2 ⟨HT.out, rfl⟩)
        clear hold
        go_wp2
        go_quiet (fail)
        go_wp2
        exact ⟨⟨0 + 1, by omega, by go_num, HE.out, below_drewN hnx1 _⟩, by simp [intOf]; omega⟩
      · obtain ⟨b', off', y, e', hy, hyx, _⟩ := H.out.at (k := j) (by omega)
        cases e'
        obtain ⟨q0, q1, q2, q3⟩ := hyx.below hnx hbl
        have HV2 : Hid (lkOne gs (j + 1) x = if ltL y x = false then 1 else 0) := by show lkOne gs (j + 1) x = _; simp [lkOne, HT.out, prevL_of hy]
        have y0 := (hold _).trans q0
        have y1 := (hold _).trans q1
        have y2 := (hold _).trans q2
        have y3 := (hold _).trans q3
        clear hyx hy hold q0 q1 q2 q3
        have hbv : b < w1.heap.size := by omega
        have hj1 : (j : Int) < (n : Int) := by omega
        have hj0 : (0 : Int) ≤ (j : Int) := by omega
        have hjw : IntKind.i64.wrap ((j : Int) + 1 - 1) = (j : Int) := by rw [IntKind.wrap_i64]; omega
        have hjw2 : IntKind.i64.wrap (j : Int) = (j : Int) := by rw [IntKind.wrap_i64]; omega
        have hjw3 : IntKind.i64.wrap (((j + 1 : Nat) : Int) - 1) = (j : Int) := by rw [IntKind.wrap_i64]; omega
        have hpos1 : (0 : Int) < (j : Int) + 1 := by omega
        go_wp2
        obtain ⟨v, hv⟩ : ∃ v, cfL y x = v := ⟨_, rfl⟩
        have HCm : Hid (∀ w2 : World, Calls Try.prog 89 #[.agg #[.int .i64 y.e, .int .i64 y.c, .int .i64 y.p, .int .i64 y.f], .agg #[.int .i64 x.e, .int .i64 x.c, .int .i64 x.p, .int .i64 x.f]] w2 fun e w' => e = .returned (.int .i64 v) ∧ Below w2.heap.size w2 w') := fun w2 => by rw [← hv]; exact compareLocks_c y x w2
        have hge : (v < 0) ↔ ltL y x = true := by rw [← hv]; exact cfL_neg y x
        by_cases hpos : 0 ≤ v
        · have E : Hid (c = 1) := HC.out.symm.trans (lkTo_stay gs (j + 1 + 1) n 1 (by decide) (by rw [HN.out, HV2.out, if_pos (by cases q : ltL y x; rfl; have := hge.2 q; omega)]) (by omega))
          clear hge hv
          go_region_held3 (fun w' => (∀ b o, b < w1.heap.size → w'.cell? ⟨b, o, none⟩ = w1.cell? ⟨b, o, none⟩) ∧ Below w1.heap.size w1 w') (first | exact hS | exact kp_drew _)
            (first | (go_at_call 89; refine (HCm.out _).mono ?_; rintro e w' ⟨rfl, hb2⟩; have hS := kp_step (by assumption) hb2))
          go_wp2
          go_ret
          exact ⟨by rw [E.out]; rfl, hnx1.trans (hS.2.mono hnx1.size)⟩
        · have hneg : v < 0 := by omega
          have HE : Hid (lkTo gs (j + 1 + 1) = 0) := by show lkTo gs (j + 1 + 1) = 0; rw [HN.out, HV2.out, if_neg (by rw [hge.1 hneg]; simp)]
          clear hge hv hpos
          go_region_held3 (fun w' => (∀ b o, b < w1.heap.size → w'.cell? ⟨b, o, none⟩ = w1.cell? ⟨b, o, none⟩) ∧ Below w1.heap.size w1 w') (first | exact hS | exact kp_drew _)
            (first | (go_at_call 89; refine (HCm.out _).mono ?_; rintro e w' ⟨rfl, hb2⟩; have hS := kp_step (by assumption) hb2))
          go_wp2
          exact ⟨⟨j + 1 + 1, by omega, by go_num, HE.out, hnx1.trans (hS.2.mono hnx1.size)⟩, by simp [intOf]; omega⟩
    · have hkn : k = n := by omega
      subst hkn
      have E : Hid (c = 0) := HC.out.symm.trans HP.out
      go_wp2
      go_ret
      exact ⟨by rw [E.out]; rfl, hnx⟩

set_option maxHeartbeats 400000 in
theorem locksFault_many (a : Option Addr) (n cap : Nat) (w : World) (h200 : 200 < n) :
    Calls Try.prog 40 #[.slice a n cap] w fun e w' => e = .returned (.int .i64 2) ∧ Below w.heap.size w w' := by
  have h' : (200 : Int) < (n : Int) := by omega
  go_enter Try.func40, Try.ntmps40
  go_wp2
  go_ret
  exact ⟨rfl, Below.refl _ _⟩

theorem implLocksFault_c (a : Option Addr) (n cap : Nat) (gs : List LkI) (w : World) (h : LkIn w a n gs) :
    Calls Try.prog 40 #[.slice a n cap] w fun e w' => e = .returned (.int .i64 (lkCode gs)) ∧ Below w.heap.size w w' := by
  have hz := h.1
  by_cases h40 : 200 < n
  · have e : lkCode gs = 2 := by simp [lkCode, hz, h40]
    rw [e]
    exact locksFault_many a n cap w h40
  · have e : lkCode gs = lkTo gs n := by simp [lkCode, hz, h40]
    rw [e]
    exact locksFault_few a n cap gs _ w (by omega) h rfl

end Go.Proofs.Ytdooocjjohdpjaa

namespace Go.Proofs.Ytdooocjjohdpjaa
open Go.RowKit
set_option linter.unusedVariables false
set_option linter.unusedSimpArgs false

theorem cut_lo {gs : List LkI} (hs : SL gs) {m : Nat} {x t : LkI} (hx : gs[m]? = some x) (h : ltL x t = true) : ∀ (k : Nat) (y : LkI), k < m + 1 → gs[k]? = some y → ltL y t = true := by
  intro k y hk hy
  by_cases e : k = m
  · subst e
    rw [hx] at hy
    cases hy
    exact h
  · have hm : m < gs.length := by
      by_cases q : m < gs.length
      · exact q
      · rw [List.getElem?_eq_none (by omega)] at hx; cases hx
    have h1 := List.pairwise_iff_getElem.1 hs k m (by omega) hm (by omega)
    rw [List.getElem?_eq_getElem hm] at hx
    rw [List.getElem?_eq_getElem (by omega)] at hy
    rw [Option.some.inj hx, Option.some.inj hy] at h1
    exact ltL_trans h1 h

theorem cut_hi {gs : List LkI} (hs : SL gs) {m : Nat} {x t : LkI} (hx : gs[m]? = some x) (h : ltL x t = false) : ∀ (k : Nat) (y : LkI), m ≤ k → gs[k]? = some y → ltL y t = false := by
  intro k y hk hy
  by_cases e : k = m
  · subst e
    rw [hx] at hy
    cases hy
    exact h
  · have hk2 : k < gs.length := by
      by_cases q : k < gs.length
      · exact q
      · rw [List.getElem?_eq_none (by omega)] at hy; cases hy
    have h1 := List.pairwise_iff_getElem.1 hs m k (by omega) hk2 (by omega)
    rw [List.getElem?_eq_getElem (by omega)] at hx
    rw [List.getElem?_eq_getElem hk2] at hy
    rw [Option.some.inj hx, Option.some.inj hy] at h1
    cases q : ltL y t
    · rfl
    · rw [ltL_trans h1 q] at h; cases h

def GivesF (f : Nat) (a : Option Addr) (n cap : Nat) (ep cl pr c v : Int) (w : World) : Prop := Calls Try.prog f #[.slice a n cap, .int .i64 ep, .int .i64 cl, .int .i64 pr] w fun e w' => e = .returned (.agg #[.int .i64 c, .int .i64 v]) ∧ Below w.heap.size w w'

/-- Where a lock would stand, and whether one stands there. -/
def Found (gs : List LkI) (t : LkI) (w : World) (e : Ending) (w' : World) : Prop := ∃ (i : Nat) (b : Bool), e = .returned (.tuple #[.int .i64 (i : Int), .bool b]) ∧ CutAt gs t i ∧ (b = true ↔ ∃ x, gs[i]? = some x ∧ cfL x t = 0) ∧ Below w.heap.size w w'

set_option maxRecDepth 100000 in
set_option maxHeartbeats 2000000 in
theorem search_c (a : Option Addr) (n cap : Nat) (gs : List LkI) (t : LkI) (w : World) (h : LkIn w a n gs) (hs : SL gs) (hn : n ≤ 1048576) :
    Calls Try.prog 92 #[.slice a n cap, .agg #[.int .i64 t.e, .int .i64 t.c, .int .i64 t.p, .int .i64 t.f], .func (.func 89) #[] #[]] w fun e w' => Found gs t w e w' := by
  have HZ : Hid (gs.length = n) := h.1
  have HL : Hid (SL gs) := hs
  have hn' : (n : Int) ≤ 1048576 := by omega
  obtain ⟨w0, hw0⟩ : ∃ w0, w0 = w.alloc (.cells #[.int .i64 t.e, .int .i64 t.c, .int .i64 t.p, .int .i64 t.f] 121) := ⟨_, rfl⟩
  have hb0 : Below w.heap.size w w0 := by rw [hw0]; exact (Below.refl _ _).alloc (Nat.le_refl _) _
  have hs0 : w.heap.size < w0.heap.size := by rw [hw0]; simp
  have H : Hid (LkIn w0 a n gs) := h.below hb0
  have HB0 : Hid (Below w.heap.size w w0) := hb0
  have HT : Hid (LkAt w0 w.heap.size 0 t) := by rw [hw0]; exact LkAt.new _ _ _
  clear h hs hb0
  go_enter Try.func92, Try.ntmps92
  go_wp2_with fail
  rw [← hw0]
  clear hw0
  go_loopw [9, 10] (fun p q wr => ∃ (i j : Nat), i ≤ j ∧ j ≤ n ∧ p = .int .i64 (i : Int) ∧ q = .int .i64 (j : Int) ∧ (∀ (k : Nat) (x : LkI), k < i → gs[k]? = some x → ltL x t = true) ∧ (∀ (k : Nat) (x : LkI), j ≤ k → gs[k]? = some x → ltL x t = false) ∧ Below w0.heap.size w0 wr) (fun p q _ => (intOf q).toNat - (intOf p).toNat)
  case atStart => exact ⟨0, n, Nat.zero_le _, Nat.le_refl _, rfl, rfl, fun k x hk => by omega, (fun k x hk hx => by rw [List.getElem?_eq_none (by rw [HZ.out]; exact hk)] at hx; cases hx), Below.refl _ _⟩
  case round =>
    obtain ⟨i, j, hij, hjn, rfl, rfl, hlo, hhi, hnx⟩ := hrel
    have HLO : Hid (∀ (k : Nat) (x : LkI), k < i → gs[k]? = some x → ltL x t = true) := hlo
    have HHI : Hid (∀ (k : Nat) (x : LkI), j ≤ k → gs[k]? = some x → ltL x t = false) := hhi
    clear hlo hhi
    obtain ⟨t0, t1, t2, t3⟩ := HT.out.below hnx hs0
    rw [Nat.zero_add] at t1 t2 t3
    by_cases hlt : i < j
    · obtain ⟨b, off, x, rfl, hx, hxa, hbl⟩ := H.out.at (show (i + j) / 2 < n by omega)
      obtain ⟨x0, x1, x2, x3⟩ := hxa.below hnx hbl
      have HX : Hid (gs[(i + j) / 2]? = some x) := hx
      have hbw : b < wr.heap.size := Nat.lt_of_lt_of_le hbl hnx.size
      have hwl : w.heap.size < wr.heap.size := Nat.lt_of_lt_of_le hs0 hnx.size
      clear hx hxa
      have hlt' : (i : Int) < (j : Int) := by omega
      have hj' : (j : Int) ≤ 1048576 := by omega
      have hm0 : (0 : Int) ≤ ((i : Int) + (j : Int)) / 2 := by omega
      have hm1 : ((i : Int) + (j : Int)) / 2 < (n : Int) := by omega
      have hmN : (((i : Int) + (j : Int)) / 2).toNat = (i + j) / 2 := by omega
      rw [← hmN] at x0 x1 x2 x3
      clear hmN
      obtain ⟨v, hv⟩ : ∃ v, cfL x t = v := ⟨_, rfl⟩
      have HCm : Hid (∀ w2 : World, Calls Try.prog 89 #[.agg #[.int .i64 x.e, .int .i64 x.c, .int .i64 x.p, .int .i64 x.f], .agg #[.int .i64 t.e, .int .i64 t.c, .int .i64 t.p, .int .i64 t.f]] w2 fun e w' => e = .returned (.int .i64 v) ∧ Below w2.heap.size w2 w') := fun w2 => by rw [← hv]; exact compareLocks_c x t w2
      have hge : (v < 0) ↔ ltL x t = true := by rw [← hv]; exact cfL_neg x t
      have HGE : Hid ((v < 0) ↔ ltL x t = true) := hge
      clear hv hge
      go_upto_region 5 with fail
      by_cases hneg : v < 0
      · have HLO2 : Hid (∀ (k : Nat) (y : LkI), k < (i + j) / 2 + 1 → gs[k]? = some y → ltL y t = true) := cut_lo HL.out HX.out (HGE.out.1 hneg)
        go_region_held3 (fun w' => (∀ b o, b < wr.heap.size → w'.cell? ⟨b, o, none⟩ = wr.cell? ⟨b, o, none⟩) ∧ Below wr.heap.size wr w') (first | exact hS | exact kp_drew _)
          (first | (go_at_call 89; refine (HCm.out _).mono ?_; rintro e w' ⟨rfl, hb2⟩; have hS := kp_step (by assumption) hb2))
        go_wp2
        exact ⟨⟨(i + j) / 2 + 1, j, by omega, hjn, by rw [show ((i : Int) + (j : Int)) / 2 + 1 = (((i + j) / 2 + 1 : Nat) : Int) by omega], rfl, HLO2.out, HHI.out, hnx.trans (hS.2.mono hnx.size)⟩, by simp [intOf]; omega⟩
      · have HHI2 : Hid (∀ (k : Nat) (y : LkI), (i + j) / 2 ≤ k → gs[k]? = some y → ltL y t = false) := cut_hi HL.out HX.out (by cases q : ltL x t; rfl; exact absurd (HGE.out.2 q) hneg)
        go_region_held3 (fun w' => (∀ b o, b < wr.heap.size → w'.cell? ⟨b, o, none⟩ = wr.cell? ⟨b, o, none⟩) ∧ Below wr.heap.size wr w') (first | exact hS | exact kp_drew _)
          (first | (go_at_call 89; refine (HCm.out _).mono ?_; rintro e w' ⟨rfl, hb2⟩; have hS := kp_step (by assumption) hb2))
        go_wp2
        exact ⟨⟨i, (i + j) / 2, by omega, by omega, rfl, by rw [show ((i : Int) + (j : Int)) / 2 = (((i + j) / 2 : Nat) : Int) by omega], HLO.out, HHI2.out, hnx.trans (hS.2.mono hnx.size)⟩, by simp [intOf]; omega⟩
    · obtain rfl : j = i := by omega
      have HCU : Hid (CutAt gs t j) := ⟨by rw [HZ.out]; exact hjn, HLO.out, HHI.out⟩
      clear HLO HHI
      by_cases hlt2 : j < n
      · obtain ⟨b, off, x, rfl, hx, hxa, hbl⟩ := H.out.at hlt2
        obtain ⟨x0, x1, x2, x3⟩ := hxa.below hnx hbl
        have HX : Hid (gs[j]? = some x) := hx
        have hbw : b < wr.heap.size := Nat.lt_of_lt_of_le hbl hnx.size
        have hwl : w.heap.size < wr.heap.size := Nat.lt_of_lt_of_le hs0 hnx.size
        clear hx hxa
        have hlt' : (j : Int) < (n : Int) := by omega
        obtain ⟨v, hv⟩ : ∃ v, cfL x t = v := ⟨_, rfl⟩
        have HCm : Hid (∀ w2 : World, Calls Try.prog 89 #[.agg #[.int .i64 x.e, .int .i64 x.c, .int .i64 x.p, .int .i64 x.f], .agg #[.int .i64 t.e, .int .i64 t.c, .int .i64 t.p, .int .i64 t.f]] w2 fun e w' => e = .returned (.int .i64 v) ∧ Below w2.heap.size w2 w') := fun w2 => by rw [← hv]; exact compareLocks_c x t w2
        have HF : Hid ((v == 0) = true ↔ ∃ y, gs[j]? = some y ∧ cfL y t = 0) := by
          refine ⟨fun q => ⟨x, HX.out, by rw [hv]; simpa using q⟩, fun ⟨y, hy, q⟩ => ?_⟩
          rw [HX.out] at hy
          cases hy
          rw [hv] at q
          simp [q]
        clear hv
        go_upto_region 8 with fail
        go_region_held3 (fun w' => (∀ b o, b < wr.heap.size → w'.cell? ⟨b, o, none⟩ = wr.cell? ⟨b, o, none⟩) ∧ Below wr.heap.size wr w') (first | exact hS | exact kp_drew _)
          (first | (go_at_call 89; refine (HCm.out _).mono ?_; rintro e w' ⟨rfl, hb2⟩; have hS := kp_step (by assumption) hb2))
        go_wp2
        refine bodyPost_ret (v := .tuple #[.int .i64 (j : Int), .bool (v == 0)]) (by simp [results, Try.results92, go_sem]) rfl ?_
        exact ⟨j, v == 0, rfl, HCU.out, HF.out, HB0.out.trans ((hnx.trans (hS.2.mono hnx.size)).mono (by omega))⟩
      · have HF : Hid (false = true ↔ ∃ y, gs[j]? = some y ∧ cfL y t = 0) := by
          refine ⟨(fun q => by cases q), fun ⟨y, hy, q⟩ => ?_⟩
          rw [List.getElem?_eq_none (by rw [HZ.out]; omega)] at hy
          cases hy
        have hlt' : ¬ ((j : Int) < (n : Int)) := by omega
        go_upto_region 8 with fail
        go_quiet (fail)
        go_wp2
        refine bodyPost_ret (v := .tuple #[.int .i64 (j : Int), .bool false]) (by simp [results, Try.results92, go_sem]) rfl ?_
        exact ⟨j, false, rfl, HCU.out, HF.out, HB0.out.trans ((below_drewN hnx _).mono (by omega))⟩

end Go.Proofs.Ytdooocjjohdpjaa

namespace Go.Proofs.Ytdooocjjohdpjaa
open Go.RowKit
set_option linter.unusedVariables false
set_option linter.unusedSimpArgs false

/-- A result's two cells. -/
def ResBox (w : World) (B : Nat) (u v : Value) : Prop := w.cell? ⟨B, 0, none⟩ = some u ∧ w.cell? ⟨B, 1, none⟩ = some v ∧ w.frozen? ⟨B, 0, none⟩ = false ∧ w.frozen? ⟨B, 1, none⟩ = false ∧ B < w.heap.size

theorem ResBox.below {w w' : World} {B : Nat} {u v : Value} (h : ResBox w B u v) (hb : Below w.heap.size w w') : ResBox w' B u v :=
  ⟨(hb.cell (p := ⟨B, 0, none⟩) h.2.2.2.2).trans h.1, (hb.cell (p := ⟨B, 1, none⟩) h.2.2.2.2).trans h.2.1, (hb.frozen (p := ⟨B, 0, none⟩) h.2.2.2.2).trans h.2.2.1, (hb.frozen (p := ⟨B, 1, none⟩) h.2.2.2.2).trans h.2.2.2.1, Nat.lt_of_lt_of_le h.2.2.2.2 hb.size⟩

theorem ResBox.new (w : World) (u v : Value) (t : TypeId) : ResBox (w.alloc (.cells #[u, v] t)) w.heap.size u v := ⟨by simp, by simp, by simp [go_sem], by simp [go_sem], by simp⟩

def fCode (gs : List LkI) (e c p : Int) : Int := if lkCode gs = 0 then (if formL gs e c p = 0 then 4 else 0) else lkCode gs
def fVal (gs : List LkI) (e c p : Int) : Int := if lkCode gs = 0 then formL gs e c p else 0

set_option maxRecDepth 100000 in
set_option maxHeartbeats 2000000 in
theorem l5Of_c (a : Option Addr) (n cap : Nat) (gs : List LkI) (e0 c0 p0 : Int) (w : World) (h : LkIn w a n gs) (hn : n ≤ 1048576) :
    Calls Try.prog 91 #[.slice a n cap, .int .i64 e0, .int .i64 c0, .int .i64 p0] w fun e w' => e = .returned (.int .i64 (formL gs e0 c0 p0)) ∧ Below w.heap.size w w' := by
  have HZ : Hid (gs.length = n) := h.1
  have H : Hid (LkIn w a n gs) := h
  clear h
  have hn' : (n : Int) ≤ 1048576 := by omega
  obtain ⟨r, hr⟩ : ∃ r, formL gs e0 c0 p0 = r := ⟨_, rfl⟩
  have HR : Hid (formL gs e0 c0 p0 = r) := hr
  rw [hr]
  clear hr
  go_enter Try.func91, Try.ntmps91
  go_wp2
  go_loopw [9] (fun i wr => ∃ k : Nat, k ≤ n ∧ i = .int .i64 (k : Int) ∧ formL (gs.drop k) e0 c0 p0 = r ∧ Below w.heap.size w wr) (fun i _ => n - (intOf i).toNat)
  case atStart => exact ⟨0, Nat.zero_le _, rfl, HR.out, Below.refl _ _⟩
  case round =>
    obtain ⟨k, hk, rfl, hp, hnx⟩ := hrel
    by_cases hlt : k < n
    · obtain ⟨b, off, x, rfl, hs, hx, hbl⟩ := H.out.at hlt
      rw [formL_drop hs] at hp
      obtain ⟨g0, g1, g2, g3⟩ := hx.below hnx hbl
      have hbw : b < wr.heap.size := Nat.lt_of_lt_of_le hbl hnx.size
      have hlt' : (k : Int) < (n : Int) := by omega
      clear hs hx
      by_cases q1 : x.e = e0
      · have b1 : (x.e == e0) = true := by simp [q1]
        by_cases q2 : x.c = c0
        · have b2 : (x.c == c0) = true := by simp [q2]
          by_cases q3 : x.p = p0
          · have b3 : (x.p == p0) = true := by simp [q3]
            rw [if_pos ⟨q1, q2, q3⟩] at hp
            have HP : Hid (x.f = r) := hp
            clear hp q1 q2 q3
            go_wp2
            go_ret
            exact ⟨by rw [← HP.out]; rfl, hnx.alloc hnx.size _⟩
          · have b3 : (x.p == p0) = false := by simp [q3]
            rw [if_neg (fun q => q3 q.2.2)] at hp
            have HP : Hid (formL (gs.drop (k + 1)) e0 c0 p0 = r) := hp
            clear hp q1 q2 q3
            go_wp2
            exact ⟨⟨k + 1, by omega, by go_num, HP.out, hnx.alloc hnx.size _⟩, by simp [intOf]; omega⟩
        · have b2 : (x.c == c0) = false := by simp [q2]
          rw [if_neg (fun q => q2 q.2.1)] at hp
          have HP : Hid (formL (gs.drop (k + 1)) e0 c0 p0 = r) := hp
          clear hp q1 q2
          go_wp2
          exact ⟨⟨k + 1, by omega, by go_num, HP.out, hnx.alloc hnx.size _⟩, by simp [intOf]; omega⟩
      · have b1 : (x.e == e0) = false := by simp [q1]
        rw [if_neg (fun q => q1 q.1)] at hp
        have HP : Hid (formL (gs.drop (k + 1)) e0 c0 p0 = r) := hp
        clear hp q1
        go_wp2
        exact ⟨⟨k + 1, by omega, by go_num, HP.out, hnx.alloc hnx.size _⟩, by simp [intOf]; omega⟩
    · have hkn : k = n := by omega
      subst hkn
      rw [List.drop_of_length_le (by rw [HZ.out]; exact Nat.le_refl _)] at hp
      have HP : Hid ((0 : Int) = r) := hp
      clear hp
      go_wp2
      go_ret
      exact ⟨by rw [← HP.out]; rfl, hnx⟩

set_option maxRecDepth 100000 in
set_option maxHeartbeats 2000000 in
theorem specFormOf_c (a : Option Addr) (n cap : Nat) (gs : List LkI) (e0 c0 p0 : Int) (w : World) (h : LkIn w a n gs) : GivesF 42 a n cap e0 c0 p0 (fCode gs e0 c0 p0) (fVal gs e0 c0 p0) w := by
  obtain ⟨W, hW⟩ : ∃ W, W = w.alloc (.cells #[.int .i64 0, .int .i64 0] 39) := ⟨_, rfl⟩
  have B0 : Below w.heap.size w W := by rw [hW]; exact (Below.refl _ _).alloc (Nat.le_refl _) _
  have X0 : Hid (ResBox W w.heap.size (.int .i64 0) (.int .i64 0)) := by rw [hW]; exact ResBox.new _ _ _ _
  have H : Hid (LkIn W a n gs) := h.below B0
  have HB0 : Hid (Below w.heap.size w W) := B0
  have hz := h.1
  have hsz := B0.size
  obtain ⟨c, hc⟩ : ∃ c, lkCode gs = c := ⟨_, rfl⟩
  have HC : Hid (lkCode gs = c) := hc
  clear h B0
  unfold GivesF
  by_cases h0 : c = 0
  · subst h0
    have hn : n ≤ 1048576 := by have := (lk_ok hc).1; omega
    obtain ⟨v, hv⟩ : ∃ v, formL gs e0 c0 p0 = v := ⟨_, rfl⟩
    have HV : Hid (formL gs e0 c0 p0 = v) := hv
    by_cases hv0 : v = 0
    · subst hv0
      have E1 : fCode gs e0 c0 p0 = 4 := by simp [fCode, hc, hv]
      have E2 : fVal gs e0 c0 p0 = 0 := by simp [fVal, hc, hv]
      rw [E1, E2]
      clear E1 E2 hc hv hz
      go_enter Try.func42, Try.ntmps42
      go_wp2_with fail
      rw [← hW]
      clear hW
      refine (l5Fault_c a n cap gs _ H.out).mono ?_
      rintro e w1 ⟨rfl, hb1⟩
      rw [HC.out]
      have H1 : Hid (LkIn w1 a n gs) := H.out.below hb1
      go_wp2_with fail
      refine (l5Of_c a n cap gs e0 c0 p0 _ H1.out hn).mono ?_
      rintro e w2 ⟨rfl, hb2⟩
      rw [HV.out]
      obtain ⟨d0, d1, g0, g1, hw⟩ := (X0.out.below hb1).below hb2
      have hz1 := hb1.size
      have hBx : Below w.heap.size w w2 := (HB0.out.trans (hb1.mono hsz)).trans (hb2.mono (by omega))
      clear hb1 hb2
      go_wp2
      refine bodyPost_ret (v := .agg #[.int .i64 4, .int .i64 0]) (by simp [results, Try.results42, go_sem, d0, d1, hw]) rfl ⟨rfl, ?_⟩
      exact hBx |>.setCell (by simp) _ |>.setCell (by simp) _
    · have bv : (v == 0) = false := by simp [hv0]
      have E1 : fCode gs e0 c0 p0 = 0 := by simp [fCode, hc, hv, hv0]
      have E2 : fVal gs e0 c0 p0 = v := by simp [fVal, hc, hv]
      rw [E1, E2]
      clear E1 E2 hc hv hz hv0
      go_enter Try.func42, Try.ntmps42
      go_wp2_with fail
      rw [← hW]
      clear hW
      refine (l5Fault_c a n cap gs _ H.out).mono ?_
      rintro e w1 ⟨rfl, hb1⟩
      rw [HC.out]
      have H1 : Hid (LkIn w1 a n gs) := H.out.below hb1
      go_wp2_with fail
      refine (l5Of_c a n cap gs e0 c0 p0 _ H1.out hn).mono ?_
      rintro e w2 ⟨rfl, hb2⟩
      rw [HV.out]
      obtain ⟨d0, d1, g0, g1, hw⟩ := (X0.out.below hb1).below hb2
      have hz1 := hb1.size
      have hBx : Below w.heap.size w w2 := (HB0.out.trans (hb1.mono hsz)).trans (hb2.mono (by omega))
      clear hb1 hb2
      go_wp2
      refine bodyPost_ret (v := .agg #[.int .i64 0, .int .i64 v]) (by simp [results, Try.results42, go_sem, d0, d1, hw]) rfl ⟨rfl, ?_⟩
      exact hBx |>.setCell (by simp) _ |>.setCell (by simp) _
  · have bc : (c != 0) = true := by simp [h0]
    have E1 : fCode gs e0 c0 p0 = c := by simp [fCode, hc, h0]
    have E2 : fVal gs e0 c0 p0 = 0 := by simp [fVal, hc, h0]
    rw [E1, E2]
    clear E1 E2 hc hz h0
    go_enter Try.func42, Try.ntmps42
    go_wp2_with fail
    rw [← hW]
    clear hW
    refine (l5Fault_c a n cap gs _ H.out).mono ?_
    rintro e w1 ⟨rfl, hb1⟩
    rw [HC.out]
    obtain ⟨d0, d1, g0, g1, hw⟩ := X0.out.below hb1
    have hBx : Below w.heap.size w w1 := HB0.out.trans (hb1.mono hsz)
    clear hb1
    go_wp2
    refine bodyPost_ret (v := .agg #[.int .i64 c, .int .i64 0]) (by simp [results, Try.results42, go_sem, d0, d1, hw]) rfl ⟨rfl, ?_⟩
    exact hBx |>.setCell (by simp) _ |>.setCell (by simp) _

theorem found_form {gs : List LkI} (hk : lkCode gs = 0) {t : LkI} {i : Nat} {b : Bool} (h : CutAt gs t i) (hb : b = true ↔ ∃ x, gs[i]? = some x ∧ cfL x t = 0) : (b = false ∧ formL gs t.e t.c t.p = 0) ∨ (b = true ∧ ∃ x, gs[i]? = some x ∧ formL gs t.e t.c t.p = x.f ∧ x.f ≠ 0) := by
  have hf := parts_form (lk_ok hk).2.1 h
  cases b
  · refine .inl ⟨rfl, ?_⟩
    rw [hf]
    cases hi : gs[i]? with
    | none => rfl
    | some x =>
      show (if cfL x t = 0 then x.f else 0) = 0
      rw [if_neg]
      intro q
      have := hb.2 ⟨x, hi, q⟩
      cases this
  · obtain ⟨x, hx, q⟩ := hb.1 rfl
    refine .inr ⟨rfl, x, hx, ?_, ?_⟩
    · rw [hf, hx]
      show (if cfL x t = 0 then x.f else 0) = x.f
      rw [if_pos q]
    · have := (lk_ok hk).2.2 x (List.mem_of_getElem? hx)
      simp [okL, inR] at this
      omega

set_option maxRecDepth 100000 in
set_option maxHeartbeats 2000000 in
theorem implFormOf_c (a : Option Addr) (n cap : Nat) (gs : List LkI) (e0 c0 p0 : Int) (w : World) (h : LkIn w a n gs) : GivesF 43 a n cap e0 c0 p0 (fCode gs e0 c0 p0) (fVal gs e0 c0 p0) w := by
  obtain ⟨W, hW⟩ : ∃ W, W = w.alloc (.cells #[.int .i64 0, .int .i64 0] 39) := ⟨_, rfl⟩
  have B0 : Below w.heap.size w W := by rw [hW]; exact (Below.refl _ _).alloc (Nat.le_refl _) _
  have X0 : Hid (ResBox W w.heap.size (.int .i64 0) (.int .i64 0)) := by rw [hW]; exact ResBox.new _ _ _ _
  have H : Hid (LkIn W a n gs) := h.below B0
  have HB0 : Hid (Below w.heap.size w W) := B0
  have hz := h.1
  have hsz := B0.size
  obtain ⟨c, hc⟩ : ∃ c, lkCode gs = c := ⟨_, rfl⟩
  have HC : Hid (lkCode gs = c) := hc
  clear h B0
  unfold GivesF
  by_cases h0 : c = 0
  · subst h0
    have hn : n ≤ 1048576 := by have := (lk_ok hc).1; omega
    have hn' : (n : Int) ≤ 1048576 := by omega
    have HSL : Hid (SL gs) := (lk_ok hc).2.1
    have HZ : Hid (gs.length = n) := hz
    obtain ⟨fc, hfc⟩ : ∃ fc, fCode gs e0 c0 p0 = fc := ⟨_, rfl⟩
    obtain ⟨fv, hfv⟩ : ∃ fv, fVal gs e0 c0 p0 = fv := ⟨_, rfl⟩
    rw [hfc, hfv]
    have HFC : Hid (fCode gs e0 c0 p0 = fc) := hfc
    have HFV : Hid (fVal gs e0 c0 p0 = fv) := hfv
    clear hc hz hfc hfv
    go_enter Try.func43, Try.ntmps43
    go_wp2_with fail
    rw [← hW]
    clear hW
    refine (implLocksFault_c a n cap gs _ H.out).mono ?_
    rintro e w1 ⟨rfl, hb1⟩
    rw [HC.out]
    have hz1 := hb1.size
    have B2 : Below w1.heap.size w1 (w1.alloc (.cells #[.int .i64 e0, .int .i64 c0, .int .i64 p0, .int .i64 0] 121)) := (Below.refl _ _).alloc (Nat.le_refl _) _
    have H2 : Hid (LkIn (w1.alloc (.cells #[.int .i64 e0, .int .i64 c0, .int .i64 p0, .int .i64 0] 121)) a n gs) := (H.out.below hb1).below B2
    have X2 : Hid (ResBox (w1.alloc (.cells #[.int .i64 e0, .int .i64 c0, .int .i64 p0, .int .i64 0] 121)) w.heap.size (.int .i64 0) (.int .i64 0)) := (X0.out.below hb1).below B2
    have HB2 : Hid (Below w.heap.size w (w1.alloc (.cells #[.int .i64 e0, .int .i64 c0, .int .i64 p0, .int .i64 0] 121))) := (HB0.out.trans (hb1.mono hsz)).trans (B2.mono (by omega))
    clear B2 hb1
    go_wp2_with fail
    refine (search_c a n cap gs ⟨e0, c0, p0, 0⟩ _ H2.out HSL.out hn).mono ?_
    rintro e w3 ⟨i, b, rfl, hcut, hfnd, hb3⟩
    have HF := found_form HC.out hcut hfnd
    have X3 := X2.out.below hb3
    have H3 : Hid (LkIn w3 a n gs) := H2.out.below hb3
    have hBx : Below w.heap.size w w3 := HB2.out.trans (hb3.mono HB2.out.size)
    obtain ⟨d0, d1, g0, g1, hw⟩ := X3
    clear hcut hfnd hb3 X2 H2 HB2
    rcases HF with ⟨rfl, hf⟩ | ⟨rfl, x, hx, hf, hf0⟩
    · have E1 : Hid (fc = 4) := by show fc = 4; rw [← HFC.out]; simp [fCode, HC.out, hf]
      have E2 : Hid (fv = 0) := by show fv = 0; rw [← HFV.out]; simp [fVal, HC.out, hf]
      clear hf
      go_wp2
      refine bodyPost_ret (v := .agg #[.int .i64 4, .int .i64 0]) (by simp [results, Try.results43, go_sem, d0, d1, hw]) rfl ⟨by rw [E1.out, E2.out], ?_⟩
      exact hBx |>.setCell (by simp) _ |>.setCell (by simp) _
    · have E1 : Hid (fc = 0) := by show fc = 0; rw [← HFC.out]; simp [fCode, HC.out, hf, hf0]
      have E2 : Hid (fv = x.f) := by show fv = x.f; rw [← HFV.out]; simp [fVal, HC.out, hf]
      have hin : i < n := by
        by_cases q : i < n
        · exact q
        · rw [List.getElem?_eq_none (by rw [HZ.out]; omega)] at hx; cases hx
      obtain ⟨b, off, y, e1, hy, ⟨y0, y1, y2, y3⟩, hbl⟩ := H3.out.at hin
      rw [hx] at hy
      cases hy
      subst e1
      have hlt' : (i : Int) < (n : Int) := by omega
      clear hf hf0 hx
      go_wp2
      refine bodyPost_ret (v := .agg #[.int .i64 0, .int .i64 x.f]) (by simp [results, Try.results43, go_sem, d0, d1, hw]) rfl ⟨by rw [E1.out, E2.out], ?_⟩
      exact hBx |>.setCell (by simp) _ |>.setCell (by simp) _
  · have bc : (c != 0) = true := by simp [h0]
    have E1 : fCode gs e0 c0 p0 = c := by simp [fCode, hc, h0]
    have E2 : fVal gs e0 c0 p0 = 0 := by simp [fVal, hc, h0]
    rw [E1, E2]
    clear E1 E2 hc hz h0
    go_enter Try.func43, Try.ntmps43
    go_wp2_with fail
    rw [← hW]
    clear hW
    refine (implLocksFault_c a n cap gs _ H.out).mono ?_
    rintro e w1 ⟨rfl, hb1⟩
    rw [HC.out]
    obtain ⟨d0, d1, g0, g1, hw⟩ := X0.out.below hb1
    have hBx : Below w.heap.size w w1 := HB0.out.trans (hb1.mono hsz)
    clear hb1
    go_wp2
    refine bodyPost_ret (v := .agg #[.int .i64 c, .int .i64 0]) (by simp [results, Try.results43, go_sem, d0, d1, hw]) rfl ⟨rfl, ?_⟩
    exact hBx |>.setCell (by simp) _ |>.setCell (by simp) _

end Go.Proofs.Ytdooocjjohdpjaa

namespace Go.Proofs.Ytdooocjjohdpjaa
open Go.RowKit
set_option linter.unusedVariables false
set_option linter.unusedSimpArgs false

def rowP (p : PartI) : List Value := [.int .i64 p.k, .int .i64 p.ro, .int .i64 p.rn, .int .i64 p.l, .int .i64 p.r]

def flatP : List PartI → List Value
  | [] => []
  | p :: ps => .int .i64 p.k :: .int .i64 p.ro :: .int .i64 p.rn :: .int .i64 p.l :: .int .i64 p.r :: flatP ps

theorem flatP_append (a b : List PartI) : flatP (a ++ b) = flatP a ++ flatP b := by
  induction a with
  | nil => rfl
  | cons p ps ih => simp [flatP, ih]

theorem flatP_len (a : List PartI) : (flatP a).length = a.length * 5 := by
  induction a with
  | nil => rfl
  | cons p ps ih => simp [flatP, ih]; omega

theorem flatP_at : ∀ (a : List PartI) (k : Nat) (p : PartI), a[k]? = some p → ∀ j u, (rowP p)[j]? = some u → (flatP a)[k * 5 + j]? = some u
  | [], _, _, h => by simp at h
  | q :: qs, 0, p, h => by
    simp at h
    subst h
    intro j u hj
    rw [Nat.zero_mul, Nat.zero_add]
    have hl : j < 5 := by
      by_cases c : j < 5
      · exact c
      · rw [List.getElem?_eq_none (by simp [rowP]; omega)] at hj; cases hj
    have e : flatP (q :: qs) = rowP q ++ flatP qs := rfl
    rw [e, List.getElem?_append_left (by simpa [rowP] using hl)]
    exact hj
  | q :: qs, k + 1, p, h => by
    intro j u hj
    have := flatP_at qs k p (by simpa using h) j u hj
    have e : flatP (q :: qs) = rowP q ++ flatP qs := rfl
    have hl5 : (rowP q).length = 5 := rfl
    rw [e, List.getElem?_append_right (by rw [hl5]; omega), hl5, show (k + 1) * 5 + j - 5 = k * 5 + j by omega]
    exact this

theorem flatP_cells (a : List PartI) : ∀ u ∈ flatP a, u.oneCell' = true := by
  induction a with
  | nil => simp [flatP]
  | cons p ps ih =>
    intro u hu
    simp only [flatP, List.mem_cons] at hu
    rcases hu with rfl | rfl | rfl | rfl | rfl | hu
    all_goals first | rfl | exact ih _ hu

/-- A slice of parts that is new since B. -/
def OwnP (w : World) (B : Nat) (v : Value) (zs : List PartI) : Prop := w.ownsRow B 57 5 v zs.length (flatP zs)

theorem OwnP.shape {w : World} {B : Nat} {v : Value} {zs : List PartI} (h : OwnP w B v zs) (hv : v ≠ .slice none 0 0) : ∃ g cap, v = .slice (some ⟨g, 0, none⟩) zs.length cap := by
  have h0 : w.ownsRow B 57 5 v zs.length (flatP zs) := h
  rcases h0.2 with ⟨h', _⟩ | ⟨g, cap, cur, h', _⟩
  · exact absurd h' hv
  · exact ⟨g, cap, h'⟩

theorem OwnP.read {w : World} {B g n cap : Nat} {zs : List PartI} (hn : zs.length = n) (h : OwnP w B (.slice (some ⟨g, 0, none⟩) n cap) zs) : PartsIn w (some ⟨g, 0, none⟩) n zs := by
  subst hn
  have h0 : w.ownsRow B 57 5 (.slice (some ⟨g, 0, none⟩) zs.length cap) zs.length (flatP zs) := h
  have hc : ∀ j u, (flatP zs)[j]? = some u → w.cell? ⟨g, j, none⟩ = some u := by
    intro j u hj
    have hl : j < zs.length * 5 := by
      by_cases c : j < zs.length * 5
      · exact c
      · rw [List.getElem?_eq_none (by rw [flatP_len]; omega)] at hj; cases hj
    exact (h0.cellAt j hl).trans hj
  refine ⟨rfl, fun _ => ⟨g, 0, rfl, fun k x hx => ?_⟩⟩
  rw [Nat.zero_add]
  have f := flatP_at zs k x hx
  exact ⟨hc _ _ (f 0 _ rfl), hc _ _ (f 1 _ rfl), hc _ _ (f 2 _ rfl), hc _ _ (f 3 _ rfl), hc _ _ (f 4 _ rfl)⟩

theorem OwnP.below {w w' : World} {B : Nat} {v : Value} {zs : List PartI} (h : OwnP w B v zs) (hb : Below w.heap.size w w') : OwnP w' B v zs :=
  World.ownsRow.kept (row := none) h ⟨hb.os, hb.tape, hb.output, hb.size, fun k hk _ => hb.block k hk⟩ (by cases v.ownBlock <;> simp)

theorem ownP_cap {w : World} {B g n cap : Nat} {zs : List PartI} (hn : zs.length = n) (h : OwnP w B (.slice (some ⟨g, 0, none⟩) n cap) zs) : n ≤ cap ∧ cap ≤ maxLen := by
  have h0 : w.ownsRow B 57 5 (.slice (some ⟨g, 0, none⟩) n cap) zs.length (flatP zs) := h
  rcases h0.2 with ⟨h', _⟩ | ⟨g', cap', cur, h', hb, hg, hc, hm, _⟩
  · simp at h'
  · simp at h'
    obtain ⟨_, _, rfl⟩ := h'
    exact ⟨by omega, hm⟩

theorem cell_newP (W : World) (x : PartI) (T : TypeId) : ∀ j u, (rowP x)[j]? = some u → (W.alloc (.cells #[.int .i64 x.k, .int .i64 x.ro, .int .i64 x.rn, .int .i64 x.l, .int .i64 x.r] T)).cell? ((⟨W.heap.size, 0, none⟩ : Addr).add j) = some u := by
  intro j u hj
  match j, hj with
  | 0, hj => simp [rowP] at hj; subst hj; simp [Addr.add]
  | 1, hj => simp [rowP] at hj; subst hj; simp [Addr.add]
  | 2, hj => simp [rowP] at hj; subst hj; simp [Addr.add]
  | 3, hj => simp [rowP] at hj; subst hj; simp [Addr.add]
  | 4, hj => simp [rowP] at hj; subst hj; simp [Addr.add]

/-- What stands while parts are drawn. -/
structure LM (w wr : World) (B : Nat) (a : Option Addr) (len cap kk : Nat) (ys : List Int) (g n c : Nat) (ps : List PartI) : Prop where
  ow : OwnP wr w.heap.size (.slice (some ⟨g, 0, none⟩) n c) ps
  ln : ps.length = n
  ds : DS w wr B a len cap kk ys
  gw : w.heap.size ≤ g
  gl : g < wr.heap.size

theorem LM.draw {w wr wr' : World} {B : Nat} {a : Option Addr} {len cap kk k' : Nat} {ys : List Int} {g n c : Nat} {ps : List PartI} (h : LM w wr B a len cap kk ys g n c ps) (hB : B < w.heap.size) (hs : SrcAt wr' B a len cap k' ys) (hg : wr.grownBy wr' (some B)) : LM w wr' B a len cap k' ys g n c ps :=
  ⟨World.ownsRow.kept (row := some B) h.ow hg (.inr (by have := h.gw; simp [Value.ownBlock]; omega)), h.ln, h.ds.draw hs hg, h.gw, Nat.lt_of_lt_of_le h.gl hg.size⟩

theorem LM.below {w wr wr' : World} {B : Nat} {a : Option Addr} {len cap kk : Nat} {ys : List Int} {g n c : Nat} {ps : List PartI} (h : LM w wr B a len cap kk ys g n c ps) (hb : Below wr.heap.size wr wr') : LM w wr' B a len cap kk ys g n c ps :=
  ⟨h.ow.below hb, h.ln, ⟨h.ds.src.below hb, grown_trans h.ds.gr (grown_none ⟨hb.os, hb.tape, hb.output, hb.size, fun k hk _ => hb.block k hk⟩ _)⟩, h.gw, Nat.lt_of_lt_of_le h.gl hb.size⟩

theorem LM.size {w wr : World} {B : Nat} {a : Option Addr} {len cap kk : Nat} {ys : List Int} {g n c : Nat} {ps : List PartI} (h : LM w wr B a len cap kk ys g n c ps) : w.heap.size ≤ wr.heap.size := Nat.le_of_lt (Nat.lt_of_le_of_lt h.gw h.gl)

/-- Something behind a block of its own that is new and no one's. -/
theorem LM.other {w wr wr' : World} {B q : Nat} {a : Option Addr} {len cap kk : Nat} {ys : List Int} {g n c : Nat} {ps : List PartI} (h : LM w wr B a len cap kk ys g n c ps) (hcode : ∀ b off, a = some ⟨b, off, none⟩ → len = 0 ∨ b < w.heap.size) (hB : B < w.heap.size) (hg : wr.grownBy wr' (some q)) (hq : w.heap.size ≤ q) (hne : q ≠ g) : LM w wr' B a len cap kk ys g n c ps := by
  refine ⟨World.ownsRow.kept (row := some q) h.ow hg (.inr (by simp [Value.ownBlock]; omega)), h.ln, ⟨h.ds.src.kept hg (by simp; omega) (fun b off e => (hcode b off e).imp id (fun k => by simp; omega)), ⟨hg.os.trans h.ds.gr.os, hg.tape.trans h.ds.gr.tape, hg.output.trans h.ds.gr.output, Nat.le_trans h.ds.gr.size hg.size, fun i hi hne2 => ?_⟩⟩, h.gw, Nat.lt_of_lt_of_le h.gl hg.size⟩
  rw [hg.block i (Nat.lt_of_lt_of_le hi h.ds.gr.size) (by simp; omega)]
  exact h.ds.gr.block i hi hne2

/-- One more part behind an append. -/
theorem LM.next {w wr w' : World} {B : Nat} {a : Option Addr} {len cap kk : Nat} {ys : List Int} {g n c : Nat} {ps : List PartI} {x : PartI} {o : Obj} {v' : Value} (h : LM w wr B a len cap kk ys g n c ps) (hcode : ∀ b off, a = some ⟨b, off, none⟩ → len = 0 ∨ b < w.heap.size) (hB : B < w.heap.size)
    (hown : w'.ownsRow w.heap.size 57 5 v' (n + 1) (flatP ps ++ rowP x)) (hg : (wr.alloc o).grownBy w' (Value.ownBlock (.slice (some ⟨g, 0, none⟩) n c))) (hn : v' ≠ .slice none 0 0) :
    ∃ g' c', v' = .slice (some ⟨g', 0, none⟩) (n + 1) c' ∧ LM w w' B a len cap kk ys g' (n + 1) c' (ps ++ [x]) := by
  have hl : (ps ++ [x]).length = n + 1 := by rw [List.length_append, h.ln]; rfl
  have how : OwnP w' w.heap.size v' (ps ++ [x]) := by unfold OwnP; rw [hl, flatP_append]; exact hown
  obtain ⟨g', c', e⟩ := how.shape hn
  rw [hl] at e
  subst e
  have hlt := hown.lt g' (by simp [Value.ownBlock])
  have hg' : (wr.alloc o).grownBy w' (some g) := hg
  have ds1 := h.ds.alloc o
  refine ⟨g', c', rfl, how, hl, ⟨ds1.src.kept hg' (by have := h.gw; simp; omega) (fun b off e => (hcode b off e).imp id (fun q => by have := h.gw; simp; omega)), ⟨hg'.os.trans ds1.gr.os, hg'.tape.trans ds1.gr.tape, hg'.output.trans ds1.gr.output, Nat.le_trans ds1.gr.size hg'.size, fun i hi hne => ?_⟩⟩, hlt.1, hlt.2⟩
  rw [hg'.block i (Nat.lt_of_lt_of_le hi ds1.gr.size) (by have := h.gw; simp; omega)]
  exact ds1.gr.block i hi hne

theorem ResBox.grown {w w' : World} {B q : Nat} {u v : Value} (h : ResBox w B u v) (hg : w.grownBy w' (some q)) (hne : B ≠ q) : ResBox w' B u v := by
  have hb := hg.block B h.2.2.2.2 (by simp [hne])
  refine ⟨hg.cell h.1 (by simp [hne]), hg.cell h.2.1 (by simp [hne]), ?_, ?_, Nat.lt_of_lt_of_le h.2.2.2.2 hg.size⟩
  · have := h.2.2.1
    unfold World.frozen? at this ⊢
    simp only at this ⊢
    rw [hb]
    exact this
  · have := h.2.2.2.1
    unfold World.frozen? at this ⊢
    simp only at this ⊢
    rw [hb]
    exact this

theorem ResBox.put {w : World} {B : Nat} {u v : Value} (h : ResBox w B u v) (u' v' : Value) : ResBox ((w.setCell ⟨B, 0, none⟩ u').setCell ⟨B, 1, none⟩ v') B u' v' := by
  obtain ⟨c0, c1, f0, f1, hl⟩ := h
  exact ⟨by simp [go_sem, c0, c1], by simp [go_sem, c0, c1], by simpa only [World.frozen?_setCell] using f0, by simpa only [World.frozen?_setCell] using f1, by simpa only [World.size_setCell] using hl⟩

/-- What a chance gives. -/
def ChanceP (w : World) (B : Nat) (a : Option Addr) (len cap k : Nat) (ys : List Int) (e : Ending) (w' : World) : Prop := ∃ t : Bool, e = .returned (.bool t) ∧ SrcAt w' B a len cap (k + 1) ys ∧ w.grownBy w' (some B)

set_option maxHeartbeats 400000 in
theorem chance_c (w : World) (B : Nat) (a : Option Addr) (len cap k : Nat) (ys : List Int) (n : Int) (h : SrcAt w B a len cap k ys) (hl : len ≤ 1048576) (hk : k ≤ 1000) (n1 : 1 ≤ n) (n2 : n ≤ 1048576) :
    Calls Try.prog 171 #[.pointer (some ⟨B, 0, none⟩), .int .i64 n] w fun e w' => ChanceP w B a len cap k ys e w' := by
  have H : Hid (SrcAt w B a len cap k ys) := h
  clear h
  go_enter Try.func171, Try.ntmps171
  go_wp2_with fail
  refine (next_c _ B a len cap k ys n H.out hl hk n1 n2).mono ?_
  rintro e w1 ⟨v, v0, v1, rfl, hS, hG⟩
  go_wp2
  go_ret
  exact ⟨_, rfl, hS, hG⟩

theorem grownBy_setCell2 (W : World) (B o : Nat) (u : Value) : W.grownBy (W.setCell ⟨B, o, none⟩ u) (some B) := grown_set W B o u

set_option maxRecDepth 100000 in
set_option maxHeartbeats 4000000 in
theorem form_c (w : World) (B : Nat) (a : Option Addr) (len cap k0 : Nat) (ys : List Int) (a' : Option Addr) (m d : Nat) (zs : List RuleI) (h : SrcAt w B a len cap k0 ys) (hl : len ≤ 1048576) (hk0 : k0 ≤ 700) (hm : m ≤ 1000) (hr : RulesIn w a' m zs) (hne : ∀ b off, a' = some ⟨b, off, none⟩ → m = 0 ∨ b ≠ B) :
    Calls Try.prog 161 #[.pointer (some ⟨B, 0, none⟩), .slice a' m d] w fun e w' => ∃ (g n c kk : Nat) (ps : List PartI), e = .returned (.slice (some ⟨g, 0, none⟩) n c) ∧ n ≤ 6 ∧ kk ≤ k0 + 30 ∧ LM w w' B a len cap kk ys g n c ps := by
  have hB := h.lt
  have HCode : Hid (∀ b off, a = some ⟨b, off, none⟩ → len = 0 ∨ b < w.heap.size) := h.code_lt
  have HR : Hid (RulesIn w a' m zs) := hr
  have HNE : Hid (∀ b off, a' = some ⟨b, off, none⟩ → m = 0 ∨ b ≠ B) := hne
  have D0 : Hid (DS w (w.alloc (.cells #[] 57)) B a len cap k0 ys) := (DS.start h).alloc _
  have O0 : Hid (OwnP (w.alloc (.cells #[] 57)) w.heap.size (.slice (some ⟨w.heap.size, 0, none⟩) 0 0) []) := World.ownsRow_lit (base := w.heap.size) (e := 57) (size := 5) w #[] 0 (Nat.le_refl _) (Nat.zero_le _) rfl
  obtain ⟨i0, hi, hz0, hz1, hz2⟩ := info_parts Try.info57
  have hun : Try.prog.underlying 49 = some (.slice 57) := by kernel_rfl
  have hm' : (m : Int) ≤ 1000 := by omega
  clear h hr hne
  go_enter Try.func161, Try.ntmps161
  go_wp2_with fail
  refine (next_c _ B a len cap k0 ys 3 D0.out.src hl (by omega) (by omega) (by omega)).mono ?_
  rintro e w1 ⟨v1, x0, x1, rfl, hS1, hG1⟩
  have D1 : Hid (DS w w1 B a len cap (k0 + 1) ys) := D0.out.draw hS1 hG1
  have hz1' : w.heap.size < w1.heap.size := by have := hG1.size; simp at this; omega
  have O1 : Hid (OwnP w1 w.heap.size (.slice (some ⟨w.heap.size, 0, none⟩) 0 0) []) := World.ownsRow.kept (row := some B) O0.out hG1 (.inr (by simp [Value.ownBlock]; omega))
  obtain ⟨r1, rfl⟩ := Int.eq_ofNat_of_zero_le x0
  clear hS1 hG1 D0 O0
  go_wp2_with fail
  go_loopw [5, 6] (fun v i wr => ∃ (g n c kk r : Nat) (ps : List PartI), v = .slice (some ⟨g, 0, none⟩) n c ∧ i = .int .i64 (r : Int) ∧ n + r ≤ 3 ∧ kk + 4 * r ≤ k0 + 13 ∧ 1 ≤ n + r ∧ Hid (LM w wr B a len cap kk ys g n c ps)) (fun _ i _ => (intOf i).toNat)
  case atStart => exact ⟨_, 0, 0, k0 + 1, r1 + 1, [], rfl, by simp; omega, by omega, by omega, by omega, O1.out, rfl, D1.out, Nat.le_refl _, hz1'⟩
  case round =>
    obtain ⟨g, n, c, kk, r, ps, rfl, rfl, hnr, hkr, hn1, HL⟩ := hrel
    by_cases hr : 0 < r
    · have hr' : (0 : Int) < (r : Int) := by omega
      go_wp2_with fail
      refine (drawRole_c _ B a len cap kk ys HL.out.ds.src hl (by omega)).mono ?_
      rintro e w2 ⟨o, nm, _, rfl, hS2, hG2⟩
      have HL2 : Hid (LM w w2 B a len cap (kk + 2) ys g n c ps) := HL.out.draw hB hS2 hG2
      have hA2 : Below w2.heap.size w2 (w2.alloc (.cells #[.int .i64 o, .int .i64 nm] 35)) := (Below.refl _ _).alloc (Nat.le_refl _) _
      have HL3 : Hid (LM w (w2.alloc (.cells #[.int .i64 o, .int .i64 nm] 35)) B a len cap (kk + 2) ys g n c ps) := HL2.out.below hA2
      have HX3 : Hid (ResBox (w2.alloc (.cells #[.int .i64 o, .int .i64 nm] 35)) w2.heap.size (.int .i64 o) (.int .i64 nm)) := ResBox.new _ _ _ _
      have hq1 : w.heap.size ≤ w2.heap.size := HL2.out.size
      have hq2 : g < w2.heap.size := HL2.out.gl
      clear hS2 hG2 HL hA2 HL2
      go_upto_region 6 with fail
      generalize w2.alloc (.cells #[.int .i64 o, .int .i64 nm] 35) = w3 at HL3 HX3 ⊢
      by_cases hm0 : 0 < m
      · have hm0' : (0 : Int) < (m : Int) := by omega
        go_wp2_with fail
        refine (chance_c _ B a len cap (kk + 2) ys 4 HL3.out.ds.src hl (by omega) (by omega) (by omega)).mono ?_
        rintro e w4 ⟨t, rfl, hS4, hG4⟩
        have HL4 : Hid (LM w w4 B a len cap (kk + 2 + 1) ys g n c ps) := HL3.out.draw hB hS4 hG4
        have HX4 : Hid (ResBox w4 w2.heap.size (.int .i64 o) (.int .i64 nm)) := HX3.out.grown hG4 (by omega)
        clear hS4 hG4 HL3 HX3
        cases t
        · go_wp2_with fail
          refine (next_c _ B a len cap (kk + 2 + 1) ys (m : Int) HL4.out.ds.src hl (by omega) (by omega) (by omega)).mono ?_
          rintro e w5 ⟨v, v0, v1, rfl, hS5, hG5⟩
          have HL5 : Hid (LM w w5 B a len cap (kk + 2 + 1 + 1) ys g n c ps) := HL4.out.draw hB hS5 hG5
          have HX5 : Hid (ResBox w5 w2.heap.size (.int .i64 o) (.int .i64 nm)) := HX4.out.grown hG5 (by omega)
          obtain ⟨j, rfl⟩ := Int.eq_ofNat_of_zero_le v0
          have hjm : j < m := by omega
          obtain ⟨b, off, z, e1, hz, hzr⟩ := (rules_gr HR.out HL5.out.ds.gr HNE.out).at hjm
          obtain ⟨z0, z1, z2, _⟩ := hzr
          subst e1
          have hbw : b < w5.heap.size := World.block_lt_of_cell? w5 ⟨b, off + j * 8, none⟩ z0
          have HL6 : Hid (LM w ((w5.setCell ⟨w2.heap.size, 0, none⟩ (.int .i64 z.ho)).setCell ⟨w2.heap.size, 1, none⟩ (.int .i64 z.hn)) B a len cap (kk + 2 + 1 + 1) ys g n c ps) := (HL5.out.other HCode.out hB (grownBy_setCell2 w5 w2.heap.size 0 (.int .i64 z.ho)) hq1 (by omega)).other HCode.out hB (grownBy_setCell2 _ w2.heap.size 1 (.int .i64 z.hn)) hq1 (by omega)
          have HX6 : Hid (ResBox ((w5.setCell ⟨w2.heap.size, 0, none⟩ (.int .i64 z.ho)).setCell ⟨w2.heap.size, 1, none⟩ (.int .i64 z.hn)) w2.heap.size (.int .i64 z.ho) (.int .i64 z.hn)) := HX5.out.put _ _
          obtain ⟨y0, y1, yf0, yf1, _⟩ := HX5.out
          clear hS5 hG5 HL4 HX4 hz
          go_upto_region 8 with fail
          generalize (w5.setCell ⟨w2.heap.size, 0, none⟩ (.int .i64 z.ho)).setCell ⟨w2.heap.size, 1, none⟩ (.int .i64 z.hn) = w6 at HL6 HX6 ⊢
          clear y0 y1 yf0 yf1 z0 z1 z2 HL5 HX5
          obtain ⟨c0, c1, _⟩ := HX6.out
          go_wp2_with (first
            | (at_builtin; refine wpList_append_own _ rfl _ _ 49 rfl w.heap.size 57 i0 (.agg #[.int .i64 0, .int .i64 0, .int .i64 0, .int .i64 0, .int .i64 0]) 5 40 hun hi hz0 hz1 hz2 rfl (by decide) _ n (flatP ps) rfl (?c0) ⟨w6.heap.size, 0, none⟩ 1 1 (rowP (⟨1, z.ho, z.hn, 0, 0⟩ : PartI)) rfl rfl (cell_newP w6 (⟨1, z.ho, z.hn, 0, 0⟩ : PartI) _) (flatP_cells [(⟨1, z.ho, z.hn, 0, 0⟩ : PartI)]) ?c3 ?c4 ?c5 ?_)
            | fail)
          case c0 => have h0 : w6.ownsRow w.heap.size 57 5 (.slice (some ⟨g, 0, none⟩) n c) n (flatP ps) := by have := HL6.out.ow; unfold OwnP at this; rw [HL6.out.ln] at this; exact this
                     exact h0.alloc _
          case c3 => unfold maxLen; omega
          case c4 => omega
          case c5 => have := HL6.out.size; simp; omega
          intro v' w9 hown' hgrow hnil
          have HN : Hid (∃ g' c', v' = .slice (some ⟨g', 0, none⟩) (n + 1) c' ∧ LM w w9 B a len cap (kk + 2 + 1 + 1) ys g' (n + 1) c' (ps ++ [(⟨1, z.ho, z.hn, 0, 0⟩ : PartI)])) := LM.next HL6.out HCode.out hB hown' hgrow hnil
          clear hown' hgrow hnil
          obtain ⟨g', c', rfl, hl9⟩ := HN.out
          have HL9 : Hid (LM w w9 B a len cap (kk + 2 + 1 + 1) ys g' (n + 1) c' (ps ++ [(⟨1, z.ho, z.hn, 0, 0⟩ : PartI)])) := hl9
          clear hl9 HN
          clear HL6 HX6 c0 c1
          go_wp2
          exact ⟨⟨g', n + 1, c', _, r - 1, _, rfl, by simp; omega, by omega, by omega, by omega, HL9⟩, by simp [intOf]; omega⟩
        · go_upto_region 8 with fail
          obtain ⟨c0, c1, _⟩ := HX4.out
          go_wp2_with (first
            | (at_builtin; refine wpList_append_own _ rfl _ _ 49 rfl w.heap.size 57 i0 (.agg #[.int .i64 0, .int .i64 0, .int .i64 0, .int .i64 0, .int .i64 0]) 5 40 hun hi hz0 hz1 hz2 rfl (by decide) _ n (flatP ps) rfl (?c0) ⟨w4.heap.size, 0, none⟩ 1 1 (rowP (⟨1, o, nm, 0, 0⟩ : PartI)) rfl rfl (cell_newP w4 (⟨1, o, nm, 0, 0⟩ : PartI) _) (flatP_cells [(⟨1, o, nm, 0, 0⟩ : PartI)]) ?c3 ?c4 ?c5 ?_)
            | fail)
          case c0 => have h0 : w4.ownsRow w.heap.size 57 5 (.slice (some ⟨g, 0, none⟩) n c) n (flatP ps) := by have := HL4.out.ow; unfold OwnP at this; rw [HL4.out.ln] at this; exact this
                     exact h0.alloc _
          case c3 => unfold maxLen; omega
          case c4 => omega
          case c5 => have := HL4.out.size; simp; omega
          intro v' w9 hown' hgrow hnil
          have HN : Hid (∃ g' c', v' = .slice (some ⟨g', 0, none⟩) (n + 1) c' ∧ LM w w9 B a len cap (kk + 2 + 1) ys g' (n + 1) c' (ps ++ [(⟨1, o, nm, 0, 0⟩ : PartI)])) := LM.next HL4.out HCode.out hB hown' hgrow hnil
          clear hown' hgrow hnil
          obtain ⟨g', c', rfl, hl9⟩ := HN.out
          have HL9 : Hid (LM w w9 B a len cap (kk + 2 + 1) ys g' (n + 1) c' (ps ++ [(⟨1, o, nm, 0, 0⟩ : PartI)])) := hl9
          clear hl9 HN
          clear HL4 HX4 c0 c1
          go_wp2
          exact ⟨⟨g', n + 1, c', _, r - 1, _, rfl, by simp; omega, by omega, by omega, by omega, HL9⟩, by simp [intOf]; omega⟩
      · have hm0' : ¬ ((0 : Int) < (m : Int)) := by omega
        go_upto_region 8 with fail
        obtain ⟨c0, c1, _⟩ := HX3.out
        go_wp2_with (first
          | (at_builtin; refine wpList_append_own _ rfl _ _ 49 rfl w.heap.size 57 i0 (.agg #[.int .i64 0, .int .i64 0, .int .i64 0, .int .i64 0, .int .i64 0]) 5 40 hun hi hz0 hz1 hz2 rfl (by decide) _ n (flatP ps) rfl (?c0) ⟨w3.heap.size, 0, none⟩ 1 1 (rowP (⟨1, o, nm, 0, 0⟩ : PartI)) rfl rfl (cell_newP w3 (⟨1, o, nm, 0, 0⟩ : PartI) _) (flatP_cells [(⟨1, o, nm, 0, 0⟩ : PartI)]) ?c3 ?c4 ?c5 ?_)
          | fail)
        case c0 => have h0 : w3.ownsRow w.heap.size 57 5 (.slice (some ⟨g, 0, none⟩) n c) n (flatP ps) := by have := HL3.out.ow; unfold OwnP at this; rw [HL3.out.ln] at this; exact this
                   exact h0.alloc _
        case c3 => unfold maxLen; omega
        case c4 => omega
        case c5 => have := HL3.out.size; simp; omega
        intro v' w9 hown' hgrow hnil
        have HN : Hid (∃ g' c', v' = .slice (some ⟨g', 0, none⟩) (n + 1) c' ∧ LM w w9 B a len cap (kk + 2) ys g' (n + 1) c' (ps ++ [(⟨1, o, nm, 0, 0⟩ : PartI)])) := LM.next HL3.out HCode.out hB hown' hgrow hnil
        clear hown' hgrow hnil
        obtain ⟨g', c', rfl, hl9⟩ := HN.out
        have HL9 : Hid (LM w w9 B a len cap (kk + 2) ys g' (n + 1) c' (ps ++ [(⟨1, o, nm, 0, 0⟩ : PartI)])) := hl9
        clear hl9 HN
        clear HL3 HX3 c0 c1
        go_wp2
        exact ⟨⟨g', n + 1, c', _, r - 1, _, rfl, by simp; omega, by omega, by omega, by omega, HL9⟩, by simp [intOf]; omega⟩
    · have hr0 : r = 0 := by omega
      subst hr0
      have hn3 : 1 ≤ n ∧ n ≤ 3 := by omega
      go_wp2_with fail
      refine (next_c _ B a len cap kk ys 4 HL.out.ds.src hl (by omega) (by omega) (by omega)).mono ?_
      rintro e w2 ⟨v2, y0, y1, rfl, hS2, hG2⟩
      have HL2 : Hid (LM w w2 B a len cap (kk + 1) ys g n c ps) := HL.out.draw hB hS2 hG2
      obtain ⟨r2, rfl⟩ := Int.eq_ofNat_of_zero_le y0
      clear hS2 hG2 HL
      go_wp2_with fail
      go_loopw [5, 8] (fun v i wr => ∃ (g n c kk r : Nat) (ps : List PartI), v = .slice (some ⟨g, 0, none⟩) n c ∧ i = .int .i64 (r : Int) ∧ n + r ≤ 6 ∧ 1 ≤ n ∧ kk + 3 * r ≤ k0 + 23 ∧ Hid (LM w wr B a len cap kk ys g n c ps)) (fun _ i _ => (intOf i).toNat)
      case atStart => exact ⟨g, n, c, kk + 1, r2, ps, rfl, rfl, by omega, by omega, by omega, HL2.out⟩
      case round =>
        clear HL2 y1
        obtain ⟨g, n, c, kk, r, ps, rfl, rfl, hnr, hn1, hkr, HL⟩ := hrel
        by_cases hr : 0 < r
        · have hr' : (0 : Int) < (r : Int) := by omega
          have hn6' : (n : Int) ≤ 6 := by omega
          go_wp2_with fail
          refine (next_c _ B a len cap kk ys 2 HL.out.ds.src hl (by omega) (by omega) (by omega)).mono ?_
          rintro e w3 ⟨k3, z0, z1, rfl, hS3, hG3⟩
          have HL3 : Hid (LM w w3 B a len cap (kk + 1) ys g n c ps) := HL.out.draw hB hS3 hG3
          clear hS3 hG3 HL
          go_wp2_with fail
          refine (next_c _ B a len cap (kk + 1) ys (n : Int) HL3.out.ds.src hl (by omega) (by omega) (by omega)).mono ?_
          rintro e w4 ⟨l4, l0, l1, rfl, hS4, hG4⟩
          have HL4 : Hid (LM w w4 B a len cap (kk + 1 + 1) ys g n c ps) := HL3.out.draw hB hS4 hG4
          clear hS4 hG4 HL3
          go_wp2_with fail
          refine (next_c _ B a len cap (kk + 1 + 1) ys (n : Int) HL4.out.ds.src hl (by omega) (by omega) (by omega)).mono ?_
          rintro e w5 ⟨r4, q0, q1, rfl, hS5, hG5⟩
          have HL5 : Hid (LM w w5 B a len cap (kk + 1 + 1 + 1) ys g n c ps) := HL4.out.draw hB hS5 hG5
          clear hS5 hG5 HL4
          go_wp2_with (first
            | (at_builtin; refine wpList_append_own _ rfl _ _ 49 rfl w.heap.size 57 i0 (.agg #[.int .i64 0, .int .i64 0, .int .i64 0, .int .i64 0, .int .i64 0]) 5 40 hun hi hz0 hz1 hz2 rfl (by decide) _ n (flatP ps) rfl (?c0) ⟨w5.heap.size, 0, none⟩ 1 1 (rowP (⟨2 + k3, 0, 0, l4, r4⟩ : PartI)) rfl rfl (cell_newP w5 (⟨2 + k3, 0, 0, l4, r4⟩ : PartI) _) (flatP_cells [(⟨2 + k3, 0, 0, l4, r4⟩ : PartI)]) ?c3 ?c4 ?c5 ?_)
            | fail)
          case c0 => have h0 : w5.ownsRow w.heap.size 57 5 (.slice (some ⟨g, 0, none⟩) n c) n (flatP ps) := by have := HL5.out.ow; unfold OwnP at this; rw [HL5.out.ln] at this; exact this
                     exact h0.alloc _
          case c3 => unfold maxLen; omega
          case c4 => omega
          case c5 => have := HL5.out.size; simp; omega
          intro v' w9 hown' hgrow hnil
          have HN : Hid (∃ g' c', v' = .slice (some ⟨g', 0, none⟩) (n + 1) c' ∧ LM w w9 B a len cap (kk + 1 + 1 + 1) ys g' (n + 1) c' (ps ++ [(⟨2 + k3, 0, 0, l4, r4⟩ : PartI)])) := LM.next HL5.out HCode.out hB hown' hgrow hnil
          clear hown' hgrow hnil
          obtain ⟨g', c', rfl, hl9⟩ := HN.out
          have HL9 : Hid (LM w w9 B a len cap (kk + 1 + 1 + 1) ys g' (n + 1) c' (ps ++ [(⟨2 + k3, 0, 0, l4, r4⟩ : PartI)])) := hl9
          clear hl9 HN
          clear HL5
          go_wp2
          exact ⟨⟨g', n + 1, c', _, r - 1, _, rfl, by simp; omega, by omega, by omega, by omega, HL9⟩, by simp [intOf]; omega⟩
        · have hr0 : r = 0 := by omega
          subst hr0
          go_wp2_with fail
          go_ret
          exact ⟨g, n, c, kk, ps, rfl, by omega, by omega, HL.out⟩

end Go.Proofs.Ytdooocjjohdpjaa
