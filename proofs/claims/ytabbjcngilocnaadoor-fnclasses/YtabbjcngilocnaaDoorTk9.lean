/-
  CONTRACTS: impl.TakeLocks.
  Conditions: the two variables of package level hold what they were laid with.
-/
import Derived.Test.YtabbjcngilocnaaDoorTk8
namespace Go.Proofs.YtabbjcngilocnaaDoor
open Go.RowKit
set_option linter.unusedVariables false
set_option linter.unusedSimpArgs false

set_option maxRecDepth 20000 in
set_option maxHeartbeats 2000000 in
theorem implTake_bad (a : Option Addr) (n cap : Nat) (b : Option Addr) (m cap2 : Nat) (gs : List LkI) (e f s c : Int) (w : World) (h : LkIn w a n gs) (hc : lkCode gs = c) (h0 : c ≠ 0) : GivesL 7 #[.slice a n cap, .slice b m cap2, .int .i64 e, .int .i64 f, .int .i64 s] c [] w := by
  have B0 : Below w.heap.size w (w.alloc (.cells #[.int .i64 0, .slice none 0 0] 29)) := (Below.refl _ _).alloc (Nat.le_refl _) _
  have HF : Hid (Calls Tryd.prog 12 #[.slice a n cap] (w.alloc (.cells #[.int .i64 0, .slice none 0 0] 29)) fun e w' => e = .returned (.int .i64 c) ∧ Below (w.heap.size + 1) (w.alloc (.cells #[.int .i64 0, .slice none 0 0] 29)) w') := (implLocksFault_c a n cap gs _ (h.below B0)).mono fun e w' hh => ⟨by rw [hh.1, hc], by have := hh.2; rw [World.size_alloc] at this; exact this⟩
  have hcb : (c != 0) = true := by simpa using h0
  clear h hc h0 B0
  unfold GivesL
  go_enter Tryd.func7, Tryd.ntmps7
  go_wp2_with fail
  refine HF.out.mono ?_
  rintro r w1 ⟨rfl, hb1⟩
  have d0 : w1.cell? ⟨w.heap.size, 0, none⟩ = some (.int .i64 0) := (hb1.cell (p := ⟨w.heap.size, 0, none⟩) (by simp)).trans (by simp)
  have d1 : w1.cell? ⟨w.heap.size, 1, none⟩ = some (.slice none 0 0) := (hb1.cell (p := ⟨w.heap.size, 1, none⟩) (by simp)).trans (by simp)
  have g0 : w1.frozen? ⟨w.heap.size, 0, none⟩ = false := (hb1.frozen (p := ⟨w.heap.size, 0, none⟩) (by simp)).trans (by simp [go_sem])
  have g1 : w1.frozen? ⟨w.heap.size, 1, none⟩ = false := (hb1.frozen (p := ⟨w.heap.size, 1, none⟩) (by simp)).trans (by simp [go_sem])
  have B1 : Below w.heap.size w w1 := ((Below.refl _ _).alloc (Nat.le_refl _) _).trans (hb1.mono (by omega))
  clear hb1
  go_wp2_with fail
  refine bodyPost_ret (v := .agg #[.int .i64 c, .slice none 0 0]) (by simp [results, Tryd.results7, go_sem, d0, d1]) rfl ⟨none, 0, rfl, World.ownsRow_nil _ _ _ _, ?_⟩
  exact (B1.setCell (Nat.le_refl _) _).setCell (Nat.le_refl _) _

/-- The answer's own box, and what lies below. -/
structure TB0 (w w1 : World) : Prop where
  c0 : w1.cell? ⟨w.heap.size, 0, none⟩ = some (.int .i64 0)
  c1 : w1.cell? ⟨w.heap.size, 1, none⟩ = some (.slice none 0 0)
  f0 : w1.frozen? ⟨w.heap.size, 0, none⟩ = false
  f1 : w1.frozen? ⟨w.heap.size, 1, none⟩ = false
  bel : Below w.heap.size w w1
  lt : w.heap.size < w1.heap.size

theorem TB0.below {w w1 w2 : World} (h : TB0 w w1) (hb : Below w1.heap.size w1 w2) : TB0 w w2 :=
  ⟨(hb.cell (p := ⟨w.heap.size, 0, none⟩) h.lt).trans h.c0, (hb.cell (p := ⟨w.heap.size, 1, none⟩) h.lt).trans h.c1, (hb.frozen (p := ⟨w.heap.size, 0, none⟩) h.lt).trans h.f0, (hb.frozen (p := ⟨w.heap.size, 1, none⟩) h.lt).trans h.f1, h.bel.trans (hb.mono (by have := h.lt; omega)), by have := hb.size; have := h.lt; omega⟩

set_option maxRecDepth 20000 in
set_option maxHeartbeats 4000000 in
theorem implTake_ok (a0 : Option Addr) (n cap : Nat) (b : Option Addr) (m cap2 : Nat) (gs : List LkI) (zs : List Int) (e f s : Int) (w : World) (h : LkIn w a0 n gs) (hy : IntIn w b m zs) (hc : lkCode gs = 0) (hE : ErrAt 0 w) (hH : HandleE w) :
    GivesL 7 #[.slice a0 n cap, .slice b m cap2, .int .i64 e, .int .i64 f, .int .i64 s] (takeCode gs zs e f s) (takeL gs zs e f s) w := by
  obtain ⟨W, hW⟩ : ∃ W, W = w.alloc (.cells #[.int .i64 0, .slice none 0 0] 29) := ⟨_, rfl⟩
  have HW : Hid (W = w.alloc (.cells #[.int .i64 0, .slice none 0 0] 29)) := hW
  have T0 : Hid (TB0 w W) := by
    show TB0 w W
    rw [hW]
    exact ⟨by go_cell, by go_cell, by simp [go_sem], by simp [go_sem], (Below.refl _ _).alloc (Nat.le_refl _) _, by simp⟩
  have HG : Hid (LkIn w a0 n gs) := h
  have HI : Hid (IntIn w b m zs) := hy
  have HE : Hid (ErrAt 0 w) := hE
  have HH : Hid (HandleE w) := hH
  have hok := lk_ok hc
  have hn : n ≤ 200 := by have := hok.1; have := h.1; omega
  have hCT : takeCode gs zs e f s = if needCode zs e f s = 0 then tkCode gs (needTo zs e f s zs.length) else needCode zs e f s := by unfold takeCode; rw [if_pos hc]
  have hLT : takeL gs zs e f s = if needCode zs e f s = 0 then tkL gs (needTo zs e f s zs.length) else [] := by
    unfold takeL
    by_cases q : needCode zs e f s = 0
    · rw [if_pos ⟨hc, q⟩, if_pos q]
    · rw [if_neg (fun r => q r.2), if_neg q]
  have hzm : zs.length = m := hy.1
  have inBelow : ∀ w1, Below w.heap.size w w1 → LkIn w1 a0 n gs ∧ IntIn w1 b m zs ∧ ErrAt 0 w1 ∧ HandleE w1 := fun w1 q => ⟨HG.out.below q, HI.out.below q, HE.out.below q, HH.out.below q⟩
  have HIN : Hid (∀ w1, Below w.heap.size w w1 → LkIn w1 a0 n gs ∧ IntIn w1 b m zs ∧ ErrAt 0 w1 ∧ HandleE w1) := inBelow
  have HLF : Hid (Calls Tryd.prog 12 #[.slice a0 n cap] W fun e w' => e = .returned (.int .i64 0) ∧ Below W.heap.size W w') := (implLocksFault_c _ n cap gs W (inBelow W T0.out.bel).1).mono fun e w' hh => ⟨by rw [hh.1, hc], hh.2⟩
  clear h hy hW hE hH inBelow HG HI HE HH
  by_cases hd : needCode zs e f s = 0
  · rw [hCT, hLT, if_pos hd, if_pos hd]
    obtain ⟨u1, u2⟩ := need_okL hd
    have HN : Hid (∀ w2 : World, IntIn w2 b m zs → GivesK 9 b m cap2 e f s 0 (needTo zs e f s m) w2) := fun w2 q => implNeeds_ok b m cap2 zs e f s w2 q hd
    have hm4 : m ≤ 4 := by rw [← hzm]; exact (cl_ok (need_ok hd).1).1
    rw [hzm] at u1 u2 ⊢
    have hlen : (needTo zs e f s m).length ≤ 100 := by have := needTo_len zs e f s m; omega
    generalize needTo zs e f s m = ys at HN u1 u2 hlen ⊢
    have HT : Hid (∀ (a1 : Option Addr) (cc : Nat) (w2 : World), LkIn w2 a0 n gs → LkIn w2 a1 ys.length ys → ErrAt 0 w2 → Calls Tryd.prog 22 #[.slice a0 n cap, .slice a1 ys.length cc] w2 (WithR gs ys w2)) := fun a1 cc w2 q1 q2 q3 => withNeeds_c a0 n cap a1 ys.length cc gs ys w2 hn hlen q1 q2 hok.2.1 hok.2.2 u1 u2 q3
    obtain ⟨cT, hcT⟩ : ∃ c, tkCode gs ys = c := ⟨_, rfl⟩
    obtain ⟨L, hL⟩ : ∃ L, tkL gs ys = L := ⟨_, rfl⟩
    rw [hcT, hL]
    have HCT : Hid (tkCode gs ys = cT) := hcT
    have HLT : Hid (tkL gs ys = L) := hL
    clear hCT hLT hd hzm u1 u2 hok hc hcT hL
    unfold GivesL
    go_enter Tryd.func7, Tryd.ntmps7
    go_upto_region 1 with fail
    rw [← HW.out]
    go_wp2_with fail
    refine HLF.out.mono ?_
    rintro r w1 ⟨rfl, hb1⟩
    have T1 : Hid (TB0 w w1) := T0.out.below hb1
    clear hb1
    go_wp2_with fail
    refine (HN.out _ (HIN.out _ T1.out.bel).2.1).mono ?_
    rintro r w2 ⟨a1, cap1, rfl, hown2, hb2⟩
    have A3 : Below w2.heap.size w2 (w2.alloc (.cells #[.int .i64 0, .slice a1 ys.length cap1] 29)) := (Below.refl _ _).alloc (Nat.le_refl _) _
    have T3 : Hid (TB0 w (w2.alloc (.cells #[.int .i64 0, .slice a1 ys.length cap1] 29))) := (T1.out.below hb2).below A3
    have V3 : Hid (LkIn (w2.alloc (.cells #[.int .i64 0, .slice a1 ys.length cap1] 29)) a1 ys.length ys) := (hown2.view.below A3).isIn rfl
    have X3 : Hid (Box2 (w2.alloc (.cells #[.int .i64 0, .slice a1 ys.length cap1] 29)) w2.heap.size (.int .i64 0) (.slice a1 ys.length cap1)) := Box2.new _ _ _ _
    clear hown2 hb2 A3 T1
    go_upto_region 5 with fail
    generalize w2.alloc (.cells #[.int .i64 0, .slice a1 ys.length cap1] 29) = w3 at T3 V3 X3 ⊢
    obtain ⟨x0, x1⟩ := X3.out
    go_wp2_with fail
    obtain ⟨i1, i2, i3, i4⟩ := HIN.out _ T3.out.bel
    refine (HT.out a1 cap1 _ i1 V3.out i3).mono ?_
    rintro r w4 ⟨hb4, hr⟩
    have T4 : Hid (TB0 w w4) := T3.out.below hb4
    have hsz : Hid (w.heap.size < w3.heap.size) := T3.out.lt
    clear hb4 x0 x1 X3 V3 T3 i1 i2 i3 i4
    rcases hr with ⟨y, x, rfl, hc6, hL6⟩ | ⟨q, rfl, hc6, hL6⟩ | ⟨a', cap', rfl, hc6, hown⟩
    · have HN2 : Hid (cT = 6 ∧ L = []) := ⟨HCT.out.symm.trans hc6, HLT.out.symm.trans hL6⟩
      clear hc6 hL6
      unfold needV
      go_wp2_with fail
      refine (taking_need y x _ (HIN.out _ T4.out.bel).2.2.2).mono ?_
      rintro r w5 ⟨rfl, hb5⟩
      obtain ⟨d0, d1, g0, g1, B5, _⟩ := T4.out.below hb5
      clear hb5
      go_wp2_with fail
      obtain ⟨hc6, hL6⟩ := HN2.out
      rw [hc6, hL6]
      refine bodyPost_ret (v := .agg #[.int .i64 6, .slice none 0 0]) (by simp [results, Tryd.results7, go_sem, d0, d1]) rfl ⟨none, 0, rfl, World.ownsRow_nil _ _ _ _, ?_⟩
      exact (B5.setCell (Nat.le_refl _) _).setCell (Nat.le_refl _) _
    · have HN2 : Hid (cT = 2 ∧ L = []) := ⟨HCT.out.symm.trans hc6, HLT.out.symm.trans hL6⟩
      clear hc6 hL6
      go_wp2_with fail
      refine (taking_many q _ (HIN.out _ T4.out.bel).2.2.2).mono ?_
      rintro r w5 ⟨rfl, hb5⟩
      obtain ⟨d0, d1, g0, g1, B5, _⟩ := T4.out.below hb5
      clear hb5
      go_wp2_with fail
      obtain ⟨hc6, hL6⟩ := HN2.out
      rw [hc6, hL6]
      refine bodyPost_ret (v := .agg #[.int .i64 2, .slice none 0 0]) (by simp [results, Tryd.results7, go_sem, d0, d1]) rfl ⟨none, 0, rfl, World.ownsRow_nil _ _ _ _, ?_⟩
      exact (B5.setCell (Nat.le_refl _) _).setCell (Nat.le_refl _) _
    · have HN2 : Hid (cT = 0) := HCT.out.symm.trans hc6
      rw [HLT.out] at hown ⊢
      have HO : Hid (OwnLk w4 w3.heap.size (.slice a' L.length cap') L) := hown
      clear hc6 hown HT
      go_wp2_with fail
      refine (taking_nil _).mono ?_
      rintro r w5 ⟨rfl, hb5⟩
      have HO5 : Hid (OwnLk w5 w3.heap.size (.slice a' L.length cap') L) := HO.out.below hb5
      obtain ⟨d0, d1, g0, g1, B5, _⟩ := T4.out.below hb5
      clear hb5
      go_wp2_with fail
      rw [HN2.out]
      refine bodyPost_ret (v := .agg #[.int .i64 0, .slice a' L.length cap']) (by simp [results, Tryd.results7, go_sem, d0, d1]) rfl ⟨a', cap', rfl, ?_, ?_⟩
      · exact ownLk_lower (ownLk_kept HO5.out (grown_box2L _ _ _ _) hsz.out) (Nat.le_of_lt hsz.out)
      · exact (B5.setCell (Nat.le_refl _) _).setCell (Nat.le_refl _) _
  · rw [hCT, hLT, if_neg hd, if_neg hd]
    obtain ⟨c, hc'⟩ : ∃ c, needCode zs e f s = c := ⟨_, rfl⟩
    rw [hc'] at hd ⊢
    have HN : Hid (∀ w2 : World, IntIn w2 b m zs → GivesK 9 b m cap2 e f s c [] w2) := fun w2 q => implNeeds_bad b m cap2 zs e f s c w2 q hc' hd
    have hcb : (c != 0) = true := by simpa using hd
    clear hCT hLT hd hzm hok hc hc'
    unfold GivesL
    go_enter Tryd.func7, Tryd.ntmps7
    go_upto_region 1 with fail
    rw [← HW.out]
    go_wp2_with fail
    refine HLF.out.mono ?_
    rintro r w1 ⟨rfl, hb1⟩
    have T1 : Hid (TB0 w w1) := T0.out.below hb1
    clear hb1
    go_wp2_with fail
    refine (HN.out _ (HIN.out _ T1.out.bel).2.1).mono ?_
    rintro r w2 ⟨a1, cap1, rfl, hown2, hb2⟩
    have A3 : Below w2.heap.size w2 (w2.alloc (.cells #[.int .i64 c, .slice a1 0 cap1] 29)) := (Below.refl _ _).alloc (Nat.le_refl _) _
    have T3 : Hid (TB0 w (w2.alloc (.cells #[.int .i64 c, .slice a1 0 cap1] 29))) := (T1.out.below hb2).below A3
    have O3 : Hid (OwnLk (w2.alloc (.cells #[.int .i64 c, .slice a1 0 cap1] 29)) w1.heap.size (.slice a1 0 cap1) []) := OwnLk.below hown2 A3
    have hsz : Hid (w.heap.size < w1.heap.size) := T1.out.lt
    have X3 : Hid (Box2 (w2.alloc (.cells #[.int .i64 c, .slice a1 0 cap1] 29)) w2.heap.size (.int .i64 c) (.slice a1 0 cap1)) := Box2.new _ _ _ _
    clear hown2 hb2 A3 T1
    go_upto_region 5 with fail
    generalize w2.alloc (.cells #[.int .i64 c, .slice a1 0 cap1] 29) = w3 at T3 O3 X3 ⊢
    obtain ⟨x0, x1⟩ := X3.out
    obtain ⟨d0, d1, g0, g1, B5, _⟩ := T3.out
    go_wp2_with fail
    refine bodyPost_ret (v := .agg #[.int .i64 c, .slice a1 0 cap1]) (by simp [results, Tryd.results7, go_sem, d0, d1]) rfl ⟨a1, cap1, rfl, ?_, ?_⟩
    · exact ownLk_lower (ownLk_kept O3.out (grown_box2L _ _ _ _) hsz.out) (Nat.le_of_lt hsz.out)
    · exact (B5.setCell (Nat.le_refl _) _).setCell (Nat.le_refl _) _

end Go.Proofs.YtabbjcngilocnaaDoor
