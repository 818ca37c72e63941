/-
  CONTRACTS: ClashStatements of both programs, at all arguments.
  Conditions: each contract bears its own.
-/
import Derived.Test.YtpeddanicenohaaSt5
namespace Go.Proofs.Ytpeddanicenohaa
open Go.RowKit
set_option linter.unusedVariables false
set_option linter.unusedSimpArgs false

def GivesC (f : Nat) (aa : Option Addr) (n cap : Nat) (a b : StI) (t : Bool) (w : World) : Prop := Calls Try.prog f #[.slice aa n cap, .agg #[.int .i64 a.k, .int .i64 a.e, .int .i64 a.f, .int .i64 a.s, .int .i64 a.n], .agg #[.int .i64 b.k, .int .i64 b.e, .int .i64 b.f, .int .i64 b.s, .int .i64 b.n]] w fun e w' => e = .returned (.bool t) ∧ Below w.heap.size w w'

/-- Two statements in boxes of their own. -/
structure TwoS (w W : World) (a b : StI) : Prop where
  bel : Below w.heap.size w W
  sz : w.heap.size + 1 < W.heap.size
  pa : StAt W w.heap.size 0 a
  pb : StAt W (w.heap.size + 1) 0 b

theorem TwoS.new (w : World) (a b : StI) (t : TypeId) : TwoS w ((w.alloc (.cells #[.int .i64 a.k, .int .i64 a.e, .int .i64 a.f, .int .i64 a.s, .int .i64 a.n] t)).alloc (.cells #[.int .i64 b.k, .int .i64 b.e, .int .i64 b.f, .int .i64 b.s, .int .i64 b.n] t)) a b :=
  ⟨((Below.refl _ _).alloc (Nat.le_refl _) _).alloc (by simp) _, by simp, (StAt.new w a t).below ((Below.refl _ _).alloc (Nat.le_refl _) _) (by simp), by have := StAt.new (w.alloc (.cells #[.int .i64 a.k, .int .i64 a.e, .int .i64 a.f, .int .i64 a.s, .int .i64 a.n] t)) b t; simpa using this⟩

theorem TwoS.below {w W W' : World} {a b : StI} (h : TwoS w W a b) (hb : Below W.heap.size W W') : TwoS w W' a b :=
  ⟨h.bel.trans (hb.mono h.bel.size), by have := h.sz; have := hb.size; omega, h.pa.below hb (by have := h.sz; omega), h.pb.below hb h.sz⟩

set_option maxRecDepth 20000 in
set_option maxHeartbeats 4000000 in
theorem specClashS_c (aa : Option Addr) (n cap : Nat) (zs : List Int) (a b : StI) (w : World) (h : IntIn w aa n zs) : GivesC 14 aa n cap a b (csV zs a b) w := by
  obtain ⟨W, hW⟩ : ∃ W, W = ((w.alloc (.cells #[.int .i64 a.k, .int .i64 a.e, .int .i64 a.f, .int .i64 a.s, .int .i64 a.n] 25)).alloc (.cells #[.int .i64 b.k, .int .i64 b.e, .int .i64 b.f, .int .i64 b.s, .int .i64 b.n] 25)) := ⟨_, rfl⟩
  have HW : Hid (W = ((w.alloc (.cells #[.int .i64 a.k, .int .i64 a.e, .int .i64 a.f, .int .i64 a.s, .int .i64 a.n] 25)).alloc (.cells #[.int .i64 b.k, .int .i64 b.e, .int .i64 b.f, .int .i64 b.s, .int .i64 b.n] 25))) := hW
  have T0 : Hid (TwoS w W a b) := by rw [hW]; exact TwoS.new w a b _
  have HI : Hid (IntIn W aa n zs) := h.below T0.out.bel
  obtain ⟨c, hc⟩ : ∃ c, clCode zs = c := ⟨_, rfl⟩
  obtain ⟨ca, hca⟩ : ∃ c, stCode a = c := ⟨_, rfl⟩
  obtain ⟨cb, hcb⟩ : ∃ c, stCode b = c := ⟨_, rfl⟩
  have HC : Hid (clCode zs = c) := hc
  have HA : Hid (stCode a = ca) := hca
  have HB : Hid (stCode b = cb) := hcb
  clear h hW
  unfold GivesC csV
  by_cases c0 : c = 0
  · by_cases a0 : ca = 0
    · by_cases b0 : cb = 0
      · subst c0 a0 b0
        rw [if_pos ⟨hc, hca, hcb⟩]
        have HK : Hid (Calls Try.prog 26 #[.slice aa n cap, .pointer (some ⟨w.heap.size, 0, none⟩), .pointer (some ⟨w.heap.size + 1, 0, none⟩)] W fun e w' => e = .returned (.bool (csB zs a b)) ∧ Below W.heap.size W w') := l7Clash_c aa n cap zs a b _ _ W HI.out T0.out.pa T0.out.pb hc hca hcb
        clear hc hca hcb
        go_enter Try.func14, Try.ntmps14
        go_wp2_with fail
        rw [← HW.out]
        refine (l5Classes_c aa n cap zs _ HI.out).mono ?_
        rintro e w' ⟨rfl, rfl⟩
        rw [HC.out]
        go_wp2_with fail
        refine (l7Fault_c _ _ a _ T0.out.pa).mono ?_
        rintro e w' ⟨rfl, rfl⟩
        rw [HA.out]
        go_wp2_with fail
        refine (l7Fault_c _ _ b _ T0.out.pb).mono ?_
        rintro e w' ⟨rfl, rfl⟩
        rw [HB.out]
        go_wp2_with fail
        refine HK.out.mono ?_
        rintro e w' ⟨rfl, hb⟩
        go_wp2_with fail
        go_ret
        exact ⟨rfl, T0.out.bel.trans (hb.mono T0.out.bel.size)⟩
      · subst c0 a0
        have bb : (cb == 0) = false := by simpa using b0
        rw [if_neg (fun q => b0 (hcb ▸ q.2.2))]
        clear hc hca hcb b0
        go_enter Try.func14, Try.ntmps14
        go_wp2_with fail
        rw [← HW.out]
        refine (l5Classes_c aa n cap zs _ HI.out).mono ?_
        rintro e w' ⟨rfl, rfl⟩
        rw [HC.out]
        go_wp2_with fail
        refine (l7Fault_c _ _ a _ T0.out.pa).mono ?_
        rintro e w' ⟨rfl, rfl⟩
        rw [HA.out]
        go_wp2_with fail
        refine (l7Fault_c _ _ b _ T0.out.pb).mono ?_
        rintro e w' ⟨rfl, rfl⟩
        rw [HB.out]
        go_wp2_with fail
        go_ret
        exact ⟨rfl, T0.out.bel⟩
    · subst c0
      have ab : (ca == 0) = false := by simpa using a0
      rw [if_neg (fun q => a0 (hca ▸ q.2.1))]
      clear hc hca hcb a0
      go_enter Try.func14, Try.ntmps14
      go_wp2_with fail
      rw [← HW.out]
      refine (l5Classes_c aa n cap zs _ HI.out).mono ?_
      rintro e w' ⟨rfl, rfl⟩
      rw [HC.out]
      go_wp2_with fail
      refine (l7Fault_c _ _ a _ T0.out.pa).mono ?_
      rintro e w' ⟨rfl, rfl⟩
      rw [HA.out]
      go_wp2_with fail
      go_ret
      exact ⟨rfl, T0.out.bel⟩
  · have cbb : (c == 0) = false := by simpa using c0
    rw [if_neg (fun q => c0 (hc ▸ q.1))]
    clear hc hca hcb c0
    go_enter Try.func14, Try.ntmps14
    go_wp2_with fail
    rw [← HW.out]
    refine (l5Classes_c aa n cap zs _ HI.out).mono ?_
    rintro e w' ⟨rfl, rfl⟩
    rw [HC.out]
    go_wp2_with fail
    go_ret
    exact ⟨rfl, T0.out.bel⟩

set_option maxRecDepth 20000 in
set_option maxHeartbeats 4000000 in
theorem implClashS_c (aa : Option Addr) (n cap : Nat) (zs : List Int) (a b : StI) (w : World) (h : IntIn w aa n zs) : GivesC 16 aa n cap a b (csV zs a b) w := by
  obtain ⟨W, hW⟩ : ∃ W, W = ((w.alloc (.cells #[.int .i64 a.k, .int .i64 a.e, .int .i64 a.f, .int .i64 a.s, .int .i64 a.n] 25)).alloc (.cells #[.int .i64 b.k, .int .i64 b.e, .int .i64 b.f, .int .i64 b.s, .int .i64 b.n] 25)) := ⟨_, rfl⟩
  have HW : Hid (W = ((w.alloc (.cells #[.int .i64 a.k, .int .i64 a.e, .int .i64 a.f, .int .i64 a.s, .int .i64 a.n] 25)).alloc (.cells #[.int .i64 b.k, .int .i64 b.e, .int .i64 b.f, .int .i64 b.s, .int .i64 b.n] 25))) := hW
  have T0 : Hid (TwoS w W a b) := by rw [hW]; exact TwoS.new w a b _
  have HI : Hid (IntIn W aa n zs) := h.below T0.out.bel
  obtain ⟨c, hc⟩ : ∃ c, clCode zs = c := ⟨_, rfl⟩
  obtain ⟨ca, hca⟩ : ∃ c, stCode a = c := ⟨_, rfl⟩
  obtain ⟨cb, hcb⟩ : ∃ c, stCode b = c := ⟨_, rfl⟩
  have HC : Hid (clCode zs = c) := hc
  have HA : Hid (∀ w : World, Calls Try.prog 8 #[.agg #[.int .i64 a.k, .int .i64 a.e, .int .i64 a.f, .int .i64 a.s, .int .i64 a.n]] w fun e w' => e = .returned (.int .i64 ca) ∧ Below w.heap.size w w') := by rw [← hca]; exact implStatementFault_c a
  have HB : Hid (∀ w : World, Calls Try.prog 8 #[.agg #[.int .i64 b.k, .int .i64 b.e, .int .i64 b.f, .int .i64 b.s, .int .i64 b.n]] w fun e w' => e = .returned (.int .i64 cb) ∧ Below w.heap.size w w') := by rw [← hcb]; exact implStatementFault_c b
  clear h hW
  unfold GivesC csV
  by_cases c0 : c = 0
  · subst c0
    by_cases a0 : ca = 0
    · subst a0
      by_cases b0 : cb = 0
      · subst b0
        rw [if_pos ⟨hc, hca, hcb⟩]
        have HV : Hid (∀ w2, IntIn w2 aa n zs → Calls Try.prog 28 #[.slice aa n cap, .int .i64 a.f, .int .i64 b.f] w2 fun e w' => e = .returned (.bool (clashV zs a.f b.f)) ∧ w2 = w') := fun w2 hi => implClash_c aa n cap zs a.f b.f w2 hi
        obtain ⟨v, hv⟩ : ∃ v, clashV zs a.f b.f = v := ⟨_, rfl⟩
        have ka := st_bounds hca
        rw [hv] at HV
        have hE : ∀ w : World, _ := fun w => st_neq a b w
        unfold csB
        rw [hv]
        clear hc hca hcb hv
        obtain ⟨s, hs⟩ : ∃ s, sameSt a b = s := ⟨_, rfl⟩
        rw [hs] at hE ⊢
        clear hs
        obtain ⟨r, hr⟩ : ∃ r, r = (if a.k = b.k ∧ a.e = b.e then (if a.k = 1 then (v && interB a.s b.s) else if 3 ≤ a.k then !s else false) else false) := ⟨_, rfl⟩
        rw [← hr]
        have HR : Hid (r = (if a.k = b.k ∧ a.e = b.e then (if a.k = 1 then (v && interB a.s b.s) else if 3 ≤ a.k then !s else false) else false)) := hr
        clear hr
        have K1 : a.k = 1 ∨ a.k = 2 ∨ a.k = 3 ∨ a.k = 4 := by omega
        clear ka
        go_enter Try.func16, Try.ntmps16
        go_wp2_with fail
        rw [← HW.out]
        refine (implClassesFault_c aa n cap zs _ HI.out).mono ?_
        rintro e w' ⟨rfl, rfl⟩
        rw [HC.out]
        obtain ⟨x0, x1, x2, x3, x4⟩ := T0.out.pa
        simp only [Nat.zero_add] at x0 x1 x2 x3 x4
        go_wp2_with fail
        refine (HA.out _).mono ?_
        rintro e w1 ⟨rfl, hb1⟩
        have T1 : Hid (TwoS w w1 a b) := T0.out.below hb1
        have HI1 : Hid (IntIn w1 aa n zs) := HI.out.below hb1
        clear x0 x1 x2 x3 x4 hb1
        obtain ⟨y0, y1, y2, y3, y4⟩ := T1.out.pb
        simp only [Nat.zero_add] at y0 y1 y2 y3 y4
        go_wp2_with fail
        refine (HB.out _).mono ?_
        rintro e w2 ⟨rfl, hb2⟩
        have T2 : Hid (TwoS w w2 a b) := T1.out.below hb2
        have HI2 : Hid (IntIn w2 aa n zs) := HI1.out.below hb2
        clear y0 y1 y2 y3 y4 hb2
        obtain ⟨x0, x1, x2, x3, x4⟩ := T2.out.pa
        obtain ⟨y0, y1, y2, y3, y4⟩ := T2.out.pb
        simp only [Nat.zero_add] at x0 x1 x2 x3 x4 y0 y1 y2 y3 y4
        by_cases hk : a.k = b.k
        · have hkb : (a.k != b.k) = false := by simp [hk]
          by_cases he : a.e = b.e
          · have heb : (a.e != b.e) = false := by simp [he]
            have HR1 : Hid (r = (if a.k = 1 then (v && interB a.s b.s) else if 3 ≤ a.k then !s else false)) := by show r = _; rw [HR.out, if_pos ⟨hk, he⟩]
            clear hk he HR
            rcases K1 with k1 | k1 | k1 | k1
            · have HR2 : Hid (r = (v && interB a.s b.s)) := by show r = _; rw [HR1.out, if_pos k1]
              have k3 : (a.k == 1) = true := by simp [k1]
              clear k1 HR1
              go_wp2_with fail
              refine (HV.out _ HI2.out).mono ?_
              rintro e w' ⟨rfl, rfl⟩
              cases v
              · go_wp2_with fail
                go_ret
                exact ⟨by rw [HR2.out]; rfl, T2.out.bel⟩
              · go_wp2_with fail
                go_ret
                exact ⟨by rw [HR2.out]; rfl, T2.out.bel⟩
            · have HR2 : Hid (r = false) := by show r = _; rw [HR1.out, if_neg (by omega), if_neg (by omega)]
              have k3 : (a.k == 3) = false := by simp [k1]
              have k4 : (a.k == 1) = false := by simp [k1]
              have k5 : (a.k == 4) = false := by simp [k1]
              clear k1 HR1
              go_wp2_with fail
              go_ret
              exact ⟨by rw [HR2.out]; rfl, T2.out.bel⟩
            · have HR2 : Hid (r = !s) := by show r = _; rw [HR1.out, if_neg (by omega), if_pos (by omega)]
              have k3 : (a.k == 3) = true := by simp [k1]
              have k4 : (a.k == 1) = false := by simp [k1]
              clear k1 HR1
              go_wp2_with fail
              go_ret
              exact ⟨by rw [HR2.out]; rfl, T2.out.bel⟩
            · have HR2 : Hid (r = !s) := by show r = _; rw [HR1.out, if_neg (by omega), if_pos (by omega)]
              have k3 : (a.k == 3) = false := by simp [k1]
              have k4 : (a.k == 1) = false := by simp [k1]
              have k5 : (a.k == 4) = true := by simp [k1]
              clear k1 HR1
              go_wp2_with fail
              go_ret
              exact ⟨by rw [HR2.out]; rfl, T2.out.bel⟩
          · have heb : (a.e != b.e) = true := by simp [he]
            have HR1 : Hid (r = false) := by show r = _; rw [HR.out, if_neg (fun q => he q.2)]
            clear hk he HR
            go_wp2_with fail
            go_ret
            exact ⟨by rw [HR1.out]; rfl, T2.out.bel⟩
        · have hkb : (a.k != b.k) = true := by simp [hk]
          have HR1 : Hid (r = false) := by show r = _; rw [HR.out, if_neg (fun q => hk q.1)]
          clear hk HR
          go_wp2_with fail
          go_ret
          exact ⟨by rw [HR1.out]; rfl, T2.out.bel⟩
      · have bb : (cb != 0) = true := by simpa using b0
        rw [if_neg (fun q => b0 (hcb ▸ q.2.2))]
        clear hc hca hcb b0
        go_enter Try.func16, Try.ntmps16
        go_wp2_with fail
        rw [← HW.out]
        refine (implClassesFault_c aa n cap zs _ HI.out).mono ?_
        rintro e w' ⟨rfl, rfl⟩
        rw [HC.out]
        obtain ⟨x0, x1, x2, x3, x4⟩ := T0.out.pa
        simp only [Nat.zero_add] at x0 x1 x2 x3 x4
        go_wp2_with fail
        refine (HA.out _).mono ?_
        rintro e w1 ⟨rfl, hb1⟩
        have T1 : Hid (TwoS w w1 a b) := T0.out.below hb1
        clear x0 x1 x2 x3 x4 hb1
        obtain ⟨y0, y1, y2, y3, y4⟩ := T1.out.pb
        simp only [Nat.zero_add] at y0 y1 y2 y3 y4
        go_wp2_with fail
        refine (HB.out _).mono ?_
        rintro e w2 ⟨rfl, hb2⟩
        have T2 : Hid (TwoS w w2 a b) := T1.out.below hb2
        clear y0 y1 y2 y3 y4 hb2
        go_wp2_with fail
        go_ret
        exact ⟨rfl, T2.out.bel⟩
    · have ab : (ca != 0) = true := by simpa using a0
      rw [if_neg (fun q => a0 (hca ▸ q.2.1))]
      clear hc hca hcb a0
      go_enter Try.func16, Try.ntmps16
      go_wp2_with fail
      rw [← HW.out]
      refine (implClassesFault_c aa n cap zs _ HI.out).mono ?_
      rintro e w' ⟨rfl, rfl⟩
      rw [HC.out]
      obtain ⟨x0, x1, x2, x3, x4⟩ := T0.out.pa
      simp only [Nat.zero_add] at x0 x1 x2 x3 x4
      go_wp2_with fail
      refine (HA.out _).mono ?_
      rintro e w1 ⟨rfl, hb1⟩
      have T1 : Hid (TwoS w w1 a b) := T0.out.below hb1
      clear x0 x1 x2 x3 x4 hb1
      go_wp2_with fail
      go_ret
      exact ⟨rfl, T1.out.bel⟩
  · have cbb : (c != 0) = true := by simpa using c0
    rw [if_neg (fun q => c0 (hc ▸ q.1))]
    clear hc hca hcb c0
    go_enter Try.func16, Try.ntmps16
    go_wp2_with fail
    rw [← HW.out]
    refine (implClassesFault_c aa n cap zs _ HI.out).mono ?_
    rintro e w' ⟨rfl, rfl⟩
    rw [HC.out]
    go_wp2_with fail
    go_ret
    exact ⟨rfl, T0.out.bel⟩

end Go.Proofs.Ytpeddanicenohaa
