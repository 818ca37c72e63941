/-
  PROVED: for every slice of shares, every int64 and every Statement the law laws.FnExactCombine returns true, that is impl.Combine answers as spec.Combine there (up to 1<<20 shares, as the law itself says), writes nothing into its arguments, and its signers are memory of their own, behind another call too; the arguments read as they did.
  Conditions: none beside those that the given row itself bears. The frame is the shell written by program, turned for structs and slices of structs; the walk is ours.
-/
import Derived.Test.YtdfhebmecbcegaaRows
import Derived.WalkKit
import Derived.ProofKit
import Derived.OpenShut
import Derived.ShutString
import Derived.ChangeOld
import Derived.Below
import Derived.Test.YtdfhebmecbcegaaCea
import Derived.Test.YtdfhebmecbcegaaCr1
import Derived.Test.YtdfhebmecbcegaaCr0
import Derived.Test.YtdfhebmecbcegaaShM
import Derived.Test.YtdfhebmecbcegaaShA
import Derived.Test.YtdfhebmecbcegaaStA
import Derived.Test.YtdfhebmecbcegaaList2
import Derived.Deep.CutBlock
import Derived.Deep.RegionHeld3
namespace Go.Proofs.Ytdfhebmecbcegaa.fnExactCombine
open Go.ChangeShapes Go.WideShapes Go.ChangeAt Go.RowKit
open Go.ChangeMaps (open_string shut_string)
set_option linter.unusedVariables false

theorem own : ownKnob Try.prog.godebug = none := by kernel_rfl
theorem laidOut : laidOutB Try.prog = true := by kernel_rfl

set_option linter.unusedSimpArgs false

abbrev KR0 (W W' : World) : Prop := (∀ b o, b < W.heap.size → W'.cell? ⟨b, o, none⟩ = W.cell? ⟨b, o, none⟩) ∧ Below W.heap.size W W'

set_option maxRecDepth 100000 in
set_option maxHeartbeats 8000000 in
theorem inner (a0 : Option Addr) (len0 cap0 : Nat) (z0 : List ShI) (a1 : Int) (x2 : StI) (c : Int) (cx : StI) (ys : List Int) (w : World) (hm0 : len0 ≤ maxLen) (h0 : ShIn w a0 len0 z0) (hy : ys.length ≤ 1000)
    (HS : Hid (len0 ≤ 1048576 → ∀ (g0 : Nat) (W : World), ShCp g0 len0 z0 W → Calls Try.prog 15 #[.slice (some ⟨g0, 0, none⟩) len0 len0, .int .i64 a1, .agg #[.int .i64 x2.k, .int .i64 x2.e, .int .i64 x2.f, .int .i64 x2.s, .int .i64 x2.n]] W fun e W' => ∃ a cap, e = .returned (.agg #[.int .i64 c, .int .i64 cx.k, .int .i64 cx.e, .int .i64 cx.f, .int .i64 cx.s, .int .i64 cx.n, .slice a ys.length cap]) ∧ W'.ownsRow W.heap.size 2 1 (.slice a ys.length cap) ys.length (ys.map (Value.int .i64)) ∧ Below W.heap.size W W'))
    (HI : Hid (len0 ≤ 1048576 → ∀ (g0 : Nat) (W : World), ShCp g0 len0 z0 W → Calls Try.prog 14 #[.slice (some ⟨g0, 0, none⟩) len0 len0, .int .i64 a1, .agg #[.int .i64 x2.k, .int .i64 x2.e, .int .i64 x2.f, .int .i64 x2.s, .int .i64 x2.n]] W fun e W' => ∃ a cap, e = .returned (.agg #[.int .i64 c, .int .i64 cx.k, .int .i64 cx.e, .int .i64 cx.f, .int .i64 cx.s, .int .i64 cx.n, .slice a ys.length cap]) ∧ W'.ownsRow W.heap.size 2 1 (.slice a ys.length cap) ys.length (ys.map (Value.int .i64)) ∧ Below W.heap.size W W')) :
    Calls Try.prog 8 #[.slice a0 len0 cap0, .int .i64 a1, .agg #[.int .i64 x2.k, .int .i64 x2.e, .int .i64 x2.f, .int .i64 x2.s, .int .i64 x2.n]] w fun e w' => e = .returned (.bool true) ∧ Below w.heap.size w w' := by
  have H0 : Hid (ShIn w a0 len0 z0) := h0
  have HZ0 : Hid (z0.length = len0) := h0.1
  clear h0
  have hyl : ys.length ≤ 1048576 := by omega
  have hyi : (ys.length : Int) ≤ 1000 := by omega
  obtain ⟨V, hV⟩ : ∃ V, V = (w.alloc (.cells #[.int .i64 x2.k, .int .i64 x2.e, .int .i64 x2.f, .int .i64 x2.s, .int .i64 x2.n] 52)) := ⟨_, rfl⟩
  have B0 : Hid (Below w.heap.size w V) := by rw [hV]; exact (Below.refl _ _).alloc (Nat.le_refl _) _
  have F1 : Hid (Hold (w.heap.size) (w.heap.size + 1) (BoxV (w.heap.size) [.int .i64 x2.k, .int .i64 x2.e, .int .i64 x2.f, .int .i64 x2.s, .int .i64 x2.n]) V) := by rw [hV]; have q := boxV_new w #[.int .i64 x2.k, .int .i64 x2.e, .int .i64 x2.f, .int .i64 x2.s, .int .i64 x2.n] 52; exact q
  have hl2 := F1.out.le
  have hz0 := B0.out.size
  go_enter Try.func8, Try.ntmps8
  go_wp2_with fail
  rw [← hV]
  clear hV
  refine (szShares_c a0 len0 cap0 1048576 _ hm0 (by omega) (by omega)).mono ?_
  rintro e w4 ⟨⟨v3, rfl, hv, hv2⟩, hb⟩
  have B5 : Hid (Below w.heap.size w w4) := B0.out.trans (hb.mono B0.out.size)
  have hz6 := hb.size
  have F7 : Hid (Hold (w.heap.size) (w.heap.size + 1) (BoxV (w.heap.size) [.int .i64 x2.k, .int .i64 x2.e, .int .i64 x2.f, .int .i64 x2.s, .int .i64 x2.n]) w4) := F1.out.below hb
  clear B0 F1
  clear hb
  by_cases hneg : v3 < 0
  · go_wp2
    go_ret
    exact ⟨rfl, B5.out⟩
  have hs0 : len0 ≤ 1048576 := hv2 (by omega)
  have hiv3 : 0 ≤ v3 ∧ v3 ≤ 1048576 := ⟨by omega, by omega⟩
  clear hv2 hneg
  have HS' := HS.out hs0
  have HI' := HI.out hs0
  have HSP : Hid _ := HS'
  have HIM : Hid _ := HI'
  clear HS' HI' HS HI
  have b20 := F7.out.out 0 _ rfl
  have b21 := F7.out.out 1 _ rfl
  have b22 := F7.out.out 2 _ rfl
  have b23 := F7.out.out 3 _ rfl
  have b24 := F7.out.out 4 _ rfl
  have hbl2 : w.heap.size < w4.heap.size := by omega
  go_upto_region 5 with fail
  have HTO0 : Hid (∀ w2, KR0 w4 w2 → Below w.heap.size w w2) := fun w2 q => B5.out.trans (q.2.mono B5.out.size)
  go_cut [8] from 20 to 25 (fun s wx => ResB 2 1 ys.length (ys.map (Value.int .i64)) (fun z => [.int .i64 c, .int .i64 cx.k, .int .i64 cx.e, .int .i64 cx.f, .int .i64 cx.s, .int .i64 cx.n, z]) w4 s wx)
  case first =>
    refine wp_region_held_drew (S := fun w' => KR0 w4 w') (by kernel_rfl) (kp_drew _) (fun hHeld => ?_)
    refine wpAnyH_take (i := 0) (v := ?_) rfl (by kernel_rfl) (by kernel_rfl) (by kernel_rfl) (fun _ _ _ h => h) (Or.inl ⟨by kernel_rfl, ?_⟩) (by assumption) ?_
    rotate_left 1
    · intro w hSw; (try dsimp only at hSw); go_simp; try (with_reducible rfl)
    try simp only [Act.put, List.getElem_toArray, List.getElem_cons_succ, List.getElem_cons_zero, List.setIfInBounds_toArray, List.set_cons_zero, List.set_cons_succ]
    refine wpAnyH_take (i := 2) (v := ?_) rfl (by kernel_rfl) (by kernel_rfl) (by kernel_rfl) (fun _ _ _ h => h) (Or.inl ⟨by kernel_rfl, ?_⟩) (by assumption) ?_
    rotate_left 1
    · intro w hSw; (try dsimp only at hSw); go_simp; try (with_reducible rfl)
    try simp only [Act.put, List.getElem_toArray, List.getElem_cons_succ, List.getElem_cons_zero, List.setIfInBounds_toArray, List.set_cons_zero, List.set_cons_succ]
    refine wpAnyH_take (i := 3) (v := ?_) rfl (by kernel_rfl) (by kernel_rfl) (by kernel_rfl) (fun _ _ _ h => h) (Or.inl ⟨by kernel_rfl, ?_⟩) (by assumption) ?_
    rotate_left 1
    · intro w hSw; (try dsimp only at hSw); go_simp; try (with_reducible rfl)
    try simp only [Act.put, List.getElem_toArray, List.getElem_cons_succ, List.getElem_cons_zero, List.setIfInBounds_toArray, List.set_cons_zero, List.set_cons_succ]
    refine wpAnyH_ready (rs := [1, 6]) (by kernel_rfl) (by simp) ?_
    refine AllReadyH.cons rfl (fun K hK => ?_) (AllReadyH.cons rfl (fun K hK => ?_) AllReadyH.nil)
    · go_simp
      refine (toShares_room a0 len0 cap0 z0 _ hs0 (H0.out.below (HTO0.out _ (by assumption)))).mono ?_
      rintro d y00 ⟨rfl, hat, hlt, hby00, hroom⟩
      have hS := kp_step (by assumption) hby00
      have hzy00 := hby00.size
      have E00 := ShCp.cast (g' := w4.heap.size) (ShCp.hold ⟨hat, hroom⟩ hlt) (by first | rfl | simp [go_sem] | (simp [go_sem]; done))
      have hSy00 := hS
      refine hK.out _ _ hS (fun hHeld => ?_)
      clear hK K
      try simp only [Act.put, List.getElem_toArray, List.getElem_cons_succ, List.getElem_cons_zero, List.setIfInBounds_toArray, List.set_cons_zero, List.set_cons_succ]
      refine wpAnyH_ready (rs := [4, 6]) (by kernel_rfl) (by simp) ?_
      refine AllReadyH.cons rfl (fun K hK => ?_) (AllReadyH.cons rfl (fun K hK => ?_) AllReadyH.nil)
      · go_simp
        refine (toStatement_c x2 _).mono ?_
        rintro d y01 ⟨rfl, hby01⟩
        have hS := kp_step (by assumption) hby01
        have hzy01 := hby01.size
        replace E00 := (by first | exact E00 | exact E00.alloc _ : Hold _ _ _ _).below hby01
        have hSy01 := hS
        refine hK.out _ _ hS (fun hHeld => ?_)
        clear hK K
        try simp only [Act.put, List.getElem_toArray, List.getElem_cons_succ, List.getElem_cons_zero, List.setIfInBounds_toArray, List.set_cons_zero, List.set_cons_succ]
        refine wpAnyH_ready (rs := [5, 6]) (by kernel_rfl) (by simp) ?_
        refine AllReadyH.cons rfl (fun K hK => ?_) (AllReadyH.cons rfl (fun K hK => ?_) AllReadyH.nil)
        · go_simp
          refine (HSP.out _ _ (by first | exact E00.out | exact (E00.alloc _).out)).mono ?_
          rintro d y02 ⟨ra0, rc0, rfl, how, hby02⟩
          have hS := kp_step (by assumption) hby02
          have hzy02 := hby02.size
          replace E00 := (by first | exact E00 | exact E00.alloc _ : Hold _ _ _ _).below hby02
          have hbase := hzy02
          have hSy02 := hS
          refine hK.out _ _ hS (fun hHeld => ?_)
          clear hK K
          try simp only [Act.put, List.getElem_toArray, List.getElem_cons_succ, List.getElem_cons_zero, List.setIfInBounds_toArray, List.set_cons_zero, List.set_cons_succ]
          refine wpAnyH_ready (rs := [6]) (by kernel_rfl) (by simp) ?_
          refine AllReadyH.cons rfl (fun K hK => ?_) AllReadyH.nil
          go_simp
          have hS := kpE_new (by assumption) (.cells #[.int .i64 0, .int .i64 0, .int .i64 0, .int .i64 0, .int .i64 0, .int .i64 0, .slice none 0 0] 33)
          refine hK.out _ _ hS (fun hHeld => ?_)
          clear hK K
          try simp only [Act.put, List.getElem_toArray, List.getElem_cons_succ, List.getElem_cons_zero, List.setIfInBounds_toArray, List.set_cons_zero, List.set_cons_succ]
          refine wpAnyH_ready (rs := [7]) (by kernel_rfl) (by simp) ?_
          refine AllReadyH.cons rfl (fun K hK => ?_) AllReadyH.nil
          go_simp
          have hS := kpE_new hSy02 (.cells #[.int .i64 c, .int .i64 cx.k, .int .i64 cx.e, .int .i64 cx.f, .int .i64 cx.s, .int .i64 cx.n, .slice ra0 ys.length rc0] 33)
          refine hK.out _ _ hS (fun hHeld => ?_)
          clear hK K
          try simp only [Act.put, List.getElem_toArray, List.getElem_cons_succ, List.getElem_cons_zero, List.setIfInBounds_toArray, List.set_cons_zero, List.set_cons_succ]
          refine wpAnyH_done (by kernel_rfl) ?_ _
          go_wp2_with fail
          go_meet
          refine ⟨y02.heap.size, _, _, ra0, rc0, rfl, hSy02.2.size, ?_, ?_, (owns_hold0 how).alloc _, hSy02.2.alloc hSy02.2.size _⟩
          · first | exact Nat.le_refl _ | exact hSy01.2.size | (simp; try omega)
          · exact boxV_new y02 #[.int .i64 c, .int .i64 cx.k, .int .i64 cx.e, .int .i64 cx.f, .int .i64 cx.s, .int .i64 cx.n, .slice ra0 ys.length rc0] 33
        · go_simp
          have hS := kpE_new (by assumption) (.cells #[.int .i64 0, .int .i64 0, .int .i64 0, .int .i64 0, .int .i64 0, .int .i64 0, .slice none 0 0] 33)
          refine hK.out _ _ hS (fun hHeld => ?_)
          clear hK K
          try simp only [Act.put, List.getElem_toArray, List.getElem_cons_succ, List.getElem_cons_zero, List.setIfInBounds_toArray, List.set_cons_zero, List.set_cons_succ]
          refine wpAnyH_ready (rs := [5]) (by kernel_rfl) (by simp) ?_
          refine AllReadyH.cons rfl (fun K hK => ?_) AllReadyH.nil
          go_simp
          refine (HSP.out _ _ (by first | exact E00.out | exact (E00.alloc _).out)).mono ?_
          rintro d y02 ⟨ra0, rc0, rfl, how, hby02⟩
          have hS := kp_step (by assumption) hby02
          have hzy02 := hby02.size
          replace E00 := (by first | exact E00 | exact E00.alloc _ : Hold _ _ _ _).below hby02
          have n0 : y02.cell? ⟨y01.heap.size, 0, none⟩ = some (.int .i64 0) := (hby02.cell (p := ⟨y01.heap.size, 0, none⟩) (by simp)).trans (by simp)
          have f0 : y02.frozen? ⟨y01.heap.size, 0, none⟩ = false := (hby02.frozen (p := ⟨y01.heap.size, 0, none⟩) (by simp)).trans (by simp [go_sem])
          have n1 : y02.cell? ⟨y01.heap.size, 1, none⟩ = some (.int .i64 0) := (hby02.cell (p := ⟨y01.heap.size, 1, none⟩) (by simp)).trans (by simp)
          have f1 : y02.frozen? ⟨y01.heap.size, 1, none⟩ = false := (hby02.frozen (p := ⟨y01.heap.size, 1, none⟩) (by simp)).trans (by simp [go_sem])
          have n2 : y02.cell? ⟨y01.heap.size, 2, none⟩ = some (.int .i64 0) := (hby02.cell (p := ⟨y01.heap.size, 2, none⟩) (by simp)).trans (by simp)
          have f2 : y02.frozen? ⟨y01.heap.size, 2, none⟩ = false := (hby02.frozen (p := ⟨y01.heap.size, 2, none⟩) (by simp)).trans (by simp [go_sem])
          have n3 : y02.cell? ⟨y01.heap.size, 3, none⟩ = some (.int .i64 0) := (hby02.cell (p := ⟨y01.heap.size, 3, none⟩) (by simp)).trans (by simp)
          have f3 : y02.frozen? ⟨y01.heap.size, 3, none⟩ = false := (hby02.frozen (p := ⟨y01.heap.size, 3, none⟩) (by simp)).trans (by simp [go_sem])
          have n4 : y02.cell? ⟨y01.heap.size, 4, none⟩ = some (.int .i64 0) := (hby02.cell (p := ⟨y01.heap.size, 4, none⟩) (by simp)).trans (by simp)
          have f4 : y02.frozen? ⟨y01.heap.size, 4, none⟩ = false := (hby02.frozen (p := ⟨y01.heap.size, 4, none⟩) (by simp)).trans (by simp [go_sem])
          have n5 : y02.cell? ⟨y01.heap.size, 5, none⟩ = some (.int .i64 0) := (hby02.cell (p := ⟨y01.heap.size, 5, none⟩) (by simp)).trans (by simp)
          have f5 : y02.frozen? ⟨y01.heap.size, 5, none⟩ = false := (hby02.frozen (p := ⟨y01.heap.size, 5, none⟩) (by simp)).trans (by simp [go_sem])
          have n6 : y02.cell? ⟨y01.heap.size, 6, none⟩ = some (.slice none 0 0) := (hby02.cell (p := ⟨y01.heap.size, 6, none⟩) (by simp)).trans (by simp)
          have f6 : y02.frozen? ⟨y01.heap.size, 6, none⟩ = false := (hby02.frozen (p := ⟨y01.heap.size, 6, none⟩) (by simp)).trans (by simp [go_sem])
          have hlw : y01.heap.size < y02.heap.size := by have q := hby02.size; simp at q; omega
          have hge : w4.heap.size ≤ y01.heap.size := by first | exact Nat.le_refl _ | exact hSy01.2.size
          have hbase := hzy02
          have hSy02 := hS
          refine hK.out _ _ hS (fun hHeld => ?_)
          clear hK K
          try simp only [Act.put, List.getElem_toArray, List.getElem_cons_succ, List.getElem_cons_zero, List.setIfInBounds_toArray, List.set_cons_zero, List.set_cons_succ]
          refine wpAnyH_ready (rs := [7]) (by kernel_rfl) (by simp) ?_
          refine AllReadyH.cons rfl (fun K hK => ?_) AllReadyH.nil
          go_simp
          have hS := (kpE_set (kpE_set (kpE_set (kpE_set (kpE_set (kpE_set (kpE_set hSy02 (p := ⟨y01.heap.size, 0, none⟩) hge (.int .i64 c)) (p := ⟨y01.heap.size, 1, none⟩) hge (.int .i64 cx.k)) (p := ⟨y01.heap.size, 2, none⟩) hge (.int .i64 cx.e)) (p := ⟨y01.heap.size, 3, none⟩) hge (.int .i64 cx.f)) (p := ⟨y01.heap.size, 4, none⟩) hge (.int .i64 cx.s)) (p := ⟨y01.heap.size, 5, none⟩) hge (.int .i64 cx.n)) (p := ⟨y01.heap.size, 6, none⟩) hge (.slice ra0 ys.length rc0))
          refine hK.out _ _ hS (fun hHeld => ?_)
          clear hK K
          try simp only [Act.put, List.getElem_toArray, List.getElem_cons_succ, List.getElem_cons_zero, List.setIfInBounds_toArray, List.set_cons_zero, List.set_cons_succ]
          refine wpAnyH_done (by kernel_rfl) ?_ _
          go_wp2_with fail
          go_meet
          refine ⟨y01.heap.size, _, _, ra0, rc0, rfl, hge, ?_, ?_, owns_hold0 (ownsE_set (ownsE_set (ownsE_set (ownsE_set (ownsE_set (ownsE_set (ownsE_set how (a := ⟨y01.heap.size, 0, none⟩) (by first | exact hlb | (simp; done) | (simp; omega)) _) (a := ⟨y01.heap.size, 1, none⟩) (by first | exact hlb | (simp; done) | (simp; omega)) _) (a := ⟨y01.heap.size, 2, none⟩) (by first | exact hlb | (simp; done) | (simp; omega)) _) (a := ⟨y01.heap.size, 3, none⟩) (by first | exact hlb | (simp; done) | (simp; omega)) _) (a := ⟨y01.heap.size, 4, none⟩) (by first | exact hlb | (simp; done) | (simp; omega)) _) (a := ⟨y01.heap.size, 5, none⟩) (by first | exact hlb | (simp; done) | (simp; omega)) _) (a := ⟨y01.heap.size, 6, none⟩) (by first | exact hlb | (simp; done) | (simp; omega)) _), (((((((hSy02.2.setCell hge _).setCell hge _).setCell hge _).setCell hge _).setCell hge _).setCell hge _).setCell hge _)⟩
          · first | exact Nat.le_refl _ | exact hSy01.2.size | (simp; try omega)
          · refine BoxV.hold (fun j v e => ?_) (by simp; omega)
            have hj : j < 7 := by by_cases q : j < 7; exact q; rw [List.getElem?_eq_none (by simp; omega)] at e; cases e
            have hj' : j = 0 ∨ j = 1 ∨ j = 2 ∨ j = 3 ∨ j = 4 ∨ j = 5 ∨ j = 6 := by omega
            rcases hj' with rfl | rfl | rfl | rfl | rfl | rfl | rfl
            all_goals (simp at e; subst e; simp [go_sem, n0, n1, n2, n3, n4, n5, n6])
      · go_simp
        have hS := kpE_new (by assumption) (.cells #[.int .i64 0, .int .i64 0, .int .i64 0, .int .i64 0, .int .i64 0, .int .i64 0, .slice none 0 0] 33)
        refine hK.out _ _ hS (fun hHeld => ?_)
        clear hK K
        try simp only [Act.put, List.getElem_toArray, List.getElem_cons_succ, List.getElem_cons_zero, List.setIfInBounds_toArray, List.set_cons_zero, List.set_cons_succ]
        refine wpAnyH_ready (rs := [4]) (by kernel_rfl) (by simp) ?_
        refine AllReadyH.cons rfl (fun K hK => ?_) AllReadyH.nil
        go_simp
        refine (toStatement_c x2 _).mono ?_
        rintro d y01 ⟨rfl, hby01⟩
        have hS := kp_step (by assumption) hby01
        have hzy01 := hby01.size
        replace E00 := (by first | exact E00 | exact E00.alloc _ : Hold _ _ _ _).below hby01
        have n0 : y01.cell? ⟨y00.heap.size, 0, none⟩ = some (.int .i64 0) := (hby01.cell (p := ⟨y00.heap.size, 0, none⟩) (by simp)).trans (by simp)
        have f0 : y01.frozen? ⟨y00.heap.size, 0, none⟩ = false := (hby01.frozen (p := ⟨y00.heap.size, 0, none⟩) (by simp)).trans (by simp [go_sem])
        have n1 : y01.cell? ⟨y00.heap.size, 1, none⟩ = some (.int .i64 0) := (hby01.cell (p := ⟨y00.heap.size, 1, none⟩) (by simp)).trans (by simp)
        have f1 : y01.frozen? ⟨y00.heap.size, 1, none⟩ = false := (hby01.frozen (p := ⟨y00.heap.size, 1, none⟩) (by simp)).trans (by simp [go_sem])
        have n2 : y01.cell? ⟨y00.heap.size, 2, none⟩ = some (.int .i64 0) := (hby01.cell (p := ⟨y00.heap.size, 2, none⟩) (by simp)).trans (by simp)
        have f2 : y01.frozen? ⟨y00.heap.size, 2, none⟩ = false := (hby01.frozen (p := ⟨y00.heap.size, 2, none⟩) (by simp)).trans (by simp [go_sem])
        have n3 : y01.cell? ⟨y00.heap.size, 3, none⟩ = some (.int .i64 0) := (hby01.cell (p := ⟨y00.heap.size, 3, none⟩) (by simp)).trans (by simp)
        have f3 : y01.frozen? ⟨y00.heap.size, 3, none⟩ = false := (hby01.frozen (p := ⟨y00.heap.size, 3, none⟩) (by simp)).trans (by simp [go_sem])
        have n4 : y01.cell? ⟨y00.heap.size, 4, none⟩ = some (.int .i64 0) := (hby01.cell (p := ⟨y00.heap.size, 4, none⟩) (by simp)).trans (by simp)
        have f4 : y01.frozen? ⟨y00.heap.size, 4, none⟩ = false := (hby01.frozen (p := ⟨y00.heap.size, 4, none⟩) (by simp)).trans (by simp [go_sem])
        have n5 : y01.cell? ⟨y00.heap.size, 5, none⟩ = some (.int .i64 0) := (hby01.cell (p := ⟨y00.heap.size, 5, none⟩) (by simp)).trans (by simp)
        have f5 : y01.frozen? ⟨y00.heap.size, 5, none⟩ = false := (hby01.frozen (p := ⟨y00.heap.size, 5, none⟩) (by simp)).trans (by simp [go_sem])
        have n6 : y01.cell? ⟨y00.heap.size, 6, none⟩ = some (.slice none 0 0) := (hby01.cell (p := ⟨y00.heap.size, 6, none⟩) (by simp)).trans (by simp)
        have f6 : y01.frozen? ⟨y00.heap.size, 6, none⟩ = false := (hby01.frozen (p := ⟨y00.heap.size, 6, none⟩) (by simp)).trans (by simp [go_sem])
        have hlw : y00.heap.size < y01.heap.size := by have q := hby01.size; simp at q; omega
        have hge : w4.heap.size ≤ y00.heap.size := by first | exact Nat.le_refl _ | exact hSy00.2.size
        have hSy01 := hS
        refine hK.out _ _ hS (fun hHeld => ?_)
        clear hK K
        try simp only [Act.put, List.getElem_toArray, List.getElem_cons_succ, List.getElem_cons_zero, List.setIfInBounds_toArray, List.set_cons_zero, List.set_cons_succ]
        refine wpAnyH_ready (rs := [5]) (by kernel_rfl) (by simp) ?_
        refine AllReadyH.cons rfl (fun K hK => ?_) AllReadyH.nil
        go_simp
        refine (HSP.out _ _ (by first | exact E00.out | exact (E00.alloc _).out)).mono ?_
        rintro d y02 ⟨ra0, rc0, rfl, how, hby02⟩
        have hS := kp_step (by assumption) hby02
        have hzy02 := hby02.size
        replace E00 := (by first | exact E00 | exact E00.alloc _ : Hold _ _ _ _).below hby02
        replace n0 := (hby02.cell (p := ⟨y00.heap.size, 0, none⟩) hlw).trans n0
        replace f0 := (hby02.frozen (p := ⟨y00.heap.size, 0, none⟩) hlw).trans f0
        replace n1 := (hby02.cell (p := ⟨y00.heap.size, 1, none⟩) hlw).trans n1
        replace f1 := (hby02.frozen (p := ⟨y00.heap.size, 1, none⟩) hlw).trans f1
        replace n2 := (hby02.cell (p := ⟨y00.heap.size, 2, none⟩) hlw).trans n2
        replace f2 := (hby02.frozen (p := ⟨y00.heap.size, 2, none⟩) hlw).trans f2
        replace n3 := (hby02.cell (p := ⟨y00.heap.size, 3, none⟩) hlw).trans n3
        replace f3 := (hby02.frozen (p := ⟨y00.heap.size, 3, none⟩) hlw).trans f3
        replace n4 := (hby02.cell (p := ⟨y00.heap.size, 4, none⟩) hlw).trans n4
        replace f4 := (hby02.frozen (p := ⟨y00.heap.size, 4, none⟩) hlw).trans f4
        replace n5 := (hby02.cell (p := ⟨y00.heap.size, 5, none⟩) hlw).trans n5
        replace f5 := (hby02.frozen (p := ⟨y00.heap.size, 5, none⟩) hlw).trans f5
        replace n6 := (hby02.cell (p := ⟨y00.heap.size, 6, none⟩) hlw).trans n6
        replace f6 := (hby02.frozen (p := ⟨y00.heap.size, 6, none⟩) hlw).trans f6
        have hlb := hlw
        replace hlw : y00.heap.size < y02.heap.size := by omega
        have hbase := hzy02
        have hSy02 := hS
        refine hK.out _ _ hS (fun hHeld => ?_)
        clear hK K
        try simp only [Act.put, List.getElem_toArray, List.getElem_cons_succ, List.getElem_cons_zero, List.setIfInBounds_toArray, List.set_cons_zero, List.set_cons_succ]
        refine wpAnyH_ready (rs := [7]) (by kernel_rfl) (by simp) ?_
        refine AllReadyH.cons rfl (fun K hK => ?_) AllReadyH.nil
        go_simp
        have hS := (kpE_set (kpE_set (kpE_set (kpE_set (kpE_set (kpE_set (kpE_set hSy02 (p := ⟨y00.heap.size, 0, none⟩) hge (.int .i64 c)) (p := ⟨y00.heap.size, 1, none⟩) hge (.int .i64 cx.k)) (p := ⟨y00.heap.size, 2, none⟩) hge (.int .i64 cx.e)) (p := ⟨y00.heap.size, 3, none⟩) hge (.int .i64 cx.f)) (p := ⟨y00.heap.size, 4, none⟩) hge (.int .i64 cx.s)) (p := ⟨y00.heap.size, 5, none⟩) hge (.int .i64 cx.n)) (p := ⟨y00.heap.size, 6, none⟩) hge (.slice ra0 ys.length rc0))
        refine hK.out _ _ hS (fun hHeld => ?_)
        clear hK K
        try simp only [Act.put, List.getElem_toArray, List.getElem_cons_succ, List.getElem_cons_zero, List.setIfInBounds_toArray, List.set_cons_zero, List.set_cons_succ]
        refine wpAnyH_done (by kernel_rfl) ?_ _
        go_wp2_with fail
        go_meet
        refine ⟨y00.heap.size, _, _, ra0, rc0, rfl, hge, ?_, ?_, owns_hold0 (ownsE_set (ownsE_set (ownsE_set (ownsE_set (ownsE_set (ownsE_set (ownsE_set how (a := ⟨y00.heap.size, 0, none⟩) (by first | exact hlb | (simp; done) | (simp; omega)) _) (a := ⟨y00.heap.size, 1, none⟩) (by first | exact hlb | (simp; done) | (simp; omega)) _) (a := ⟨y00.heap.size, 2, none⟩) (by first | exact hlb | (simp; done) | (simp; omega)) _) (a := ⟨y00.heap.size, 3, none⟩) (by first | exact hlb | (simp; done) | (simp; omega)) _) (a := ⟨y00.heap.size, 4, none⟩) (by first | exact hlb | (simp; done) | (simp; omega)) _) (a := ⟨y00.heap.size, 5, none⟩) (by first | exact hlb | (simp; done) | (simp; omega)) _) (a := ⟨y00.heap.size, 6, none⟩) (by first | exact hlb | (simp; done) | (simp; omega)) _), (((((((hSy02.2.setCell hge _).setCell hge _).setCell hge _).setCell hge _).setCell hge _).setCell hge _).setCell hge _)⟩
        · first | exact Nat.le_refl _ | exact hSy01.2.size | (simp; try omega)
        · refine BoxV.hold (fun j v e => ?_) (by simp; omega)
          have hj : j < 7 := by by_cases q : j < 7; exact q; rw [List.getElem?_eq_none (by simp; omega)] at e; cases e
          have hj' : j = 0 ∨ j = 1 ∨ j = 2 ∨ j = 3 ∨ j = 4 ∨ j = 5 ∨ j = 6 := by omega
          rcases hj' with rfl | rfl | rfl | rfl | rfl | rfl | rfl
          all_goals (simp at e; subst e; simp [go_sem, n0, n1, n2, n3, n4, n5, n6])
    · go_simp
      have hS := kpE_new (by assumption) (.cells #[.int .i64 0, .int .i64 0, .int .i64 0, .int .i64 0, .int .i64 0, .int .i64 0, .slice none 0 0] 33)
      refine hK.out _ _ hS (fun hHeld => ?_)
      clear hK K
      try simp only [Act.put, List.getElem_toArray, List.getElem_cons_succ, List.getElem_cons_zero, List.setIfInBounds_toArray, List.set_cons_zero, List.set_cons_succ]
      refine wpAnyH_ready (rs := [1]) (by kernel_rfl) (by simp) ?_
      refine AllReadyH.cons rfl (fun K hK => ?_) AllReadyH.nil
      go_simp
      refine (toShares_room a0 len0 cap0 z0 _ hs0 (H0.out.below (HTO0.out _ (by assumption)))).mono ?_
      rintro d y00 ⟨rfl, hat, hlt, hby00, hroom⟩
      have hS := kp_step (by assumption) hby00
      have hzy00 := hby00.size
      have E00 := ShCp.cast (g' := w4.heap.size + 1) (ShCp.hold ⟨hat, hroom⟩ hlt) (by first | rfl | simp [go_sem] | (simp [go_sem]; done))
      have n0 : y00.cell? ⟨w4.heap.size, 0, none⟩ = some (.int .i64 0) := (hby00.cell (p := ⟨w4.heap.size, 0, none⟩) (by simp)).trans (by simp)
      have f0 : y00.frozen? ⟨w4.heap.size, 0, none⟩ = false := (hby00.frozen (p := ⟨w4.heap.size, 0, none⟩) (by simp)).trans (by simp [go_sem])
      have n1 : y00.cell? ⟨w4.heap.size, 1, none⟩ = some (.int .i64 0) := (hby00.cell (p := ⟨w4.heap.size, 1, none⟩) (by simp)).trans (by simp)
      have f1 : y00.frozen? ⟨w4.heap.size, 1, none⟩ = false := (hby00.frozen (p := ⟨w4.heap.size, 1, none⟩) (by simp)).trans (by simp [go_sem])
      have n2 : y00.cell? ⟨w4.heap.size, 2, none⟩ = some (.int .i64 0) := (hby00.cell (p := ⟨w4.heap.size, 2, none⟩) (by simp)).trans (by simp)
      have f2 : y00.frozen? ⟨w4.heap.size, 2, none⟩ = false := (hby00.frozen (p := ⟨w4.heap.size, 2, none⟩) (by simp)).trans (by simp [go_sem])
      have n3 : y00.cell? ⟨w4.heap.size, 3, none⟩ = some (.int .i64 0) := (hby00.cell (p := ⟨w4.heap.size, 3, none⟩) (by simp)).trans (by simp)
      have f3 : y00.frozen? ⟨w4.heap.size, 3, none⟩ = false := (hby00.frozen (p := ⟨w4.heap.size, 3, none⟩) (by simp)).trans (by simp [go_sem])
      have n4 : y00.cell? ⟨w4.heap.size, 4, none⟩ = some (.int .i64 0) := (hby00.cell (p := ⟨w4.heap.size, 4, none⟩) (by simp)).trans (by simp)
      have f4 : y00.frozen? ⟨w4.heap.size, 4, none⟩ = false := (hby00.frozen (p := ⟨w4.heap.size, 4, none⟩) (by simp)).trans (by simp [go_sem])
      have n5 : y00.cell? ⟨w4.heap.size, 5, none⟩ = some (.int .i64 0) := (hby00.cell (p := ⟨w4.heap.size, 5, none⟩) (by simp)).trans (by simp)
      have f5 : y00.frozen? ⟨w4.heap.size, 5, none⟩ = false := (hby00.frozen (p := ⟨w4.heap.size, 5, none⟩) (by simp)).trans (by simp [go_sem])
      have n6 : y00.cell? ⟨w4.heap.size, 6, none⟩ = some (.slice none 0 0) := (hby00.cell (p := ⟨w4.heap.size, 6, none⟩) (by simp)).trans (by simp)
      have f6 : y00.frozen? ⟨w4.heap.size, 6, none⟩ = false := (hby00.frozen (p := ⟨w4.heap.size, 6, none⟩) (by simp)).trans (by simp [go_sem])
      have hlw : w4.heap.size < y00.heap.size := by have q := hby00.size; simp at q; omega
      have hge : w4.heap.size ≤ w4.heap.size := Nat.le_refl _
      have hSy00 := hS
      refine hK.out _ _ hS (fun hHeld => ?_)
      clear hK K
      try simp only [Act.put, List.getElem_toArray, List.getElem_cons_succ, List.getElem_cons_zero, List.setIfInBounds_toArray, List.set_cons_zero, List.set_cons_succ]
      refine wpAnyH_ready (rs := [4]) (by kernel_rfl) (by simp) ?_
      refine AllReadyH.cons rfl (fun K hK => ?_) AllReadyH.nil
      go_simp
      refine (toStatement_c x2 _).mono ?_
      rintro d y01 ⟨rfl, hby01⟩
      have hS := kp_step (by assumption) hby01
      have hzy01 := hby01.size
      replace E00 := (by first | exact E00 | exact E00.alloc _ : Hold _ _ _ _).below hby01
      replace n0 := (hby01.cell (p := ⟨w4.heap.size, 0, none⟩) hlw).trans n0
      replace f0 := (hby01.frozen (p := ⟨w4.heap.size, 0, none⟩) hlw).trans f0
      replace n1 := (hby01.cell (p := ⟨w4.heap.size, 1, none⟩) hlw).trans n1
      replace f1 := (hby01.frozen (p := ⟨w4.heap.size, 1, none⟩) hlw).trans f1
      replace n2 := (hby01.cell (p := ⟨w4.heap.size, 2, none⟩) hlw).trans n2
      replace f2 := (hby01.frozen (p := ⟨w4.heap.size, 2, none⟩) hlw).trans f2
      replace n3 := (hby01.cell (p := ⟨w4.heap.size, 3, none⟩) hlw).trans n3
      replace f3 := (hby01.frozen (p := ⟨w4.heap.size, 3, none⟩) hlw).trans f3
      replace n4 := (hby01.cell (p := ⟨w4.heap.size, 4, none⟩) hlw).trans n4
      replace f4 := (hby01.frozen (p := ⟨w4.heap.size, 4, none⟩) hlw).trans f4
      replace n5 := (hby01.cell (p := ⟨w4.heap.size, 5, none⟩) hlw).trans n5
      replace f5 := (hby01.frozen (p := ⟨w4.heap.size, 5, none⟩) hlw).trans f5
      replace n6 := (hby01.cell (p := ⟨w4.heap.size, 6, none⟩) hlw).trans n6
      replace f6 := (hby01.frozen (p := ⟨w4.heap.size, 6, none⟩) hlw).trans f6
      have hlb := hlw
      replace hlw : w4.heap.size < y01.heap.size := by omega
      have hSy01 := hS
      refine hK.out _ _ hS (fun hHeld => ?_)
      clear hK K
      try simp only [Act.put, List.getElem_toArray, List.getElem_cons_succ, List.getElem_cons_zero, List.setIfInBounds_toArray, List.set_cons_zero, List.set_cons_succ]
      refine wpAnyH_ready (rs := [5]) (by kernel_rfl) (by simp) ?_
      refine AllReadyH.cons rfl (fun K hK => ?_) AllReadyH.nil
      go_simp
      refine (HSP.out _ _ (by first | exact E00.out | exact (E00.alloc _).out)).mono ?_
      rintro d y02 ⟨ra0, rc0, rfl, how, hby02⟩
      have hS := kp_step (by assumption) hby02
      have hzy02 := hby02.size
      replace E00 := (by first | exact E00 | exact E00.alloc _ : Hold _ _ _ _).below hby02
      replace n0 := (hby02.cell (p := ⟨w4.heap.size, 0, none⟩) hlw).trans n0
      replace f0 := (hby02.frozen (p := ⟨w4.heap.size, 0, none⟩) hlw).trans f0
      replace n1 := (hby02.cell (p := ⟨w4.heap.size, 1, none⟩) hlw).trans n1
      replace f1 := (hby02.frozen (p := ⟨w4.heap.size, 1, none⟩) hlw).trans f1
      replace n2 := (hby02.cell (p := ⟨w4.heap.size, 2, none⟩) hlw).trans n2
      replace f2 := (hby02.frozen (p := ⟨w4.heap.size, 2, none⟩) hlw).trans f2
      replace n3 := (hby02.cell (p := ⟨w4.heap.size, 3, none⟩) hlw).trans n3
      replace f3 := (hby02.frozen (p := ⟨w4.heap.size, 3, none⟩) hlw).trans f3
      replace n4 := (hby02.cell (p := ⟨w4.heap.size, 4, none⟩) hlw).trans n4
      replace f4 := (hby02.frozen (p := ⟨w4.heap.size, 4, none⟩) hlw).trans f4
      replace n5 := (hby02.cell (p := ⟨w4.heap.size, 5, none⟩) hlw).trans n5
      replace f5 := (hby02.frozen (p := ⟨w4.heap.size, 5, none⟩) hlw).trans f5
      replace n6 := (hby02.cell (p := ⟨w4.heap.size, 6, none⟩) hlw).trans n6
      replace f6 := (hby02.frozen (p := ⟨w4.heap.size, 6, none⟩) hlw).trans f6
      have hlb := hlw
      replace hlw : w4.heap.size < y02.heap.size := by omega
      have hbase := hzy02
      have hSy02 := hS
      refine hK.out _ _ hS (fun hHeld => ?_)
      clear hK K
      try simp only [Act.put, List.getElem_toArray, List.getElem_cons_succ, List.getElem_cons_zero, List.setIfInBounds_toArray, List.set_cons_zero, List.set_cons_succ]
      refine wpAnyH_ready (rs := [7]) (by kernel_rfl) (by simp) ?_
      refine AllReadyH.cons rfl (fun K hK => ?_) AllReadyH.nil
      go_simp
      have hS := (kpE_set (kpE_set (kpE_set (kpE_set (kpE_set (kpE_set (kpE_set hSy02 (p := ⟨w4.heap.size, 0, none⟩) hge (.int .i64 c)) (p := ⟨w4.heap.size, 1, none⟩) hge (.int .i64 cx.k)) (p := ⟨w4.heap.size, 2, none⟩) hge (.int .i64 cx.e)) (p := ⟨w4.heap.size, 3, none⟩) hge (.int .i64 cx.f)) (p := ⟨w4.heap.size, 4, none⟩) hge (.int .i64 cx.s)) (p := ⟨w4.heap.size, 5, none⟩) hge (.int .i64 cx.n)) (p := ⟨w4.heap.size, 6, none⟩) hge (.slice ra0 ys.length rc0))
      refine hK.out _ _ hS (fun hHeld => ?_)
      clear hK K
      try simp only [Act.put, List.getElem_toArray, List.getElem_cons_succ, List.getElem_cons_zero, List.setIfInBounds_toArray, List.set_cons_zero, List.set_cons_succ]
      refine wpAnyH_done (by kernel_rfl) ?_ _
      go_wp2_with fail
      go_meet
      refine ⟨w4.heap.size, _, _, ra0, rc0, rfl, hge, ?_, ?_, owns_hold0 (ownsE_set (ownsE_set (ownsE_set (ownsE_set (ownsE_set (ownsE_set (ownsE_set how (a := ⟨w4.heap.size, 0, none⟩) (by first | exact hlb | (simp; done) | (simp; omega)) _) (a := ⟨w4.heap.size, 1, none⟩) (by first | exact hlb | (simp; done) | (simp; omega)) _) (a := ⟨w4.heap.size, 2, none⟩) (by first | exact hlb | (simp; done) | (simp; omega)) _) (a := ⟨w4.heap.size, 3, none⟩) (by first | exact hlb | (simp; done) | (simp; omega)) _) (a := ⟨w4.heap.size, 4, none⟩) (by first | exact hlb | (simp; done) | (simp; omega)) _) (a := ⟨w4.heap.size, 5, none⟩) (by first | exact hlb | (simp; done) | (simp; omega)) _) (a := ⟨w4.heap.size, 6, none⟩) (by first | exact hlb | (simp; done) | (simp; omega)) _), (((((((hSy02.2.setCell hge _).setCell hge _).setCell hge _).setCell hge _).setCell hge _).setCell hge _).setCell hge _)⟩
      · first | exact Nat.le_refl _ | exact hSy01.2.size | (simp; try omega)
      · refine BoxV.hold (fun j v e => ?_) (by simp; omega)
        have hj : j < 7 := by by_cases q : j < 7; exact q; rw [List.getElem?_eq_none (by simp; omega)] at e; cases e
        have hj' : j = 0 ∨ j = 1 ∨ j = 2 ∨ j = 3 ∨ j = 4 ∨ j = 5 ∨ j = 6 := by omega
        rcases hj' with rfl | rfl | rfl | rfl | rfl | rfl | rfl
        all_goals (simp at e; subst e; simp [go_sem, n0, n1, n2, n3, n4, n5, n6])
  case rest =>
    obtain ⟨U8, rfl⟩ : ∃ U, U = wc := ⟨_, rfl⟩
    obtain ⟨rBS, rloS, rhiS, raS, rcS, rfl, hge, hglo, hbx, hrow, hb⟩ := hcut
    have B9 : Hid (Below w.heap.size w U8) := B5.out.trans (hb.mono B5.out.size)
    have hz10 := hb.size
    have F11 : Hid (Hold (w.heap.size) (w.heap.size + 1) (BoxV (w.heap.size) [.int .i64 x2.k, .int .i64 x2.e, .int .i64 x2.f, .int .i64 x2.s, .int .i64 x2.n]) U8) := F7.out.below hb
    clear B5 F7
    have F12 : Hid (Hold (rBS) (rBS + 1) (BoxV rBS [.int .i64 c, .int .i64 cx.k, .int .i64 cx.e, .int .i64 cx.f, .int .i64 cx.s, .int .i64 cx.n, .slice raS ys.length rcS]) U8) := hbx
    have hl13 := F12.out.le
    have F14 : Hid (Hold (rloS) (rhiS) (fun X => X.ownsRow rloS 2 1 (.slice raS ys.length rcS) ys.length (ys.map (Value.int .i64))) U8) := hrow
    have hl15 := F14.out.le
    clear hbx hrow hb
    clear b20 b21 b22 b23 b24
    clear hbl2
    clear HTO0
    have hNB : w.heap.size ≤ U8.heap.size := B9.out.size
    go_wp2_with fail
    refine (toShares_room a0 len0 cap0 z0 _ hs0 (H0.out.below B9.out)).mono ?_
    rintro e w16 ⟨rfl, hat, hlt, hb, hroom⟩
    have B17 : Hid (Below w.heap.size w w16) := B9.out.trans (hb.mono B9.out.size)
    have hz18 := hb.size
    have F19 : Hid (Hold (w.heap.size) (w.heap.size + 1) (BoxV (w.heap.size) [.int .i64 x2.k, .int .i64 x2.e, .int .i64 x2.f, .int .i64 x2.s, .int .i64 x2.n]) w16) := F11.out.below hb
    have F20 : Hid (Hold (rBS) (rBS + 1) (BoxV rBS [.int .i64 c, .int .i64 cx.k, .int .i64 cx.e, .int .i64 cx.f, .int .i64 cx.s, .int .i64 cx.n, .slice raS ys.length rcS]) w16) := F12.out.below hb
    have F21 : Hid (Hold (rloS) (rhiS) (fun X => X.ownsRow rloS 2 1 (.slice raS ys.length rcS) ys.length (ys.map (Value.int .i64))) w16) := F14.out.below hb
    clear B9 F11 F12 F14
    obtain ⟨xg0, hxg0⟩ : ∃ g, g = U8.heap.size := ⟨_, rfl⟩
    have hgexg0 : U8.heap.size ≤ xg0 := by omega
    rw [← hxg0] at hat hroom hlt ⊢
    have F22 : Hid (Hold (xg0) (xg0 + 1) (ShCp xg0 len0 z0) w16) := ShCp.hold ⟨hat, hroom⟩ hlt
    have hl23 := F22.out.le
    clear hxg0 hat hroom hlt hb
    have b20 := F19.out.out 0 _ rfl
    have b21 := F19.out.out 1 _ rfl
    have b22 := F19.out.out 2 _ rfl
    have b23 := F19.out.out 3 _ rfl
    have b24 := F19.out.out 4 _ rfl
    go_wp2_with fail
    refine (toStatement_c x2 _).mono ?_
    rintro e w24 ⟨rfl, hb⟩
    clear b20 b21 b22 b23 b24
    have B25 : Hid (Below w.heap.size w w24) := B17.out.trans (hb.mono B17.out.size)
    have hz26 := hb.size
    have F27 : Hid (Hold (w.heap.size) (w.heap.size + 1) (BoxV (w.heap.size) [.int .i64 x2.k, .int .i64 x2.e, .int .i64 x2.f, .int .i64 x2.s, .int .i64 x2.n]) w24) := F19.out.below hb
    have F28 : Hid (Hold (rBS) (rBS + 1) (BoxV rBS [.int .i64 c, .int .i64 cx.k, .int .i64 cx.e, .int .i64 cx.f, .int .i64 cx.s, .int .i64 cx.n, .slice raS ys.length rcS]) w24) := F20.out.below hb
    have F29 : Hid (Hold (rloS) (rhiS) (fun X => X.ownsRow rloS 2 1 (.slice raS ys.length rcS) ys.length (ys.map (Value.int .i64))) w24) := F21.out.below hb
    have F30 : Hid (Hold (xg0) (xg0 + 1) (ShCp xg0 len0 z0) w24) := F22.out.below hb
    clear B17 F19 F20 F21 F22
    clear hb
    go_wp2_with fail
    refine (HIM.out _ _ F30.out.out).mono ?_
    rintro e w31 ⟨raI, rcI, rfl, how, hb⟩
    have B32 : Hid (Below w.heap.size w w31) := B25.out.trans (hb.mono B25.out.size)
    have hz33 := hb.size
    have F34 : Hid (Hold (w.heap.size) (w.heap.size + 1) (BoxV (w.heap.size) [.int .i64 x2.k, .int .i64 x2.e, .int .i64 x2.f, .int .i64 x2.s, .int .i64 x2.n]) w31) := F27.out.below hb
    have F35 : Hid (Hold (rBS) (rBS + 1) (BoxV rBS [.int .i64 c, .int .i64 cx.k, .int .i64 cx.e, .int .i64 cx.f, .int .i64 cx.s, .int .i64 cx.n, .slice raS ys.length rcS]) w31) := F28.out.below hb
    have F36 : Hid (Hold (rloS) (rhiS) (fun X => X.ownsRow rloS 2 1 (.slice raS ys.length rcS) ys.length (ys.map (Value.int .i64))) w31) := F29.out.below hb
    have F37 : Hid (Hold (xg0) (xg0 + 1) (ShCp xg0 len0 z0) w31) := F30.out.below hb
    clear B25 F27 F28 F29 F30
    have F38 : Hid (Hold (w24.heap.size) (w31.heap.size) (fun X => X.ownsRow w24.heap.size 2 1 (.slice raI ys.length rcI) ys.length (ys.map (Value.int .i64))) w31) := owns_hold0 how
    have hl39 := F38.out.le
    clear how hb
    have HRW : Hid (∀ q, (Value.slice raI ys.length rcI).ownBlock = some q → w24.heap.size ≤ q ∧ q < w31.heap.size) := fun q e => (F38.out.out.lt q e)
    go_upto_region 8 with fail
    obtain ⟨w40, hX⟩ : ∃ X, X = w31.alloc (.cells #[.int .i64 c, .int .i64 cx.k, .int .i64 cx.e, .int .i64 cx.f, .int .i64 cx.s, .int .i64 cx.n, .slice raI ys.length rcI] 33) := ⟨_, rfl⟩
    rw [← hX]
    have hb : Below w31.heap.size w31 w40 := by rw [hX]; exact (Below.refl _ _).alloc (Nat.le_refl _) _
    have hbx : Hold w31.heap.size (w31.heap.size + 1) (BoxV w31.heap.size [.int .i64 c, .int .i64 cx.k, .int .i64 cx.e, .int .i64 cx.f, .int .i64 cx.s, .int .i64 cx.n, .slice raI ys.length rcI]) w40 := by rw [hX]; exact boxV_new w31 #[.int .i64 c, .int .i64 cx.k, .int .i64 cx.e, .int .i64 cx.f, .int .i64 cx.s, .int .i64 cx.n, .slice raI ys.length rcI] 33
    clear hX
    have B41 : Hid (Below w.heap.size w w40) := B32.out.trans (hb.mono B32.out.size)
    have hz42 := hb.size
    have F43 : Hid (Hold (w.heap.size) (w.heap.size + 1) (BoxV (w.heap.size) [.int .i64 x2.k, .int .i64 x2.e, .int .i64 x2.f, .int .i64 x2.s, .int .i64 x2.n]) w40) := F34.out.below hb
    have F44 : Hid (Hold (rBS) (rBS + 1) (BoxV rBS [.int .i64 c, .int .i64 cx.k, .int .i64 cx.e, .int .i64 cx.f, .int .i64 cx.s, .int .i64 cx.n, .slice raS ys.length rcS]) w40) := F35.out.below hb
    have F45 : Hid (Hold (rloS) (rhiS) (fun X => X.ownsRow rloS 2 1 (.slice raS ys.length rcS) ys.length (ys.map (Value.int .i64))) w40) := F36.out.below hb
    have F46 : Hid (Hold (xg0) (xg0 + 1) (ShCp xg0 len0 z0) w40) := F37.out.below hb
    have F47 : Hid (Hold (w24.heap.size) (w31.heap.size) (fun X => X.ownsRow w24.heap.size 2 1 (.slice raI ys.length rcI) ys.length (ys.map (Value.int .i64))) w40) := F38.out.below hb
    clear B32 F34 F35 F36 F37 F38
    have F48 : Hid (Hold (w31.heap.size) (w31.heap.size + 1) (BoxV w31.heap.size [.int .i64 c, .int .i64 cx.k, .int .i64 cx.e, .int .i64 cx.f, .int .i64 cx.s, .int .i64 cx.n, .slice raI ys.length rcI]) w40) := hbx
    have hl49 := F48.out.le
    clear hbx hb
    have p0 := F48.out.out 0 _ rfl
    have p1 := F48.out.out 1 _ rfl
    have p2 := F48.out.out 2 _ rfl
    have p3 := F48.out.out 3 _ rfl
    have p4 := F48.out.out 4 _ rfl
    have p5 := F48.out.out 5 _ rfl
    have p6 := F48.out.out 6 _ rfl
    have q0 := F44.out.out 0 _ rfl
    have q1 := F44.out.out 1 _ rfl
    have q2 := F44.out.out 2 _ rfl
    have q3 := F44.out.out 3 _ rfl
    have q4 := F44.out.out 4 _ rfl
    have q5 := F44.out.out 5 _ rfl
    have q6 := F44.out.out 6 _ rfl
    go_wp2_with fail
    refine (eqCertR_same c cx raI raS ys.length rcI rcS ys _ hyl (row_of_owns F47.out.out) (row_of_owns F45.out.out)).mono ?_
    rintro e w50 ⟨rfl, hb⟩
    clear p0 p1 p2 p3 p4 p5 p6 q0 q1 q2 q3 q4 q5 q6
    have B51 : Hid (Below w.heap.size w w50) := B41.out.trans (hb.mono B41.out.size)
    have hz52 := hb.size
    have F53 : Hid (Hold (w.heap.size) (w.heap.size + 1) (BoxV (w.heap.size) [.int .i64 x2.k, .int .i64 x2.e, .int .i64 x2.f, .int .i64 x2.s, .int .i64 x2.n]) w50) := F43.out.below hb
    have F54 : Hid (Hold (rBS) (rBS + 1) (BoxV rBS [.int .i64 c, .int .i64 cx.k, .int .i64 cx.e, .int .i64 cx.f, .int .i64 cx.s, .int .i64 cx.n, .slice raS ys.length rcS]) w50) := F44.out.below hb
    have F55 : Hid (Hold (rloS) (rhiS) (fun X => X.ownsRow rloS 2 1 (.slice raS ys.length rcS) ys.length (ys.map (Value.int .i64))) w50) := F45.out.below hb
    have F56 : Hid (Hold (xg0) (xg0 + 1) (ShCp xg0 len0 z0) w50) := F46.out.below hb
    have F57 : Hid (Hold (w24.heap.size) (w31.heap.size) (fun X => X.ownsRow w24.heap.size 2 1 (.slice raI ys.length rcI) ys.length (ys.map (Value.int .i64))) w50) := F47.out.below hb
    have F58 : Hid (Hold (w31.heap.size) (w31.heap.size + 1) (BoxV w31.heap.size [.int .i64 c, .int .i64 cx.k, .int .i64 cx.e, .int .i64 cx.f, .int .i64 cx.s, .int .i64 cx.n, .slice raI ys.length rcI]) w50) := F48.out.below hb
    clear B41 F43 F44 F45 F46 F47 F48
    clear hb
    go_wp2_with fail
    refine (toShares_room a0 len0 cap0 z0 _ hs0 (H0.out.below B51.out)).mono ?_
    rintro e w59 ⟨rfl, hat, hlt, hb, hroom⟩
    have B60 : Hid (Below w.heap.size w w59) := B51.out.trans (hb.mono B51.out.size)
    have hz61 := hb.size
    have F62 : Hid (Hold (w.heap.size) (w.heap.size + 1) (BoxV (w.heap.size) [.int .i64 x2.k, .int .i64 x2.e, .int .i64 x2.f, .int .i64 x2.s, .int .i64 x2.n]) w59) := F53.out.below hb
    have F63 : Hid (Hold (rBS) (rBS + 1) (BoxV rBS [.int .i64 c, .int .i64 cx.k, .int .i64 cx.e, .int .i64 cx.f, .int .i64 cx.s, .int .i64 cx.n, .slice raS ys.length rcS]) w59) := F54.out.below hb
    have F64 : Hid (Hold (rloS) (rhiS) (fun X => X.ownsRow rloS 2 1 (.slice raS ys.length rcS) ys.length (ys.map (Value.int .i64))) w59) := F55.out.below hb
    have F65 : Hid (Hold (xg0) (xg0 + 1) (ShCp xg0 len0 z0) w59) := F56.out.below hb
    have F66 : Hid (Hold (w24.heap.size) (w31.heap.size) (fun X => X.ownsRow w24.heap.size 2 1 (.slice raI ys.length rcI) ys.length (ys.map (Value.int .i64))) w59) := F57.out.below hb
    have F67 : Hid (Hold (w31.heap.size) (w31.heap.size + 1) (BoxV w31.heap.size [.int .i64 c, .int .i64 cx.k, .int .i64 cx.e, .int .i64 cx.f, .int .i64 cx.s, .int .i64 cx.n, .slice raI ys.length rcI]) w59) := F58.out.below hb
    clear B51 F53 F54 F55 F56 F57 F58
    have F68 : Hid (Hold (w50.heap.size) (w50.heap.size + 1) (ShCp w50.heap.size len0 z0) w59) := ShCp.hold ⟨hat, hroom⟩ hlt
    have hl69 := F68.out.le
    clear hat hroom hlt hb
    go_wp2_with fail
    refine (eqShares_same _ _ len0 _ _ z0 _ hs0 (ShIn.of HZ0.out F65.out.out.1) (ShIn.of HZ0.out F68.out.out.1)).mono ?_
    rintro e w70 ⟨rfl, hb⟩
    clear F68
    have B71 : Hid (Below w.heap.size w w70) := B60.out.trans (hb.mono B60.out.size)
    have hz72 := hb.size
    have F73 : Hid (Hold (w.heap.size) (w.heap.size + 1) (BoxV (w.heap.size) [.int .i64 x2.k, .int .i64 x2.e, .int .i64 x2.f, .int .i64 x2.s, .int .i64 x2.n]) w70) := F62.out.below hb
    have F74 : Hid (Hold (rBS) (rBS + 1) (BoxV rBS [.int .i64 c, .int .i64 cx.k, .int .i64 cx.e, .int .i64 cx.f, .int .i64 cx.s, .int .i64 cx.n, .slice raS ys.length rcS]) w70) := F63.out.below hb
    have F75 : Hid (Hold (rloS) (rhiS) (fun X => X.ownsRow rloS 2 1 (.slice raS ys.length rcS) ys.length (ys.map (Value.int .i64))) w70) := F64.out.below hb
    have F76 : Hid (Hold (xg0) (xg0 + 1) (ShCp xg0 len0 z0) w70) := F65.out.below hb
    have F77 : Hid (Hold (w24.heap.size) (w31.heap.size) (fun X => X.ownsRow w24.heap.size 2 1 (.slice raI ys.length rcI) ys.length (ys.map (Value.int .i64))) w70) := F66.out.below hb
    have F78 : Hid (Hold (w31.heap.size) (w31.heap.size + 1) (BoxV w31.heap.size [.int .i64 c, .int .i64 cx.k, .int .i64 cx.e, .int .i64 cx.f, .int .i64 cx.s, .int .i64 cx.n, .slice raI ys.length rcI]) w70) := F67.out.below hb
    clear B60 F62 F63 F64 F65 F66 F67
    clear hb
    go_wp2_with fail
    refine (markSharesRoom_c xg0 len0 len0 1 _ hs0 (by omega) (by omega) F76.out.out.2).mono ?_
    rintro e w79 ⟨rfl, hg⟩
    have hch : Chg xg0 (xg0 + 1) w70 w79 := Chg.grown hg (fun q e => by cases e; omega)
    have B80 : Hid (Below w.heap.size w w79) := below_chg B71.out hch (by have := hNB; omega) B71.out.size
    have hz81 := hch.size
    have F82 : Hid (Hold (w.heap.size) (w.heap.size + 1) (BoxV (w.heap.size) [.int .i64 x2.k, .int .i64 x2.e, .int .i64 x2.f, .int .i64 x2.s, .int .i64 x2.n]) w79) := F73.out.chg hch (by omega)
    have F83 : Hid (Hold (rBS) (rBS + 1) (BoxV rBS [.int .i64 c, .int .i64 cx.k, .int .i64 cx.e, .int .i64 cx.f, .int .i64 cx.s, .int .i64 cx.n, .slice raS ys.length rcS]) w79) := F74.out.chg hch (by omega)
    have F84 : Hid (Hold (rloS) (rhiS) (fun X => X.ownsRow rloS 2 1 (.slice raS ys.length rcS) ys.length (ys.map (Value.int .i64))) w79) := F75.out.chg hch (by omega)
    have F85 : Hid (Hold (w24.heap.size) (w31.heap.size) (fun X => X.ownsRow w24.heap.size 2 1 (.slice raI ys.length rcI) ys.length (ys.map (Value.int .i64))) w79) := F77.out.chg hch (by omega)
    have F86 : Hid (Hold (w31.heap.size) (w31.heap.size + 1) (BoxV w31.heap.size [.int .i64 c, .int .i64 cx.k, .int .i64 cx.e, .int .i64 cx.f, .int .i64 cx.s, .int .i64 cx.n, .slice raI ys.length rcI]) w79) := F78.out.chg hch (by omega)
    clear B71 F73 F74 F75 F77 F78 F76
    clear hch hg
    have hk0 : decide (((1 : Int) + 6 * (len0 : Int) : Int) < 0) = false := by simp; omega
    have p0 := F86.out.out 0 _ rfl
    have p1 := F86.out.out 1 _ rfl
    have p2 := F86.out.out 2 _ rfl
    have p3 := F86.out.out 3 _ rfl
    have p4 := F86.out.out 4 _ rfl
    have p5 := F86.out.out 5 _ rfl
    have p6 := F86.out.out 6 _ rfl
    have q0 := F83.out.out 0 _ rfl
    have q1 := F83.out.out 1 _ rfl
    have q2 := F83.out.out 2 _ rfl
    have q3 := F83.out.out 3 _ rfl
    have q4 := F83.out.out 4 _ rfl
    have q5 := F83.out.out 5 _ rfl
    have q6 := F83.out.out 6 _ rfl
    go_wp2_with fail
    refine (eqCertR_same c cx raI raS ys.length rcI rcS ys _ hyl (row_of_owns F85.out.out) (row_of_owns F84.out.out)).mono ?_
    rintro e w87 ⟨rfl, hb⟩
    clear p0 p1 p2 p3 p4 p5 p6 q0 q1 q2 q3 q4 q5 q6
    have B88 : Hid (Below w.heap.size w w87) := B80.out.trans (hb.mono B80.out.size)
    have hz89 := hb.size
    have F90 : Hid (Hold (w.heap.size) (w.heap.size + 1) (BoxV (w.heap.size) [.int .i64 x2.k, .int .i64 x2.e, .int .i64 x2.f, .int .i64 x2.s, .int .i64 x2.n]) w87) := F82.out.below hb
    have F91 : Hid (Hold (rBS) (rBS + 1) (BoxV rBS [.int .i64 c, .int .i64 cx.k, .int .i64 cx.e, .int .i64 cx.f, .int .i64 cx.s, .int .i64 cx.n, .slice raS ys.length rcS]) w87) := F83.out.below hb
    have F92 : Hid (Hold (rloS) (rhiS) (fun X => X.ownsRow rloS 2 1 (.slice raS ys.length rcS) ys.length (ys.map (Value.int .i64))) w87) := F84.out.below hb
    have F93 : Hid (Hold (w24.heap.size) (w31.heap.size) (fun X => X.ownsRow w24.heap.size 2 1 (.slice raI ys.length rcI) ys.length (ys.map (Value.int .i64))) w87) := F85.out.below hb
    have F94 : Hid (Hold (w31.heap.size) (w31.heap.size + 1) (BoxV w31.heap.size [.int .i64 c, .int .i64 cx.k, .int .i64 cx.e, .int .i64 cx.f, .int .i64 cx.s, .int .i64 cx.n, .slice raI ys.length rcI]) w87) := F86.out.below hb
    clear B80 F82 F83 F84 F85 F86
    clear hb
    have p0 := F94.out.out 0 _ rfl
    have p1 := F94.out.out 1 _ rfl
    have p2 := F94.out.out 2 _ rfl
    have p3 := F94.out.out 3 _ rfl
    have p4 := F94.out.out 4 _ rfl
    have p5 := F94.out.out 5 _ rfl
    have p6 := F94.out.out 6 _ rfl
    go_wp2_with fail
    refine (markCertR_c c cx _ raI ys.length rcI _ _ hyl F93.out.out).mono ?_
    rintro e w95 ⟨rfl, how, hg⟩
    clear p0 p1 p2 p3 p4 p5 p6
    have hch : Chg w24.heap.size w31.heap.size w87 w95 := Chg.grown hg (fun q e => HRW.out q e)
    have hzc := hch.size
    have B96 : Hid (Below w.heap.size w w95) := below_chg B88.out hch (by have := hNB; omega) B88.out.size
    have hz97 := hch.size
    have F98 : Hid (Hold (w.heap.size) (w.heap.size + 1) (BoxV (w.heap.size) [.int .i64 x2.k, .int .i64 x2.e, .int .i64 x2.f, .int .i64 x2.s, .int .i64 x2.n]) w95) := F90.out.chg hch (by omega)
    have F99 : Hid (Hold (rBS) (rBS + 1) (BoxV rBS [.int .i64 c, .int .i64 cx.k, .int .i64 cx.e, .int .i64 cx.f, .int .i64 cx.s, .int .i64 cx.n, .slice raS ys.length rcS]) w95) := F91.out.chg hch (by omega)
    have F100 : Hid (Hold (rloS) (rhiS) (fun X => X.ownsRow rloS 2 1 (.slice raS ys.length rcS) ys.length (ys.map (Value.int .i64))) w95) := F92.out.chg hch (by omega)
    have F101 : Hid (Hold (w31.heap.size) (w31.heap.size + 1) (BoxV w31.heap.size [.int .i64 c, .int .i64 cx.k, .int .i64 cx.e, .int .i64 cx.f, .int .i64 cx.s, .int .i64 cx.n, .slice raI ys.length rcI]) w95) := F94.out.chg hch (by omega)
    clear B88 F90 F91 F92 F94 F93
    have F102 : Hid (Hold (w24.heap.size) (w31.heap.size) (fun X => X.ownsRow w24.heap.size 2 1 (.slice raI ys.length rcI) ys.length ((marks 1 ys.length).map (Value.int .i64))) w95) := owns_hold how _ (fun q e => (HRW.out q e).2) (by omega)
    have hl103 := F102.out.le
    clear how hg hch hzc
    have hq0 : decide ((1 : Int) + (ys.length : Int) < 0) = false := by simp; omega
    have p0 := F101.out.out 0 _ rfl
    have p1 := F101.out.out 1 _ rfl
    have p2 := F101.out.out 2 _ rfl
    have p3 := F101.out.out 3 _ rfl
    have p4 := F101.out.out 4 _ rfl
    have p5 := F101.out.out 5 _ rfl
    have p6 := F101.out.out 6 _ rfl
    go_wp2_with fail
    refine (heldCertR_c c cx raI ys.length rcI _ hyl (row_of_owns F102.out.out)).mono ?_
    rintro e w104 ⟨rfl, hb⟩
    clear p0 p1 p2 p3 p4 p5 p6
    have B105 : Hid (Below w.heap.size w w104) := B96.out.trans (hb.mono B96.out.size)
    have hz106 := hb.size
    have F107 : Hid (Hold (w.heap.size) (w.heap.size + 1) (BoxV (w.heap.size) [.int .i64 x2.k, .int .i64 x2.e, .int .i64 x2.f, .int .i64 x2.s, .int .i64 x2.n]) w104) := F98.out.below hb
    have F108 : Hid (Hold (rBS) (rBS + 1) (BoxV rBS [.int .i64 c, .int .i64 cx.k, .int .i64 cx.e, .int .i64 cx.f, .int .i64 cx.s, .int .i64 cx.n, .slice raS ys.length rcS]) w104) := F99.out.below hb
    have F109 : Hid (Hold (rloS) (rhiS) (fun X => X.ownsRow rloS 2 1 (.slice raS ys.length rcS) ys.length (ys.map (Value.int .i64))) w104) := F100.out.below hb
    have F110 : Hid (Hold (w31.heap.size) (w31.heap.size + 1) (BoxV w31.heap.size [.int .i64 c, .int .i64 cx.k, .int .i64 cx.e, .int .i64 cx.f, .int .i64 cx.s, .int .i64 cx.n, .slice raI ys.length rcI]) w104) := F101.out.below hb
    have F111 : Hid (Hold (w24.heap.size) (w31.heap.size) (fun X => X.ownsRow w24.heap.size 2 1 (.slice raI ys.length rcI) ys.length ((marks 1 ys.length).map (Value.int .i64))) w104) := F102.out.below hb
    clear B96 F98 F99 F100 F101 F102
    clear hb
    have b20 := F107.out.out 0 _ rfl
    have b21 := F107.out.out 1 _ rfl
    have b22 := F107.out.out 2 _ rfl
    have b23 := F107.out.out 3 _ rfl
    have b24 := F107.out.out 4 _ rfl
    have hbl2 : w.heap.size < w104.heap.size := by omega
    go_upto_region 24 with fail
    have HTO0 : Hid (∀ w2, KR0 w104 w2 → Below w.heap.size w w2) := fun w2 q => B105.out.trans (q.2.mono B105.out.size)
    go_cut [14] from 64 to 69 (fun s wx => ResB 2 1 ys.length (ys.map (Value.int .i64)) (fun z => [.int .i64 c, .int .i64 cx.k, .int .i64 cx.e, .int .i64 cx.f, .int .i64 cx.s, .int .i64 cx.n, z]) w104 s wx)
    case first =>
      refine wp_region_held_drew (S := fun w' => KR0 w104 w') (by kernel_rfl) (kp_drew _) (fun hHeld => ?_)
      refine wpAnyH_take (i := 0) (v := ?_) rfl (by kernel_rfl) (by kernel_rfl) (by kernel_rfl) (fun _ _ _ h => h) (Or.inl ⟨by kernel_rfl, ?_⟩) (by assumption) ?_
      rotate_left 1
      · intro w hSw; (try dsimp only at hSw); go_simp; try (with_reducible rfl)
      try simp only [Act.put, List.getElem_toArray, List.getElem_cons_succ, List.getElem_cons_zero, List.setIfInBounds_toArray, List.set_cons_zero, List.set_cons_succ]
      refine wpAnyH_take (i := 2) (v := ?_) rfl (by kernel_rfl) (by kernel_rfl) (by kernel_rfl) (fun _ _ _ h => h) (Or.inl ⟨by kernel_rfl, ?_⟩) (by assumption) ?_
      rotate_left 1
      · intro w hSw; (try dsimp only at hSw); go_simp; try (with_reducible rfl)
      try simp only [Act.put, List.getElem_toArray, List.getElem_cons_succ, List.getElem_cons_zero, List.setIfInBounds_toArray, List.set_cons_zero, List.set_cons_succ]
      refine wpAnyH_take (i := 3) (v := ?_) rfl (by kernel_rfl) (by kernel_rfl) (by kernel_rfl) (fun _ _ _ h => h) (Or.inl ⟨by kernel_rfl, ?_⟩) (by assumption) ?_
      rotate_left 1
      · intro w hSw; (try dsimp only at hSw); go_simp; try (with_reducible rfl)
      try simp only [Act.put, List.getElem_toArray, List.getElem_cons_succ, List.getElem_cons_zero, List.setIfInBounds_toArray, List.set_cons_zero, List.set_cons_succ]
      refine wpAnyH_ready (rs := [1, 6]) (by kernel_rfl) (by simp) ?_
      refine AllReadyH.cons rfl (fun K hK => ?_) (AllReadyH.cons rfl (fun K hK => ?_) AllReadyH.nil)
      · go_simp
        refine (toShares_room a0 len0 cap0 z0 _ hs0 (H0.out.below (HTO0.out _ (by assumption)))).mono ?_
        rintro d y10 ⟨rfl, hat, hlt, hby10, hroom⟩
        have hS := kp_step (by assumption) hby10
        have hzy10 := hby10.size
        have E10 := ShCp.cast (g' := w104.heap.size) (ShCp.hold ⟨hat, hroom⟩ hlt) (by first | rfl | simp [go_sem] | (simp [go_sem]; done))
        have hSy10 := hS
        refine hK.out _ _ hS (fun hHeld => ?_)
        clear hK K
        try simp only [Act.put, List.getElem_toArray, List.getElem_cons_succ, List.getElem_cons_zero, List.setIfInBounds_toArray, List.set_cons_zero, List.set_cons_succ]
        refine wpAnyH_ready (rs := [4, 6]) (by kernel_rfl) (by simp) ?_
        refine AllReadyH.cons rfl (fun K hK => ?_) (AllReadyH.cons rfl (fun K hK => ?_) AllReadyH.nil)
        · go_simp
          refine (toStatement_c x2 _).mono ?_
          rintro d y11 ⟨rfl, hby11⟩
          have hS := kp_step (by assumption) hby11
          have hzy11 := hby11.size
          replace E10 := (by first | exact E10 | exact E10.alloc _ : Hold _ _ _ _).below hby11
          have hSy11 := hS
          refine hK.out _ _ hS (fun hHeld => ?_)
          clear hK K
          try simp only [Act.put, List.getElem_toArray, List.getElem_cons_succ, List.getElem_cons_zero, List.setIfInBounds_toArray, List.set_cons_zero, List.set_cons_succ]
          refine wpAnyH_ready (rs := [5, 6]) (by kernel_rfl) (by simp) ?_
          refine AllReadyH.cons rfl (fun K hK => ?_) (AllReadyH.cons rfl (fun K hK => ?_) AllReadyH.nil)
          · go_simp
            refine (HIM.out _ _ (by first | exact E10.out | exact (E10.alloc _).out)).mono ?_
            rintro d y12 ⟨ra1, rc1, rfl, how, hby12⟩
            have hS := kp_step (by assumption) hby12
            have hzy12 := hby12.size
            replace E10 := (by first | exact E10 | exact E10.alloc _ : Hold _ _ _ _).below hby12
            have hbase := hzy12
            have hSy12 := hS
            refine hK.out _ _ hS (fun hHeld => ?_)
            clear hK K
            try simp only [Act.put, List.getElem_toArray, List.getElem_cons_succ, List.getElem_cons_zero, List.setIfInBounds_toArray, List.set_cons_zero, List.set_cons_succ]
            refine wpAnyH_ready (rs := [6]) (by kernel_rfl) (by simp) ?_
            refine AllReadyH.cons rfl (fun K hK => ?_) AllReadyH.nil
            go_simp
            have hS := kpE_new (by assumption) (.cells #[.int .i64 0, .int .i64 0, .int .i64 0, .int .i64 0, .int .i64 0, .int .i64 0, .slice none 0 0] 33)
            refine hK.out _ _ hS (fun hHeld => ?_)
            clear hK K
            try simp only [Act.put, List.getElem_toArray, List.getElem_cons_succ, List.getElem_cons_zero, List.setIfInBounds_toArray, List.set_cons_zero, List.set_cons_succ]
            refine wpAnyH_ready (rs := [7]) (by kernel_rfl) (by simp) ?_
            refine AllReadyH.cons rfl (fun K hK => ?_) AllReadyH.nil
            go_simp
            have hS := kpE_new hSy12 (.cells #[.int .i64 c, .int .i64 cx.k, .int .i64 cx.e, .int .i64 cx.f, .int .i64 cx.s, .int .i64 cx.n, .slice ra1 ys.length rc1] 33)
            refine hK.out _ _ hS (fun hHeld => ?_)
            clear hK K
            try simp only [Act.put, List.getElem_toArray, List.getElem_cons_succ, List.getElem_cons_zero, List.setIfInBounds_toArray, List.set_cons_zero, List.set_cons_succ]
            refine wpAnyH_done (by kernel_rfl) ?_ _
            go_wp2_with fail
            go_meet
            refine ⟨y12.heap.size, _, _, ra1, rc1, rfl, hSy12.2.size, ?_, ?_, (owns_hold0 how).alloc _, hSy12.2.alloc hSy12.2.size _⟩
            · first | exact Nat.le_refl _ | exact hSy11.2.size | (simp; try omega)
            · exact boxV_new y12 #[.int .i64 c, .int .i64 cx.k, .int .i64 cx.e, .int .i64 cx.f, .int .i64 cx.s, .int .i64 cx.n, .slice ra1 ys.length rc1] 33
          · go_simp
            have hS := kpE_new (by assumption) (.cells #[.int .i64 0, .int .i64 0, .int .i64 0, .int .i64 0, .int .i64 0, .int .i64 0, .slice none 0 0] 33)
            refine hK.out _ _ hS (fun hHeld => ?_)
            clear hK K
            try simp only [Act.put, List.getElem_toArray, List.getElem_cons_succ, List.getElem_cons_zero, List.setIfInBounds_toArray, List.set_cons_zero, List.set_cons_succ]
            refine wpAnyH_ready (rs := [5]) (by kernel_rfl) (by simp) ?_
            refine AllReadyH.cons rfl (fun K hK => ?_) AllReadyH.nil
            go_simp
            refine (HIM.out _ _ (by first | exact E10.out | exact (E10.alloc _).out)).mono ?_
            rintro d y12 ⟨ra1, rc1, rfl, how, hby12⟩
            have hS := kp_step (by assumption) hby12
            have hzy12 := hby12.size
            replace E10 := (by first | exact E10 | exact E10.alloc _ : Hold _ _ _ _).below hby12
            have n0 : y12.cell? ⟨y11.heap.size, 0, none⟩ = some (.int .i64 0) := (hby12.cell (p := ⟨y11.heap.size, 0, none⟩) (by simp)).trans (by simp)
            have f0 : y12.frozen? ⟨y11.heap.size, 0, none⟩ = false := (hby12.frozen (p := ⟨y11.heap.size, 0, none⟩) (by simp)).trans (by simp [go_sem])
            have n1 : y12.cell? ⟨y11.heap.size, 1, none⟩ = some (.int .i64 0) := (hby12.cell (p := ⟨y11.heap.size, 1, none⟩) (by simp)).trans (by simp)
            have f1 : y12.frozen? ⟨y11.heap.size, 1, none⟩ = false := (hby12.frozen (p := ⟨y11.heap.size, 1, none⟩) (by simp)).trans (by simp [go_sem])
            have n2 : y12.cell? ⟨y11.heap.size, 2, none⟩ = some (.int .i64 0) := (hby12.cell (p := ⟨y11.heap.size, 2, none⟩) (by simp)).trans (by simp)
            have f2 : y12.frozen? ⟨y11.heap.size, 2, none⟩ = false := (hby12.frozen (p := ⟨y11.heap.size, 2, none⟩) (by simp)).trans (by simp [go_sem])
            have n3 : y12.cell? ⟨y11.heap.size, 3, none⟩ = some (.int .i64 0) := (hby12.cell (p := ⟨y11.heap.size, 3, none⟩) (by simp)).trans (by simp)
            have f3 : y12.frozen? ⟨y11.heap.size, 3, none⟩ = false := (hby12.frozen (p := ⟨y11.heap.size, 3, none⟩) (by simp)).trans (by simp [go_sem])
            have n4 : y12.cell? ⟨y11.heap.size, 4, none⟩ = some (.int .i64 0) := (hby12.cell (p := ⟨y11.heap.size, 4, none⟩) (by simp)).trans (by simp)
            have f4 : y12.frozen? ⟨y11.heap.size, 4, none⟩ = false := (hby12.frozen (p := ⟨y11.heap.size, 4, none⟩) (by simp)).trans (by simp [go_sem])
            have n5 : y12.cell? ⟨y11.heap.size, 5, none⟩ = some (.int .i64 0) := (hby12.cell (p := ⟨y11.heap.size, 5, none⟩) (by simp)).trans (by simp)
            have f5 : y12.frozen? ⟨y11.heap.size, 5, none⟩ = false := (hby12.frozen (p := ⟨y11.heap.size, 5, none⟩) (by simp)).trans (by simp [go_sem])
            have n6 : y12.cell? ⟨y11.heap.size, 6, none⟩ = some (.slice none 0 0) := (hby12.cell (p := ⟨y11.heap.size, 6, none⟩) (by simp)).trans (by simp)
            have f6 : y12.frozen? ⟨y11.heap.size, 6, none⟩ = false := (hby12.frozen (p := ⟨y11.heap.size, 6, none⟩) (by simp)).trans (by simp [go_sem])
            have hlw : y11.heap.size < y12.heap.size := by have q := hby12.size; simp at q; omega
            have hge : w104.heap.size ≤ y11.heap.size := by first | exact Nat.le_refl _ | exact hSy11.2.size
            have hbase := hzy12
            have hSy12 := hS
            refine hK.out _ _ hS (fun hHeld => ?_)
            clear hK K
            try simp only [Act.put, List.getElem_toArray, List.getElem_cons_succ, List.getElem_cons_zero, List.setIfInBounds_toArray, List.set_cons_zero, List.set_cons_succ]
            refine wpAnyH_ready (rs := [7]) (by kernel_rfl) (by simp) ?_
            refine AllReadyH.cons rfl (fun K hK => ?_) AllReadyH.nil
            go_simp
            have hS := (kpE_set (kpE_set (kpE_set (kpE_set (kpE_set (kpE_set (kpE_set hSy12 (p := ⟨y11.heap.size, 0, none⟩) hge (.int .i64 c)) (p := ⟨y11.heap.size, 1, none⟩) hge (.int .i64 cx.k)) (p := ⟨y11.heap.size, 2, none⟩) hge (.int .i64 cx.e)) (p := ⟨y11.heap.size, 3, none⟩) hge (.int .i64 cx.f)) (p := ⟨y11.heap.size, 4, none⟩) hge (.int .i64 cx.s)) (p := ⟨y11.heap.size, 5, none⟩) hge (.int .i64 cx.n)) (p := ⟨y11.heap.size, 6, none⟩) hge (.slice ra1 ys.length rc1))
            refine hK.out _ _ hS (fun hHeld => ?_)
            clear hK K
            try simp only [Act.put, List.getElem_toArray, List.getElem_cons_succ, List.getElem_cons_zero, List.setIfInBounds_toArray, List.set_cons_zero, List.set_cons_succ]
            refine wpAnyH_done (by kernel_rfl) ?_ _
            go_wp2_with fail
            go_meet
            refine ⟨y11.heap.size, _, _, ra1, rc1, rfl, hge, ?_, ?_, owns_hold0 (ownsE_set (ownsE_set (ownsE_set (ownsE_set (ownsE_set (ownsE_set (ownsE_set how (a := ⟨y11.heap.size, 0, none⟩) (by first | exact hlb | (simp; done) | (simp; omega)) _) (a := ⟨y11.heap.size, 1, none⟩) (by first | exact hlb | (simp; done) | (simp; omega)) _) (a := ⟨y11.heap.size, 2, none⟩) (by first | exact hlb | (simp; done) | (simp; omega)) _) (a := ⟨y11.heap.size, 3, none⟩) (by first | exact hlb | (simp; done) | (simp; omega)) _) (a := ⟨y11.heap.size, 4, none⟩) (by first | exact hlb | (simp; done) | (simp; omega)) _) (a := ⟨y11.heap.size, 5, none⟩) (by first | exact hlb | (simp; done) | (simp; omega)) _) (a := ⟨y11.heap.size, 6, none⟩) (by first | exact hlb | (simp; done) | (simp; omega)) _), (((((((hSy12.2.setCell hge _).setCell hge _).setCell hge _).setCell hge _).setCell hge _).setCell hge _).setCell hge _)⟩
            · first | exact Nat.le_refl _ | exact hSy11.2.size | (simp; try omega)
            · refine BoxV.hold (fun j v e => ?_) (by simp; omega)
              have hj : j < 7 := by by_cases q : j < 7; exact q; rw [List.getElem?_eq_none (by simp; omega)] at e; cases e
              have hj' : j = 0 ∨ j = 1 ∨ j = 2 ∨ j = 3 ∨ j = 4 ∨ j = 5 ∨ j = 6 := by omega
              rcases hj' with rfl | rfl | rfl | rfl | rfl | rfl | rfl
              all_goals (simp at e; subst e; simp [go_sem, n0, n1, n2, n3, n4, n5, n6])
        · go_simp
          have hS := kpE_new (by assumption) (.cells #[.int .i64 0, .int .i64 0, .int .i64 0, .int .i64 0, .int .i64 0, .int .i64 0, .slice none 0 0] 33)
          refine hK.out _ _ hS (fun hHeld => ?_)
          clear hK K
          try simp only [Act.put, List.getElem_toArray, List.getElem_cons_succ, List.getElem_cons_zero, List.setIfInBounds_toArray, List.set_cons_zero, List.set_cons_succ]
          refine wpAnyH_ready (rs := [4]) (by kernel_rfl) (by simp) ?_
          refine AllReadyH.cons rfl (fun K hK => ?_) AllReadyH.nil
          go_simp
          refine (toStatement_c x2 _).mono ?_
          rintro d y11 ⟨rfl, hby11⟩
          have hS := kp_step (by assumption) hby11
          have hzy11 := hby11.size
          replace E10 := (by first | exact E10 | exact E10.alloc _ : Hold _ _ _ _).below hby11
          have n0 : y11.cell? ⟨y10.heap.size, 0, none⟩ = some (.int .i64 0) := (hby11.cell (p := ⟨y10.heap.size, 0, none⟩) (by simp)).trans (by simp)
          have f0 : y11.frozen? ⟨y10.heap.size, 0, none⟩ = false := (hby11.frozen (p := ⟨y10.heap.size, 0, none⟩) (by simp)).trans (by simp [go_sem])
          have n1 : y11.cell? ⟨y10.heap.size, 1, none⟩ = some (.int .i64 0) := (hby11.cell (p := ⟨y10.heap.size, 1, none⟩) (by simp)).trans (by simp)
          have f1 : y11.frozen? ⟨y10.heap.size, 1, none⟩ = false := (hby11.frozen (p := ⟨y10.heap.size, 1, none⟩) (by simp)).trans (by simp [go_sem])
          have n2 : y11.cell? ⟨y10.heap.size, 2, none⟩ = some (.int .i64 0) := (hby11.cell (p := ⟨y10.heap.size, 2, none⟩) (by simp)).trans (by simp)
          have f2 : y11.frozen? ⟨y10.heap.size, 2, none⟩ = false := (hby11.frozen (p := ⟨y10.heap.size, 2, none⟩) (by simp)).trans (by simp [go_sem])
          have n3 : y11.cell? ⟨y10.heap.size, 3, none⟩ = some (.int .i64 0) := (hby11.cell (p := ⟨y10.heap.size, 3, none⟩) (by simp)).trans (by simp)
          have f3 : y11.frozen? ⟨y10.heap.size, 3, none⟩ = false := (hby11.frozen (p := ⟨y10.heap.size, 3, none⟩) (by simp)).trans (by simp [go_sem])
          have n4 : y11.cell? ⟨y10.heap.size, 4, none⟩ = some (.int .i64 0) := (hby11.cell (p := ⟨y10.heap.size, 4, none⟩) (by simp)).trans (by simp)
          have f4 : y11.frozen? ⟨y10.heap.size, 4, none⟩ = false := (hby11.frozen (p := ⟨y10.heap.size, 4, none⟩) (by simp)).trans (by simp [go_sem])
          have n5 : y11.cell? ⟨y10.heap.size, 5, none⟩ = some (.int .i64 0) := (hby11.cell (p := ⟨y10.heap.size, 5, none⟩) (by simp)).trans (by simp)
          have f5 : y11.frozen? ⟨y10.heap.size, 5, none⟩ = false := (hby11.frozen (p := ⟨y10.heap.size, 5, none⟩) (by simp)).trans (by simp [go_sem])
          have n6 : y11.cell? ⟨y10.heap.size, 6, none⟩ = some (.slice none 0 0) := (hby11.cell (p := ⟨y10.heap.size, 6, none⟩) (by simp)).trans (by simp)
          have f6 : y11.frozen? ⟨y10.heap.size, 6, none⟩ = false := (hby11.frozen (p := ⟨y10.heap.size, 6, none⟩) (by simp)).trans (by simp [go_sem])
          have hlw : y10.heap.size < y11.heap.size := by have q := hby11.size; simp at q; omega
          have hge : w104.heap.size ≤ y10.heap.size := by first | exact Nat.le_refl _ | exact hSy10.2.size
          have hSy11 := hS
          refine hK.out _ _ hS (fun hHeld => ?_)
          clear hK K
          try simp only [Act.put, List.getElem_toArray, List.getElem_cons_succ, List.getElem_cons_zero, List.setIfInBounds_toArray, List.set_cons_zero, List.set_cons_succ]
          refine wpAnyH_ready (rs := [5]) (by kernel_rfl) (by simp) ?_
          refine AllReadyH.cons rfl (fun K hK => ?_) AllReadyH.nil
          go_simp
          refine (HIM.out _ _ (by first | exact E10.out | exact (E10.alloc _).out)).mono ?_
          rintro d y12 ⟨ra1, rc1, rfl, how, hby12⟩
          have hS := kp_step (by assumption) hby12
          have hzy12 := hby12.size
          replace E10 := (by first | exact E10 | exact E10.alloc _ : Hold _ _ _ _).below hby12
          replace n0 := (hby12.cell (p := ⟨y10.heap.size, 0, none⟩) hlw).trans n0
          replace f0 := (hby12.frozen (p := ⟨y10.heap.size, 0, none⟩) hlw).trans f0
          replace n1 := (hby12.cell (p := ⟨y10.heap.size, 1, none⟩) hlw).trans n1
          replace f1 := (hby12.frozen (p := ⟨y10.heap.size, 1, none⟩) hlw).trans f1
          replace n2 := (hby12.cell (p := ⟨y10.heap.size, 2, none⟩) hlw).trans n2
          replace f2 := (hby12.frozen (p := ⟨y10.heap.size, 2, none⟩) hlw).trans f2
          replace n3 := (hby12.cell (p := ⟨y10.heap.size, 3, none⟩) hlw).trans n3
          replace f3 := (hby12.frozen (p := ⟨y10.heap.size, 3, none⟩) hlw).trans f3
          replace n4 := (hby12.cell (p := ⟨y10.heap.size, 4, none⟩) hlw).trans n4
          replace f4 := (hby12.frozen (p := ⟨y10.heap.size, 4, none⟩) hlw).trans f4
          replace n5 := (hby12.cell (p := ⟨y10.heap.size, 5, none⟩) hlw).trans n5
          replace f5 := (hby12.frozen (p := ⟨y10.heap.size, 5, none⟩) hlw).trans f5
          replace n6 := (hby12.cell (p := ⟨y10.heap.size, 6, none⟩) hlw).trans n6
          replace f6 := (hby12.frozen (p := ⟨y10.heap.size, 6, none⟩) hlw).trans f6
          have hlb := hlw
          replace hlw : y10.heap.size < y12.heap.size := by omega
          have hbase := hzy12
          have hSy12 := hS
          refine hK.out _ _ hS (fun hHeld => ?_)
          clear hK K
          try simp only [Act.put, List.getElem_toArray, List.getElem_cons_succ, List.getElem_cons_zero, List.setIfInBounds_toArray, List.set_cons_zero, List.set_cons_succ]
          refine wpAnyH_ready (rs := [7]) (by kernel_rfl) (by simp) ?_
          refine AllReadyH.cons rfl (fun K hK => ?_) AllReadyH.nil
          go_simp
          have hS := (kpE_set (kpE_set (kpE_set (kpE_set (kpE_set (kpE_set (kpE_set hSy12 (p := ⟨y10.heap.size, 0, none⟩) hge (.int .i64 c)) (p := ⟨y10.heap.size, 1, none⟩) hge (.int .i64 cx.k)) (p := ⟨y10.heap.size, 2, none⟩) hge (.int .i64 cx.e)) (p := ⟨y10.heap.size, 3, none⟩) hge (.int .i64 cx.f)) (p := ⟨y10.heap.size, 4, none⟩) hge (.int .i64 cx.s)) (p := ⟨y10.heap.size, 5, none⟩) hge (.int .i64 cx.n)) (p := ⟨y10.heap.size, 6, none⟩) hge (.slice ra1 ys.length rc1))
          refine hK.out _ _ hS (fun hHeld => ?_)
          clear hK K
          try simp only [Act.put, List.getElem_toArray, List.getElem_cons_succ, List.getElem_cons_zero, List.setIfInBounds_toArray, List.set_cons_zero, List.set_cons_succ]
          refine wpAnyH_done (by kernel_rfl) ?_ _
          go_wp2_with fail
          go_meet
          refine ⟨y10.heap.size, _, _, ra1, rc1, rfl, hge, ?_, ?_, owns_hold0 (ownsE_set (ownsE_set (ownsE_set (ownsE_set (ownsE_set (ownsE_set (ownsE_set how (a := ⟨y10.heap.size, 0, none⟩) (by first | exact hlb | (simp; done) | (simp; omega)) _) (a := ⟨y10.heap.size, 1, none⟩) (by first | exact hlb | (simp; done) | (simp; omega)) _) (a := ⟨y10.heap.size, 2, none⟩) (by first | exact hlb | (simp; done) | (simp; omega)) _) (a := ⟨y10.heap.size, 3, none⟩) (by first | exact hlb | (simp; done) | (simp; omega)) _) (a := ⟨y10.heap.size, 4, none⟩) (by first | exact hlb | (simp; done) | (simp; omega)) _) (a := ⟨y10.heap.size, 5, none⟩) (by first | exact hlb | (simp; done) | (simp; omega)) _) (a := ⟨y10.heap.size, 6, none⟩) (by first | exact hlb | (simp; done) | (simp; omega)) _), (((((((hSy12.2.setCell hge _).setCell hge _).setCell hge _).setCell hge _).setCell hge _).setCell hge _).setCell hge _)⟩
          · first | exact Nat.le_refl _ | exact hSy11.2.size | (simp; try omega)
          · refine BoxV.hold (fun j v e => ?_) (by simp; omega)
            have hj : j < 7 := by by_cases q : j < 7; exact q; rw [List.getElem?_eq_none (by simp; omega)] at e; cases e
            have hj' : j = 0 ∨ j = 1 ∨ j = 2 ∨ j = 3 ∨ j = 4 ∨ j = 5 ∨ j = 6 := by omega
            rcases hj' with rfl | rfl | rfl | rfl | rfl | rfl | rfl
            all_goals (simp at e; subst e; simp [go_sem, n0, n1, n2, n3, n4, n5, n6])
      · go_simp
        have hS := kpE_new (by assumption) (.cells #[.int .i64 0, .int .i64 0, .int .i64 0, .int .i64 0, .int .i64 0, .int .i64 0, .slice none 0 0] 33)
        refine hK.out _ _ hS (fun hHeld => ?_)
        clear hK K
        try simp only [Act.put, List.getElem_toArray, List.getElem_cons_succ, List.getElem_cons_zero, List.setIfInBounds_toArray, List.set_cons_zero, List.set_cons_succ]
        refine wpAnyH_ready (rs := [1]) (by kernel_rfl) (by simp) ?_
        refine AllReadyH.cons rfl (fun K hK => ?_) AllReadyH.nil
        go_simp
        refine (toShares_room a0 len0 cap0 z0 _ hs0 (H0.out.below (HTO0.out _ (by assumption)))).mono ?_
        rintro d y10 ⟨rfl, hat, hlt, hby10, hroom⟩
        have hS := kp_step (by assumption) hby10
        have hzy10 := hby10.size
        have E10 := ShCp.cast (g' := w104.heap.size + 1) (ShCp.hold ⟨hat, hroom⟩ hlt) (by first | rfl | simp [go_sem] | (simp [go_sem]; done))
        have n0 : y10.cell? ⟨w104.heap.size, 0, none⟩ = some (.int .i64 0) := (hby10.cell (p := ⟨w104.heap.size, 0, none⟩) (by simp)).trans (by simp)
        have f0 : y10.frozen? ⟨w104.heap.size, 0, none⟩ = false := (hby10.frozen (p := ⟨w104.heap.size, 0, none⟩) (by simp)).trans (by simp [go_sem])
        have n1 : y10.cell? ⟨w104.heap.size, 1, none⟩ = some (.int .i64 0) := (hby10.cell (p := ⟨w104.heap.size, 1, none⟩) (by simp)).trans (by simp)
        have f1 : y10.frozen? ⟨w104.heap.size, 1, none⟩ = false := (hby10.frozen (p := ⟨w104.heap.size, 1, none⟩) (by simp)).trans (by simp [go_sem])
        have n2 : y10.cell? ⟨w104.heap.size, 2, none⟩ = some (.int .i64 0) := (hby10.cell (p := ⟨w104.heap.size, 2, none⟩) (by simp)).trans (by simp)
        have f2 : y10.frozen? ⟨w104.heap.size, 2, none⟩ = false := (hby10.frozen (p := ⟨w104.heap.size, 2, none⟩) (by simp)).trans (by simp [go_sem])
        have n3 : y10.cell? ⟨w104.heap.size, 3, none⟩ = some (.int .i64 0) := (hby10.cell (p := ⟨w104.heap.size, 3, none⟩) (by simp)).trans (by simp)
        have f3 : y10.frozen? ⟨w104.heap.size, 3, none⟩ = false := (hby10.frozen (p := ⟨w104.heap.size, 3, none⟩) (by simp)).trans (by simp [go_sem])
        have n4 : y10.cell? ⟨w104.heap.size, 4, none⟩ = some (.int .i64 0) := (hby10.cell (p := ⟨w104.heap.size, 4, none⟩) (by simp)).trans (by simp)
        have f4 : y10.frozen? ⟨w104.heap.size, 4, none⟩ = false := (hby10.frozen (p := ⟨w104.heap.size, 4, none⟩) (by simp)).trans (by simp [go_sem])
        have n5 : y10.cell? ⟨w104.heap.size, 5, none⟩ = some (.int .i64 0) := (hby10.cell (p := ⟨w104.heap.size, 5, none⟩) (by simp)).trans (by simp)
        have f5 : y10.frozen? ⟨w104.heap.size, 5, none⟩ = false := (hby10.frozen (p := ⟨w104.heap.size, 5, none⟩) (by simp)).trans (by simp [go_sem])
        have n6 : y10.cell? ⟨w104.heap.size, 6, none⟩ = some (.slice none 0 0) := (hby10.cell (p := ⟨w104.heap.size, 6, none⟩) (by simp)).trans (by simp)
        have f6 : y10.frozen? ⟨w104.heap.size, 6, none⟩ = false := (hby10.frozen (p := ⟨w104.heap.size, 6, none⟩) (by simp)).trans (by simp [go_sem])
        have hlw : w104.heap.size < y10.heap.size := by have q := hby10.size; simp at q; omega
        have hge : w104.heap.size ≤ w104.heap.size := Nat.le_refl _
        have hSy10 := hS
        refine hK.out _ _ hS (fun hHeld => ?_)
        clear hK K
        try simp only [Act.put, List.getElem_toArray, List.getElem_cons_succ, List.getElem_cons_zero, List.setIfInBounds_toArray, List.set_cons_zero, List.set_cons_succ]
        refine wpAnyH_ready (rs := [4]) (by kernel_rfl) (by simp) ?_
        refine AllReadyH.cons rfl (fun K hK => ?_) AllReadyH.nil
        go_simp
        refine (toStatement_c x2 _).mono ?_
        rintro d y11 ⟨rfl, hby11⟩
        have hS := kp_step (by assumption) hby11
        have hzy11 := hby11.size
        replace E10 := (by first | exact E10 | exact E10.alloc _ : Hold _ _ _ _).below hby11
        replace n0 := (hby11.cell (p := ⟨w104.heap.size, 0, none⟩) hlw).trans n0
        replace f0 := (hby11.frozen (p := ⟨w104.heap.size, 0, none⟩) hlw).trans f0
        replace n1 := (hby11.cell (p := ⟨w104.heap.size, 1, none⟩) hlw).trans n1
        replace f1 := (hby11.frozen (p := ⟨w104.heap.size, 1, none⟩) hlw).trans f1
        replace n2 := (hby11.cell (p := ⟨w104.heap.size, 2, none⟩) hlw).trans n2
        replace f2 := (hby11.frozen (p := ⟨w104.heap.size, 2, none⟩) hlw).trans f2
        replace n3 := (hby11.cell (p := ⟨w104.heap.size, 3, none⟩) hlw).trans n3
        replace f3 := (hby11.frozen (p := ⟨w104.heap.size, 3, none⟩) hlw).trans f3
        replace n4 := (hby11.cell (p := ⟨w104.heap.size, 4, none⟩) hlw).trans n4
        replace f4 := (hby11.frozen (p := ⟨w104.heap.size, 4, none⟩) hlw).trans f4
        replace n5 := (hby11.cell (p := ⟨w104.heap.size, 5, none⟩) hlw).trans n5
        replace f5 := (hby11.frozen (p := ⟨w104.heap.size, 5, none⟩) hlw).trans f5
        replace n6 := (hby11.cell (p := ⟨w104.heap.size, 6, none⟩) hlw).trans n6
        replace f6 := (hby11.frozen (p := ⟨w104.heap.size, 6, none⟩) hlw).trans f6
        have hlb := hlw
        replace hlw : w104.heap.size < y11.heap.size := by omega
        have hSy11 := hS
        refine hK.out _ _ hS (fun hHeld => ?_)
        clear hK K
        try simp only [Act.put, List.getElem_toArray, List.getElem_cons_succ, List.getElem_cons_zero, List.setIfInBounds_toArray, List.set_cons_zero, List.set_cons_succ]
        refine wpAnyH_ready (rs := [5]) (by kernel_rfl) (by simp) ?_
        refine AllReadyH.cons rfl (fun K hK => ?_) AllReadyH.nil
        go_simp
        refine (HIM.out _ _ (by first | exact E10.out | exact (E10.alloc _).out)).mono ?_
        rintro d y12 ⟨ra1, rc1, rfl, how, hby12⟩
        have hS := kp_step (by assumption) hby12
        have hzy12 := hby12.size
        replace E10 := (by first | exact E10 | exact E10.alloc _ : Hold _ _ _ _).below hby12
        replace n0 := (hby12.cell (p := ⟨w104.heap.size, 0, none⟩) hlw).trans n0
        replace f0 := (hby12.frozen (p := ⟨w104.heap.size, 0, none⟩) hlw).trans f0
        replace n1 := (hby12.cell (p := ⟨w104.heap.size, 1, none⟩) hlw).trans n1
        replace f1 := (hby12.frozen (p := ⟨w104.heap.size, 1, none⟩) hlw).trans f1
        replace n2 := (hby12.cell (p := ⟨w104.heap.size, 2, none⟩) hlw).trans n2
        replace f2 := (hby12.frozen (p := ⟨w104.heap.size, 2, none⟩) hlw).trans f2
        replace n3 := (hby12.cell (p := ⟨w104.heap.size, 3, none⟩) hlw).trans n3
        replace f3 := (hby12.frozen (p := ⟨w104.heap.size, 3, none⟩) hlw).trans f3
        replace n4 := (hby12.cell (p := ⟨w104.heap.size, 4, none⟩) hlw).trans n4
        replace f4 := (hby12.frozen (p := ⟨w104.heap.size, 4, none⟩) hlw).trans f4
        replace n5 := (hby12.cell (p := ⟨w104.heap.size, 5, none⟩) hlw).trans n5
        replace f5 := (hby12.frozen (p := ⟨w104.heap.size, 5, none⟩) hlw).trans f5
        replace n6 := (hby12.cell (p := ⟨w104.heap.size, 6, none⟩) hlw).trans n6
        replace f6 := (hby12.frozen (p := ⟨w104.heap.size, 6, none⟩) hlw).trans f6
        have hlb := hlw
        replace hlw : w104.heap.size < y12.heap.size := by omega
        have hbase := hzy12
        have hSy12 := hS
        refine hK.out _ _ hS (fun hHeld => ?_)
        clear hK K
        try simp only [Act.put, List.getElem_toArray, List.getElem_cons_succ, List.getElem_cons_zero, List.setIfInBounds_toArray, List.set_cons_zero, List.set_cons_succ]
        refine wpAnyH_ready (rs := [7]) (by kernel_rfl) (by simp) ?_
        refine AllReadyH.cons rfl (fun K hK => ?_) AllReadyH.nil
        go_simp
        have hS := (kpE_set (kpE_set (kpE_set (kpE_set (kpE_set (kpE_set (kpE_set hSy12 (p := ⟨w104.heap.size, 0, none⟩) hge (.int .i64 c)) (p := ⟨w104.heap.size, 1, none⟩) hge (.int .i64 cx.k)) (p := ⟨w104.heap.size, 2, none⟩) hge (.int .i64 cx.e)) (p := ⟨w104.heap.size, 3, none⟩) hge (.int .i64 cx.f)) (p := ⟨w104.heap.size, 4, none⟩) hge (.int .i64 cx.s)) (p := ⟨w104.heap.size, 5, none⟩) hge (.int .i64 cx.n)) (p := ⟨w104.heap.size, 6, none⟩) hge (.slice ra1 ys.length rc1))
        refine hK.out _ _ hS (fun hHeld => ?_)
        clear hK K
        try simp only [Act.put, List.getElem_toArray, List.getElem_cons_succ, List.getElem_cons_zero, List.setIfInBounds_toArray, List.set_cons_zero, List.set_cons_succ]
        refine wpAnyH_done (by kernel_rfl) ?_ _
        go_wp2_with fail
        go_meet
        refine ⟨w104.heap.size, _, _, ra1, rc1, rfl, hge, ?_, ?_, owns_hold0 (ownsE_set (ownsE_set (ownsE_set (ownsE_set (ownsE_set (ownsE_set (ownsE_set how (a := ⟨w104.heap.size, 0, none⟩) (by first | exact hlb | (simp; done) | (simp; omega)) _) (a := ⟨w104.heap.size, 1, none⟩) (by first | exact hlb | (simp; done) | (simp; omega)) _) (a := ⟨w104.heap.size, 2, none⟩) (by first | exact hlb | (simp; done) | (simp; omega)) _) (a := ⟨w104.heap.size, 3, none⟩) (by first | exact hlb | (simp; done) | (simp; omega)) _) (a := ⟨w104.heap.size, 4, none⟩) (by first | exact hlb | (simp; done) | (simp; omega)) _) (a := ⟨w104.heap.size, 5, none⟩) (by first | exact hlb | (simp; done) | (simp; omega)) _) (a := ⟨w104.heap.size, 6, none⟩) (by first | exact hlb | (simp; done) | (simp; omega)) _), (((((((hSy12.2.setCell hge _).setCell hge _).setCell hge _).setCell hge _).setCell hge _).setCell hge _).setCell hge _)⟩
        · first | exact Nat.le_refl _ | exact hSy11.2.size | (simp; try omega)
        · refine BoxV.hold (fun j v e => ?_) (by simp; omega)
          have hj : j < 7 := by by_cases q : j < 7; exact q; rw [List.getElem?_eq_none (by simp; omega)] at e; cases e
          have hj' : j = 0 ∨ j = 1 ∨ j = 2 ∨ j = 3 ∨ j = 4 ∨ j = 5 ∨ j = 6 := by omega
          rcases hj' with rfl | rfl | rfl | rfl | rfl | rfl | rfl
          all_goals (simp at e; subst e; simp [go_sem, n0, n1, n2, n3, n4, n5, n6])
    case rest =>
      obtain ⟨U112, rfl⟩ : ∃ U, U = wc := ⟨_, rfl⟩
      obtain ⟨rBH, rloH, rhiH, raH, rcH, rfl, hge, hglo, hbx, hrow, hb⟩ := hcut
      have B113 : Hid (Below w.heap.size w U112) := B105.out.trans (hb.mono B105.out.size)
      have hz114 := hb.size
      have F115 : Hid (Hold (w.heap.size) (w.heap.size + 1) (BoxV (w.heap.size) [.int .i64 x2.k, .int .i64 x2.e, .int .i64 x2.f, .int .i64 x2.s, .int .i64 x2.n]) U112) := F107.out.below hb
      have F116 : Hid (Hold (rBS) (rBS + 1) (BoxV rBS [.int .i64 c, .int .i64 cx.k, .int .i64 cx.e, .int .i64 cx.f, .int .i64 cx.s, .int .i64 cx.n, .slice raS ys.length rcS]) U112) := F108.out.below hb
      have F117 : Hid (Hold (rloS) (rhiS) (fun X => X.ownsRow rloS 2 1 (.slice raS ys.length rcS) ys.length (ys.map (Value.int .i64))) U112) := F109.out.below hb
      have F118 : Hid (Hold (w31.heap.size) (w31.heap.size + 1) (BoxV w31.heap.size [.int .i64 c, .int .i64 cx.k, .int .i64 cx.e, .int .i64 cx.f, .int .i64 cx.s, .int .i64 cx.n, .slice raI ys.length rcI]) U112) := F110.out.below hb
      have F119 : Hid (Hold (w24.heap.size) (w31.heap.size) (fun X => X.ownsRow w24.heap.size 2 1 (.slice raI ys.length rcI) ys.length ((marks 1 ys.length).map (Value.int .i64))) U112) := F111.out.below hb
      clear B105 F107 F108 F109 F110 F111
      have F120 : Hid (Hold (rBH) (rBH + 1) (BoxV rBH [.int .i64 c, .int .i64 cx.k, .int .i64 cx.e, .int .i64 cx.f, .int .i64 cx.s, .int .i64 cx.n, .slice raH ys.length rcH]) U112) := hbx
      have hl121 := F120.out.le
      have F122 : Hid (Hold (rloH) (rhiH) (fun X => X.ownsRow rloH 2 1 (.slice raH ys.length rcH) ys.length (ys.map (Value.int .i64))) U112) := hrow
      have hl123 := F122.out.le
      clear hbx hrow hb
      clear b20 b21 b22 b23 b24
      clear hbl2
      clear HTO0
      have p0 := F120.out.out 0 _ rfl
      have p1 := F120.out.out 1 _ rfl
      have p2 := F120.out.out 2 _ rfl
      have p3 := F120.out.out 3 _ rfl
      have p4 := F120.out.out 4 _ rfl
      have p5 := F120.out.out 5 _ rfl
      have p6 := F120.out.out 6 _ rfl
      have q0 := F116.out.out 0 _ rfl
      have q1 := F116.out.out 1 _ rfl
      have q2 := F116.out.out 2 _ rfl
      have q3 := F116.out.out 3 _ rfl
      have q4 := F116.out.out 4 _ rfl
      have q5 := F116.out.out 5 _ rfl
      have q6 := F116.out.out 6 _ rfl
      go_wp2_with fail
      refine (eqCertR_same c cx raH raS ys.length rcH rcS ys _ hyl (row_of_owns F122.out.out) (row_of_owns F117.out.out)).mono ?_
      rintro e w124 ⟨rfl, hb⟩
      clear p0 p1 p2 p3 p4 p5 p6 q0 q1 q2 q3 q4 q5 q6
      have B125 : Hid (Below w.heap.size w w124) := B113.out.trans (hb.mono B113.out.size)
      have hz126 := hb.size
      have F127 : Hid (Hold (w.heap.size) (w.heap.size + 1) (BoxV (w.heap.size) [.int .i64 x2.k, .int .i64 x2.e, .int .i64 x2.f, .int .i64 x2.s, .int .i64 x2.n]) w124) := F115.out.below hb
      have F128 : Hid (Hold (rBS) (rBS + 1) (BoxV rBS [.int .i64 c, .int .i64 cx.k, .int .i64 cx.e, .int .i64 cx.f, .int .i64 cx.s, .int .i64 cx.n, .slice raS ys.length rcS]) w124) := F116.out.below hb
      have F129 : Hid (Hold (rloS) (rhiS) (fun X => X.ownsRow rloS 2 1 (.slice raS ys.length rcS) ys.length (ys.map (Value.int .i64))) w124) := F117.out.below hb
      have F130 : Hid (Hold (w31.heap.size) (w31.heap.size + 1) (BoxV w31.heap.size [.int .i64 c, .int .i64 cx.k, .int .i64 cx.e, .int .i64 cx.f, .int .i64 cx.s, .int .i64 cx.n, .slice raI ys.length rcI]) w124) := F118.out.below hb
      have F131 : Hid (Hold (w24.heap.size) (w31.heap.size) (fun X => X.ownsRow w24.heap.size 2 1 (.slice raI ys.length rcI) ys.length ((marks 1 ys.length).map (Value.int .i64))) w124) := F119.out.below hb
      have F132 : Hid (Hold (rBH) (rBH + 1) (BoxV rBH [.int .i64 c, .int .i64 cx.k, .int .i64 cx.e, .int .i64 cx.f, .int .i64 cx.s, .int .i64 cx.n, .slice raH ys.length rcH]) w124) := F120.out.below hb
      have F133 : Hid (Hold (rloH) (rhiH) (fun X => X.ownsRow rloH 2 1 (.slice raH ys.length rcH) ys.length (ys.map (Value.int .i64))) w124) := F122.out.below hb
      clear B113 F115 F116 F117 F118 F119 F120 F122
      clear hb
      have p0 := F130.out.out 0 _ rfl
      have p1 := F130.out.out 1 _ rfl
      have p2 := F130.out.out 2 _ rfl
      have p3 := F130.out.out 3 _ rfl
      have p4 := F130.out.out 4 _ rfl
      have p5 := F130.out.out 5 _ rfl
      have p6 := F130.out.out 6 _ rfl
      go_wp2_with fail
      refine (heldCertR_c c cx raI ys.length rcI _ hyl (row_of_owns F131.out.out)).mono ?_
      rintro e w134 ⟨rfl, hb⟩
      clear p0 p1 p2 p3 p4 p5 p6
      have B135 : Hid (Below w.heap.size w w134) := B125.out.trans (hb.mono B125.out.size)
      have hz136 := hb.size
      have F137 : Hid (Hold (w.heap.size) (w.heap.size + 1) (BoxV (w.heap.size) [.int .i64 x2.k, .int .i64 x2.e, .int .i64 x2.f, .int .i64 x2.s, .int .i64 x2.n]) w134) := F127.out.below hb
      have F138 : Hid (Hold (rBS) (rBS + 1) (BoxV rBS [.int .i64 c, .int .i64 cx.k, .int .i64 cx.e, .int .i64 cx.f, .int .i64 cx.s, .int .i64 cx.n, .slice raS ys.length rcS]) w134) := F128.out.below hb
      have F139 : Hid (Hold (rloS) (rhiS) (fun X => X.ownsRow rloS 2 1 (.slice raS ys.length rcS) ys.length (ys.map (Value.int .i64))) w134) := F129.out.below hb
      have F140 : Hid (Hold (w31.heap.size) (w31.heap.size + 1) (BoxV w31.heap.size [.int .i64 c, .int .i64 cx.k, .int .i64 cx.e, .int .i64 cx.f, .int .i64 cx.s, .int .i64 cx.n, .slice raI ys.length rcI]) w134) := F130.out.below hb
      have F141 : Hid (Hold (w24.heap.size) (w31.heap.size) (fun X => X.ownsRow w24.heap.size 2 1 (.slice raI ys.length rcI) ys.length ((marks 1 ys.length).map (Value.int .i64))) w134) := F131.out.below hb
      have F142 : Hid (Hold (rBH) (rBH + 1) (BoxV rBH [.int .i64 c, .int .i64 cx.k, .int .i64 cx.e, .int .i64 cx.f, .int .i64 cx.s, .int .i64 cx.n, .slice raH ys.length rcH]) w134) := F132.out.below hb
      have F143 : Hid (Hold (rloH) (rhiH) (fun X => X.ownsRow rloH 2 1 (.slice raH ys.length rcH) ys.length (ys.map (Value.int .i64))) w134) := F133.out.below hb
      clear B125 F127 F128 F129 F130 F131 F132 F133
      clear hb
      go_wp2
      go_ret
      exact ⟨rfl, B135.out⟩

/-! The walk: the Go text returns true. -/
theorem walk (a0 : Option Addr) (len0 cap0 : Nat) (z0 : List ShI) (a1 : Int) (x2 : StI) (w : World) (w0 : ShArg w a0 len0 z0) (w1 : (Lit.int .i64 a1).wf = true) :
    Calls Try.prog 8 #[.slice a0 len0 cap0, .int .i64 a1, .agg #[.int .i64 x2.k, .int .i64 x2.e, .int .i64 x2.f, .int .i64 x2.s, .int .i64 x2.n]] w fun e w' => e = .returned (.bool true) ∧ Below w.heap.size w w' := by
  have hy : (cbL a1 z0 x2).length ≤ 1000 := by
    unfold cbL
    split
    · rename_i q
      unfold cbCode at q
      by_cases r : shCode a1 z0 = 0
      · have h1 := sgL_len z0 x2
        have h2 := (sh_ok r).2.1
        rw [List.length_take]
        omega
      · rw [if_neg r] at q; exact absurd q r
    · simp
  have hmx : ∀ n : Nat, n ≤ 1048576 → n ≤ maxLen := fun n h => by unfold maxLen; omega
  exact inner a0 len0 cap0 z0 a1 x2 (cbCode a1 z0 x2) (cbX a1 z0 x2) (cbL a1 z0 x2) w w0.2.1 w0.1 hy
    (fun h1 g0 W q0 => specCombine_c _ len0 len0 z0 a1 x2 W h1 (Nat.le_refl _) (hmx _ h1) (ShIn.of w0.1.1 q0.1))
    (fun h1 g0 W q0 => implCombine_c _ len0 len0 z0 a1 x2 W h1 (Nat.le_refl _) (hmx _ h1) (ShIn.of w0.1.1 q0.1))

/-! The row's step. -/
set_option maxRecDepth 100000 in
theorem lifted (os : Os) (started : os.Started) (H : Type) (enc : TypeId × Value → H) :
    ReturnsInHanded {} Try.checked os 8 .any (Rows.fnExactCombineSpec.pre6 enc Try.prog Try.f8 Rows.fnExactCombineRow.domain false) (Rows.fnExactCombineSpec.post enc Try.prog Try.f8 false true false false) := by
  refine returnsInHanded_of_change (C := Try.checked) own started (by kernel_rfl) Try.func8
    (ChangeSpec.witness6 (enc := enc) (C := Try.checked) false ⟨#[], #[.slice none 0 0, .int .i64 0, .agg #[.int .i64 0, .int .i64 0, .int .i64 0, .int .i64 0, .int .i64 0]], []⟩ 8 (by kernel_rfl) (by kernel_rfl) (by kernel_rfl) (by kernel_rfl)) ?_
  intro W base args ds gs before hval0 hW hcnd _
  have hval : ∀ (j : Nat) t v, Try.f8.params[j]? = some t → args[j]? = some v → Value.okWide Try.prog W .any base t v := hval0
  have hW' := hW
  obtain ⟨p, q, hA0, hV, rfl, hfz, hnd⟩ := hW
  have hA : DataW.TrodAll enc Try.prog W 0 (fun _ => true) true Try.f8.params.toList args.toList ds p := hA0
  rw [Try.params8] at hA hval
  obtain ⟨v0, vs0, d0, ds0, p0, q0, hargs, rfl, rfl, h0, r0⟩ := trodAll_cons hA
  obtain ⟨v1, vs1, d1, ds1, p1, q1, rfl, rfl, rfl, h1, r1⟩ := trodAll_cons r0
  obtain ⟨v2, vs2, d2, ds2, p2, q2, rfl, rfl, rfl, h2, r2⟩ := trodAll_cons r1
  obtain ⟨rfl, rfl, rfl⟩ := trodAll_nil r2
  obtain rfl : args = #[v0, v1, v2] := by cases args; simp_all
  obtain ⟨rfl, rfl⟩ := trodVars_none hV
  obtain ⟨a0, len0, cap0, rfl⟩ := okWide_slice Try.underlying47 (hval 0 47 v0 rfl rfl)
  have k0 := h0
  have lt0 : ∀ x ∈ p0, x.block < W.heap.size := by obtain ⟨m, hm⟩ := k0; exact DataW.trod_lt m _ _ _ hm
  obtain ⟨z0, w0⟩ : ∃ zs : List ShI, ShArg W a0 len0 zs := by
    obtain ⟨fuel, hf⟩ := h0
    exact shares_shape hf
  obtain ⟨a1, rfl, rfl, rfl, w1⟩ := open_int Try.underlying2 (hval 1 2 v1 rfl rfl) h1
  obtain ⟨cs2, rfl, hs2⟩ := okWide_struct Try.underlying52 (hval 2 52 v2 rfl rfl)
  have k2 := h2
  have lt2 : ∀ x ∈ p2, x.block < W.heap.size := by obtain ⟨m, hm⟩ := k2; exact DataW.trod_lt m _ _ _ hm
  obtain ⟨x2, rfl⟩ : ∃ x : StI, cs2 = #[.int .i64 x.k, .int .i64 x.e, .int .i64 x.f, .int .i64 x.s, .int .i64 x.n] := by
    obtain ⟨fuel, hf⟩ := h2
    exact statement_shape _ hf
  clear hA0 hval0
  refine (walk a0 len0 cap0 z0 a1 x2 W w0 w1).mono fun e W' ⟨he, bel⟩ => ?_
  subst he
  exact ⟨_, rfl, _, _, _, [], _, [], hW', trodAll_mk1 (shut_bool Try.underlying4 _), (trodAll_cons_mk (Below.trod laidOut (by kernel_rfl) (of_decide_eq_true (by kernel_rfl)) k0 bel lt0) (trodAll_cons_mk (shut_int Try.underlying2 w1) (trodAll_cons_mk (Below.trod laidOut (by kernel_rfl) (of_decide_eq_true (by kernel_rfl)) k2 bel lt2) trodAll_mk0))), rfl, bel.frame _, fun h => by cases h⟩

theorem over : Rows.fnExactCombineRow.holds Try.pinned (OpenSpec.ofChange Rows.fnExactCombineSpec) :=
  OpenClaim.holds_of_wide 8 Try.f8 rfl rfl rfl rfl rfl rfl rfl ⟨rfl, rfl, rfl, rfl, rfl⟩ rfl rfl rfl rfl rfl (by kernel_rfl) Try.func8 (by kernel_rfl)
    (of_decide_eq_true (by kernel_rfl)) (by unfold Func.isWrapper; first | (rw [if_pos (by decide +kernel)]; kernel_rfl) | (rw [if_neg (by decide +kernel)]; exact ⟨rfl, rfl⟩))
    (fun os started H enc _ => lifted os started H enc)

end Go.Proofs.Ytdfhebmecbcegaa.fnExactCombine
namespace Go.Proofs.Ytdfhebmecbcegaa
theorem fnExactCombine_holds : Rows.FnExactCombineSaid := fnExactCombine.over
#print axioms fnExactCombine_holds
end Go.Proofs.Ytdfhebmecbcegaa
