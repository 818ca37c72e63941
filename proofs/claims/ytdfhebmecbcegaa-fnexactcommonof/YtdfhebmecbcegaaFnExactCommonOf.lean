/-
  PROVED: for every two Certs the law laws.FnExactCommonOf returns true, that is impl.CommonOf answers as spec.CommonOf there (up to 1<<20 signers, as the law itself says), writes nothing into its arguments, and its list is memory of its own, behind another call too; the arguments read as they did.
  Conditions: none beside those that the given row itself bears. The frame is the shell written by program, turned for structs and slices of structs; the walk is ours.
-/
import Derived.Test.YtdfhebmecbcegaaRows
import Derived.WalkKit
import Derived.ProofKit
import Derived.OpenShut
import Derived.ShutString
import Derived.ChangeOld
import Derived.Below
import Derived.Test.YtdfhebmecbcegaaCec
import Derived.Test.YtdfhebmecbcegaaCr0
import Derived.Test.YtdfhebmecbcegaaShA
import Derived.Test.YtdfhebmecbcegaaStA
import Derived.Test.YtdfhebmecbcegaaList2
import Derived.Deep.CutBlock
import Derived.Deep.RegionHeld3
namespace Go.Proofs.Ytdfhebmecbcegaa.fnExactCommonOf
open Go.ChangeShapes Go.WideShapes Go.ChangeAt Go.RowKit
open Go.ChangeMaps (open_string shut_string)
set_option linter.unusedVariables false

theorem own : ownKnob Try.prog.godebug = none := by kernel_rfl
theorem laidOut : laidOutB Try.prog = true := by kernel_rfl

set_option linter.unusedSimpArgs false

abbrev KR0 (W W' : World) : Prop := (∀ b o, b < W.heap.size → W'.cell? ⟨b, o, none⟩ = W.cell? ⟨b, o, none⟩) ∧ Below W.heap.size W W'

set_option maxRecDepth 100000 in
set_option maxHeartbeats 8000000 in
theorem inner (cr0 : CrI) (cr1 : CrI) (c : Int) (ys : List Int) (w : World) (hm0 : cr0.gn ≤ maxLen) (h0 : IntIn w cr0.ga cr0.gn cr0.zs) (hm1 : cr1.gn ≤ maxLen) (h1 : IntIn w cr1.ga cr1.gn cr1.zs) (hy : ys.length ≤ 1000)
    (HS : Hid (cr0.gn ≤ 1048576 → cr1.gn ≤ 1048576 → ∀ (g0 : Nat) (g1 : Nat) (W : World), IntCp g0 cr0.gn cr0.zs W → IntCp g1 cr1.gn cr1.zs W → Calls Try.prog 26 #[.agg #[.int .i64 cr0.k, .int .i64 cr0.e, .int .i64 cr0.f, .int .i64 cr0.s, .int .i64 cr0.n, .slice (some ⟨g0, 0, none⟩) cr0.gn cr0.gn], .agg #[.int .i64 cr1.k, .int .i64 cr1.e, .int .i64 cr1.f, .int .i64 cr1.s, .int .i64 cr1.n, .slice (some ⟨g1, 0, none⟩) cr1.gn cr1.gn]] W fun e W' => ∃ a cap, e = .returned (.agg #[.int .i64 c, .slice a ys.length cap]) ∧ W'.ownsRow W.heap.size 2 1 (.slice a ys.length cap) ys.length (ys.map (Value.int .i64)) ∧ Below W.heap.size W W'))
    (HI : Hid (cr0.gn ≤ 1048576 → cr1.gn ≤ 1048576 → ∀ (g0 : Nat) (g1 : Nat) (W : World), IntCp g0 cr0.gn cr0.zs W → IntCp g1 cr1.gn cr1.zs W → Calls Try.prog 25 #[.agg #[.int .i64 cr0.k, .int .i64 cr0.e, .int .i64 cr0.f, .int .i64 cr0.s, .int .i64 cr0.n, .slice (some ⟨g0, 0, none⟩) cr0.gn cr0.gn], .agg #[.int .i64 cr1.k, .int .i64 cr1.e, .int .i64 cr1.f, .int .i64 cr1.s, .int .i64 cr1.n, .slice (some ⟨g1, 0, none⟩) cr1.gn cr1.gn]] W fun e W' => ∃ a cap, e = .returned (.agg #[.int .i64 c, .slice a ys.length cap]) ∧ W'.ownsRow W.heap.size 2 1 (.slice a ys.length cap) ys.length (ys.map (Value.int .i64)) ∧ Below W.heap.size W W')) :
    Calls Try.prog 10 #[.agg #[.int .i64 cr0.k, .int .i64 cr0.e, .int .i64 cr0.f, .int .i64 cr0.s, .int .i64 cr0.n, .slice cr0.ga cr0.gn cr0.gc], .agg #[.int .i64 cr1.k, .int .i64 cr1.e, .int .i64 cr1.f, .int .i64 cr1.s, .int .i64 cr1.n, .slice cr1.ga cr1.gn cr1.gc]] w fun e w' => e = .returned (.bool true) ∧ Below w.heap.size w w' := by
  have H0 : Hid (IntIn w cr0.ga cr0.gn cr0.zs) := h0
  have HZ0 : Hid (cr0.zs.length = cr0.gn) := h0.1
  clear h0
  have H1 : Hid (IntIn w cr1.ga cr1.gn cr1.zs) := h1
  have HZ1 : Hid (cr1.zs.length = cr1.gn) := h1.1
  clear h1
  have hyl : ys.length ≤ 1048576 := by omega
  have hyi : (ys.length : Int) ≤ 1000 := by omega
  obtain ⟨V, hV⟩ : ∃ V, V = ((w.alloc (.cells #[.int .i64 cr0.k, .int .i64 cr0.e, .int .i64 cr0.f, .int .i64 cr0.s, .int .i64 cr0.n, .slice cr0.ga cr0.gn cr0.gc] 62)).alloc (.cells #[.int .i64 cr1.k, .int .i64 cr1.e, .int .i64 cr1.f, .int .i64 cr1.s, .int .i64 cr1.n, .slice cr1.ga cr1.gn cr1.gc] 62)) := ⟨_, rfl⟩
  have B0 : Hid (Below w.heap.size w V) := by rw [hV]; exact ((Below.refl _ _).alloc (Nat.le_refl _) _).alloc (by first | (simp; done) | (simp; omega)) _
  have F1 : Hid (Hold (w.heap.size) (w.heap.size + 1) (BoxV (w.heap.size) [.int .i64 cr0.k, .int .i64 cr0.e, .int .i64 cr0.f, .int .i64 cr0.s, .int .i64 cr0.n, .slice cr0.ga cr0.gn cr0.gc]) V) := by rw [hV]; have q := boxV_new w #[.int .i64 cr0.k, .int .i64 cr0.e, .int .i64 cr0.f, .int .i64 cr0.s, .int .i64 cr0.n, .slice cr0.ga cr0.gn cr0.gc] 62; exact (q.alloc _)
  have hl2 := F1.out.le
  have F3 : Hid (Hold (w.heap.size + 1) (w.heap.size + 1 + 1) (BoxV (w.heap.size + 1) [.int .i64 cr1.k, .int .i64 cr1.e, .int .i64 cr1.f, .int .i64 cr1.s, .int .i64 cr1.n, .slice cr1.ga cr1.gn cr1.gc]) V) := by rw [hV]; have q := boxV_new (w.alloc (.cells #[.int .i64 cr0.k, .int .i64 cr0.e, .int .i64 cr0.f, .int .i64 cr0.s, .int .i64 cr0.n, .slice cr0.ga cr0.gn cr0.gc] 62)) #[.int .i64 cr1.k, .int .i64 cr1.e, .int .i64 cr1.f, .int .i64 cr1.s, .int .i64 cr1.n, .slice cr1.ga cr1.gn cr1.gc] 62; simp only [World.size_alloc] at q; exact q
  have hl4 := F3.out.le
  have hz0 := B0.out.size
  go_enter Try.func10, Try.ntmps10
  go_wp2_with fail
  rw [← hV]
  clear hV
  refine (szCert_c cr0 1048576 _ hm0 (by omega) (by omega)).mono ?_
  rintro e w6 ⟨⟨v5, rfl, hv, hv2⟩, hb⟩
  have B7 : Hid (Below w.heap.size w w6) := B0.out.trans (hb.mono B0.out.size)
  have hz8 := hb.size
  have F9 : Hid (Hold (w.heap.size) (w.heap.size + 1) (BoxV (w.heap.size) [.int .i64 cr0.k, .int .i64 cr0.e, .int .i64 cr0.f, .int .i64 cr0.s, .int .i64 cr0.n, .slice cr0.ga cr0.gn cr0.gc]) w6) := F1.out.below hb
  have F10 : Hid (Hold (w.heap.size + 1) (w.heap.size + 1 + 1) (BoxV (w.heap.size + 1) [.int .i64 cr1.k, .int .i64 cr1.e, .int .i64 cr1.f, .int .i64 cr1.s, .int .i64 cr1.n, .slice cr1.ga cr1.gn cr1.gc]) w6) := F3.out.below hb
  clear B0 F1 F3
  clear hb
  by_cases hneg : v5 < 0
  · go_wp2
    go_ret
    exact ⟨rfl, B7.out⟩
  have hs0 : cr0.gn ≤ 1048576 := hv2 (by omega)
  have hiv5 : 0 ≤ v5 ∧ v5 ≤ 1048576 := ⟨by omega, by omega⟩
  clear hv2 hneg
  have b10 := F10.out.out 0 _ rfl
  have b11 := F10.out.out 1 _ rfl
  have b12 := F10.out.out 2 _ rfl
  have b13 := F10.out.out 3 _ rfl
  have b14 := F10.out.out 4 _ rfl
  have b15 := F10.out.out 5 _ rfl
  go_wp2_with fail
  refine (szCert_c cr1 v5 _ hm1 (by omega) (by omega)).mono ?_
  rintro e w12 ⟨⟨v11, rfl, hv, hv2⟩, hb⟩
  have B13 : Hid (Below w.heap.size w w12) := B7.out.trans (hb.mono B7.out.size)
  have hz14 := hb.size
  have F15 : Hid (Hold (w.heap.size) (w.heap.size + 1) (BoxV (w.heap.size) [.int .i64 cr0.k, .int .i64 cr0.e, .int .i64 cr0.f, .int .i64 cr0.s, .int .i64 cr0.n, .slice cr0.ga cr0.gn cr0.gc]) w12) := F9.out.below hb
  have F16 : Hid (Hold (w.heap.size + 1) (w.heap.size + 1 + 1) (BoxV (w.heap.size + 1) [.int .i64 cr1.k, .int .i64 cr1.e, .int .i64 cr1.f, .int .i64 cr1.s, .int .i64 cr1.n, .slice cr1.ga cr1.gn cr1.gc]) w12) := F10.out.below hb
  clear B7 F9 F10
  clear b10 b11 b12 b13 b14 b15
  clear hb
  by_cases hneg : v11 < 0
  · go_wp2
    go_ret
    exact ⟨rfl, B13.out⟩
  have hs1 : cr1.gn ≤ 1048576 := hv2 (by omega)
  have hiv11 : 0 ≤ v11 ∧ v11 ≤ v5 := ⟨by omega, by omega⟩
  clear hv2 hneg
  have HS' := HS.out hs0 hs1
  have HI' := HI.out hs0 hs1
  have HSP : Hid _ := HS'
  have HIM : Hid _ := HI'
  clear HS' HI' HS HI
  have b00 := F15.out.out 0 _ rfl
  have b01 := F15.out.out 1 _ rfl
  have b02 := F15.out.out 2 _ rfl
  have b03 := F15.out.out 3 _ rfl
  have b04 := F15.out.out 4 _ rfl
  have b05 := F15.out.out 5 _ rfl
  have hbl0 : w.heap.size < w12.heap.size := by omega
  have b10 := F16.out.out 0 _ rfl
  have b11 := F16.out.out 1 _ rfl
  have b12 := F16.out.out 2 _ rfl
  have b13 := F16.out.out 3 _ rfl
  have b14 := F16.out.out 4 _ rfl
  have b15 := F16.out.out 5 _ rfl
  have hbl1 : w.heap.size + 1 < w12.heap.size := by omega
  go_upto_region 8 with fail
  have HTO0 : Hid (∀ w2, KR0 w12 w2 → Below w.heap.size w w2) := fun w2 q => B13.out.trans (q.2.mono B13.out.size)
  have HTO1 : Hid (∀ w2, KR0 w12 w2 → Below w.heap.size w w2) := fun w2 q => B13.out.trans (q.2.mono B13.out.size)
  go_cut [6] from 24 to 28 (fun s wx => ResB 2 1 ys.length (ys.map (Value.int .i64)) (fun z => [.int .i64 c, z]) w12 s wx)
  case first =>
    refine wp_region_held_drew (S := fun w' => KR0 w12 w') (by kernel_rfl) (kp_drew _) (fun hHeld => ?_)
    refine wpAnyH_take (i := 0) (v := ?_) rfl (by kernel_rfl) (by kernel_rfl) (by kernel_rfl) (fun _ _ _ h => h) (Or.inl ⟨by kernel_rfl, ?_⟩) (by assumption) ?_
    rotate_left 1
    · intro w hSw; (try dsimp only at hSw); go_simp; try (with_reducible rfl)
    try simp only [Act.put, List.getElem_toArray, List.getElem_cons_succ, List.getElem_cons_zero, List.setIfInBounds_toArray, List.set_cons_zero, List.set_cons_succ]
    refine wpAnyH_take (i := 2) (v := ?_) rfl (by kernel_rfl) (by kernel_rfl) (by kernel_rfl) (fun _ _ _ h => h) (Or.inl ⟨by kernel_rfl, ?_⟩) (by assumption) ?_
    rotate_left 1
    · intro w hSw; (try dsimp only at hSw); go_simp; try (with_reducible rfl)
    try simp only [Act.put, List.getElem_toArray, List.getElem_cons_succ, List.getElem_cons_zero, List.setIfInBounds_toArray, List.set_cons_zero, List.set_cons_succ]
    refine wpAnyH_ready (rs := [1, 5]) (by kernel_rfl) (by simp) ?_
    refine AllReadyH.cons rfl (fun K hK => ?_) (AllReadyH.cons rfl (fun K hK => ?_) AllReadyH.nil)
    · go_simp
      refine (toCert_c cr0 _ hs0 (H0.out.below (HTO0.out _ (by assumption)))).mono ?_
      rintro d y00 ⟨gn00, rfl, hge, hlt, hcp, hby00⟩
      have hS := kp_step (by assumption) hby00
      have hzy00 := hby00.size
      have E00 := IntCp.hold hcp hlt
      have hSy00 := hS
      refine hK.out _ _ hS (fun hHeld => ?_)
      clear hK K
      try simp only [Act.put, List.getElem_toArray, List.getElem_cons_succ, List.getElem_cons_zero, List.setIfInBounds_toArray, List.set_cons_zero, List.set_cons_succ]
      refine wpAnyH_ready (rs := [3, 5]) (by kernel_rfl) (by simp) ?_
      refine AllReadyH.cons rfl (fun K hK => ?_) (AllReadyH.cons rfl (fun K hK => ?_) AllReadyH.nil)
      · go_simp
        refine (toCert_c cr1 _ hs1 (H1.out.below (HTO1.out _ (by assumption)))).mono ?_
        rintro d y01 ⟨gn01, rfl, hge, hlt, hcp, hby01⟩
        have hS := kp_step (by assumption) hby01
        have hzy01 := hby01.size
        replace E00 := (by first | exact E00 | exact E00.alloc _ : Hold _ _ _ _).below hby01
        have E01 := IntCp.hold hcp hlt
        have hSy01 := hS
        refine hK.out _ _ hS (fun hHeld => ?_)
        clear hK K
        try simp only [Act.put, List.getElem_toArray, List.getElem_cons_succ, List.getElem_cons_zero, List.setIfInBounds_toArray, List.set_cons_zero, List.set_cons_succ]
        refine wpAnyH_ready (rs := [4, 5]) (by kernel_rfl) (by simp) ?_
        refine AllReadyH.cons rfl (fun K hK => ?_) (AllReadyH.cons rfl (fun K hK => ?_) AllReadyH.nil)
        · go_simp
          refine (HSP.out _ _ _ (by first | exact E00.out | exact (E00.alloc _).out) (by first | exact E01.out | exact (E01.alloc _).out)).mono ?_
          rintro d y02 ⟨ra0, rc0, rfl, how, hby02⟩
          have hS := kp_step (by assumption) hby02
          have hzy02 := hby02.size
          replace E00 := (by first | exact E00 | exact E00.alloc _ : Hold _ _ _ _).below hby02
          replace E01 := (by first | exact E01 | exact E01.alloc _ : Hold _ _ _ _).below hby02
          have hbase := hzy02
          have hSy02 := hS
          refine hK.out _ _ hS (fun hHeld => ?_)
          clear hK K
          try simp only [Act.put, List.getElem_toArray, List.getElem_cons_succ, List.getElem_cons_zero, List.setIfInBounds_toArray, List.set_cons_zero, List.set_cons_succ]
          refine wpAnyH_ready (rs := [5]) (by kernel_rfl) (by simp) ?_
          refine AllReadyH.cons rfl (fun K hK => ?_) AllReadyH.nil
          go_simp
          have hS := kpE_new (by assumption) (.cells #[.int .i64 0, .slice none 0 0] 37)
          refine hK.out _ _ hS (fun hHeld => ?_)
          clear hK K
          try simp only [Act.put, List.getElem_toArray, List.getElem_cons_succ, List.getElem_cons_zero, List.setIfInBounds_toArray, List.set_cons_zero, List.set_cons_succ]
          refine wpAnyH_ready (rs := [6]) (by kernel_rfl) (by simp) ?_
          refine AllReadyH.cons rfl (fun K hK => ?_) AllReadyH.nil
          go_simp
          have hS := kpE_new hSy02 (.cells #[.int .i64 c, .slice ra0 ys.length rc0] 37)
          refine hK.out _ _ hS (fun hHeld => ?_)
          clear hK K
          try simp only [Act.put, List.getElem_toArray, List.getElem_cons_succ, List.getElem_cons_zero, List.setIfInBounds_toArray, List.set_cons_zero, List.set_cons_succ]
          refine wpAnyH_done (by kernel_rfl) ?_ _
          go_wp2_with fail
          go_meet
          refine ⟨y02.heap.size, _, _, ra0, rc0, rfl, hSy02.2.size, ?_, ?_, (owns_hold0 how).alloc _, hSy02.2.alloc hSy02.2.size _⟩
          · first | exact Nat.le_refl _ | exact hSy01.2.size | (simp; try omega)
          · exact boxV_new y02 #[.int .i64 c, .slice ra0 ys.length rc0] 37
        · go_simp
          have hS := kpE_new (by assumption) (.cells #[.int .i64 0, .slice none 0 0] 37)
          refine hK.out _ _ hS (fun hHeld => ?_)
          clear hK K
          try simp only [Act.put, List.getElem_toArray, List.getElem_cons_succ, List.getElem_cons_zero, List.setIfInBounds_toArray, List.set_cons_zero, List.set_cons_succ]
          refine wpAnyH_ready (rs := [4]) (by kernel_rfl) (by simp) ?_
          refine AllReadyH.cons rfl (fun K hK => ?_) AllReadyH.nil
          go_simp
          refine (HSP.out _ _ _ (by first | exact E00.out | exact (E00.alloc _).out) (by first | exact E01.out | exact (E01.alloc _).out)).mono ?_
          rintro d y02 ⟨ra0, rc0, rfl, how, hby02⟩
          have hS := kp_step (by assumption) hby02
          have hzy02 := hby02.size
          replace E00 := (by first | exact E00 | exact E00.alloc _ : Hold _ _ _ _).below hby02
          replace E01 := (by first | exact E01 | exact E01.alloc _ : Hold _ _ _ _).below hby02
          have n0 : y02.cell? ⟨y01.heap.size, 0, none⟩ = some (.int .i64 0) := (hby02.cell (p := ⟨y01.heap.size, 0, none⟩) (by simp)).trans (by simp)
          have f0 : y02.frozen? ⟨y01.heap.size, 0, none⟩ = false := (hby02.frozen (p := ⟨y01.heap.size, 0, none⟩) (by simp)).trans (by simp [go_sem])
          have n1 : y02.cell? ⟨y01.heap.size, 1, none⟩ = some (.slice none 0 0) := (hby02.cell (p := ⟨y01.heap.size, 1, none⟩) (by simp)).trans (by simp)
          have f1 : y02.frozen? ⟨y01.heap.size, 1, none⟩ = false := (hby02.frozen (p := ⟨y01.heap.size, 1, none⟩) (by simp)).trans (by simp [go_sem])
          have hlw : y01.heap.size < y02.heap.size := by have q := hby02.size; simp at q; omega
          have hgB : w12.heap.size ≤ y01.heap.size := by first | exact Nat.le_refl _ | exact hSy01.2.size
          have hbase := hzy02
          have hSy02 := hS
          refine hK.out _ _ hS (fun hHeld => ?_)
          clear hK K
          try simp only [Act.put, List.getElem_toArray, List.getElem_cons_succ, List.getElem_cons_zero, List.setIfInBounds_toArray, List.set_cons_zero, List.set_cons_succ]
          refine wpAnyH_ready (rs := [6]) (by kernel_rfl) (by simp) ?_
          refine AllReadyH.cons rfl (fun K hK => ?_) AllReadyH.nil
          go_simp
          have hS := (kpE_set (kpE_set hSy02 (p := ⟨y01.heap.size, 0, none⟩) hgB (.int .i64 c)) (p := ⟨y01.heap.size, 1, none⟩) hgB (.slice ra0 ys.length rc0))
          refine hK.out _ _ hS (fun hHeld => ?_)
          clear hK K
          try simp only [Act.put, List.getElem_toArray, List.getElem_cons_succ, List.getElem_cons_zero, List.setIfInBounds_toArray, List.set_cons_zero, List.set_cons_succ]
          refine wpAnyH_done (by kernel_rfl) ?_ _
          go_wp2_with fail
          go_meet
          refine ⟨y01.heap.size, _, _, ra0, rc0, rfl, hgB, ?_, ?_, owns_hold0 (ownsE_set (ownsE_set how (a := ⟨y01.heap.size, 0, none⟩) (by first | exact hlb | (simp; done) | (simp; omega)) _) (a := ⟨y01.heap.size, 1, none⟩) (by first | exact hlb | (simp; done) | (simp; omega)) _), ((hSy02.2.setCell hgB _).setCell hgB _)⟩
          · first | exact Nat.le_refl _ | exact hSy01.2.size | (simp; try omega)
          · refine BoxV.hold (fun j v e => ?_) (by simp; omega)
            have hj : j < 2 := by by_cases q : j < 2; exact q; rw [List.getElem?_eq_none (by simp; omega)] at e; cases e
            have hj' : j = 0 ∨ j = 1 := by omega
            rcases hj' with rfl | rfl
            all_goals (simp at e; subst e; simp [go_sem, n0, n1])
      · go_simp
        have hS := kpE_new (by assumption) (.cells #[.int .i64 0, .slice none 0 0] 37)
        refine hK.out _ _ hS (fun hHeld => ?_)
        clear hK K
        try simp only [Act.put, List.getElem_toArray, List.getElem_cons_succ, List.getElem_cons_zero, List.setIfInBounds_toArray, List.set_cons_zero, List.set_cons_succ]
        refine wpAnyH_ready (rs := [3]) (by kernel_rfl) (by simp) ?_
        refine AllReadyH.cons rfl (fun K hK => ?_) AllReadyH.nil
        go_simp
        refine (toCert_c cr1 _ hs1 (H1.out.below (HTO1.out _ (by assumption)))).mono ?_
        rintro d y01 ⟨gn01, rfl, hge, hlt, hcp, hby01⟩
        have hS := kp_step (by assumption) hby01
        have hzy01 := hby01.size
        replace E00 := (by first | exact E00 | exact E00.alloc _ : Hold _ _ _ _).below hby01
        have E01 := IntCp.hold hcp hlt
        have n0 : y01.cell? ⟨y00.heap.size, 0, none⟩ = some (.int .i64 0) := (hby01.cell (p := ⟨y00.heap.size, 0, none⟩) (by simp)).trans (by simp)
        have f0 : y01.frozen? ⟨y00.heap.size, 0, none⟩ = false := (hby01.frozen (p := ⟨y00.heap.size, 0, none⟩) (by simp)).trans (by simp [go_sem])
        have n1 : y01.cell? ⟨y00.heap.size, 1, none⟩ = some (.slice none 0 0) := (hby01.cell (p := ⟨y00.heap.size, 1, none⟩) (by simp)).trans (by simp)
        have f1 : y01.frozen? ⟨y00.heap.size, 1, none⟩ = false := (hby01.frozen (p := ⟨y00.heap.size, 1, none⟩) (by simp)).trans (by simp [go_sem])
        have hlw : y00.heap.size < y01.heap.size := by have q := hby01.size; simp at q; omega
        have hgB : w12.heap.size ≤ y00.heap.size := by first | exact Nat.le_refl _ | exact hSy00.2.size
        have hSy01 := hS
        refine hK.out _ _ hS (fun hHeld => ?_)
        clear hK K
        try simp only [Act.put, List.getElem_toArray, List.getElem_cons_succ, List.getElem_cons_zero, List.setIfInBounds_toArray, List.set_cons_zero, List.set_cons_succ]
        refine wpAnyH_ready (rs := [4]) (by kernel_rfl) (by simp) ?_
        refine AllReadyH.cons rfl (fun K hK => ?_) AllReadyH.nil
        go_simp
        refine (HSP.out _ _ _ (by first | exact E00.out | exact (E00.alloc _).out) (by first | exact E01.out | exact (E01.alloc _).out)).mono ?_
        rintro d y02 ⟨ra0, rc0, rfl, how, hby02⟩
        have hS := kp_step (by assumption) hby02
        have hzy02 := hby02.size
        replace E00 := (by first | exact E00 | exact E00.alloc _ : Hold _ _ _ _).below hby02
        replace E01 := (by first | exact E01 | exact E01.alloc _ : Hold _ _ _ _).below hby02
        replace n0 := (hby02.cell (p := ⟨y00.heap.size, 0, none⟩) hlw).trans n0
        replace f0 := (hby02.frozen (p := ⟨y00.heap.size, 0, none⟩) hlw).trans f0
        replace n1 := (hby02.cell (p := ⟨y00.heap.size, 1, none⟩) hlw).trans n1
        replace f1 := (hby02.frozen (p := ⟨y00.heap.size, 1, none⟩) hlw).trans f1
        have hlb := hlw
        replace hlw : y00.heap.size < y02.heap.size := by omega
        have hbase := hzy02
        have hSy02 := hS
        refine hK.out _ _ hS (fun hHeld => ?_)
        clear hK K
        try simp only [Act.put, List.getElem_toArray, List.getElem_cons_succ, List.getElem_cons_zero, List.setIfInBounds_toArray, List.set_cons_zero, List.set_cons_succ]
        refine wpAnyH_ready (rs := [6]) (by kernel_rfl) (by simp) ?_
        refine AllReadyH.cons rfl (fun K hK => ?_) AllReadyH.nil
        go_simp
        have hS := (kpE_set (kpE_set hSy02 (p := ⟨y00.heap.size, 0, none⟩) hgB (.int .i64 c)) (p := ⟨y00.heap.size, 1, none⟩) hgB (.slice ra0 ys.length rc0))
        refine hK.out _ _ hS (fun hHeld => ?_)
        clear hK K
        try simp only [Act.put, List.getElem_toArray, List.getElem_cons_succ, List.getElem_cons_zero, List.setIfInBounds_toArray, List.set_cons_zero, List.set_cons_succ]
        refine wpAnyH_done (by kernel_rfl) ?_ _
        go_wp2_with fail
        go_meet
        refine ⟨y00.heap.size, _, _, ra0, rc0, rfl, hgB, ?_, ?_, owns_hold0 (ownsE_set (ownsE_set how (a := ⟨y00.heap.size, 0, none⟩) (by first | exact hlb | (simp; done) | (simp; omega)) _) (a := ⟨y00.heap.size, 1, none⟩) (by first | exact hlb | (simp; done) | (simp; omega)) _), ((hSy02.2.setCell hgB _).setCell hgB _)⟩
        · first | exact Nat.le_refl _ | exact hSy01.2.size | (simp; try omega)
        · refine BoxV.hold (fun j v e => ?_) (by simp; omega)
          have hj : j < 2 := by by_cases q : j < 2; exact q; rw [List.getElem?_eq_none (by simp; omega)] at e; cases e
          have hj' : j = 0 ∨ j = 1 := by omega
          rcases hj' with rfl | rfl
          all_goals (simp at e; subst e; simp [go_sem, n0, n1])
    · go_simp
      have hS := kpE_new (by assumption) (.cells #[.int .i64 0, .slice none 0 0] 37)
      refine hK.out _ _ hS (fun hHeld => ?_)
      clear hK K
      try simp only [Act.put, List.getElem_toArray, List.getElem_cons_succ, List.getElem_cons_zero, List.setIfInBounds_toArray, List.set_cons_zero, List.set_cons_succ]
      refine wpAnyH_ready (rs := [1]) (by kernel_rfl) (by simp) ?_
      refine AllReadyH.cons rfl (fun K hK => ?_) AllReadyH.nil
      go_simp
      refine (toCert_c cr0 _ hs0 (H0.out.below (HTO0.out _ (by assumption)))).mono ?_
      rintro d y00 ⟨gn00, rfl, hge, hlt, hcp, hby00⟩
      have hS := kp_step (by assumption) hby00
      have hzy00 := hby00.size
      have E00 := IntCp.hold hcp hlt
      have n0 : y00.cell? ⟨w12.heap.size, 0, none⟩ = some (.int .i64 0) := (hby00.cell (p := ⟨w12.heap.size, 0, none⟩) (by simp)).trans (by simp)
      have f0 : y00.frozen? ⟨w12.heap.size, 0, none⟩ = false := (hby00.frozen (p := ⟨w12.heap.size, 0, none⟩) (by simp)).trans (by simp [go_sem])
      have n1 : y00.cell? ⟨w12.heap.size, 1, none⟩ = some (.slice none 0 0) := (hby00.cell (p := ⟨w12.heap.size, 1, none⟩) (by simp)).trans (by simp)
      have f1 : y00.frozen? ⟨w12.heap.size, 1, none⟩ = false := (hby00.frozen (p := ⟨w12.heap.size, 1, none⟩) (by simp)).trans (by simp [go_sem])
      have hlw : w12.heap.size < y00.heap.size := by have q := hby00.size; simp at q; omega
      have hgB : w12.heap.size ≤ w12.heap.size := Nat.le_refl _
      have hSy00 := hS
      refine hK.out _ _ hS (fun hHeld => ?_)
      clear hK K
      try simp only [Act.put, List.getElem_toArray, List.getElem_cons_succ, List.getElem_cons_zero, List.setIfInBounds_toArray, List.set_cons_zero, List.set_cons_succ]
      refine wpAnyH_ready (rs := [3]) (by kernel_rfl) (by simp) ?_
      refine AllReadyH.cons rfl (fun K hK => ?_) AllReadyH.nil
      go_simp
      refine (toCert_c cr1 _ hs1 (H1.out.below (HTO1.out _ (by assumption)))).mono ?_
      rintro d y01 ⟨gn01, rfl, hge, hlt, hcp, hby01⟩
      have hS := kp_step (by assumption) hby01
      have hzy01 := hby01.size
      replace E00 := (by first | exact E00 | exact E00.alloc _ : Hold _ _ _ _).below hby01
      have E01 := IntCp.hold hcp hlt
      replace n0 := (hby01.cell (p := ⟨w12.heap.size, 0, none⟩) hlw).trans n0
      replace f0 := (hby01.frozen (p := ⟨w12.heap.size, 0, none⟩) hlw).trans f0
      replace n1 := (hby01.cell (p := ⟨w12.heap.size, 1, none⟩) hlw).trans n1
      replace f1 := (hby01.frozen (p := ⟨w12.heap.size, 1, none⟩) hlw).trans f1
      have hlb := hlw
      replace hlw : w12.heap.size < y01.heap.size := by omega
      have hSy01 := hS
      refine hK.out _ _ hS (fun hHeld => ?_)
      clear hK K
      try simp only [Act.put, List.getElem_toArray, List.getElem_cons_succ, List.getElem_cons_zero, List.setIfInBounds_toArray, List.set_cons_zero, List.set_cons_succ]
      refine wpAnyH_ready (rs := [4]) (by kernel_rfl) (by simp) ?_
      refine AllReadyH.cons rfl (fun K hK => ?_) AllReadyH.nil
      go_simp
      refine (HSP.out _ _ _ (by first | exact E00.out | exact (E00.alloc _).out) (by first | exact E01.out | exact (E01.alloc _).out)).mono ?_
      rintro d y02 ⟨ra0, rc0, rfl, how, hby02⟩
      have hS := kp_step (by assumption) hby02
      have hzy02 := hby02.size
      replace E00 := (by first | exact E00 | exact E00.alloc _ : Hold _ _ _ _).below hby02
      replace E01 := (by first | exact E01 | exact E01.alloc _ : Hold _ _ _ _).below hby02
      replace n0 := (hby02.cell (p := ⟨w12.heap.size, 0, none⟩) hlw).trans n0
      replace f0 := (hby02.frozen (p := ⟨w12.heap.size, 0, none⟩) hlw).trans f0
      replace n1 := (hby02.cell (p := ⟨w12.heap.size, 1, none⟩) hlw).trans n1
      replace f1 := (hby02.frozen (p := ⟨w12.heap.size, 1, none⟩) hlw).trans f1
      have hlb := hlw
      replace hlw : w12.heap.size < y02.heap.size := by omega
      have hbase := hzy02
      have hSy02 := hS
      refine hK.out _ _ hS (fun hHeld => ?_)
      clear hK K
      try simp only [Act.put, List.getElem_toArray, List.getElem_cons_succ, List.getElem_cons_zero, List.setIfInBounds_toArray, List.set_cons_zero, List.set_cons_succ]
      refine wpAnyH_ready (rs := [6]) (by kernel_rfl) (by simp) ?_
      refine AllReadyH.cons rfl (fun K hK => ?_) AllReadyH.nil
      go_simp
      have hS := (kpE_set (kpE_set hSy02 (p := ⟨w12.heap.size, 0, none⟩) hgB (.int .i64 c)) (p := ⟨w12.heap.size, 1, none⟩) hgB (.slice ra0 ys.length rc0))
      refine hK.out _ _ hS (fun hHeld => ?_)
      clear hK K
      try simp only [Act.put, List.getElem_toArray, List.getElem_cons_succ, List.getElem_cons_zero, List.setIfInBounds_toArray, List.set_cons_zero, List.set_cons_succ]
      refine wpAnyH_done (by kernel_rfl) ?_ _
      go_wp2_with fail
      go_meet
      refine ⟨w12.heap.size, _, _, ra0, rc0, rfl, hgB, ?_, ?_, owns_hold0 (ownsE_set (ownsE_set how (a := ⟨w12.heap.size, 0, none⟩) (by first | exact hlb | (simp; done) | (simp; omega)) _) (a := ⟨w12.heap.size, 1, none⟩) (by first | exact hlb | (simp; done) | (simp; omega)) _), ((hSy02.2.setCell hgB _).setCell hgB _)⟩
      · first | exact Nat.le_refl _ | exact hSy01.2.size | (simp; try omega)
      · refine BoxV.hold (fun j v e => ?_) (by simp; omega)
        have hj : j < 2 := by by_cases q : j < 2; exact q; rw [List.getElem?_eq_none (by simp; omega)] at e; cases e
        have hj' : j = 0 ∨ j = 1 := by omega
        rcases hj' with rfl | rfl
        all_goals (simp at e; subst e; simp [go_sem, n0, n1])
  case rest =>
    obtain ⟨U17, rfl⟩ : ∃ U, U = wc := ⟨_, rfl⟩
    obtain ⟨rBS, rloS, rhiS, raS, rcS, rfl, hge, hglo, hbx, hrow, hb⟩ := hcut
    have B18 : Hid (Below w.heap.size w U17) := B13.out.trans (hb.mono B13.out.size)
    have hz19 := hb.size
    have F20 : Hid (Hold (w.heap.size) (w.heap.size + 1) (BoxV (w.heap.size) [.int .i64 cr0.k, .int .i64 cr0.e, .int .i64 cr0.f, .int .i64 cr0.s, .int .i64 cr0.n, .slice cr0.ga cr0.gn cr0.gc]) U17) := F15.out.below hb
    have F21 : Hid (Hold (w.heap.size + 1) (w.heap.size + 1 + 1) (BoxV (w.heap.size + 1) [.int .i64 cr1.k, .int .i64 cr1.e, .int .i64 cr1.f, .int .i64 cr1.s, .int .i64 cr1.n, .slice cr1.ga cr1.gn cr1.gc]) U17) := F16.out.below hb
    clear B13 F15 F16
    have F22 : Hid (Hold (rBS) (rBS + 1) (BoxV rBS [.int .i64 c, .slice raS ys.length rcS]) U17) := hbx
    have hl23 := F22.out.le
    have F24 : Hid (Hold (rloS) (rhiS) (fun X => X.ownsRow rloS 2 1 (.slice raS ys.length rcS) ys.length (ys.map (Value.int .i64))) U17) := hrow
    have hl25 := F24.out.le
    clear hbx hrow hb
    clear b00 b01 b02 b03 b04 b05 b10 b11 b12 b13 b14 b15
    clear hbl0
    clear hbl1
    clear HTO0
    clear HTO1
    have hNB : w.heap.size ≤ U17.heap.size := B18.out.size
    have b00 := F20.out.out 0 _ rfl
    have b01 := F20.out.out 1 _ rfl
    have b02 := F20.out.out 2 _ rfl
    have b03 := F20.out.out 3 _ rfl
    have b04 := F20.out.out 4 _ rfl
    have b05 := F20.out.out 5 _ rfl
    go_wp2_with fail
    refine (toCert_c cr0 _ hs0 (H0.out.below B18.out)).mono ?_
    rintro e w26 ⟨xg0, rfl, hge, hlt, hcp, hb⟩
    have B27 : Hid (Below w.heap.size w w26) := B18.out.trans (hb.mono B18.out.size)
    have hz28 := hb.size
    have F29 : Hid (Hold (w.heap.size) (w.heap.size + 1) (BoxV (w.heap.size) [.int .i64 cr0.k, .int .i64 cr0.e, .int .i64 cr0.f, .int .i64 cr0.s, .int .i64 cr0.n, .slice cr0.ga cr0.gn cr0.gc]) w26) := F20.out.below hb
    have F30 : Hid (Hold (w.heap.size + 1) (w.heap.size + 1 + 1) (BoxV (w.heap.size + 1) [.int .i64 cr1.k, .int .i64 cr1.e, .int .i64 cr1.f, .int .i64 cr1.s, .int .i64 cr1.n, .slice cr1.ga cr1.gn cr1.gc]) w26) := F21.out.below hb
    have F31 : Hid (Hold (rBS) (rBS + 1) (BoxV rBS [.int .i64 c, .slice raS ys.length rcS]) w26) := F22.out.below hb
    have F32 : Hid (Hold (rloS) (rhiS) (fun X => X.ownsRow rloS 2 1 (.slice raS ys.length rcS) ys.length (ys.map (Value.int .i64))) w26) := F24.out.below hb
    clear B18 F20 F21 F22 F24
    have F33 : Hid (Hold (xg0) (xg0 + 1) (IntCp xg0 cr0.gn cr0.zs) w26) := IntCp.hold hcp hlt
    have hl34 := F33.out.le
    have hgexg0 : U17.heap.size ≤ xg0 := hge
    clear hcp hlt hb hge
    clear b00 b01 b02 b03 b04 b05
    go_upto_region 10 with fail
    obtain ⟨w35, hX⟩ : ∃ X, X = w26.alloc (.cells #[.int .i64 cr0.k, .int .i64 cr0.e, .int .i64 cr0.f, .int .i64 cr0.s, .int .i64 cr0.n, .slice (some ⟨xg0, 0, none⟩) cr0.gn cr0.gn] 31) := ⟨_, rfl⟩
    rw [← hX]
    have hb : Below w26.heap.size w26 w35 := by rw [hX]; exact (Below.refl _ _).alloc (Nat.le_refl _) _
    have hbx : Hold w26.heap.size (w26.heap.size + 1) (BoxV w26.heap.size [.int .i64 cr0.k, .int .i64 cr0.e, .int .i64 cr0.f, .int .i64 cr0.s, .int .i64 cr0.n, .slice (some ⟨xg0, 0, none⟩) cr0.gn cr0.gn]) w35 := by rw [hX]; exact boxV_new w26 #[.int .i64 cr0.k, .int .i64 cr0.e, .int .i64 cr0.f, .int .i64 cr0.s, .int .i64 cr0.n, .slice (some ⟨xg0, 0, none⟩) cr0.gn cr0.gn] 31
    clear hX
    have B36 : Hid (Below w.heap.size w w35) := B27.out.trans (hb.mono B27.out.size)
    have hz37 := hb.size
    have F38 : Hid (Hold (w.heap.size) (w.heap.size + 1) (BoxV (w.heap.size) [.int .i64 cr0.k, .int .i64 cr0.e, .int .i64 cr0.f, .int .i64 cr0.s, .int .i64 cr0.n, .slice cr0.ga cr0.gn cr0.gc]) w35) := F29.out.below hb
    have F39 : Hid (Hold (w.heap.size + 1) (w.heap.size + 1 + 1) (BoxV (w.heap.size + 1) [.int .i64 cr1.k, .int .i64 cr1.e, .int .i64 cr1.f, .int .i64 cr1.s, .int .i64 cr1.n, .slice cr1.ga cr1.gn cr1.gc]) w35) := F30.out.below hb
    have F40 : Hid (Hold (rBS) (rBS + 1) (BoxV rBS [.int .i64 c, .slice raS ys.length rcS]) w35) := F31.out.below hb
    have F41 : Hid (Hold (rloS) (rhiS) (fun X => X.ownsRow rloS 2 1 (.slice raS ys.length rcS) ys.length (ys.map (Value.int .i64))) w35) := F32.out.below hb
    have F42 : Hid (Hold (xg0) (xg0 + 1) (IntCp xg0 cr0.gn cr0.zs) w35) := F33.out.below hb
    clear B27 F29 F30 F31 F32 F33
    have F43 : Hid (Hold (w26.heap.size) (w26.heap.size + 1) (BoxV w26.heap.size [.int .i64 cr0.k, .int .i64 cr0.e, .int .i64 cr0.f, .int .i64 cr0.s, .int .i64 cr0.n, .slice (some ⟨xg0, 0, none⟩) cr0.gn cr0.gn]) w35) := hbx
    have hl44 := F43.out.le
    clear hbx hb
    have b10 := F39.out.out 0 _ rfl
    have b11 := F39.out.out 1 _ rfl
    have b12 := F39.out.out 2 _ rfl
    have b13 := F39.out.out 3 _ rfl
    have b14 := F39.out.out 4 _ rfl
    have b15 := F39.out.out 5 _ rfl
    go_wp2_with fail
    refine (toCert_c cr1 _ hs1 (H1.out.below B36.out)).mono ?_
    rintro e w45 ⟨xg1, rfl, hge, hlt, hcp, hb⟩
    have B46 : Hid (Below w.heap.size w w45) := B36.out.trans (hb.mono B36.out.size)
    have hz47 := hb.size
    have F48 : Hid (Hold (w.heap.size) (w.heap.size + 1) (BoxV (w.heap.size) [.int .i64 cr0.k, .int .i64 cr0.e, .int .i64 cr0.f, .int .i64 cr0.s, .int .i64 cr0.n, .slice cr0.ga cr0.gn cr0.gc]) w45) := F38.out.below hb
    have F49 : Hid (Hold (w.heap.size + 1) (w.heap.size + 1 + 1) (BoxV (w.heap.size + 1) [.int .i64 cr1.k, .int .i64 cr1.e, .int .i64 cr1.f, .int .i64 cr1.s, .int .i64 cr1.n, .slice cr1.ga cr1.gn cr1.gc]) w45) := F39.out.below hb
    have F50 : Hid (Hold (rBS) (rBS + 1) (BoxV rBS [.int .i64 c, .slice raS ys.length rcS]) w45) := F40.out.below hb
    have F51 : Hid (Hold (rloS) (rhiS) (fun X => X.ownsRow rloS 2 1 (.slice raS ys.length rcS) ys.length (ys.map (Value.int .i64))) w45) := F41.out.below hb
    have F52 : Hid (Hold (xg0) (xg0 + 1) (IntCp xg0 cr0.gn cr0.zs) w45) := F42.out.below hb
    have F53 : Hid (Hold (w26.heap.size) (w26.heap.size + 1) (BoxV w26.heap.size [.int .i64 cr0.k, .int .i64 cr0.e, .int .i64 cr0.f, .int .i64 cr0.s, .int .i64 cr0.n, .slice (some ⟨xg0, 0, none⟩) cr0.gn cr0.gn]) w45) := F43.out.below hb
    clear B36 F38 F39 F40 F41 F42 F43
    have F54 : Hid (Hold (xg1) (xg1 + 1) (IntCp xg1 cr1.gn cr1.zs) w45) := IntCp.hold hcp hlt
    have hl55 := F54.out.le
    have hgexg1 : w35.heap.size ≤ xg1 := hge
    clear hcp hlt hb hge
    clear b10 b11 b12 b13 b14 b15
    go_upto_region 11 with fail
    obtain ⟨w56, hX⟩ : ∃ X, X = w45.alloc (.cells #[.int .i64 cr1.k, .int .i64 cr1.e, .int .i64 cr1.f, .int .i64 cr1.s, .int .i64 cr1.n, .slice (some ⟨xg1, 0, none⟩) cr1.gn cr1.gn] 31) := ⟨_, rfl⟩
    rw [← hX]
    have hb : Below w45.heap.size w45 w56 := by rw [hX]; exact (Below.refl _ _).alloc (Nat.le_refl _) _
    have hbx : Hold w45.heap.size (w45.heap.size + 1) (BoxV w45.heap.size [.int .i64 cr1.k, .int .i64 cr1.e, .int .i64 cr1.f, .int .i64 cr1.s, .int .i64 cr1.n, .slice (some ⟨xg1, 0, none⟩) cr1.gn cr1.gn]) w56 := by rw [hX]; exact boxV_new w45 #[.int .i64 cr1.k, .int .i64 cr1.e, .int .i64 cr1.f, .int .i64 cr1.s, .int .i64 cr1.n, .slice (some ⟨xg1, 0, none⟩) cr1.gn cr1.gn] 31
    clear hX
    have B57 : Hid (Below w.heap.size w w56) := B46.out.trans (hb.mono B46.out.size)
    have hz58 := hb.size
    have F59 : Hid (Hold (w.heap.size) (w.heap.size + 1) (BoxV (w.heap.size) [.int .i64 cr0.k, .int .i64 cr0.e, .int .i64 cr0.f, .int .i64 cr0.s, .int .i64 cr0.n, .slice cr0.ga cr0.gn cr0.gc]) w56) := F48.out.below hb
    have F60 : Hid (Hold (w.heap.size + 1) (w.heap.size + 1 + 1) (BoxV (w.heap.size + 1) [.int .i64 cr1.k, .int .i64 cr1.e, .int .i64 cr1.f, .int .i64 cr1.s, .int .i64 cr1.n, .slice cr1.ga cr1.gn cr1.gc]) w56) := F49.out.below hb
    have F61 : Hid (Hold (rBS) (rBS + 1) (BoxV rBS [.int .i64 c, .slice raS ys.length rcS]) w56) := F50.out.below hb
    have F62 : Hid (Hold (rloS) (rhiS) (fun X => X.ownsRow rloS 2 1 (.slice raS ys.length rcS) ys.length (ys.map (Value.int .i64))) w56) := F51.out.below hb
    have F63 : Hid (Hold (xg0) (xg0 + 1) (IntCp xg0 cr0.gn cr0.zs) w56) := F52.out.below hb
    have F64 : Hid (Hold (w26.heap.size) (w26.heap.size + 1) (BoxV w26.heap.size [.int .i64 cr0.k, .int .i64 cr0.e, .int .i64 cr0.f, .int .i64 cr0.s, .int .i64 cr0.n, .slice (some ⟨xg0, 0, none⟩) cr0.gn cr0.gn]) w56) := F53.out.below hb
    have F65 : Hid (Hold (xg1) (xg1 + 1) (IntCp xg1 cr1.gn cr1.zs) w56) := F54.out.below hb
    clear B46 F48 F49 F50 F51 F52 F53 F54
    have F66 : Hid (Hold (w45.heap.size) (w45.heap.size + 1) (BoxV w45.heap.size [.int .i64 cr1.k, .int .i64 cr1.e, .int .i64 cr1.f, .int .i64 cr1.s, .int .i64 cr1.n, .slice (some ⟨xg1, 0, none⟩) cr1.gn cr1.gn]) w56) := hbx
    have hl67 := F66.out.le
    clear hbx hb
    have xb00 := F64.out.out 0 _ rfl
    have xb01 := F64.out.out 1 _ rfl
    have xb02 := F64.out.out 2 _ rfl
    have xb03 := F64.out.out 3 _ rfl
    have xb04 := F64.out.out 4 _ rfl
    have xb05 := F64.out.out 5 _ rfl
    have xb10 := F66.out.out 0 _ rfl
    have xb11 := F66.out.out 1 _ rfl
    have xb12 := F66.out.out 2 _ rfl
    have xb13 := F66.out.out 3 _ rfl
    have xb14 := F66.out.out 4 _ rfl
    have xb15 := F66.out.out 5 _ rfl
    go_wp2_with fail
    refine (HIM.out _ _ _ F63.out.out F65.out.out).mono ?_
    rintro e w68 ⟨raI, rcI, rfl, how, hb⟩
    have B69 : Hid (Below w.heap.size w w68) := B57.out.trans (hb.mono B57.out.size)
    have hz70 := hb.size
    have F71 : Hid (Hold (w.heap.size) (w.heap.size + 1) (BoxV (w.heap.size) [.int .i64 cr0.k, .int .i64 cr0.e, .int .i64 cr0.f, .int .i64 cr0.s, .int .i64 cr0.n, .slice cr0.ga cr0.gn cr0.gc]) w68) := F59.out.below hb
    have F72 : Hid (Hold (w.heap.size + 1) (w.heap.size + 1 + 1) (BoxV (w.heap.size + 1) [.int .i64 cr1.k, .int .i64 cr1.e, .int .i64 cr1.f, .int .i64 cr1.s, .int .i64 cr1.n, .slice cr1.ga cr1.gn cr1.gc]) w68) := F60.out.below hb
    have F73 : Hid (Hold (rBS) (rBS + 1) (BoxV rBS [.int .i64 c, .slice raS ys.length rcS]) w68) := F61.out.below hb
    have F74 : Hid (Hold (rloS) (rhiS) (fun X => X.ownsRow rloS 2 1 (.slice raS ys.length rcS) ys.length (ys.map (Value.int .i64))) w68) := F62.out.below hb
    have F75 : Hid (Hold (xg0) (xg0 + 1) (IntCp xg0 cr0.gn cr0.zs) w68) := F63.out.below hb
    have F76 : Hid (Hold (w26.heap.size) (w26.heap.size + 1) (BoxV w26.heap.size [.int .i64 cr0.k, .int .i64 cr0.e, .int .i64 cr0.f, .int .i64 cr0.s, .int .i64 cr0.n, .slice (some ⟨xg0, 0, none⟩) cr0.gn cr0.gn]) w68) := F64.out.below hb
    have F77 : Hid (Hold (xg1) (xg1 + 1) (IntCp xg1 cr1.gn cr1.zs) w68) := F65.out.below hb
    have F78 : Hid (Hold (w45.heap.size) (w45.heap.size + 1) (BoxV w45.heap.size [.int .i64 cr1.k, .int .i64 cr1.e, .int .i64 cr1.f, .int .i64 cr1.s, .int .i64 cr1.n, .slice (some ⟨xg1, 0, none⟩) cr1.gn cr1.gn]) w68) := F66.out.below hb
    clear B57 F59 F60 F61 F62 F63 F64 F65 F66
    clear xb00 xb01 xb02 xb03 xb04 xb05 xb10 xb11 xb12 xb13 xb14 xb15
    have F79 : Hid (Hold (w56.heap.size) (w68.heap.size) (fun X => X.ownsRow w56.heap.size 2 1 (.slice raI ys.length rcI) ys.length (ys.map (Value.int .i64))) w68) := owns_hold0 how
    have hl80 := F79.out.le
    clear how hb
    have HRW : Hid (∀ q, (Value.slice raI ys.length rcI).ownBlock = some q → w56.heap.size ≤ q ∧ q < w68.heap.size) := fun q e => (F79.out.out.lt q e)
    go_upto_region 12 with fail
    obtain ⟨w81, hX⟩ : ∃ X, X = w68.alloc (.cells #[.int .i64 c, .slice raI ys.length rcI] 37) := ⟨_, rfl⟩
    rw [← hX]
    have hb : Below w68.heap.size w68 w81 := by rw [hX]; exact (Below.refl _ _).alloc (Nat.le_refl _) _
    have hbx : Hold w68.heap.size (w68.heap.size + 1) (BoxV w68.heap.size [.int .i64 c, .slice raI ys.length rcI]) w81 := by rw [hX]; exact boxV_new w68 #[.int .i64 c, .slice raI ys.length rcI] 37
    clear hX
    have B82 : Hid (Below w.heap.size w w81) := B69.out.trans (hb.mono B69.out.size)
    have hz83 := hb.size
    have F84 : Hid (Hold (w.heap.size) (w.heap.size + 1) (BoxV (w.heap.size) [.int .i64 cr0.k, .int .i64 cr0.e, .int .i64 cr0.f, .int .i64 cr0.s, .int .i64 cr0.n, .slice cr0.ga cr0.gn cr0.gc]) w81) := F71.out.below hb
    have F85 : Hid (Hold (w.heap.size + 1) (w.heap.size + 1 + 1) (BoxV (w.heap.size + 1) [.int .i64 cr1.k, .int .i64 cr1.e, .int .i64 cr1.f, .int .i64 cr1.s, .int .i64 cr1.n, .slice cr1.ga cr1.gn cr1.gc]) w81) := F72.out.below hb
    have F86 : Hid (Hold (rBS) (rBS + 1) (BoxV rBS [.int .i64 c, .slice raS ys.length rcS]) w81) := F73.out.below hb
    have F87 : Hid (Hold (rloS) (rhiS) (fun X => X.ownsRow rloS 2 1 (.slice raS ys.length rcS) ys.length (ys.map (Value.int .i64))) w81) := F74.out.below hb
    have F88 : Hid (Hold (xg0) (xg0 + 1) (IntCp xg0 cr0.gn cr0.zs) w81) := F75.out.below hb
    have F89 : Hid (Hold (w26.heap.size) (w26.heap.size + 1) (BoxV w26.heap.size [.int .i64 cr0.k, .int .i64 cr0.e, .int .i64 cr0.f, .int .i64 cr0.s, .int .i64 cr0.n, .slice (some ⟨xg0, 0, none⟩) cr0.gn cr0.gn]) w81) := F76.out.below hb
    have F90 : Hid (Hold (xg1) (xg1 + 1) (IntCp xg1 cr1.gn cr1.zs) w81) := F77.out.below hb
    have F91 : Hid (Hold (w45.heap.size) (w45.heap.size + 1) (BoxV w45.heap.size [.int .i64 cr1.k, .int .i64 cr1.e, .int .i64 cr1.f, .int .i64 cr1.s, .int .i64 cr1.n, .slice (some ⟨xg1, 0, none⟩) cr1.gn cr1.gn]) w81) := F78.out.below hb
    have F92 : Hid (Hold (w56.heap.size) (w68.heap.size) (fun X => X.ownsRow w56.heap.size 2 1 (.slice raI ys.length rcI) ys.length (ys.map (Value.int .i64))) w81) := F79.out.below hb
    clear B69 F71 F72 F73 F74 F75 F76 F77 F78 F79
    have F93 : Hid (Hold (w68.heap.size) (w68.heap.size + 1) (BoxV w68.heap.size [.int .i64 c, .slice raI ys.length rcI]) w81) := hbx
    have hl94 := F93.out.le
    clear hbx hb
    have p0 := F93.out.out 0 _ rfl
    have p1 := F93.out.out 1 _ rfl
    have q0 := F86.out.out 0 _ rfl
    have q1 := F86.out.out 1 _ rfl
    go_wp2_with fail
    refine (eqInts_same c raI raS ys.length rcI rcS ys _ hyl (row_of_owns F92.out.out) (row_of_owns F87.out.out)).mono ?_
    rintro e w95 ⟨rfl, hb⟩
    clear p0 p1 q0 q1
    have B96 : Hid (Below w.heap.size w w95) := B82.out.trans (hb.mono B82.out.size)
    have hz97 := hb.size
    have F98 : Hid (Hold (w.heap.size) (w.heap.size + 1) (BoxV (w.heap.size) [.int .i64 cr0.k, .int .i64 cr0.e, .int .i64 cr0.f, .int .i64 cr0.s, .int .i64 cr0.n, .slice cr0.ga cr0.gn cr0.gc]) w95) := F84.out.below hb
    have F99 : Hid (Hold (w.heap.size + 1) (w.heap.size + 1 + 1) (BoxV (w.heap.size + 1) [.int .i64 cr1.k, .int .i64 cr1.e, .int .i64 cr1.f, .int .i64 cr1.s, .int .i64 cr1.n, .slice cr1.ga cr1.gn cr1.gc]) w95) := F85.out.below hb
    have F100 : Hid (Hold (rBS) (rBS + 1) (BoxV rBS [.int .i64 c, .slice raS ys.length rcS]) w95) := F86.out.below hb
    have F101 : Hid (Hold (rloS) (rhiS) (fun X => X.ownsRow rloS 2 1 (.slice raS ys.length rcS) ys.length (ys.map (Value.int .i64))) w95) := F87.out.below hb
    have F102 : Hid (Hold (xg0) (xg0 + 1) (IntCp xg0 cr0.gn cr0.zs) w95) := F88.out.below hb
    have F103 : Hid (Hold (w26.heap.size) (w26.heap.size + 1) (BoxV w26.heap.size [.int .i64 cr0.k, .int .i64 cr0.e, .int .i64 cr0.f, .int .i64 cr0.s, .int .i64 cr0.n, .slice (some ⟨xg0, 0, none⟩) cr0.gn cr0.gn]) w95) := F89.out.below hb
    have F104 : Hid (Hold (xg1) (xg1 + 1) (IntCp xg1 cr1.gn cr1.zs) w95) := F90.out.below hb
    have F105 : Hid (Hold (w45.heap.size) (w45.heap.size + 1) (BoxV w45.heap.size [.int .i64 cr1.k, .int .i64 cr1.e, .int .i64 cr1.f, .int .i64 cr1.s, .int .i64 cr1.n, .slice (some ⟨xg1, 0, none⟩) cr1.gn cr1.gn]) w95) := F91.out.below hb
    have F106 : Hid (Hold (w56.heap.size) (w68.heap.size) (fun X => X.ownsRow w56.heap.size 2 1 (.slice raI ys.length rcI) ys.length (ys.map (Value.int .i64))) w95) := F92.out.below hb
    have F107 : Hid (Hold (w68.heap.size) (w68.heap.size + 1) (BoxV w68.heap.size [.int .i64 c, .slice raI ys.length rcI]) w95) := F93.out.below hb
    clear B82 F84 F85 F86 F87 F88 F89 F90 F91 F92 F93
    clear hb
    have b00 := F98.out.out 0 _ rfl
    have b01 := F98.out.out 1 _ rfl
    have b02 := F98.out.out 2 _ rfl
    have b03 := F98.out.out 3 _ rfl
    have b04 := F98.out.out 4 _ rfl
    have b05 := F98.out.out 5 _ rfl
    have xb00 := F103.out.out 0 _ rfl
    have xb01 := F103.out.out 1 _ rfl
    have xb02 := F103.out.out 2 _ rfl
    have xb03 := F103.out.out 3 _ rfl
    have xb04 := F103.out.out 4 _ rfl
    have xb05 := F103.out.out 5 _ rfl
    have hba : w.heap.size < w95.heap.size := by have := F98.out.le; omega
    have hbb : w26.heap.size < w95.heap.size := by have := F103.out.le; omega
    have HTO : Hid (∀ w2, KR0 w95 w2 → Below w.heap.size w w2) := fun w2 q => B96.out.trans (q.2.mono B96.out.size)
    go_upto_region 14 with fail
    refine wp_region_held_drew (S := fun w' => KR0 w95 w') (by kernel_rfl) (kp_drew _) (fun hHeld => ?_)
    refine wpAnyH_take (i := 0) (v := ?_) rfl (by kernel_rfl) (by kernel_rfl) (by kernel_rfl) (fun _ _ _ h => h) (Or.inl ⟨by kernel_rfl, ?_⟩) (by assumption) ?_
    rotate_left 1
    · intro w hSw; (try dsimp only at hSw); go_simp; try (with_reducible rfl)
    try simp only [Act.put, List.getElem_toArray, List.getElem_cons_succ, List.getElem_cons_zero, List.setIfInBounds_toArray, List.set_cons_zero, List.set_cons_succ]
    refine wpAnyH_take (i := 1) (v := ?_) rfl (by kernel_rfl) (by kernel_rfl) (by kernel_rfl) (fun _ _ _ h => h) (Or.inl ⟨by kernel_rfl, ?_⟩) (by assumption) ?_
    rotate_left 1
    · intro w hSw; (try dsimp only at hSw); go_simp; try (with_reducible rfl)
    try simp only [Act.put, List.getElem_toArray, List.getElem_cons_succ, List.getElem_cons_zero, List.setIfInBounds_toArray, List.set_cons_zero, List.set_cons_succ]
    refine wpAnyH_ready (rs := [2]) (by kernel_rfl) (by simp) ?_
    refine AllReadyH.cons rfl (fun K hK => ?_) AllReadyH.nil
    go_simp
    refine (toCert_c cr0 _ hs0 (H0.out.below (HTO.out _ (by assumption)))).mono ?_
    rintro d w108 ⟨gE, rfl, hge, hlt, hcp, hbE⟩
    have hS := kp_step (by assumption) hbE
    have EE := (IntCp.hold hcp hlt).out
    have EC := (F102.out.drew.below hbE).out
    refine hK.out _ _ hS (fun hHeld => ?_)
    clear hK K
    try simp only [Act.put, List.getElem_toArray, List.getElem_cons_succ, List.getElem_cons_zero, List.setIfInBounds_toArray, List.set_cons_zero, List.set_cons_succ]
    refine wpAnyH_ready (rs := [3]) (by kernel_rfl) (by simp) ?_
    refine AllReadyH.cons rfl (fun K hK => ?_) AllReadyH.nil
    go_simp
    refine (eqCert_same cr0 _ _ _ hs0 HZ0.out EC.1 EE.1).mono ?_
    rintro d w109 ⟨rfl, hbQ⟩
    have hS := kp_step (by assumption) hbQ
    have hSQ := hS
    refine hK.out _ _ hS (fun hHeld => ?_)
    clear hK K
    try simp only [Act.put, List.getElem_toArray, List.getElem_cons_succ, List.getElem_cons_zero, List.setIfInBounds_toArray, List.set_cons_zero, List.set_cons_succ]
    refine wpAnyH_take (i := 4) (v := ?_) rfl (by kernel_rfl) (by kernel_rfl) (by kernel_rfl) (fun _ _ _ h => h) (Or.inl ⟨by kernel_rfl, ?_⟩) (by assumption) ?_
    rotate_left 1
    · intro w hSw; (try dsimp only at hSw); go_simp; try (with_reducible rfl)
    try simp only [Act.put, List.getElem_toArray, List.getElem_cons_succ, List.getElem_cons_zero, List.setIfInBounds_toArray, List.set_cons_zero, List.set_cons_succ]
    refine wpAnyH_done (by kernel_rfl) ?_ _
    have hbK := hSQ.2
    clear hS hSQ EE EC hbQ hbE hcp hlt hge b00 b01 b02 b03 b04 b05 xb00 xb01 xb02 xb03 xb04 xb05 hba hbb HTO
    have B110 : Hid (Below w.heap.size w w109) := B96.out.trans (hbK.mono B96.out.size)
    have hz111 := hbK.size
    have F112 : Hid (Hold (w.heap.size) (w.heap.size + 1) (BoxV (w.heap.size) [.int .i64 cr0.k, .int .i64 cr0.e, .int .i64 cr0.f, .int .i64 cr0.s, .int .i64 cr0.n, .slice cr0.ga cr0.gn cr0.gc]) w109) := F98.out.below hbK
    have F113 : Hid (Hold (w.heap.size + 1) (w.heap.size + 1 + 1) (BoxV (w.heap.size + 1) [.int .i64 cr1.k, .int .i64 cr1.e, .int .i64 cr1.f, .int .i64 cr1.s, .int .i64 cr1.n, .slice cr1.ga cr1.gn cr1.gc]) w109) := F99.out.below hbK
    have F114 : Hid (Hold (rBS) (rBS + 1) (BoxV rBS [.int .i64 c, .slice raS ys.length rcS]) w109) := F100.out.below hbK
    have F115 : Hid (Hold (rloS) (rhiS) (fun X => X.ownsRow rloS 2 1 (.slice raS ys.length rcS) ys.length (ys.map (Value.int .i64))) w109) := F101.out.below hbK
    have F116 : Hid (Hold (xg0) (xg0 + 1) (IntCp xg0 cr0.gn cr0.zs) w109) := F102.out.below hbK
    have F117 : Hid (Hold (w26.heap.size) (w26.heap.size + 1) (BoxV w26.heap.size [.int .i64 cr0.k, .int .i64 cr0.e, .int .i64 cr0.f, .int .i64 cr0.s, .int .i64 cr0.n, .slice (some ⟨xg0, 0, none⟩) cr0.gn cr0.gn]) w109) := F103.out.below hbK
    have F118 : Hid (Hold (xg1) (xg1 + 1) (IntCp xg1 cr1.gn cr1.zs) w109) := F104.out.below hbK
    have F119 : Hid (Hold (w45.heap.size) (w45.heap.size + 1) (BoxV w45.heap.size [.int .i64 cr1.k, .int .i64 cr1.e, .int .i64 cr1.f, .int .i64 cr1.s, .int .i64 cr1.n, .slice (some ⟨xg1, 0, none⟩) cr1.gn cr1.gn]) w109) := F105.out.below hbK
    have F120 : Hid (Hold (w56.heap.size) (w68.heap.size) (fun X => X.ownsRow w56.heap.size 2 1 (.slice raI ys.length rcI) ys.length (ys.map (Value.int .i64))) w109) := F106.out.below hbK
    have F121 : Hid (Hold (w68.heap.size) (w68.heap.size + 1) (BoxV w68.heap.size [.int .i64 c, .slice raI ys.length rcI]) w109) := F107.out.below hbK
    clear B96 F98 F99 F100 F101 F102 F103 F104 F105 F106 F107
    clear hbK
    have b10 := F113.out.out 0 _ rfl
    have b11 := F113.out.out 1 _ rfl
    have b12 := F113.out.out 2 _ rfl
    have b13 := F113.out.out 3 _ rfl
    have b14 := F113.out.out 4 _ rfl
    have b15 := F113.out.out 5 _ rfl
    have xb10 := F119.out.out 0 _ rfl
    have xb11 := F119.out.out 1 _ rfl
    have xb12 := F119.out.out 2 _ rfl
    have xb13 := F119.out.out 3 _ rfl
    have xb14 := F119.out.out 4 _ rfl
    have xb15 := F119.out.out 5 _ rfl
    have hba : w.heap.size + 1 < w109.heap.size := by have := F113.out.le; omega
    have hbb : w45.heap.size < w109.heap.size := by have := F119.out.le; omega
    have HTO : Hid (∀ w2, KR0 w109 w2 → Below w.heap.size w w2) := fun w2 q => B110.out.trans (q.2.mono B110.out.size)
    go_upto_region 16 with fail
    refine wp_region_held_drew (S := fun w' => KR0 w109 w') (by kernel_rfl) (kp_drew _) (fun hHeld => ?_)
    refine wpAnyH_take (i := 0) (v := ?_) rfl (by kernel_rfl) (by kernel_rfl) (by kernel_rfl) (fun _ _ _ h => h) (Or.inl ⟨by kernel_rfl, ?_⟩) (by assumption) ?_
    rotate_left 1
    · intro w hSw; (try dsimp only at hSw); go_simp; try (with_reducible rfl)
    try simp only [Act.put, List.getElem_toArray, List.getElem_cons_succ, List.getElem_cons_zero, List.setIfInBounds_toArray, List.set_cons_zero, List.set_cons_succ]
    refine wpAnyH_take (i := 1) (v := ?_) rfl (by kernel_rfl) (by kernel_rfl) (by kernel_rfl) (fun _ _ _ h => h) (Or.inl ⟨by kernel_rfl, ?_⟩) (by assumption) ?_
    rotate_left 1
    · intro w hSw; (try dsimp only at hSw); go_simp; try (with_reducible rfl)
    try simp only [Act.put, List.getElem_toArray, List.getElem_cons_succ, List.getElem_cons_zero, List.setIfInBounds_toArray, List.set_cons_zero, List.set_cons_succ]
    refine wpAnyH_ready (rs := [2]) (by kernel_rfl) (by simp) ?_
    refine AllReadyH.cons rfl (fun K hK => ?_) AllReadyH.nil
    go_simp
    refine (toCert_c cr1 _ hs1 (H1.out.below (HTO.out _ (by assumption)))).mono ?_
    rintro d w122 ⟨gE, rfl, hge, hlt, hcp, hbE⟩
    have hS := kp_step (by assumption) hbE
    have EE := (IntCp.hold hcp hlt).out
    have EC := (F118.out.drew.below hbE).out
    refine hK.out _ _ hS (fun hHeld => ?_)
    clear hK K
    try simp only [Act.put, List.getElem_toArray, List.getElem_cons_succ, List.getElem_cons_zero, List.setIfInBounds_toArray, List.set_cons_zero, List.set_cons_succ]
    refine wpAnyH_ready (rs := [3]) (by kernel_rfl) (by simp) ?_
    refine AllReadyH.cons rfl (fun K hK => ?_) AllReadyH.nil
    go_simp
    refine (eqCert_same cr1 _ _ _ hs1 HZ1.out EC.1 EE.1).mono ?_
    rintro d w123 ⟨rfl, hbQ⟩
    have hS := kp_step (by assumption) hbQ
    have hSQ := hS
    refine hK.out _ _ hS (fun hHeld => ?_)
    clear hK K
    try simp only [Act.put, List.getElem_toArray, List.getElem_cons_succ, List.getElem_cons_zero, List.setIfInBounds_toArray, List.set_cons_zero, List.set_cons_succ]
    refine wpAnyH_take (i := 4) (v := ?_) rfl (by kernel_rfl) (by kernel_rfl) (by kernel_rfl) (fun _ _ _ h => h) (Or.inl ⟨by kernel_rfl, ?_⟩) (by assumption) ?_
    rotate_left 1
    · intro w hSw; (try dsimp only at hSw); go_simp; try (with_reducible rfl)
    try simp only [Act.put, List.getElem_toArray, List.getElem_cons_succ, List.getElem_cons_zero, List.setIfInBounds_toArray, List.set_cons_zero, List.set_cons_succ]
    refine wpAnyH_done (by kernel_rfl) ?_ _
    have hbK := hSQ.2
    clear hS hSQ EE EC hbQ hbE hcp hlt hge b10 b11 b12 b13 b14 b15 xb10 xb11 xb12 xb13 xb14 xb15 hba hbb HTO
    have B124 : Hid (Below w.heap.size w w123) := B110.out.trans (hbK.mono B110.out.size)
    have hz125 := hbK.size
    have F126 : Hid (Hold (w.heap.size) (w.heap.size + 1) (BoxV (w.heap.size) [.int .i64 cr0.k, .int .i64 cr0.e, .int .i64 cr0.f, .int .i64 cr0.s, .int .i64 cr0.n, .slice cr0.ga cr0.gn cr0.gc]) w123) := F112.out.below hbK
    have F127 : Hid (Hold (w.heap.size + 1) (w.heap.size + 1 + 1) (BoxV (w.heap.size + 1) [.int .i64 cr1.k, .int .i64 cr1.e, .int .i64 cr1.f, .int .i64 cr1.s, .int .i64 cr1.n, .slice cr1.ga cr1.gn cr1.gc]) w123) := F113.out.below hbK
    have F128 : Hid (Hold (rBS) (rBS + 1) (BoxV rBS [.int .i64 c, .slice raS ys.length rcS]) w123) := F114.out.below hbK
    have F129 : Hid (Hold (rloS) (rhiS) (fun X => X.ownsRow rloS 2 1 (.slice raS ys.length rcS) ys.length (ys.map (Value.int .i64))) w123) := F115.out.below hbK
    have F130 : Hid (Hold (xg0) (xg0 + 1) (IntCp xg0 cr0.gn cr0.zs) w123) := F116.out.below hbK
    have F131 : Hid (Hold (w26.heap.size) (w26.heap.size + 1) (BoxV w26.heap.size [.int .i64 cr0.k, .int .i64 cr0.e, .int .i64 cr0.f, .int .i64 cr0.s, .int .i64 cr0.n, .slice (some ⟨xg0, 0, none⟩) cr0.gn cr0.gn]) w123) := F117.out.below hbK
    have F132 : Hid (Hold (xg1) (xg1 + 1) (IntCp xg1 cr1.gn cr1.zs) w123) := F118.out.below hbK
    have F133 : Hid (Hold (w45.heap.size) (w45.heap.size + 1) (BoxV w45.heap.size [.int .i64 cr1.k, .int .i64 cr1.e, .int .i64 cr1.f, .int .i64 cr1.s, .int .i64 cr1.n, .slice (some ⟨xg1, 0, none⟩) cr1.gn cr1.gn]) w123) := F119.out.below hbK
    have F134 : Hid (Hold (w56.heap.size) (w68.heap.size) (fun X => X.ownsRow w56.heap.size 2 1 (.slice raI ys.length rcI) ys.length (ys.map (Value.int .i64))) w123) := F120.out.below hbK
    have F135 : Hid (Hold (w68.heap.size) (w68.heap.size + 1) (BoxV w68.heap.size [.int .i64 c, .slice raI ys.length rcI]) w123) := F121.out.below hbK
    clear B110 F112 F113 F114 F115 F116 F117 F118 F119 F120 F121
    clear hbK
    have xb00 := F131.out.out 0 _ rfl
    have xb01 := F131.out.out 1 _ rfl
    have xb02 := F131.out.out 2 _ rfl
    have xb03 := F131.out.out 3 _ rfl
    have xb04 := F131.out.out 4 _ rfl
    have xb05 := F131.out.out 5 _ rfl
    go_wp2_with fail
    refine (markCert_c cr0 xg0 1 _ hs0 (by omega) (by omega) F130.out.out (by omega)).mono ?_
    rintro e w136 ⟨rfl, hg⟩
    have hch : Chg xg0 (xg0 + 1) w123 w136 := Chg.grown hg (fun q e => by cases e; omega)
    have B137 : Hid (Below w.heap.size w w136) := below_chg B124.out hch (by have := hNB; omega) B124.out.size
    have hz138 := hch.size
    have F139 : Hid (Hold (w.heap.size) (w.heap.size + 1) (BoxV (w.heap.size) [.int .i64 cr0.k, .int .i64 cr0.e, .int .i64 cr0.f, .int .i64 cr0.s, .int .i64 cr0.n, .slice cr0.ga cr0.gn cr0.gc]) w136) := F126.out.chg hch (by omega)
    have F140 : Hid (Hold (w.heap.size + 1) (w.heap.size + 1 + 1) (BoxV (w.heap.size + 1) [.int .i64 cr1.k, .int .i64 cr1.e, .int .i64 cr1.f, .int .i64 cr1.s, .int .i64 cr1.n, .slice cr1.ga cr1.gn cr1.gc]) w136) := F127.out.chg hch (by omega)
    have F141 : Hid (Hold (rBS) (rBS + 1) (BoxV rBS [.int .i64 c, .slice raS ys.length rcS]) w136) := F128.out.chg hch (by omega)
    have F142 : Hid (Hold (rloS) (rhiS) (fun X => X.ownsRow rloS 2 1 (.slice raS ys.length rcS) ys.length (ys.map (Value.int .i64))) w136) := F129.out.chg hch (by omega)
    have F143 : Hid (Hold (w26.heap.size) (w26.heap.size + 1) (BoxV w26.heap.size [.int .i64 cr0.k, .int .i64 cr0.e, .int .i64 cr0.f, .int .i64 cr0.s, .int .i64 cr0.n, .slice (some ⟨xg0, 0, none⟩) cr0.gn cr0.gn]) w136) := F131.out.chg hch (by omega)
    have F144 : Hid (Hold (xg1) (xg1 + 1) (IntCp xg1 cr1.gn cr1.zs) w136) := F132.out.chg hch (by omega)
    have F145 : Hid (Hold (w45.heap.size) (w45.heap.size + 1) (BoxV w45.heap.size [.int .i64 cr1.k, .int .i64 cr1.e, .int .i64 cr1.f, .int .i64 cr1.s, .int .i64 cr1.n, .slice (some ⟨xg1, 0, none⟩) cr1.gn cr1.gn]) w136) := F133.out.chg hch (by omega)
    have F146 : Hid (Hold (w56.heap.size) (w68.heap.size) (fun X => X.ownsRow w56.heap.size 2 1 (.slice raI ys.length rcI) ys.length (ys.map (Value.int .i64))) w136) := F134.out.chg hch (by omega)
    have F147 : Hid (Hold (w68.heap.size) (w68.heap.size + 1) (BoxV w68.heap.size [.int .i64 c, .slice raI ys.length rcI]) w136) := F135.out.chg hch (by omega)
    clear B124 F126 F127 F128 F129 F131 F132 F133 F134 F135 F130
    clear hch hg
    clear xb00 xb01 xb02 xb03 xb04 xb05
    have xb10 := F145.out.out 0 _ rfl
    have xb11 := F145.out.out 1 _ rfl
    have xb12 := F145.out.out 2 _ rfl
    have xb13 := F145.out.out 3 _ rfl
    have xb14 := F145.out.out 4 _ rfl
    have xb15 := F145.out.out 5 _ rfl
    go_wp2_with fail
    refine (markCert_c cr1 xg1 (1 + (cr0.gn : Int)) _ hs1 (by omega) (by omega) F144.out.out (by omega)).mono ?_
    rintro e w148 ⟨rfl, hg⟩
    have hch : Chg xg1 (xg1 + 1) w136 w148 := Chg.grown hg (fun q e => by cases e; omega)
    have B149 : Hid (Below w.heap.size w w148) := below_chg B137.out hch (by have := hNB; omega) B137.out.size
    have hz150 := hch.size
    have F151 : Hid (Hold (w.heap.size) (w.heap.size + 1) (BoxV (w.heap.size) [.int .i64 cr0.k, .int .i64 cr0.e, .int .i64 cr0.f, .int .i64 cr0.s, .int .i64 cr0.n, .slice cr0.ga cr0.gn cr0.gc]) w148) := F139.out.chg hch (by omega)
    have F152 : Hid (Hold (w.heap.size + 1) (w.heap.size + 1 + 1) (BoxV (w.heap.size + 1) [.int .i64 cr1.k, .int .i64 cr1.e, .int .i64 cr1.f, .int .i64 cr1.s, .int .i64 cr1.n, .slice cr1.ga cr1.gn cr1.gc]) w148) := F140.out.chg hch (by omega)
    have F153 : Hid (Hold (rBS) (rBS + 1) (BoxV rBS [.int .i64 c, .slice raS ys.length rcS]) w148) := F141.out.chg hch (by omega)
    have F154 : Hid (Hold (rloS) (rhiS) (fun X => X.ownsRow rloS 2 1 (.slice raS ys.length rcS) ys.length (ys.map (Value.int .i64))) w148) := F142.out.chg hch (by omega)
    have F155 : Hid (Hold (w26.heap.size) (w26.heap.size + 1) (BoxV w26.heap.size [.int .i64 cr0.k, .int .i64 cr0.e, .int .i64 cr0.f, .int .i64 cr0.s, .int .i64 cr0.n, .slice (some ⟨xg0, 0, none⟩) cr0.gn cr0.gn]) w148) := F143.out.chg hch (by omega)
    have F156 : Hid (Hold (w45.heap.size) (w45.heap.size + 1) (BoxV w45.heap.size [.int .i64 cr1.k, .int .i64 cr1.e, .int .i64 cr1.f, .int .i64 cr1.s, .int .i64 cr1.n, .slice (some ⟨xg1, 0, none⟩) cr1.gn cr1.gn]) w148) := F145.out.chg hch (by omega)
    have F157 : Hid (Hold (w56.heap.size) (w68.heap.size) (fun X => X.ownsRow w56.heap.size 2 1 (.slice raI ys.length rcI) ys.length (ys.map (Value.int .i64))) w148) := F146.out.chg hch (by omega)
    have F158 : Hid (Hold (w68.heap.size) (w68.heap.size + 1) (BoxV w68.heap.size [.int .i64 c, .slice raI ys.length rcI]) w148) := F147.out.chg hch (by omega)
    clear B137 F139 F140 F141 F142 F143 F145 F146 F147 F144
    clear hch hg
    clear xb10 xb11 xb12 xb13 xb14 xb15
    have hk0 : decide (((1 : Int) + (cr0.gn : Int) + (cr1.gn : Int) : Int) < 0) = false := by simp; omega
    have p0 := F158.out.out 0 _ rfl
    have p1 := F158.out.out 1 _ rfl
    have q0 := F153.out.out 0 _ rfl
    have q1 := F153.out.out 1 _ rfl
    go_wp2_with fail
    refine (eqInts_same c raI raS ys.length rcI rcS ys _ hyl (row_of_owns F157.out.out) (row_of_owns F154.out.out)).mono ?_
    rintro e w159 ⟨rfl, hb⟩
    clear p0 p1 q0 q1
    have B160 : Hid (Below w.heap.size w w159) := B149.out.trans (hb.mono B149.out.size)
    have hz161 := hb.size
    have F162 : Hid (Hold (w.heap.size) (w.heap.size + 1) (BoxV (w.heap.size) [.int .i64 cr0.k, .int .i64 cr0.e, .int .i64 cr0.f, .int .i64 cr0.s, .int .i64 cr0.n, .slice cr0.ga cr0.gn cr0.gc]) w159) := F151.out.below hb
    have F163 : Hid (Hold (w.heap.size + 1) (w.heap.size + 1 + 1) (BoxV (w.heap.size + 1) [.int .i64 cr1.k, .int .i64 cr1.e, .int .i64 cr1.f, .int .i64 cr1.s, .int .i64 cr1.n, .slice cr1.ga cr1.gn cr1.gc]) w159) := F152.out.below hb
    have F164 : Hid (Hold (rBS) (rBS + 1) (BoxV rBS [.int .i64 c, .slice raS ys.length rcS]) w159) := F153.out.below hb
    have F165 : Hid (Hold (rloS) (rhiS) (fun X => X.ownsRow rloS 2 1 (.slice raS ys.length rcS) ys.length (ys.map (Value.int .i64))) w159) := F154.out.below hb
    have F166 : Hid (Hold (w26.heap.size) (w26.heap.size + 1) (BoxV w26.heap.size [.int .i64 cr0.k, .int .i64 cr0.e, .int .i64 cr0.f, .int .i64 cr0.s, .int .i64 cr0.n, .slice (some ⟨xg0, 0, none⟩) cr0.gn cr0.gn]) w159) := F155.out.below hb
    have F167 : Hid (Hold (w45.heap.size) (w45.heap.size + 1) (BoxV w45.heap.size [.int .i64 cr1.k, .int .i64 cr1.e, .int .i64 cr1.f, .int .i64 cr1.s, .int .i64 cr1.n, .slice (some ⟨xg1, 0, none⟩) cr1.gn cr1.gn]) w159) := F156.out.below hb
    have F168 : Hid (Hold (w56.heap.size) (w68.heap.size) (fun X => X.ownsRow w56.heap.size 2 1 (.slice raI ys.length rcI) ys.length (ys.map (Value.int .i64))) w159) := F157.out.below hb
    have F169 : Hid (Hold (w68.heap.size) (w68.heap.size + 1) (BoxV w68.heap.size [.int .i64 c, .slice raI ys.length rcI]) w159) := F158.out.below hb
    clear B149 F151 F152 F153 F154 F155 F156 F157 F158
    clear hb
    have p0 := F169.out.out 0 _ rfl
    have p1 := F169.out.out 1 _ rfl
    go_wp2_with fail
    refine (mark1 c _ raI ys.length rcI _ _ hyl F168.out.out).mono ?_
    rintro e w170 ⟨rfl, how, hg⟩
    clear p0 p1
    have hch : Chg w56.heap.size w68.heap.size w159 w170 := Chg.grown hg (fun q e => HRW.out q e)
    have hzc := hch.size
    have B171 : Hid (Below w.heap.size w w170) := below_chg B160.out hch (by have := hNB; omega) B160.out.size
    have hz172 := hch.size
    have F173 : Hid (Hold (w.heap.size) (w.heap.size + 1) (BoxV (w.heap.size) [.int .i64 cr0.k, .int .i64 cr0.e, .int .i64 cr0.f, .int .i64 cr0.s, .int .i64 cr0.n, .slice cr0.ga cr0.gn cr0.gc]) w170) := F162.out.chg hch (by omega)
    have F174 : Hid (Hold (w.heap.size + 1) (w.heap.size + 1 + 1) (BoxV (w.heap.size + 1) [.int .i64 cr1.k, .int .i64 cr1.e, .int .i64 cr1.f, .int .i64 cr1.s, .int .i64 cr1.n, .slice cr1.ga cr1.gn cr1.gc]) w170) := F163.out.chg hch (by omega)
    have F175 : Hid (Hold (rBS) (rBS + 1) (BoxV rBS [.int .i64 c, .slice raS ys.length rcS]) w170) := F164.out.chg hch (by omega)
    have F176 : Hid (Hold (rloS) (rhiS) (fun X => X.ownsRow rloS 2 1 (.slice raS ys.length rcS) ys.length (ys.map (Value.int .i64))) w170) := F165.out.chg hch (by omega)
    have F177 : Hid (Hold (w26.heap.size) (w26.heap.size + 1) (BoxV w26.heap.size [.int .i64 cr0.k, .int .i64 cr0.e, .int .i64 cr0.f, .int .i64 cr0.s, .int .i64 cr0.n, .slice (some ⟨xg0, 0, none⟩) cr0.gn cr0.gn]) w170) := F166.out.chg hch (by omega)
    have F178 : Hid (Hold (w45.heap.size) (w45.heap.size + 1) (BoxV w45.heap.size [.int .i64 cr1.k, .int .i64 cr1.e, .int .i64 cr1.f, .int .i64 cr1.s, .int .i64 cr1.n, .slice (some ⟨xg1, 0, none⟩) cr1.gn cr1.gn]) w170) := F167.out.chg hch (by omega)
    have F179 : Hid (Hold (w68.heap.size) (w68.heap.size + 1) (BoxV w68.heap.size [.int .i64 c, .slice raI ys.length rcI]) w170) := F169.out.chg hch (by omega)
    clear B160 F162 F163 F164 F165 F166 F167 F169 F168
    have F180 : Hid (Hold (w56.heap.size) (w68.heap.size) (fun X => X.ownsRow w56.heap.size 2 1 (.slice raI ys.length rcI) ys.length ((marks 1 ys.length).map (Value.int .i64))) w170) := owns_hold how _ (fun q e => (HRW.out q e).2) (by omega)
    have hl181 := F180.out.le
    clear how hg hch hzc
    have hq0 : decide ((1 : Int) + (ys.length : Int) < 0) = false := by simp; omega
    have p0 := F179.out.out 0 _ rfl
    have p1 := F179.out.out 1 _ rfl
    go_wp2_with fail
    refine (held1 c raI ys.length rcI _ hyl (row_of_owns F180.out.out)).mono ?_
    rintro e w182 ⟨rfl, hb⟩
    clear p0 p1
    have B183 : Hid (Below w.heap.size w w182) := B171.out.trans (hb.mono B171.out.size)
    have hz184 := hb.size
    have F185 : Hid (Hold (w.heap.size) (w.heap.size + 1) (BoxV (w.heap.size) [.int .i64 cr0.k, .int .i64 cr0.e, .int .i64 cr0.f, .int .i64 cr0.s, .int .i64 cr0.n, .slice cr0.ga cr0.gn cr0.gc]) w182) := F173.out.below hb
    have F186 : Hid (Hold (w.heap.size + 1) (w.heap.size + 1 + 1) (BoxV (w.heap.size + 1) [.int .i64 cr1.k, .int .i64 cr1.e, .int .i64 cr1.f, .int .i64 cr1.s, .int .i64 cr1.n, .slice cr1.ga cr1.gn cr1.gc]) w182) := F174.out.below hb
    have F187 : Hid (Hold (rBS) (rBS + 1) (BoxV rBS [.int .i64 c, .slice raS ys.length rcS]) w182) := F175.out.below hb
    have F188 : Hid (Hold (rloS) (rhiS) (fun X => X.ownsRow rloS 2 1 (.slice raS ys.length rcS) ys.length (ys.map (Value.int .i64))) w182) := F176.out.below hb
    have F189 : Hid (Hold (w26.heap.size) (w26.heap.size + 1) (BoxV w26.heap.size [.int .i64 cr0.k, .int .i64 cr0.e, .int .i64 cr0.f, .int .i64 cr0.s, .int .i64 cr0.n, .slice (some ⟨xg0, 0, none⟩) cr0.gn cr0.gn]) w182) := F177.out.below hb
    have F190 : Hid (Hold (w45.heap.size) (w45.heap.size + 1) (BoxV w45.heap.size [.int .i64 cr1.k, .int .i64 cr1.e, .int .i64 cr1.f, .int .i64 cr1.s, .int .i64 cr1.n, .slice (some ⟨xg1, 0, none⟩) cr1.gn cr1.gn]) w182) := F178.out.below hb
    have F191 : Hid (Hold (w68.heap.size) (w68.heap.size + 1) (BoxV w68.heap.size [.int .i64 c, .slice raI ys.length rcI]) w182) := F179.out.below hb
    have F192 : Hid (Hold (w56.heap.size) (w68.heap.size) (fun X => X.ownsRow w56.heap.size 2 1 (.slice raI ys.length rcI) ys.length ((marks 1 ys.length).map (Value.int .i64))) w182) := F180.out.below hb
    clear B171 F173 F174 F175 F176 F177 F178 F179 F180
    clear hb
    have b00 := F185.out.out 0 _ rfl
    have b01 := F185.out.out 1 _ rfl
    have b02 := F185.out.out 2 _ rfl
    have b03 := F185.out.out 3 _ rfl
    have b04 := F185.out.out 4 _ rfl
    have b05 := F185.out.out 5 _ rfl
    have hbl0 : w.heap.size < w182.heap.size := by omega
    have b10 := F186.out.out 0 _ rfl
    have b11 := F186.out.out 1 _ rfl
    have b12 := F186.out.out 2 _ rfl
    have b13 := F186.out.out 3 _ rfl
    have b14 := F186.out.out 4 _ rfl
    have b15 := F186.out.out 5 _ rfl
    have hbl1 : w.heap.size + 1 < w182.heap.size := by omega
    go_upto_region 31 with fail
    have HTO0 : Hid (∀ w2, KR0 w182 w2 → Below w.heap.size w w2) := fun w2 q => B183.out.trans (q.2.mono B183.out.size)
    have HTO1 : Hid (∀ w2, KR0 w182 w2 → Below w.heap.size w w2) := fun w2 q => B183.out.trans (q.2.mono B183.out.size)
    go_cut [13] from 75 to 79 (fun s wx => ResB 2 1 ys.length (ys.map (Value.int .i64)) (fun z => [.int .i64 c, z]) w182 s wx)
    case first =>
      refine wp_region_held_drew (S := fun w' => KR0 w182 w') (by kernel_rfl) (kp_drew _) (fun hHeld => ?_)
      refine wpAnyH_take (i := 0) (v := ?_) rfl (by kernel_rfl) (by kernel_rfl) (by kernel_rfl) (fun _ _ _ h => h) (Or.inl ⟨by kernel_rfl, ?_⟩) (by assumption) ?_
      rotate_left 1
      · intro w hSw; (try dsimp only at hSw); go_simp; try (with_reducible rfl)
      try simp only [Act.put, List.getElem_toArray, List.getElem_cons_succ, List.getElem_cons_zero, List.setIfInBounds_toArray, List.set_cons_zero, List.set_cons_succ]
      refine wpAnyH_take (i := 2) (v := ?_) rfl (by kernel_rfl) (by kernel_rfl) (by kernel_rfl) (fun _ _ _ h => h) (Or.inl ⟨by kernel_rfl, ?_⟩) (by assumption) ?_
      rotate_left 1
      · intro w hSw; (try dsimp only at hSw); go_simp; try (with_reducible rfl)
      try simp only [Act.put, List.getElem_toArray, List.getElem_cons_succ, List.getElem_cons_zero, List.setIfInBounds_toArray, List.set_cons_zero, List.set_cons_succ]
      refine wpAnyH_ready (rs := [1, 5]) (by kernel_rfl) (by simp) ?_
      refine AllReadyH.cons rfl (fun K hK => ?_) (AllReadyH.cons rfl (fun K hK => ?_) AllReadyH.nil)
      · go_simp
        refine (toCert_c cr0 _ hs0 (H0.out.below (HTO0.out _ (by assumption)))).mono ?_
        rintro d y10 ⟨gn10, rfl, hge, hlt, hcp, hby10⟩
        have hS := kp_step (by assumption) hby10
        have hzy10 := hby10.size
        have E10 := IntCp.hold hcp hlt
        have hSy10 := hS
        refine hK.out _ _ hS (fun hHeld => ?_)
        clear hK K
        try simp only [Act.put, List.getElem_toArray, List.getElem_cons_succ, List.getElem_cons_zero, List.setIfInBounds_toArray, List.set_cons_zero, List.set_cons_succ]
        refine wpAnyH_ready (rs := [3, 5]) (by kernel_rfl) (by simp) ?_
        refine AllReadyH.cons rfl (fun K hK => ?_) (AllReadyH.cons rfl (fun K hK => ?_) AllReadyH.nil)
        · go_simp
          refine (toCert_c cr1 _ hs1 (H1.out.below (HTO1.out _ (by assumption)))).mono ?_
          rintro d y11 ⟨gn11, rfl, hge, hlt, hcp, hby11⟩
          have hS := kp_step (by assumption) hby11
          have hzy11 := hby11.size
          replace E10 := (by first | exact E10 | exact E10.alloc _ : Hold _ _ _ _).below hby11
          have E11 := IntCp.hold hcp hlt
          have hSy11 := hS
          refine hK.out _ _ hS (fun hHeld => ?_)
          clear hK K
          try simp only [Act.put, List.getElem_toArray, List.getElem_cons_succ, List.getElem_cons_zero, List.setIfInBounds_toArray, List.set_cons_zero, List.set_cons_succ]
          refine wpAnyH_ready (rs := [4, 5]) (by kernel_rfl) (by simp) ?_
          refine AllReadyH.cons rfl (fun K hK => ?_) (AllReadyH.cons rfl (fun K hK => ?_) AllReadyH.nil)
          · go_simp
            refine (HIM.out _ _ _ (by first | exact E10.out | exact (E10.alloc _).out) (by first | exact E11.out | exact (E11.alloc _).out)).mono ?_
            rintro d y12 ⟨ra1, rc1, rfl, how, hby12⟩
            have hS := kp_step (by assumption) hby12
            have hzy12 := hby12.size
            replace E10 := (by first | exact E10 | exact E10.alloc _ : Hold _ _ _ _).below hby12
            replace E11 := (by first | exact E11 | exact E11.alloc _ : Hold _ _ _ _).below hby12
            have hbase := hzy12
            have hSy12 := hS
            refine hK.out _ _ hS (fun hHeld => ?_)
            clear hK K
            try simp only [Act.put, List.getElem_toArray, List.getElem_cons_succ, List.getElem_cons_zero, List.setIfInBounds_toArray, List.set_cons_zero, List.set_cons_succ]
            refine wpAnyH_ready (rs := [5]) (by kernel_rfl) (by simp) ?_
            refine AllReadyH.cons rfl (fun K hK => ?_) AllReadyH.nil
            go_simp
            have hS := kpE_new (by assumption) (.cells #[.int .i64 0, .slice none 0 0] 37)
            refine hK.out _ _ hS (fun hHeld => ?_)
            clear hK K
            try simp only [Act.put, List.getElem_toArray, List.getElem_cons_succ, List.getElem_cons_zero, List.setIfInBounds_toArray, List.set_cons_zero, List.set_cons_succ]
            refine wpAnyH_ready (rs := [6]) (by kernel_rfl) (by simp) ?_
            refine AllReadyH.cons rfl (fun K hK => ?_) AllReadyH.nil
            go_simp
            have hS := kpE_new hSy12 (.cells #[.int .i64 c, .slice ra1 ys.length rc1] 37)
            refine hK.out _ _ hS (fun hHeld => ?_)
            clear hK K
            try simp only [Act.put, List.getElem_toArray, List.getElem_cons_succ, List.getElem_cons_zero, List.setIfInBounds_toArray, List.set_cons_zero, List.set_cons_succ]
            refine wpAnyH_done (by kernel_rfl) ?_ _
            go_wp2_with fail
            go_meet
            refine ⟨y12.heap.size, _, _, ra1, rc1, rfl, hSy12.2.size, ?_, ?_, (owns_hold0 how).alloc _, hSy12.2.alloc hSy12.2.size _⟩
            · first | exact Nat.le_refl _ | exact hSy11.2.size | (simp; try omega)
            · exact boxV_new y12 #[.int .i64 c, .slice ra1 ys.length rc1] 37
          · go_simp
            have hS := kpE_new (by assumption) (.cells #[.int .i64 0, .slice none 0 0] 37)
            refine hK.out _ _ hS (fun hHeld => ?_)
            clear hK K
            try simp only [Act.put, List.getElem_toArray, List.getElem_cons_succ, List.getElem_cons_zero, List.setIfInBounds_toArray, List.set_cons_zero, List.set_cons_succ]
            refine wpAnyH_ready (rs := [4]) (by kernel_rfl) (by simp) ?_
            refine AllReadyH.cons rfl (fun K hK => ?_) AllReadyH.nil
            go_simp
            refine (HIM.out _ _ _ (by first | exact E10.out | exact (E10.alloc _).out) (by first | exact E11.out | exact (E11.alloc _).out)).mono ?_
            rintro d y12 ⟨ra1, rc1, rfl, how, hby12⟩
            have hS := kp_step (by assumption) hby12
            have hzy12 := hby12.size
            replace E10 := (by first | exact E10 | exact E10.alloc _ : Hold _ _ _ _).below hby12
            replace E11 := (by first | exact E11 | exact E11.alloc _ : Hold _ _ _ _).below hby12
            have n0 : y12.cell? ⟨y11.heap.size, 0, none⟩ = some (.int .i64 0) := (hby12.cell (p := ⟨y11.heap.size, 0, none⟩) (by simp)).trans (by simp)
            have f0 : y12.frozen? ⟨y11.heap.size, 0, none⟩ = false := (hby12.frozen (p := ⟨y11.heap.size, 0, none⟩) (by simp)).trans (by simp [go_sem])
            have n1 : y12.cell? ⟨y11.heap.size, 1, none⟩ = some (.slice none 0 0) := (hby12.cell (p := ⟨y11.heap.size, 1, none⟩) (by simp)).trans (by simp)
            have f1 : y12.frozen? ⟨y11.heap.size, 1, none⟩ = false := (hby12.frozen (p := ⟨y11.heap.size, 1, none⟩) (by simp)).trans (by simp [go_sem])
            have hlw : y11.heap.size < y12.heap.size := by have q := hby12.size; simp at q; omega
            have hgB : w182.heap.size ≤ y11.heap.size := by first | exact Nat.le_refl _ | exact hSy11.2.size
            have hbase := hzy12
            have hSy12 := hS
            refine hK.out _ _ hS (fun hHeld => ?_)
            clear hK K
            try simp only [Act.put, List.getElem_toArray, List.getElem_cons_succ, List.getElem_cons_zero, List.setIfInBounds_toArray, List.set_cons_zero, List.set_cons_succ]
            refine wpAnyH_ready (rs := [6]) (by kernel_rfl) (by simp) ?_
            refine AllReadyH.cons rfl (fun K hK => ?_) AllReadyH.nil
            go_simp
            have hS := (kpE_set (kpE_set hSy12 (p := ⟨y11.heap.size, 0, none⟩) hgB (.int .i64 c)) (p := ⟨y11.heap.size, 1, none⟩) hgB (.slice ra1 ys.length rc1))
            refine hK.out _ _ hS (fun hHeld => ?_)
            clear hK K
            try simp only [Act.put, List.getElem_toArray, List.getElem_cons_succ, List.getElem_cons_zero, List.setIfInBounds_toArray, List.set_cons_zero, List.set_cons_succ]
            refine wpAnyH_done (by kernel_rfl) ?_ _
            go_wp2_with fail
            go_meet
            refine ⟨y11.heap.size, _, _, ra1, rc1, rfl, hgB, ?_, ?_, owns_hold0 (ownsE_set (ownsE_set how (a := ⟨y11.heap.size, 0, none⟩) (by first | exact hlb | (simp; done) | (simp; omega)) _) (a := ⟨y11.heap.size, 1, none⟩) (by first | exact hlb | (simp; done) | (simp; omega)) _), ((hSy12.2.setCell hgB _).setCell hgB _)⟩
            · first | exact Nat.le_refl _ | exact hSy11.2.size | (simp; try omega)
            · refine BoxV.hold (fun j v e => ?_) (by simp; omega)
              have hj : j < 2 := by by_cases q : j < 2; exact q; rw [List.getElem?_eq_none (by simp; omega)] at e; cases e
              have hj' : j = 0 ∨ j = 1 := by omega
              rcases hj' with rfl | rfl
              all_goals (simp at e; subst e; simp [go_sem, n0, n1])
        · go_simp
          have hS := kpE_new (by assumption) (.cells #[.int .i64 0, .slice none 0 0] 37)
          refine hK.out _ _ hS (fun hHeld => ?_)
          clear hK K
          try simp only [Act.put, List.getElem_toArray, List.getElem_cons_succ, List.getElem_cons_zero, List.setIfInBounds_toArray, List.set_cons_zero, List.set_cons_succ]
          refine wpAnyH_ready (rs := [3]) (by kernel_rfl) (by simp) ?_
          refine AllReadyH.cons rfl (fun K hK => ?_) AllReadyH.nil
          go_simp
          refine (toCert_c cr1 _ hs1 (H1.out.below (HTO1.out _ (by assumption)))).mono ?_
          rintro d y11 ⟨gn11, rfl, hge, hlt, hcp, hby11⟩
          have hS := kp_step (by assumption) hby11
          have hzy11 := hby11.size
          replace E10 := (by first | exact E10 | exact E10.alloc _ : Hold _ _ _ _).below hby11
          have E11 := IntCp.hold hcp hlt
          have n0 : y11.cell? ⟨y10.heap.size, 0, none⟩ = some (.int .i64 0) := (hby11.cell (p := ⟨y10.heap.size, 0, none⟩) (by simp)).trans (by simp)
          have f0 : y11.frozen? ⟨y10.heap.size, 0, none⟩ = false := (hby11.frozen (p := ⟨y10.heap.size, 0, none⟩) (by simp)).trans (by simp [go_sem])
          have n1 : y11.cell? ⟨y10.heap.size, 1, none⟩ = some (.slice none 0 0) := (hby11.cell (p := ⟨y10.heap.size, 1, none⟩) (by simp)).trans (by simp)
          have f1 : y11.frozen? ⟨y10.heap.size, 1, none⟩ = false := (hby11.frozen (p := ⟨y10.heap.size, 1, none⟩) (by simp)).trans (by simp [go_sem])
          have hlw : y10.heap.size < y11.heap.size := by have q := hby11.size; simp at q; omega
          have hgB : w182.heap.size ≤ y10.heap.size := by first | exact Nat.le_refl _ | exact hSy10.2.size
          have hSy11 := hS
          refine hK.out _ _ hS (fun hHeld => ?_)
          clear hK K
          try simp only [Act.put, List.getElem_toArray, List.getElem_cons_succ, List.getElem_cons_zero, List.setIfInBounds_toArray, List.set_cons_zero, List.set_cons_succ]
          refine wpAnyH_ready (rs := [4]) (by kernel_rfl) (by simp) ?_
          refine AllReadyH.cons rfl (fun K hK => ?_) AllReadyH.nil
          go_simp
          refine (HIM.out _ _ _ (by first | exact E10.out | exact (E10.alloc _).out) (by first | exact E11.out | exact (E11.alloc _).out)).mono ?_
          rintro d y12 ⟨ra1, rc1, rfl, how, hby12⟩
          have hS := kp_step (by assumption) hby12
          have hzy12 := hby12.size
          replace E10 := (by first | exact E10 | exact E10.alloc _ : Hold _ _ _ _).below hby12
          replace E11 := (by first | exact E11 | exact E11.alloc _ : Hold _ _ _ _).below hby12
          replace n0 := (hby12.cell (p := ⟨y10.heap.size, 0, none⟩) hlw).trans n0
          replace f0 := (hby12.frozen (p := ⟨y10.heap.size, 0, none⟩) hlw).trans f0
          replace n1 := (hby12.cell (p := ⟨y10.heap.size, 1, none⟩) hlw).trans n1
          replace f1 := (hby12.frozen (p := ⟨y10.heap.size, 1, none⟩) hlw).trans f1
          have hlb := hlw
          replace hlw : y10.heap.size < y12.heap.size := by omega
          have hbase := hzy12
          have hSy12 := hS
          refine hK.out _ _ hS (fun hHeld => ?_)
          clear hK K
          try simp only [Act.put, List.getElem_toArray, List.getElem_cons_succ, List.getElem_cons_zero, List.setIfInBounds_toArray, List.set_cons_zero, List.set_cons_succ]
          refine wpAnyH_ready (rs := [6]) (by kernel_rfl) (by simp) ?_
          refine AllReadyH.cons rfl (fun K hK => ?_) AllReadyH.nil
          go_simp
          have hS := (kpE_set (kpE_set hSy12 (p := ⟨y10.heap.size, 0, none⟩) hgB (.int .i64 c)) (p := ⟨y10.heap.size, 1, none⟩) hgB (.slice ra1 ys.length rc1))
          refine hK.out _ _ hS (fun hHeld => ?_)
          clear hK K
          try simp only [Act.put, List.getElem_toArray, List.getElem_cons_succ, List.getElem_cons_zero, List.setIfInBounds_toArray, List.set_cons_zero, List.set_cons_succ]
          refine wpAnyH_done (by kernel_rfl) ?_ _
          go_wp2_with fail
          go_meet
          refine ⟨y10.heap.size, _, _, ra1, rc1, rfl, hgB, ?_, ?_, owns_hold0 (ownsE_set (ownsE_set how (a := ⟨y10.heap.size, 0, none⟩) (by first | exact hlb | (simp; done) | (simp; omega)) _) (a := ⟨y10.heap.size, 1, none⟩) (by first | exact hlb | (simp; done) | (simp; omega)) _), ((hSy12.2.setCell hgB _).setCell hgB _)⟩
          · first | exact Nat.le_refl _ | exact hSy11.2.size | (simp; try omega)
          · refine BoxV.hold (fun j v e => ?_) (by simp; omega)
            have hj : j < 2 := by by_cases q : j < 2; exact q; rw [List.getElem?_eq_none (by simp; omega)] at e; cases e
            have hj' : j = 0 ∨ j = 1 := by omega
            rcases hj' with rfl | rfl
            all_goals (simp at e; subst e; simp [go_sem, n0, n1])
      · go_simp
        have hS := kpE_new (by assumption) (.cells #[.int .i64 0, .slice none 0 0] 37)
        refine hK.out _ _ hS (fun hHeld => ?_)
        clear hK K
        try simp only [Act.put, List.getElem_toArray, List.getElem_cons_succ, List.getElem_cons_zero, List.setIfInBounds_toArray, List.set_cons_zero, List.set_cons_succ]
        refine wpAnyH_ready (rs := [1]) (by kernel_rfl) (by simp) ?_
        refine AllReadyH.cons rfl (fun K hK => ?_) AllReadyH.nil
        go_simp
        refine (toCert_c cr0 _ hs0 (H0.out.below (HTO0.out _ (by assumption)))).mono ?_
        rintro d y10 ⟨gn10, rfl, hge, hlt, hcp, hby10⟩
        have hS := kp_step (by assumption) hby10
        have hzy10 := hby10.size
        have E10 := IntCp.hold hcp hlt
        have n0 : y10.cell? ⟨w182.heap.size, 0, none⟩ = some (.int .i64 0) := (hby10.cell (p := ⟨w182.heap.size, 0, none⟩) (by simp)).trans (by simp)
        have f0 : y10.frozen? ⟨w182.heap.size, 0, none⟩ = false := (hby10.frozen (p := ⟨w182.heap.size, 0, none⟩) (by simp)).trans (by simp [go_sem])
        have n1 : y10.cell? ⟨w182.heap.size, 1, none⟩ = some (.slice none 0 0) := (hby10.cell (p := ⟨w182.heap.size, 1, none⟩) (by simp)).trans (by simp)
        have f1 : y10.frozen? ⟨w182.heap.size, 1, none⟩ = false := (hby10.frozen (p := ⟨w182.heap.size, 1, none⟩) (by simp)).trans (by simp [go_sem])
        have hlw : w182.heap.size < y10.heap.size := by have q := hby10.size; simp at q; omega
        have hgB : w182.heap.size ≤ w182.heap.size := Nat.le_refl _
        have hSy10 := hS
        refine hK.out _ _ hS (fun hHeld => ?_)
        clear hK K
        try simp only [Act.put, List.getElem_toArray, List.getElem_cons_succ, List.getElem_cons_zero, List.setIfInBounds_toArray, List.set_cons_zero, List.set_cons_succ]
        refine wpAnyH_ready (rs := [3]) (by kernel_rfl) (by simp) ?_
        refine AllReadyH.cons rfl (fun K hK => ?_) AllReadyH.nil
        go_simp
        refine (toCert_c cr1 _ hs1 (H1.out.below (HTO1.out _ (by assumption)))).mono ?_
        rintro d y11 ⟨gn11, rfl, hge, hlt, hcp, hby11⟩
        have hS := kp_step (by assumption) hby11
        have hzy11 := hby11.size
        replace E10 := (by first | exact E10 | exact E10.alloc _ : Hold _ _ _ _).below hby11
        have E11 := IntCp.hold hcp hlt
        replace n0 := (hby11.cell (p := ⟨w182.heap.size, 0, none⟩) hlw).trans n0
        replace f0 := (hby11.frozen (p := ⟨w182.heap.size, 0, none⟩) hlw).trans f0
        replace n1 := (hby11.cell (p := ⟨w182.heap.size, 1, none⟩) hlw).trans n1
        replace f1 := (hby11.frozen (p := ⟨w182.heap.size, 1, none⟩) hlw).trans f1
        have hlb := hlw
        replace hlw : w182.heap.size < y11.heap.size := by omega
        have hSy11 := hS
        refine hK.out _ _ hS (fun hHeld => ?_)
        clear hK K
        try simp only [Act.put, List.getElem_toArray, List.getElem_cons_succ, List.getElem_cons_zero, List.setIfInBounds_toArray, List.set_cons_zero, List.set_cons_succ]
        refine wpAnyH_ready (rs := [4]) (by kernel_rfl) (by simp) ?_
        refine AllReadyH.cons rfl (fun K hK => ?_) AllReadyH.nil
        go_simp
        refine (HIM.out _ _ _ (by first | exact E10.out | exact (E10.alloc _).out) (by first | exact E11.out | exact (E11.alloc _).out)).mono ?_
        rintro d y12 ⟨ra1, rc1, rfl, how, hby12⟩
        have hS := kp_step (by assumption) hby12
        have hzy12 := hby12.size
        replace E10 := (by first | exact E10 | exact E10.alloc _ : Hold _ _ _ _).below hby12
        replace E11 := (by first | exact E11 | exact E11.alloc _ : Hold _ _ _ _).below hby12
        replace n0 := (hby12.cell (p := ⟨w182.heap.size, 0, none⟩) hlw).trans n0
        replace f0 := (hby12.frozen (p := ⟨w182.heap.size, 0, none⟩) hlw).trans f0
        replace n1 := (hby12.cell (p := ⟨w182.heap.size, 1, none⟩) hlw).trans n1
        replace f1 := (hby12.frozen (p := ⟨w182.heap.size, 1, none⟩) hlw).trans f1
        have hlb := hlw
        replace hlw : w182.heap.size < y12.heap.size := by omega
        have hbase := hzy12
        have hSy12 := hS
        refine hK.out _ _ hS (fun hHeld => ?_)
        clear hK K
        try simp only [Act.put, List.getElem_toArray, List.getElem_cons_succ, List.getElem_cons_zero, List.setIfInBounds_toArray, List.set_cons_zero, List.set_cons_succ]
        refine wpAnyH_ready (rs := [6]) (by kernel_rfl) (by simp) ?_
        refine AllReadyH.cons rfl (fun K hK => ?_) AllReadyH.nil
        go_simp
        have hS := (kpE_set (kpE_set hSy12 (p := ⟨w182.heap.size, 0, none⟩) hgB (.int .i64 c)) (p := ⟨w182.heap.size, 1, none⟩) hgB (.slice ra1 ys.length rc1))
        refine hK.out _ _ hS (fun hHeld => ?_)
        clear hK K
        try simp only [Act.put, List.getElem_toArray, List.getElem_cons_succ, List.getElem_cons_zero, List.setIfInBounds_toArray, List.set_cons_zero, List.set_cons_succ]
        refine wpAnyH_done (by kernel_rfl) ?_ _
        go_wp2_with fail
        go_meet
        refine ⟨w182.heap.size, _, _, ra1, rc1, rfl, hgB, ?_, ?_, owns_hold0 (ownsE_set (ownsE_set how (a := ⟨w182.heap.size, 0, none⟩) (by first | exact hlb | (simp; done) | (simp; omega)) _) (a := ⟨w182.heap.size, 1, none⟩) (by first | exact hlb | (simp; done) | (simp; omega)) _), ((hSy12.2.setCell hgB _).setCell hgB _)⟩
        · first | exact Nat.le_refl _ | exact hSy11.2.size | (simp; try omega)
        · refine BoxV.hold (fun j v e => ?_) (by simp; omega)
          have hj : j < 2 := by by_cases q : j < 2; exact q; rw [List.getElem?_eq_none (by simp; omega)] at e; cases e
          have hj' : j = 0 ∨ j = 1 := by omega
          rcases hj' with rfl | rfl
          all_goals (simp at e; subst e; simp [go_sem, n0, n1])
    case rest =>
      obtain ⟨U193, rfl⟩ : ∃ U, U = wc := ⟨_, rfl⟩
      obtain ⟨rBH, rloH, rhiH, raH, rcH, rfl, hge, hglo, hbx, hrow, hb⟩ := hcut
      have B194 : Hid (Below w.heap.size w U193) := B183.out.trans (hb.mono B183.out.size)
      have hz195 := hb.size
      have F196 : Hid (Hold (w.heap.size) (w.heap.size + 1) (BoxV (w.heap.size) [.int .i64 cr0.k, .int .i64 cr0.e, .int .i64 cr0.f, .int .i64 cr0.s, .int .i64 cr0.n, .slice cr0.ga cr0.gn cr0.gc]) U193) := F185.out.below hb
      have F197 : Hid (Hold (w.heap.size + 1) (w.heap.size + 1 + 1) (BoxV (w.heap.size + 1) [.int .i64 cr1.k, .int .i64 cr1.e, .int .i64 cr1.f, .int .i64 cr1.s, .int .i64 cr1.n, .slice cr1.ga cr1.gn cr1.gc]) U193) := F186.out.below hb
      have F198 : Hid (Hold (rBS) (rBS + 1) (BoxV rBS [.int .i64 c, .slice raS ys.length rcS]) U193) := F187.out.below hb
      have F199 : Hid (Hold (rloS) (rhiS) (fun X => X.ownsRow rloS 2 1 (.slice raS ys.length rcS) ys.length (ys.map (Value.int .i64))) U193) := F188.out.below hb
      have F200 : Hid (Hold (w26.heap.size) (w26.heap.size + 1) (BoxV w26.heap.size [.int .i64 cr0.k, .int .i64 cr0.e, .int .i64 cr0.f, .int .i64 cr0.s, .int .i64 cr0.n, .slice (some ⟨xg0, 0, none⟩) cr0.gn cr0.gn]) U193) := F189.out.below hb
      have F201 : Hid (Hold (w45.heap.size) (w45.heap.size + 1) (BoxV w45.heap.size [.int .i64 cr1.k, .int .i64 cr1.e, .int .i64 cr1.f, .int .i64 cr1.s, .int .i64 cr1.n, .slice (some ⟨xg1, 0, none⟩) cr1.gn cr1.gn]) U193) := F190.out.below hb
      have F202 : Hid (Hold (w68.heap.size) (w68.heap.size + 1) (BoxV w68.heap.size [.int .i64 c, .slice raI ys.length rcI]) U193) := F191.out.below hb
      have F203 : Hid (Hold (w56.heap.size) (w68.heap.size) (fun X => X.ownsRow w56.heap.size 2 1 (.slice raI ys.length rcI) ys.length ((marks 1 ys.length).map (Value.int .i64))) U193) := F192.out.below hb
      clear B183 F185 F186 F187 F188 F189 F190 F191 F192
      have F204 : Hid (Hold (rBH) (rBH + 1) (BoxV rBH [.int .i64 c, .slice raH ys.length rcH]) U193) := hbx
      have hl205 := F204.out.le
      have F206 : Hid (Hold (rloH) (rhiH) (fun X => X.ownsRow rloH 2 1 (.slice raH ys.length rcH) ys.length (ys.map (Value.int .i64))) U193) := hrow
      have hl207 := F206.out.le
      clear hbx hrow hb
      clear b00 b01 b02 b03 b04 b05 b10 b11 b12 b13 b14 b15
      clear hbl0
      clear hbl1
      clear HTO0
      clear HTO1
      have p0 := F204.out.out 0 _ rfl
      have p1 := F204.out.out 1 _ rfl
      have q0 := F198.out.out 0 _ rfl
      have q1 := F198.out.out 1 _ rfl
      go_wp2_with fail
      refine (eqInts_same c raH raS ys.length rcH rcS ys _ hyl (row_of_owns F206.out.out) (row_of_owns F199.out.out)).mono ?_
      rintro e w208 ⟨rfl, hb⟩
      clear p0 p1 q0 q1
      have B209 : Hid (Below w.heap.size w w208) := B194.out.trans (hb.mono B194.out.size)
      have hz210 := hb.size
      have F211 : Hid (Hold (w.heap.size) (w.heap.size + 1) (BoxV (w.heap.size) [.int .i64 cr0.k, .int .i64 cr0.e, .int .i64 cr0.f, .int .i64 cr0.s, .int .i64 cr0.n, .slice cr0.ga cr0.gn cr0.gc]) w208) := F196.out.below hb
      have F212 : Hid (Hold (w.heap.size + 1) (w.heap.size + 1 + 1) (BoxV (w.heap.size + 1) [.int .i64 cr1.k, .int .i64 cr1.e, .int .i64 cr1.f, .int .i64 cr1.s, .int .i64 cr1.n, .slice cr1.ga cr1.gn cr1.gc]) w208) := F197.out.below hb
      have F213 : Hid (Hold (rBS) (rBS + 1) (BoxV rBS [.int .i64 c, .slice raS ys.length rcS]) w208) := F198.out.below hb
      have F214 : Hid (Hold (rloS) (rhiS) (fun X => X.ownsRow rloS 2 1 (.slice raS ys.length rcS) ys.length (ys.map (Value.int .i64))) w208) := F199.out.below hb
      have F215 : Hid (Hold (w26.heap.size) (w26.heap.size + 1) (BoxV w26.heap.size [.int .i64 cr0.k, .int .i64 cr0.e, .int .i64 cr0.f, .int .i64 cr0.s, .int .i64 cr0.n, .slice (some ⟨xg0, 0, none⟩) cr0.gn cr0.gn]) w208) := F200.out.below hb
      have F216 : Hid (Hold (w45.heap.size) (w45.heap.size + 1) (BoxV w45.heap.size [.int .i64 cr1.k, .int .i64 cr1.e, .int .i64 cr1.f, .int .i64 cr1.s, .int .i64 cr1.n, .slice (some ⟨xg1, 0, none⟩) cr1.gn cr1.gn]) w208) := F201.out.below hb
      have F217 : Hid (Hold (w68.heap.size) (w68.heap.size + 1) (BoxV w68.heap.size [.int .i64 c, .slice raI ys.length rcI]) w208) := F202.out.below hb
      have F218 : Hid (Hold (w56.heap.size) (w68.heap.size) (fun X => X.ownsRow w56.heap.size 2 1 (.slice raI ys.length rcI) ys.length ((marks 1 ys.length).map (Value.int .i64))) w208) := F203.out.below hb
      have F219 : Hid (Hold (rBH) (rBH + 1) (BoxV rBH [.int .i64 c, .slice raH ys.length rcH]) w208) := F204.out.below hb
      have F220 : Hid (Hold (rloH) (rhiH) (fun X => X.ownsRow rloH 2 1 (.slice raH ys.length rcH) ys.length (ys.map (Value.int .i64))) w208) := F206.out.below hb
      clear B194 F196 F197 F198 F199 F200 F201 F202 F203 F204 F206
      clear hb
      have p0 := F217.out.out 0 _ rfl
      have p1 := F217.out.out 1 _ rfl
      go_wp2_with fail
      refine (held1 c raI ys.length rcI _ hyl (row_of_owns F218.out.out)).mono ?_
      rintro e w221 ⟨rfl, hb⟩
      clear p0 p1
      have B222 : Hid (Below w.heap.size w w221) := B209.out.trans (hb.mono B209.out.size)
      have hz223 := hb.size
      have F224 : Hid (Hold (w.heap.size) (w.heap.size + 1) (BoxV (w.heap.size) [.int .i64 cr0.k, .int .i64 cr0.e, .int .i64 cr0.f, .int .i64 cr0.s, .int .i64 cr0.n, .slice cr0.ga cr0.gn cr0.gc]) w221) := F211.out.below hb
      have F225 : Hid (Hold (w.heap.size + 1) (w.heap.size + 1 + 1) (BoxV (w.heap.size + 1) [.int .i64 cr1.k, .int .i64 cr1.e, .int .i64 cr1.f, .int .i64 cr1.s, .int .i64 cr1.n, .slice cr1.ga cr1.gn cr1.gc]) w221) := F212.out.below hb
      have F226 : Hid (Hold (rBS) (rBS + 1) (BoxV rBS [.int .i64 c, .slice raS ys.length rcS]) w221) := F213.out.below hb
      have F227 : Hid (Hold (rloS) (rhiS) (fun X => X.ownsRow rloS 2 1 (.slice raS ys.length rcS) ys.length (ys.map (Value.int .i64))) w221) := F214.out.below hb
      have F228 : Hid (Hold (w26.heap.size) (w26.heap.size + 1) (BoxV w26.heap.size [.int .i64 cr0.k, .int .i64 cr0.e, .int .i64 cr0.f, .int .i64 cr0.s, .int .i64 cr0.n, .slice (some ⟨xg0, 0, none⟩) cr0.gn cr0.gn]) w221) := F215.out.below hb
      have F229 : Hid (Hold (w45.heap.size) (w45.heap.size + 1) (BoxV w45.heap.size [.int .i64 cr1.k, .int .i64 cr1.e, .int .i64 cr1.f, .int .i64 cr1.s, .int .i64 cr1.n, .slice (some ⟨xg1, 0, none⟩) cr1.gn cr1.gn]) w221) := F216.out.below hb
      have F230 : Hid (Hold (w68.heap.size) (w68.heap.size + 1) (BoxV w68.heap.size [.int .i64 c, .slice raI ys.length rcI]) w221) := F217.out.below hb
      have F231 : Hid (Hold (w56.heap.size) (w68.heap.size) (fun X => X.ownsRow w56.heap.size 2 1 (.slice raI ys.length rcI) ys.length ((marks 1 ys.length).map (Value.int .i64))) w221) := F218.out.below hb
      have F232 : Hid (Hold (rBH) (rBH + 1) (BoxV rBH [.int .i64 c, .slice raH ys.length rcH]) w221) := F219.out.below hb
      have F233 : Hid (Hold (rloH) (rhiH) (fun X => X.ownsRow rloH 2 1 (.slice raH ys.length rcH) ys.length (ys.map (Value.int .i64))) w221) := F220.out.below hb
      clear B209 F211 F212 F213 F214 F215 F216 F217 F218 F219 F220
      clear hb
      go_wp2
      go_ret
      exact ⟨rfl, B222.out⟩

/-! The walk: the Go text returns true. -/
theorem walk (cr0 : CrI) (cr1 : CrI) (w : World) (w0 : IntIn w cr0.ga cr0.gn cr0.zs ∧ cr0.gn ≤ maxLen) (w1 : IntIn w cr1.ga cr1.gn cr1.zs ∧ cr1.gn ≤ maxLen) :
    Calls Try.prog 10 #[.agg #[.int .i64 cr0.k, .int .i64 cr0.e, .int .i64 cr0.f, .int .i64 cr0.s, .int .i64 cr0.n, .slice cr0.ga cr0.gn cr0.gc], .agg #[.int .i64 cr1.k, .int .i64 cr1.e, .int .i64 cr1.f, .int .i64 cr1.s, .int .i64 cr1.n, .slice cr1.ga cr1.gn cr1.gc]] w fun e w' => e = .returned (.bool true) ∧ Below w.heap.size w w' := by
  have hy : (cmRes cr0.zs cr1.zs).length ≤ 1000 := by
    unfold cmRes
    split
    · rename_i q
      unfold cmCode at q
      by_cases r : 20 < cr0.zs.length ∨ 20 < cr1.zs.length
      · rw [if_pos r] at q; omega
      · have := List.length_filter_le (fun i => decide (i ∈ cr1.zs)) cr0.zs
        omega
    · simp
  exact inner cr0 cr1 (cmCode cr0.gn cr1.gn) (cmRes cr0.zs cr1.zs) w w0.2 w0.1 w1.2 w1.1 hy
    (fun h1 h2 g0 g1 W q0 q1 => specCommon_c cr0.st _ cr0.gn cr0.gn cr0.zs cr1.st _ cr1.gn cr1.gn cr1.zs W h1 h2 (IntIn.of w0.1.1 q0.1) (IntIn.of w1.1.1 q1.1))
    (fun h1 h2 g0 g1 W q0 q1 => implCommon_c cr0.st _ cr0.gn cr0.gn cr0.zs cr1.st _ cr1.gn cr1.gn cr1.zs W h1 h2 (IntIn.of w0.1.1 q0.1) (IntIn.of w1.1.1 q1.1))

/-! The row's step. -/
set_option maxRecDepth 100000 in
theorem lifted (os : Os) (started : os.Started) (H : Type) (enc : TypeId × Value → H) :
    ReturnsInHanded {} Try.checked os 10 .any (Rows.fnExactCommonOfSpec.pre6 enc Try.prog Try.f10 Rows.fnExactCommonOfRow.domain false) (Rows.fnExactCommonOfSpec.post enc Try.prog Try.f10 false true false false) := by
  refine returnsInHanded_of_change (C := Try.checked) own started (by kernel_rfl) Try.func10
    (ChangeSpec.witness6 (enc := enc) (C := Try.checked) false ⟨#[], #[.agg #[.int .i64 0, .int .i64 0, .int .i64 0, .int .i64 0, .int .i64 0, .slice none 0 0], .agg #[.int .i64 0, .int .i64 0, .int .i64 0, .int .i64 0, .int .i64 0, .slice none 0 0]], []⟩ 8 (by kernel_rfl) (by kernel_rfl) (by kernel_rfl) (by kernel_rfl)) ?_
  intro W base args ds gs before hval0 hW hcnd _
  have hval : ∀ (j : Nat) t v, Try.f10.params[j]? = some t → args[j]? = some v → Value.okWide Try.prog W .any base t v := hval0
  have hW' := hW
  obtain ⟨p, q, hA0, hV, rfl, hfz, hnd⟩ := hW
  have hA : DataW.TrodAll enc Try.prog W 0 (fun _ => true) true Try.f10.params.toList args.toList ds p := hA0
  rw [Try.params10] at hA hval
  obtain ⟨v0, vs0, d0, ds0, p0, q0, hargs, rfl, rfl, h0, r0⟩ := trodAll_cons hA
  obtain ⟨v1, vs1, d1, ds1, p1, q1, rfl, rfl, rfl, h1, r1⟩ := trodAll_cons r0
  obtain ⟨rfl, rfl, rfl⟩ := trodAll_nil r1
  obtain rfl : args = #[v0, v1] := by cases args; simp_all
  obtain ⟨rfl, rfl⟩ := trodVars_none hV
  obtain ⟨cs0, rfl, hs0⟩ := okWide_struct Try.underlying62 (hval 0 62 v0 rfl rfl)
  have k0 := h0
  have lt0 : ∀ x ∈ p0, x.block < W.heap.size := by obtain ⟨m, hm⟩ := k0; exact DataW.trod_lt m _ _ _ hm
  obtain ⟨cr0, rfl, w0⟩ : ∃ c : CrI, cs0 = #[.int .i64 c.k, .int .i64 c.e, .int .i64 c.f, .int .i64 c.s, .int .i64 c.n, .slice c.ga c.gn c.gc] ∧ (IntIn W c.ga c.gn c.zs ∧ c.gn ≤ maxLen) := by
    obtain ⟨fuel, hf⟩ := h0
    exact cert_shape _ hf
  obtain ⟨cs1, rfl, hs1⟩ := okWide_struct Try.underlying62 (hval 1 62 v1 rfl rfl)
  have k1 := h1
  have lt1 : ∀ x ∈ p1, x.block < W.heap.size := by obtain ⟨m, hm⟩ := k1; exact DataW.trod_lt m _ _ _ hm
  obtain ⟨cr1, rfl, w1⟩ : ∃ c : CrI, cs1 = #[.int .i64 c.k, .int .i64 c.e, .int .i64 c.f, .int .i64 c.s, .int .i64 c.n, .slice c.ga c.gn c.gc] ∧ (IntIn W c.ga c.gn c.zs ∧ c.gn ≤ maxLen) := by
    obtain ⟨fuel, hf⟩ := h1
    exact cert_shape _ hf
  clear hA0 hval0
  refine (walk cr0 cr1 W w0 w1).mono fun e W' ⟨he, bel⟩ => ?_
  subst he
  exact ⟨_, rfl, _, _, _, [], _, [], hW', trodAll_mk1 (shut_bool Try.underlying4 _), (trodAll_cons_mk (Below.trod laidOut (by kernel_rfl) (of_decide_eq_true (by kernel_rfl)) k0 bel lt0) (trodAll_cons_mk (Below.trod laidOut (by kernel_rfl) (of_decide_eq_true (by kernel_rfl)) k1 bel lt1) trodAll_mk0)), rfl, bel.frame _, fun h => by cases h⟩

theorem over : Rows.fnExactCommonOfRow.holds Try.pinned (OpenSpec.ofChange Rows.fnExactCommonOfSpec) :=
  OpenClaim.holds_of_wide 10 Try.f10 rfl rfl rfl rfl rfl rfl rfl ⟨rfl, rfl, rfl, rfl, rfl⟩ rfl rfl rfl rfl rfl (by kernel_rfl) Try.func10 (by kernel_rfl)
    (of_decide_eq_true (by kernel_rfl)) (by unfold Func.isWrapper; first | (rw [if_pos (by decide +kernel)]; kernel_rfl) | (rw [if_neg (by decide +kernel)]; exact ⟨rfl, rfl⟩))
    (fun os started H enc _ => lifted os started H enc)

end Go.Proofs.Ytdfhebmecbcegaa.fnExactCommonOf
namespace Go.Proofs.Ytdfhebmecbcegaa
theorem fnExactCommonOf_holds : Rows.FnExactCommonOfSaid := fnExactCommonOf.over
#print axioms fnExactCommonOf_holds
end Go.Proofs.Ytdfhebmecbcegaa
