/-
  THE LAWS laws.FnExactCastFault, FnExactToldOf, FnExactAgreeRight, from their arguments on.
  Conditions: each contract bears its own.
-/
import Derived.Test.YtbebhiglnfmjcaaCu2
import Derived.Deep.RegionHeld3
namespace Go.Proofs.Ytbebhiglnfmjcaa
open Go.RowKit
set_option linter.unusedVariables false
set_option linter.unusedSimpArgs false

/-- What the law keeps: its own broadcast in a box; the argument as it was. -/
structure LC (w : World) (c : CastI) (W : World) : Prop where
  bl : Below w.heap.size w W
  lt : w.heap.size < W.heap.size
  bx : BoxV w.heap.size [.int .i64 c.f, .int .i64 c.s, .slice c.ba c.bn c.bc, .slice c.na c.nn c.nc, .slice c.ma c.mn c.mc] W
  ci : CastIn W c

theorem LC.below {w : World} {c : CastI} {W W' : World} (h : LC w c W) (hb : Below W.heap.size W W') : LC w c W' :=
  ⟨h.bl.trans (hb.mono h.bl.size), Nat.lt_of_lt_of_le h.lt hb.size, ((BoxV.hold h.bx h.lt).below hb).out, h.ci.below hb⟩

theorem LC.new {w : World} {c : CastI} (h : CastIn w c) : LC w c (w.alloc (.cells #[.int .i64 c.f, .int .i64 c.s, .slice c.ba c.bn c.bc, .slice c.na c.nn c.nc, .slice c.ma c.mn c.mc] 61)) := by
  have A0 : Below w.heap.size w (w.alloc (.cells #[.int .i64 c.f, .int .i64 c.s, .slice c.ba c.bn c.bc, .slice c.na c.nn c.nc, .slice c.ma c.mn c.mc] 61)) := (Below.refl _ _).alloc (Nat.le_refl _) _
  exact ⟨A0, by simp, (boxV_new w #[.int .i64 c.f, .int .i64 c.s, .slice c.ba c.bn c.bc, .slice c.na c.nn c.nc, .slice c.ma c.mn c.mc] 61).out, h.below A0⟩

theorem CastCp.cap {lo hi : Nat} {y : CastI} {W : World} (h : CastCp lo hi y W) (hle : CastLe 1048576 y) : CastCap y := by
  obtain ⟨_, hc, gb, gn, gm, _, _, _, _, _, _, _, _, _, _, p4, _, _, _⟩ := h
  have h1 := hle.msgs
  refine ⟨⟨by omega, by unfold maxLen; omega⟩, fun k x e => ?_⟩
  have h2 := hle.heard k x e
  have h3 := (p4 k x e).1
  exact ⟨by omega, by unfold maxLen; omega⟩

theorem leN {c : CastI} {n : Nat} (h : CastLe n c) (hn : n ≤ 1048576) : CastLe 1048576 c := ⟨Nat.le_trans h.bad hn, Nat.le_trans h.nodes hn, fun k x e => Nat.le_trans (h.heard k x e) hn, Nat.le_trans h.msgs hn⟩

set_option maxRecDepth 20000 in
set_option maxHeartbeats 2000000 in
theorem agreeright_inner (c : CastI) (kk : Bool) (w : World) (h : CastIn w c ∧ CastLe maxLen c) (HS : Hid (∀ (y : CastI) (W : World), y.p = c.p → CastIn W y → CastLe 1048576 y → CastCap y → Calls Try.prog 40 #[.agg #[.int .i64 y.f, .int .i64 y.s, .slice y.ba y.bn y.bc, .slice y.na y.nn y.nc, .slice y.ma y.mn y.mc]] W fun e w' => e = .returned (.bool kk) ∧ Below W.heap.size W w')) (HI : Hid (∀ (y : CastI) (W : World), y.p = c.p → CastIn W y → CastLe 1048576 y → CastCap y → Calls Try.prog 15 #[.agg #[.int .i64 y.f, .int .i64 y.s, .slice y.ba y.bn y.bc, .slice y.na y.nn y.nc, .slice y.ma y.mn y.mc]] W fun e w' => e = .returned (.bool kk) ∧ Below W.heap.size W w')) :
    Calls Try.prog 11 #[.agg #[.int .i64 c.f, .int .i64 c.s, .slice c.ba c.bn c.bc, .slice c.na c.nn c.nc, .slice c.ma c.mn c.mc]] w fun e w' => e = .returned (.bool true) ∧ Below w.heap.size w w' := by
  obtain ⟨V, hV⟩ : ∃ V, V = w.alloc (.cells #[.int .i64 c.f, .int .i64 c.s, .slice c.ba c.bn c.bc, .slice c.na c.nn c.nc, .slice c.ma c.mn c.mc] 61) := ⟨_, rfl⟩
  have F0 : Hid (LC w c V) := by rw [hV]; exact LC.new h.1
  have HLM : Hid (CastLe maxLen c) := h.2
  clear h
  go_enter Try.func11, Try.ntmps11
  go_upto_region 2 with fail
  rw [← hV]
  clear hV
  have v0 := F0.out.bx 0 _ rfl
  have v1 := F0.out.bx 1 _ rfl
  have v2 := F0.out.bx 2 _ rfl
  have v3 := F0.out.bx 3 _ rfl
  have v4 := F0.out.bx 4 _ rfl
  have hvl := F0.out.lt
  go_wp2_with fail
  refine (szCast_c c 1048576 _ HLM.out (by omega) (by omega) F0.out.ci).mono ?_
  rintro e w1 ⟨⟨s1, rfl, hs1, hs2⟩, hb1⟩
  have F1 := hidP (F0.out.below hb1)
  clear hb1 F0 v0 v1 v2 v3 v4 hvl
  by_cases hneg : s1 < 0
  · go_wp2_with fail
    go_ret
    exact ⟨rfl, F1.out.bl⟩
  · have HLE : Hid (CastLe 1048576 c) := leN (hs2 (by omega)) (by omega)
    clear hs2
    have v0 := F1.out.bx 0 _ rfl
    have v1 := F1.out.bx 1 _ rfl
    have v2 := F1.out.bx 2 _ rfl
    have v3 := F1.out.bx 3 _ rfl
    have v4 := F1.out.bx 4 _ rfl
    have hvl := F1.out.lt
    go_wp2_with fail
    refine (toCast_c c _ HLE.out F1.out.ci).mono ?_
    rintro e w2 ⟨y1, rfl, hy1, hc1, hb2⟩
    have F2 := hidP (F1.out.below hb2)
    have HL1 : CastLe 1048576 y1 := same_le hy1 F2.out.ci hc1.isIn HLE.out
    have H1 := hidP (HS.out y1 w2 hy1 hc1.isIn HL1 (hc1.cap HL1))
    clear hb2 F1 v0 v1 v2 v3 v4 hvl hy1 hc1 HL1
    go_wp2_with fail
    refine H1.out.mono ?_
    rintro e w3 ⟨rfl, hb3⟩
    have F3 := hidP (F2.out.below hb3)
    clear hb3 F2 H1
    have v0 := F3.out.bx 0 _ rfl
    have v1 := F3.out.bx 1 _ rfl
    have v2 := F3.out.bx 2 _ rfl
    have v3 := F3.out.bx 3 _ rfl
    have v4 := F3.out.bx 4 _ rfl
    have hvl := F3.out.lt
    go_wp2_with fail
    refine (toCast_c c _ HLE.out F3.out.ci).mono ?_
    rintro e w4 ⟨y2, rfl, hy2, hc2, hb4⟩
    obtain ⟨Z, hZ⟩ : ∃ Z, Z = w4.alloc (.cells #[.int .i64 y2.f, .int .i64 y2.s, .slice y2.ba y2.bn y2.bc, .slice y2.na y2.nn y2.nc, .slice y2.ma y2.mn y2.mc] 28) := ⟨_, rfl⟩
    have AZ : Below w4.heap.size w4 Z := by rw [hZ]; exact (Below.refl _ _).alloc (Nat.le_refl _) _
    have F5 := hidP ((F3.out.below hb4).below AZ)
    have Y5 := hidP ((hc2.hold (Nat.le_refl _)).below AZ)
    have hp2 := hidP hy2
    have HLY : Hid (CastLe 1048576 y2) := same_le hy2 (F3.out.below hb4).ci hc2.isIn HLE.out
    have X5 : Hid (Hold w4.heap.size (w4.heap.size + 1) (BoxV w4.heap.size [.int .i64 y2.f, .int .i64 y2.s, .slice y2.ba y2.bn y2.bc, .slice y2.na y2.nn y2.nc, .slice y2.ma y2.mn y2.mc]) Z) := by rw [hZ]; exact boxV_new w4 #[.int .i64 y2.f, .int .i64 y2.s, .slice y2.ba y2.bn y2.bc, .slice y2.na y2.nn y2.nc, .slice y2.ma y2.mn y2.mc] 28
    clear hb4 hy2 hc2 AZ F3 v0 v1 v2 v3 v4 hvl
    go_upto_region 7 with fail
    rw [← hZ]
    clear hZ
    generalize w4.heap.size = q7 at X5 Y5 ⊢
    have q0 := X5.out.out 0 _ rfl
    have q1 := X5.out.out 1 _ rfl
    have q2 := X5.out.out 2 _ rfl
    have q3 := X5.out.out 3 _ rfl
    have q4 := X5.out.out 4 _ rfl
    have hq5 : q7 < Z.heap.size := X5.out.le
    have H2 := hidP (HI.out y2 Z hp2.out Y5.out.out.isIn HLY.out (Y5.out.out.cap HLY.out))
    go_wp2_with fail
    refine H2.out.mono ?_
    rintro e w8 ⟨rfl, hb8⟩
    have F8 := hidP (F5.out.below hb8)
    have Y8 := hidP (Y5.out.below hb8)
    have X8 := hidP (X5.out.below hb8)
    clear hb8 F5 Y5 X5 q0 q1 q2 q3 q4 hq5 H2
    obtain ⟨w9, rfl⟩ : ∃ w9, w9 = w8 := ⟨_, rfl⟩
    have F9 := F8
    have Y9 := Y8
    have X9 := X8
    clear F8 Y8 X8
    go_upto_region 10 with fail
    have v0 := F9.out.bx 0 _ rfl
    have v1 := F9.out.bx 1 _ rfl
    have v2 := F9.out.bx 2 _ rfl
    have v3 := F9.out.bx 3 _ rfl
    have v4 := F9.out.bx 4 _ rfl
    have hvl := F9.out.lt
    have q0 := X9.out.out 0 _ rfl
    have q1 := X9.out.out 1 _ rfl
    have q2 := X9.out.out 2 _ rfl
    have q3 := X9.out.out 3 _ rfl
    have q4 := X9.out.out 4 _ rfl
    have hq9 : q7 < w9.heap.size := X9.out.le
    refine wp_region_held_drew (S := fun w' => KC w9 w') (by kernel_rfl) (kp_drew _) (fun hHeld => ?_)
    refine wpAnyH_take (i := 0) (v := ?_) rfl (by kernel_rfl) (by kernel_rfl) (by kernel_rfl) (fun _ _ _ h => h) (Or.inl ⟨by kernel_rfl, ?_⟩) (by assumption) ?_
    rotate_left 1
    · intro w hSw; (try dsimp only at hSw); go_simp; try (with_reducible rfl)
    try simp only [Act.put, List.getElem_toArray, List.getElem_cons_succ, List.getElem_cons_zero, List.setIfInBounds_toArray, List.set_cons_zero, List.set_cons_succ]
    refine wpAnyH_take (i := 1) (v := ?_) rfl (by kernel_rfl) (by kernel_rfl) (by kernel_rfl) (fun _ _ _ h => h) (Or.inl ⟨by kernel_rfl, ?_⟩) (by assumption) ?_
    rotate_left 1
    · intro w hSw; (try dsimp only at hSw); go_simp; try (with_reducible rfl)
    try simp only [Act.put, List.getElem_toArray, List.getElem_cons_succ, List.getElem_cons_zero, List.setIfInBounds_toArray, List.set_cons_zero, List.set_cons_succ]
    refine wpAnyH_ready (rs := [2]) (by kernel_rfl) (by simp) ?_
    refine AllReadyH.cons rfl (fun K hK => ?_) AllReadyH.nil
    go_simp
    refine (toCast_c c _ HLE.out (F9.out.below hHeld.2).ci).mono ?_
    rintro d wA ⟨y3, rfl, hy3, hc3, hbA⟩
    have hS := kp_step hHeld hbA
    have Y3 := hidP hc3
    have hp3 := hidP hy3
    clear hc3 hy3
    refine hK.out _ _ hS (fun hHeld => ?_)
    clear hK K
    try simp only [Act.put, List.getElem_toArray, List.getElem_cons_succ, List.getElem_cons_zero, List.setIfInBounds_toArray, List.set_cons_zero, List.set_cons_succ]
    refine wpAnyH_ready (rs := [3]) (by kernel_rfl) (by simp) ?_
    refine AllReadyH.cons rfl (fun K hK => ?_) AllReadyH.nil
    go_simp
    refine (eqCast_same y2 y3 _ HLY.out (by rw [hp3.out, hp2.out]) ((Y9.out.below hHeld.2).out).isIn Y3.out.isIn).mono ?_
    rintro d wB ⟨rfl, hbB⟩
    have hS := kp_step hHeld hbB
    refine hK.out _ _ hS (fun hHeld => ?_)
    clear hK K
    try simp only [Act.put, List.getElem_toArray, List.getElem_cons_succ, List.getElem_cons_zero, List.setIfInBounds_toArray, List.set_cons_zero, List.set_cons_succ]
    refine wpAnyH_take (i := 4) (v := ?_) rfl (by kernel_rfl) (by kernel_rfl) (by kernel_rfl) (fun _ _ _ h => h) (Or.inl ⟨by kernel_rfl, ?_⟩) (by assumption) ?_
    rotate_left 1
    · intro w hSw; (try dsimp only at hSw); go_simp; try (with_reducible rfl)
    try simp only [Act.put, List.getElem_toArray, List.getElem_cons_succ, List.getElem_cons_zero, List.setIfInBounds_toArray, List.set_cons_zero, List.set_cons_succ]
    refine wpAnyH_done (by kernel_rfl) ?_ _
    have B10 := hidP ((F9.out.below hS.2).bl)
    clear hHeld hS v0 v1 v2 v3 v4 hvl q0 q1 q2 q3 q4 hq9 F9 Y9 X9
    go_wp2_with fail
    go_ret
    exact ⟨rfl, B10.out⟩

end Go.Proofs.Ytbebhiglnfmjcaa
