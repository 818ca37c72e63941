/-
  CONTRACTS: CommonOf of the document's program.
  Conditions: each contract bears its own.
-/
import Derived.Test.YtdfhebmecbcegaaCeb
import Derived.Deep.RegionLaw
import Derived.Deep.RegionHeld3
namespace Go.Proofs.Ytdfhebmecbcegaa
open Go.RowKit
set_option linter.unusedVariables false
set_option linter.unusedSimpArgs false

set_option maxRecDepth 20000 in
set_option maxHeartbeats 4000000 in
theorem specCommon_c (x : StI) (ga : Option Addr) (gn gc : Nat) (us : List Int) (y : StI) (ha : Option Addr) (hn hc : Nat) (vs : List Int) (w : World) (hg : gn ≤ 1048576) (hh : hn ≤ 1048576) (h1 : IntIn w ga gn us) (h2 : IntIn w ha hn vs) : GivesCO 26 x ga gn gc y ha hn hc (cmCode gn hn) (cmRes us vs) w := by
  unfold GivesCO
  obtain ⟨V, hV, BV, hV1, hV2, xb, yb, rb⟩ := three_boxes w #[.int .i64 x.k, .int .i64 x.e, .int .i64 x.f, .int .i64 x.s, .int .i64 x.n, .slice ga gn gc] #[.int .i64 y.k, .int .i64 y.e, .int .i64 y.f, .int .i64 y.s, .int .i64 y.n, .slice ha hn hc] #[.int .i64 0, .slice none 0 0] 31 37
  obtain ⟨i0, hi, hz0, hz1, hz2⟩ := info_parts Try.infoI2
  have HZ : Hid (us.length = gn ∧ vs.length = hn) := ⟨h1.1, h2.1⟩
  have I1 : Hid (IntIn V ga gn us) := h1.below BV
  have I2 : Hid (IntIn V ha hn vs) := h2.below BV
  have XB0 : Hid (BoxV w.heap.size [.int .i64 x.k, .int .i64 x.e, .int .i64 x.f, .int .i64 x.s, .int .i64 x.n, .slice ga gn gc] V) := xb
  have YB : Hid (BoxV (w.heap.size + 1) [.int .i64 y.k, .int .i64 y.e, .int .i64 y.f, .int .i64 y.s, .int .i64 y.n, .slice ha hn hc] V) := yb
  have RB : Hid (BoxW (w.heap.size + 1 + 1) [.int .i64 0, .slice none 0 0] V) := rb
  have hg' : (gn : Int) ≤ 1048576 := by omega
  have hh' : (hn : Int) ≤ 1048576 := by omega
  obtain ⟨c, hcc⟩ : ∃ c, cmCode gn hn = c := ⟨_, rfl⟩
  obtain ⟨ys, hys⟩ : ∃ ys, cmRes us vs = ys := ⟨_, rfl⟩
  rw [hcc, hys]
  have HC : Hid (c = if 20 < gn ∨ 20 < hn then 2 else 0) := by show c = _; rw [← hcc]; rfl
  have HY : Hid (ys = if c = 0 then us.filter (fun i => decide (i ∈ vs)) else []) := by show ys = _; rw [← hys, ← hcc]; unfold cmRes; rw [HZ.out.1, HZ.out.2]
  have x5 := xb 5 _ rfl
  have y5 := yb 5 _ rfl
  have r0 := rb.1 0 _ rfl
  have r1 := rb.1 1 _ rfl
  have f0 := rb.2 0
  have f1 := rb.2 1
  have hVl : w.heap.size + 1 + 1 < V.heap.size := by omega
  clear h1 h2 xb yb rb hcc hys
  by_cases hbad : 20 < gn ∨ 20 < hn
  · have HE : Hid (c = 2 ∧ ys = []) := by
      have e : c = 2 := by rw [HC.out, if_pos hbad]
      exact ⟨e, by rw [HY.out, if_neg (by omega)]⟩
    by_cases q1 : 20 < gn
    · have q1' : (20 : Int) < (gn : Int) := by omega
      clear hbad
      go_enter Try.func26, Try.ntmps26
      go_upto_region 1 with fail
      rw [← hV]
      clear hV
      go_wp2
      refine bodyPost_ret (v := .agg #[.int .i64 2, .slice none 0 0]) (by simp [results, Try.results26, go_sem, r0, r1, hVl]) rfl ⟨none, 0, by rw [HE.out.1, HE.out.2]; rfl, by rw [HE.out.2]; exact World.ownsRow_nil _ _ _ _, ?_⟩
      exact (BV.setCell (by show w.heap.size ≤ w.heap.size + 1 + 1; omega) _).setCell (by show w.heap.size ≤ w.heap.size + 1 + 1; omega) _
    · have q1' : ¬ ((20 : Int) < (gn : Int)) := by omega
      have q2' : (20 : Int) < (hn : Int) := by omega
      clear hbad
      go_enter Try.func26, Try.ntmps26
      go_upto_region 1 with fail
      rw [← hV]
      clear hV
      go_wp2
      refine bodyPost_ret (v := .agg #[.int .i64 2, .slice none 0 0]) (by simp [results, Try.results26, go_sem, r0, r1, hVl]) rfl ⟨none, 0, by rw [HE.out.1, HE.out.2]; rfl, by rw [HE.out.2]; exact World.ownsRow_nil _ _ _ _, ?_⟩
      exact (BV.setCell (by show w.heap.size ≤ w.heap.size + 1 + 1; omega) _).setCell (by show w.heap.size ≤ w.heap.size + 1 + 1; omega) _
  · have q1' : ¬ ((20 : Int) < (gn : Int)) := by omega
    have q2' : ¬ ((20 : Int) < (hn : Int)) := by omega
    have HE : Hid (c = 0 ∧ ys = cmTo us vs gn) := by
      have e : c = 0 := by rw [HC.out, if_neg hbad]
      exact ⟨e, by rw [HY.out, if_pos e]; unfold cmTo; rw [List.take_of_length_le (by have := HZ.out.1; omega)]⟩
    have hg20 : gn ≤ 20 := by omega
    clear hbad
    obtain ⟨W, hW⟩ : ∃ W, W = V.alloc (.cells #[.int .i64 0, .slice none 0 0] 37) := ⟨_, rfl⟩
    have BW : Hid (Below V.heap.size V W) := by rw [hW]; exact (Below.refl _ _).alloc (Nat.le_refl _) _
    have OB0 : Hid (BoxW V.heap.size [.int .i64 0, .slice none 0 0] W) := by rw [hW]; exact boxW_new V _ _
    have hWs : V.heap.size < W.heap.size := by rw [hW]; simp
    have HXB : Hid (BoxV w.heap.size [.int .i64 x.k, .int .i64 x.e, .int .i64 x.f, .int .i64 x.s, .int .i64 x.n, .slice ga gn gc] V) := XB0.out
    go_enter Try.func26, Try.ntmps26
    go_upto_region 1 with fail
    rw [← hV]
    clear hV
    go_wp2
    rw [← hW]
    clear hW x5 y5 r0 r1 f0 f1
    go_loopw [6] (fun i wr => ∃ (k : Nat) (v : Value), k ≤ gn ∧ i = .int .i64 (k : Int) ∧ OwnI wr W.heap.size v (cmTo us vs k) ∧ BoxW V.heap.size [.int .i64 0, v] wr ∧ Below V.heap.size V wr ∧ W.heap.size ≤ wr.heap.size) (fun i _ => gn - (intOf i).toNat)
    case atStart => exact ⟨0, _, Nat.zero_le _, rfl, World.ownsRow_nil _ _ _ _, OB0.out, BW.out, Nat.le_refl _⟩
    case round =>
      obtain ⟨k, v, hk, rfl, hown, hbox, hvx, hWr⟩ := hrel
      have HO : Hid (OwnI wr W.heap.size v (cmTo us vs k)) := hown
      have HBX : Hid (BoxW V.heap.size [.int .i64 0, v] wr) := hbox
      have x5 := (hvx.cell (p := ⟨w.heap.size, 5, none⟩) (by show w.heap.size < _; omega)).trans (HXB.out 5 _ rfl)
      by_cases hlt : k < gn
      · obtain ⟨b, off, p, rfl, hp, hpa, hbl⟩ := I1.out.at hlt
        have hlt' : (k : Int) < (gn : Int) := by omega
        have hk0 : (0 : Int) ≤ (k : Int) := by omega
        have c0 := (hvx.cell (p := ⟨b, off + k, none⟩) hbl).trans hpa
        have y5 := (hvx.cell (p := ⟨w.heap.size + 1, 5, none⟩) (by show w.heap.size + 1 < _; omega)).trans (YB.out 5 _ rfl)
        have z0 := hbox.1 0 _ rfl
        have z1 := hbox.1 1 _ rfl
        have g0 := hbox.2 0
        have g1 := hbox.2 1
        have hzr := hvx.size
        have hbw : b < wr.heap.size := by omega
        have hww : w.heap.size < wr.heap.size := by omega
        have hww1 : w.heap.size + 1 < wr.heap.size := by omega
        have hVw : V.heap.size < wr.heap.size := by omega
        obtain ⟨t, ht⟩ : ∃ t, decide (p ∈ vs) = t := ⟨_, rfl⟩
        have HT : Hid (decide (p ∈ vs) = t) := ht
        have HP : Hid (us[k]? = some p) := hp
        have hkl := cmTo_len us vs k
        have HQ : Hid (∀ w2 : World, (∀ b o, b < wr.heap.size → w2.cell? ⟨b, o, none⟩ = wr.cell? ⟨b, o, none⟩) ∧ Below wr.heap.size wr w2 → Calls Try.prog 62 #[.slice ha hn hc, .int .i64 p] w2 fun e w' => e = .returned (.bool t) ∧ w2 = w') := fun w2 hb => by
          have := l9Among_c ha hn hc vs p w2 hh ((I2.out.below hvx).below hb.2)
          rw [ht] at this
          exact this
        clear hp hpa ht hown hbox
        cases t
        · have HN : Hid (cmTo us vs (k + 1) = cmTo us vs k) := cmTo_miss HP.out HT.out
          go_wp2_with fail
          go_region_held3 (fun w' => (∀ b o, b < wr.heap.size → w'.cell? ⟨b, o, none⟩ = wr.cell? ⟨b, o, none⟩) ∧ Below wr.heap.size wr w') (first | exact hS | exact kp_drew _ | assumption)
            (first | (go_at_call 62; refine (HQ.out _ (by assumption)).mono ?_; rintro e w' ⟨rfl, rfl⟩))
          have HEND : Hid (OwnI wr.drew W.heap.size v (cmTo us vs k) ∧ BoxW V.heap.size [.int .i64 0, v] wr.drew ∧ Below V.heap.size V wr.drew) := ⟨ownI_below HO.out (Below.refl _ _).drew, HBX.out.below hVw (Below.refl _ _).drew, hvx.drew⟩
          go_wp2
          exact ⟨⟨k + 1, v, by omega, by go_num, by rw [HN.out]; exact HEND.out.1, HEND.out.2.1, HEND.out.2.2, hWr⟩, by simp [intOf]; omega⟩
        · have HN : Hid (cmTo us vs (k + 1) = cmTo us vs k ++ [p]) := cmTo_hit HP.out HT.out
          obtain ⟨m, hm⟩ : ∃ m, (cmTo us vs k).length = m := ⟨_, rfl⟩
          have HM : Hid ((cmTo us vs k).length = m) := hm
          have hm20 : m ≤ 20 := by omega
          have HO2 : Hid (wr.ownsRow W.heap.size 2 1 v m ((cmTo us vs k).map (Value.int .i64))) := by rw [← hm]; exact HO.out
          clear hm hkl
          go_wp2_with fail
          go_region_held3 (fun w' => (∀ b o, b < wr.heap.size → w'.cell? ⟨b, o, none⟩ = wr.cell? ⟨b, o, none⟩) ∧ Below wr.heap.size wr w') (first | exact hS | exact kp_drew _ | assumption)
            (first | (go_at_call 62; refine (HQ.out _ (by assumption)).mono ?_; rintro e w' ⟨rfl, rfl⟩))
          obtain ⟨U, hU⟩ : ∃ U, U = wr.drew := ⟨_, rfl⟩
          have HOU : Hid (U.ownsRow W.heap.size 2 1 v m ((cmTo us vs k).map (Value.int .i64))) := by rw [hU]; exact owns_drew HO2.out
          have HBU : Hid (BoxW V.heap.size [.int .i64 0, v] U) := by rw [hU]; exact HBX.out.below hVw (Below.refl _ _).drew
          have BVU : Hid (Below V.heap.size V U) := by rw [hU]; exact hvx.drew
          have x5 : U.cell? ⟨w.heap.size, 5, none⟩ = some (.slice (some ⟨b, off, none⟩) gn gc) := by rw [hU]; exact x5
          have c0 : U.cell? ⟨b, off + k, none⟩ = some (.int .i64 p) := by rw [hU]; exact c0
          have z1 := HBU.out.1 1 _ rfl
          have hUW : W.heap.size ≤ U.heap.size := by rw [hU]; exact hWr
          have hVU : V.heap.size < U.heap.size := by omega
          have hbU : b < W.heap.size := by omega
          have hbV : b ≠ V.heap.size := by omega
          have hwW : w.heap.size < W.heap.size := by omega
          have hwV : w.heap.size ≠ V.heap.size := by omega
          go_wp2_with fail
          rw [← hU]
          clear hU
          -- by hand 8
          refine wp_region_held_drew (S := fun w' => ∀ b o, b < W.heap.size → b ≠ V.heap.size → w'.cell? ⟨b, o, none⟩ = U.cell? ⟨b, o, none⟩) (by kernel_rfl) (fun b o _ _ => rfl) (fun hHeld => ?_)
          refine wpAnyH_take (i := 0) (v := ?_) rfl (by kernel_rfl) (by kernel_rfl) (by kernel_rfl) (fun _ _ _ h => h) (Or.inl ⟨by kernel_rfl, ?_⟩) (by assumption) ?_
          rotate_left 1
          · intro w hSw; (try dsimp only at hSw); go_simp; try (with_reducible rfl)
          try simp only [Act.put, List.getElem_toArray, List.getElem_cons_succ, List.getElem_cons_zero, List.setIfInBounds_toArray, List.set_cons_zero, List.set_cons_succ]
          refine wpAnyH_take (i := 2) (v := ?_) rfl (by kernel_rfl) (by kernel_rfl) (by kernel_rfl) (fun _ _ _ h => h) (Or.inl ⟨by kernel_rfl, ?_⟩) (by assumption) ?_
          rotate_left 1
          · intro w hSw; (try dsimp only at hSw); go_simp; try (with_reducible rfl)
          try simp only [Act.put, List.getElem_toArray, List.getElem_cons_succ, List.getElem_cons_zero, List.setIfInBounds_toArray, List.set_cons_zero, List.set_cons_succ]
          refine wpAnyH_take (i := 3) (v := ?_) rfl (by kernel_rfl) (by kernel_rfl) (by kernel_rfl) (fun _ _ _ h => h) (Or.inl ⟨by kernel_rfl, ?_⟩) (by assumption) ?_
          rotate_left 1
          · intro w hSw; (try dsimp only at hSw); go_simp; try (with_reducible rfl)
          try simp only [Act.put, List.getElem_toArray, List.getElem_cons_succ, List.getElem_cons_zero, List.setIfInBounds_toArray, List.set_cons_zero, List.set_cons_succ]
          refine wpAnyH_take (i := 4) (v := ?_) rfl (by kernel_rfl) (by kernel_rfl) (by kernel_rfl) (fun _ _ _ h => h) (Or.inl ⟨by kernel_rfl, ?_⟩) (by assumption) ?_
          rotate_left 1
          · intro w hSw; (try dsimp only at hSw); go_simp; try (with_reducible rfl)
          try simp only [Act.put, List.getElem_toArray, List.getElem_cons_succ, List.getElem_cons_zero, List.setIfInBounds_toArray, List.set_cons_zero, List.set_cons_succ]
          refine wpAnyH_take (i := 5) (v := ?_) rfl (by kernel_rfl) (by kernel_rfl) (by kernel_rfl) (fun _ _ _ h => h) (Or.inl ⟨by kernel_rfl, ?_⟩) (by assumption) ?_
          rotate_left 1
          · intro w hSw; (try dsimp only at hSw); go_simp; try (with_reducible rfl)
          try simp only [Act.put, List.getElem_toArray, List.getElem_cons_succ, List.getElem_cons_zero, List.setIfInBounds_toArray, List.set_cons_zero, List.set_cons_succ]
          refine wpAnyH_take (i := 6) (v := ?_) rfl (by kernel_rfl) (by kernel_rfl) (by kernel_rfl) (fun _ _ _ h => h) (Or.inl ⟨by kernel_rfl, ?_⟩) (by assumption) ?_
          rotate_left 1
          · intro w hSw; (try dsimp only at hSw); go_simp; try (with_reducible rfl)
          try simp only [Act.put, List.getElem_toArray, List.getElem_cons_succ, List.getElem_cons_zero, List.setIfInBounds_toArray, List.set_cons_zero, List.set_cons_succ]
          refine wpAnyH_ready (rs := [1, 7]) (by kernel_rfl) (by simp) ?_
          refine AllReadyH.cons rfl (fun K hK => ?_) (AllReadyH.cons rfl (fun K hK => ?_) AllReadyH.nil)
          · go_simp
            have hS := hHeld
            refine hK.out _ _ hS (fun hHeld => ?_)
            clear hK K
            try simp only [Act.put, List.getElem_toArray, List.getElem_cons_succ, List.getElem_cons_zero, List.setIfInBounds_toArray, List.set_cons_zero, List.set_cons_succ]
            refine wpAnyH_ready (rs := [7]) (by kernel_rfl) (by simp) ?_
            refine AllReadyH.cons rfl (fun K hK => ?_) AllReadyH.nil
            go_simp
            have hS : ∀ b o, b < W.heap.size → b ≠ V.heap.size → ((U.alloc (.cells #[.int .i64 p] 2)).drew).cell? ⟨b, o, none⟩ = U.cell? ⟨b, o, none⟩ := fun b o h1 h2 => (((Below.refl U.heap.size U).alloc (Nat.le_refl _) (.cells #[.int .i64 p] 2)).drew).cell (p := ⟨b, o, none⟩) (by show b < U.heap.size; omega)
            refine hK.out _ _ hS (fun hHeld => ?_)
            clear hK K
            try simp only [Act.put, List.getElem_toArray, List.getElem_cons_succ, List.getElem_cons_zero, List.setIfInBounds_toArray, List.set_cons_zero, List.set_cons_succ]
            refine wpAnyH_ready (rs := [8]) (by kernel_rfl) (by simp) ?_
            refine AllReadyH.cons rfl (fun K hK => ?_) AllReadyH.nil
            have HXB2 : Below U.heap.size U (U.alloc (.cells #[.int .i64 p] 2)).drew := ((Below.refl _ _).alloc (Nat.le_refl _) _).drew
            refine step_appendI rfl (.tmp 35) (.tmp 41) 29 rfl W.heap.size 2 i0 (.int .i64 0) 1 8 Try.underlying29 hi hz0 hz1 hz2 rfl (by decide) v m ((cmTo us vs k).map (Value.int .i64)) (by rfl) (HOU.out.alloc _) ⟨U.heap.size, 0, none⟩ 1 1 [.int .i64 p] (by rfl) (by rfl) (fun q u hq => by match q, hq with | 0, hq => simp at hq; subst hq; simp [Addr.add]) (fun u hu => by simp at hu; subst hu; rfl) (by unfold maxLen; omega) (by omega) (by show W.heap.size ≤ (U.alloc _).heap.size; simp; omega) ?_
            intro v7 w7 hown7 hgrow7 hnil7
            have hz7 := hgrow7.size
            have CH : Chg W.heap.size (w7.heap.size + 1) _ w7 := Chg.grown hgrow7 (fun q e => by have h9 := HOU.out.lt q e; refine ⟨h9.1, ?_⟩; have : U.heap.size ≤ w7.heap.size := Nat.le_trans (by simp [go_sem]) hz7; omega)
            have BX7 : Hid (BoxW V.heap.size [.int .i64 0, v] w7) := (((HBU.out.hold hVU).below HXB2).chg CH (by omega)).out
            have BL7 : Hid (Below V.heap.size V w7 ∧ W.heap.size ≤ w7.heap.size) := ⟨(BVU.out.trans (HXB2.mono BVU.out.size)).trans (CH.below V.heap.size (by omega) (by have := BVU.out.size; have := HXB2.size; omega)), by have := HXB2.size; have := CH.size; omega⟩
            have H7 : Hid (w7.ownsRow W.heap.size 2 1 v7 (m + 1) ((cmTo us vs k).map (Value.int .i64) ++ [.int .i64 p])) := hown7
            have N7 : Hid (v7 ≠ .slice none 0 0) := fun e => by have := (hnil7.1 e).2; omega
            obtain ⟨g7, cap7, hv7⟩ := ownsI_shape H7.out N7.out
            subst hv7
            have z1' := BX7.out.1 1 _ rfl
            have g1' := BX7.out.2 1
            have hV7 : V.heap.size < w7.heap.size := by have := BL7.out.2; omega
            have hS : ∀ b o, b < W.heap.size → b ≠ V.heap.size → w7.cell? ⟨b, o, none⟩ = U.cell? ⟨b, o, none⟩ := fun b o h1 h2 => by
              have hbU : b < U.heap.size := by omega
              have h9 := CH.block b (Nat.lt_of_lt_of_le hbU HXB2.size) (.inl h1)
              exact (World.cell?_of_block (a := ⟨b, o, none⟩) h9).trans (HXB2.cell (p := ⟨b, o, none⟩) hbU)
            clear hown7 hnil7 hgrow7 CH hz7
            refine hK.out _ _ hS (fun hHeld => ?_)
            clear hK K
            try simp only [Act.put, List.getElem_toArray, List.getElem_cons_succ, List.getElem_cons_zero, List.setIfInBounds_toArray, List.set_cons_zero, List.set_cons_succ]
            refine wpAnyH_take (i := 9) (v := ?_) rfl (by kernel_rfl) (by kernel_rfl) (by kernel_rfl) (fun _ _ _ h => h) (Or.inl ⟨by kernel_rfl, ?_⟩) (by assumption) ?_
            rotate_left 1
            · intro w hSw; (try dsimp only at hSw); go_simp; try (with_reducible rfl)
            try simp only [Act.put, List.getElem_toArray, List.getElem_cons_succ, List.getElem_cons_zero, List.setIfInBounds_toArray, List.set_cons_zero, List.set_cons_succ]
            refine wpAnyH_ready (rs := [10]) (by kernel_rfl) (by simp) ?_
            refine AllReadyH.cons rfl (fun K hK => ?_) AllReadyH.nil
            go_simp
            have hS : ∀ b o, b < W.heap.size → b ≠ V.heap.size → (w7.setCell ⟨V.heap.size, 1, none⟩ (.slice (some ⟨g7, 0, none⟩) (m + 1) cap7)).cell? ⟨b, o, none⟩ = U.cell? ⟨b, o, none⟩ := fun b o h1 h2 => by
              rw [World.cell?_setCell_other (h := fun e => h2 (by have := congrArg Addr.block e; simp at this; omega))]
              exact hHeld b o h1 h2
            refine hK.out _ _ hS (fun hHeld => ?_)
            clear hK K
            try simp only [Act.put, List.getElem_toArray, List.getElem_cons_succ, List.getElem_cons_zero, List.setIfInBounds_toArray, List.set_cons_zero, List.set_cons_succ]
            refine wpAnyH_done (by kernel_rfl) ?_ _
            have HEND : Hid (OwnI (w7.setCell ⟨V.heap.size, 1, none⟩ (.slice (some ⟨g7, 0, none⟩) (m + 1) cap7)) W.heap.size (.slice (some ⟨g7, 0, none⟩) (m + 1) cap7) (cmTo us vs (k + 1)) ∧ BoxW V.heap.size [.int .i64 0, .slice (some ⟨g7, 0, none⟩) (m + 1) cap7] (w7.setCell ⟨V.heap.size, 1, none⟩ (.slice (some ⟨g7, 0, none⟩) (m + 1) cap7)) ∧ Below V.heap.size V (w7.setCell ⟨V.heap.size, 1, none⟩ (.slice (some ⟨g7, 0, none⟩) (m + 1) cap7))) := by
              refine ⟨?_, BX7.out.put 1 (by simp) _, BL7.out.1.setCell (Nat.le_refl _) _⟩
              have h9 := ownsE_set H7.out (a := ⟨V.heap.size, 1, none⟩) hWs (.slice (some ⟨g7, 0, none⟩) (m + 1) cap7)
              show World.ownsRow _ _ _ _ _ _ _
              rw [HN.out, List.length_append, HM.out, List.map_append]
              exact h9
            have hW7 : W.heap.size ≤ w7.heap.size := BL7.out.2
            clear H7 N7 BX7 BL7
            go_wp2_with fail
            exact ⟨⟨k + 1, _, by omega, by go_num, HEND.out.1, HEND.out.2.1, HEND.out.2.2, by simp; exact hW7⟩, by simp [intOf]; omega⟩
          · go_simp
            have hS : ∀ b o, b < W.heap.size → b ≠ V.heap.size → ((U.alloc (.cells #[.int .i64 p] 2)).drew).cell? ⟨b, o, none⟩ = U.cell? ⟨b, o, none⟩ := fun b o h1 h2 => (((Below.refl U.heap.size U).alloc (Nat.le_refl _) (.cells #[.int .i64 p] 2)).drew).cell (p := ⟨b, o, none⟩) (by show b < U.heap.size; omega)
            refine hK.out _ _ hS (fun hHeld => ?_)
            clear hK K
            try simp only [Act.put, List.getElem_toArray, List.getElem_cons_succ, List.getElem_cons_zero, List.setIfInBounds_toArray, List.set_cons_zero, List.set_cons_succ]
            refine wpAnyH_ready (rs := [1]) (by kernel_rfl) (by simp) ?_
            refine AllReadyH.cons rfl (fun K hK => ?_) AllReadyH.nil
            go_simp
            have hS := hHeld
            refine hK.out _ _ hS (fun hHeld => ?_)
            clear hK K
            try simp only [Act.put, List.getElem_toArray, List.getElem_cons_succ, List.getElem_cons_zero, List.setIfInBounds_toArray, List.set_cons_zero, List.set_cons_succ]
            refine wpAnyH_ready (rs := [8]) (by kernel_rfl) (by simp) ?_
            refine AllReadyH.cons rfl (fun K hK => ?_) AllReadyH.nil
            have HXB2 : Below U.heap.size U (U.alloc (.cells #[.int .i64 p] 2)).drew := ((Below.refl _ _).alloc (Nat.le_refl _) _).drew
            refine step_appendI rfl (.tmp 35) (.tmp 41) 29 rfl W.heap.size 2 i0 (.int .i64 0) 1 8 Try.underlying29 hi hz0 hz1 hz2 rfl (by decide) v m ((cmTo us vs k).map (Value.int .i64)) (by rfl) (HOU.out.alloc _) ⟨U.heap.size, 0, none⟩ 1 1 [.int .i64 p] (by rfl) (by rfl) (fun q u hq => by match q, hq with | 0, hq => simp at hq; subst hq; simp [Addr.add]) (fun u hu => by simp at hu; subst hu; rfl) (by unfold maxLen; omega) (by omega) (by show W.heap.size ≤ (U.alloc _).heap.size; simp; omega) ?_
            intro v7 w7 hown7 hgrow7 hnil7
            have hz7 := hgrow7.size
            have CH : Chg W.heap.size (w7.heap.size + 1) _ w7 := Chg.grown hgrow7 (fun q e => by have h9 := HOU.out.lt q e; refine ⟨h9.1, ?_⟩; have : U.heap.size ≤ w7.heap.size := Nat.le_trans (by simp [go_sem]) hz7; omega)
            have BX7 : Hid (BoxW V.heap.size [.int .i64 0, v] w7) := (((HBU.out.hold hVU).below HXB2).chg CH (by omega)).out
            have BL7 : Hid (Below V.heap.size V w7 ∧ W.heap.size ≤ w7.heap.size) := ⟨(BVU.out.trans (HXB2.mono BVU.out.size)).trans (CH.below V.heap.size (by omega) (by have := BVU.out.size; have := HXB2.size; omega)), by have := HXB2.size; have := CH.size; omega⟩
            have H7 : Hid (w7.ownsRow W.heap.size 2 1 v7 (m + 1) ((cmTo us vs k).map (Value.int .i64) ++ [.int .i64 p])) := hown7
            have N7 : Hid (v7 ≠ .slice none 0 0) := fun e => by have := (hnil7.1 e).2; omega
            obtain ⟨g7, cap7, hv7⟩ := ownsI_shape H7.out N7.out
            subst hv7
            have z1' := BX7.out.1 1 _ rfl
            have g1' := BX7.out.2 1
            have hV7 : V.heap.size < w7.heap.size := by have := BL7.out.2; omega
            have hS : ∀ b o, b < W.heap.size → b ≠ V.heap.size → w7.cell? ⟨b, o, none⟩ = U.cell? ⟨b, o, none⟩ := fun b o h1 h2 => by
              have hbU : b < U.heap.size := by omega
              have h9 := CH.block b (Nat.lt_of_lt_of_le hbU HXB2.size) (.inl h1)
              exact (World.cell?_of_block (a := ⟨b, o, none⟩) h9).trans (HXB2.cell (p := ⟨b, o, none⟩) hbU)
            clear hown7 hnil7 hgrow7 CH hz7
            refine hK.out _ _ hS (fun hHeld => ?_)
            clear hK K
            try simp only [Act.put, List.getElem_toArray, List.getElem_cons_succ, List.getElem_cons_zero, List.setIfInBounds_toArray, List.set_cons_zero, List.set_cons_succ]
            refine wpAnyH_take (i := 9) (v := ?_) rfl (by kernel_rfl) (by kernel_rfl) (by kernel_rfl) (fun _ _ _ h => h) (Or.inl ⟨by kernel_rfl, ?_⟩) (by assumption) ?_
            rotate_left 1
            · intro w hSw; (try dsimp only at hSw); go_simp; try (with_reducible rfl)
            try simp only [Act.put, List.getElem_toArray, List.getElem_cons_succ, List.getElem_cons_zero, List.setIfInBounds_toArray, List.set_cons_zero, List.set_cons_succ]
            refine wpAnyH_ready (rs := [10]) (by kernel_rfl) (by simp) ?_
            refine AllReadyH.cons rfl (fun K hK => ?_) AllReadyH.nil
            go_simp
            have hS : ∀ b o, b < W.heap.size → b ≠ V.heap.size → (w7.setCell ⟨V.heap.size, 1, none⟩ (.slice (some ⟨g7, 0, none⟩) (m + 1) cap7)).cell? ⟨b, o, none⟩ = U.cell? ⟨b, o, none⟩ := fun b o h1 h2 => by
              rw [World.cell?_setCell_other (h := fun e => h2 (by have := congrArg Addr.block e; simp at this; omega))]
              exact hHeld b o h1 h2
            refine hK.out _ _ hS (fun hHeld => ?_)
            clear hK K
            try simp only [Act.put, List.getElem_toArray, List.getElem_cons_succ, List.getElem_cons_zero, List.setIfInBounds_toArray, List.set_cons_zero, List.set_cons_succ]
            refine wpAnyH_done (by kernel_rfl) ?_ _
            have HEND : Hid (OwnI (w7.setCell ⟨V.heap.size, 1, none⟩ (.slice (some ⟨g7, 0, none⟩) (m + 1) cap7)) W.heap.size (.slice (some ⟨g7, 0, none⟩) (m + 1) cap7) (cmTo us vs (k + 1)) ∧ BoxW V.heap.size [.int .i64 0, .slice (some ⟨g7, 0, none⟩) (m + 1) cap7] (w7.setCell ⟨V.heap.size, 1, none⟩ (.slice (some ⟨g7, 0, none⟩) (m + 1) cap7)) ∧ Below V.heap.size V (w7.setCell ⟨V.heap.size, 1, none⟩ (.slice (some ⟨g7, 0, none⟩) (m + 1) cap7))) := by
              refine ⟨?_, BX7.out.put 1 (by simp) _, BL7.out.1.setCell (Nat.le_refl _) _⟩
              have h9 := ownsE_set H7.out (a := ⟨V.heap.size, 1, none⟩) hWs (.slice (some ⟨g7, 0, none⟩) (m + 1) cap7)
              show World.ownsRow _ _ _ _ _ _ _
              rw [HN.out, List.length_append, HM.out, List.map_append]
              exact h9
            have hW7 : W.heap.size ≤ w7.heap.size := BL7.out.2
            clear H7 N7 BX7 BL7
            go_wp2_with fail
            exact ⟨⟨k + 1, _, by omega, by go_num, HEND.out.1, HEND.out.2.1, HEND.out.2.2, by simp; exact hW7⟩, by simp [intOf]; omega⟩
          -- end 8
      · have hkn : k = gn := by omega
        subst hkn
        have hlt' : ¬ ((k : Int) < (k : Int)) := by omega
        have hVw : V.heap.size < wr.heap.size := by omega
        have X2 := RB.out.below (by omega) hvx
        have d0 := X2.1 0 _ rfl
        have d1 := X2.1 1 _ rfl
        have e0 := X2.2 0
        have e1 := X2.2 1
        have z0 := hbox.1 0 _ rfl
        have hw2 : w.heap.size + 1 + 1 < wr.heap.size := Nat.lt_of_lt_of_le hVl hvx.size
        obtain ⟨ra, rc, hv⟩ : ∃ ra rc, v = .slice ra (cmTo us vs k).length rc := by
          have ho0 : wr.ownsRow W.heap.size 2 1 v (cmTo us vs k).length ((cmTo us vs k).map (Value.int .i64)) := hown
          rcases ho0.2 with ⟨h1, h2⟩ | ⟨g, cp, cur, h1, _⟩
          · exact ⟨none, 0, by rw [h1, h2]⟩
          · exact ⟨_, _, h1⟩
        subst hv
        obtain ⟨m, hm⟩ : ∃ m, (cmTo us vs k).length = m := ⟨_, rfl⟩
        have HO3 : Hid (wr.ownsRow W.heap.size 2 1 (.slice ra m rc) m (ys.map (Value.int .i64)) ∧ ys.length = m) := ⟨by rw [← hm, HE.out.2]; exact HO.out, by rw [HE.out.2, hm]⟩
        have z1 : wr.cell? ⟨V.heap.size, 1, none⟩ = some (.slice ra m rc) := by rw [← hm]; exact hbox.1 1 _ rfl
        have BWW : Hid (Below w.heap.size w wr) := BV.trans (hvx.mono BV.size)
        have HLT : Hid (w.heap.size + 1 + 1 < W.heap.size) := by show _ < _; omega
        clear hown hbox hm X2 HO HBX
        go_wp2
        refine bodyPost_ret (v := .agg #[.int .i64 0, .slice ra m rc]) (by simp [results, Try.results26, go_sem, d0, d1, hw2]) rfl ⟨ra, rc, by rw [HE.out.1, HO3.out.2], ?_, ?_⟩
        · rw [HO3.out.2]
          exact low_owns (ownsE_set (ownsE_set HO3.out.1 (a := ⟨w.heap.size + 1 + 1, 0, none⟩) HLT.out _) (a := ⟨w.heap.size + 1 + 1, 1, none⟩) HLT.out _) (by have := HLT.out; omega)
        · exact (BWW.out.setCell (by show w.heap.size ≤ w.heap.size + 1 + 1; omega) _).setCell (by show w.heap.size ≤ w.heap.size + 1 + 1; omega) _

end Go.Proofs.Ytdfhebmecbcegaa
