/-
  CONTRACTS: chapter 10, the model: what the nodes' fault is.
  Conditions: each contract bears its own.
-/
import Derived.Test.YtbebhiglnfmjcaaCu0
import Derived.Test.YtbebhiglnfmjcaaCq4
namespace Go.Proofs.Ytbebhiglnfmjcaa
open Go.RowKit
set_option linter.unusedVariables false
set_option linter.unusedSimpArgs false
attribute [local go_sem ↓] ms_eql

set_option maxRecDepth 20000 in
set_option maxHeartbeats 4000000 in
theorem l10Nodes_c (g : Nat) (c : CastI) (w : World) (hb : BoxV g [.int .i64 c.f, .int .i64 c.s, .slice c.ba c.bn c.bc, .slice c.na c.nn c.nc, .slice c.ma c.mn c.mc] w) (h : CastIn w c) (hle : CastLe 1048576 c) (hcap : CastCap c) :
    Calls Try.prog 94 #[.pointer (some ⟨g, 0, none⟩)] w fun e w' => e = .returned (.int .i64 (ndTo c.ms (ndsP c.ns) c.nn)) ∧ Below w.heap.size w w' := by
  obtain ⟨f, s, ba, bn, bc, bs, na, nn, nc, ns, ma, mn, mc, ms⟩ := c
  change Calls Try.prog 94 #[.pointer (some ⟨g, 0, none⟩)] w fun e w' => e = .returned (.int .i64 (ndTo ms (ndsP ns) nn)) ∧ Below w.heap.size w w'
  have hgl : g < w.heap.size := World.block_lt_of_cell? w ⟨g, 0, none⟩ (hb 0 _ rfl)
  have HB : Hid (Hold g (g + 1) (BoxV g [.int .i64 f, .int .i64 s, .slice ba bn bc, .slice na nn nc, .slice ma mn mc]) w) := BoxV.hold hb hgl
  have HM : Hid (MsIn w ma mn ms) := h.msgs
  have HN : Hid (NdsIn w na nn ns) := h.nodes
  have HNZ : Hid (ns.length = nn) := h.nodes.1
  have HLE : Hid (NdsLe 1048576 ns) := hle.heard
  have HCP : Hid (∀ (k : Nat) (x : NodeI), ns[k]? = some x → x.n ≤ x.cap ∧ x.cap ≤ maxLen) := hcap.n
  have hnn : nn ≤ 1048576 := hle.nodes
  have hni : (nn : Int) ≤ 1048576 := by omega
  have hmn : mn ≤ 1048576 := hle.msgs
  obtain ⟨K, hK⟩ : ∃ K, ndTo ms (ndsP ns) nn = K := ⟨_, rfl⟩
  have HK : Hid (ndTo ms (ndsP ns) nn = K) := hK
  rw [hK]
  clear hb h hle hcap hK
  go_enter Try.func94, Try.ntmps94
  go_wp2_with fail
  go_loopw [3] (fun i0 wr => ∃ k : Nat, k ≤ nn ∧ i0 = .int .i64 (k : Int) ∧ Hid (ndTo ms (ndsP ns) k = 0) ∧ Below w.heap.size w wr) (fun i _ => nn - (intOf i).toNat)
  case atStart => exact ⟨0, Nat.zero_le _, rfl, rfl, Below.refl _ _⟩
  case round =>
    obtain ⟨k, hk, rfl, HK0, hnx⟩ := hrel
    have v3 := (HB.out.below hnx).out 3 _ rfl
    have hgw : g < wr.heap.size := Nat.lt_of_lt_of_le hgl hnx.size
    by_cases hlt : k < nn
    · obtain ⟨b, off, x, rfl, hx, hat⟩ := HN.out.at hlt
      have hlt' : (k : Int) < (nn : Int) := by omega
      have hxn : x.n ≤ 1048576 := HLE.out k x hx
      have hc1 := (HCP.out k x hx).1
      have hc2 := (HCP.out k x hx).2
      have HX : Hid (ndTo ms (ndsP ns) (k + 1) = ndOne ms ((k : Int) + 1) x.p) := ndTo_next (by unfold ndsP; rw [List.getElem?_map, hx]; rfl) HK0.out
      obtain ⟨xe, xr, xt, xa, xn, xc, hs⟩ := x
      have hxi : (xn : Int) ≤ 1048576 := by change xn ≤ 1048576 at hxn; omega
      have HA : Hid (NdAt w b (off + k * 4) ⟨xe, xr, xt, xa, xn, xc, hs⟩) := hat
      have HH : Hid (MsIn w xa xn hs) := hat.2
      have HZ : Hid (hs.length = xn) := hat.2.1
      have hbl : b < w.heap.size := hat.lt
      obtain ⟨⟨n0, n1, n2, n3⟩, _⟩ := hat.below hnx
      dsimp only at n0 n1 n2 n3 hc1 hc2 hxn
      have hbw : b < wr.heap.size := Nat.lt_of_lt_of_le hbl hnx.size
      obtain ⟨t1, q1⟩ : ∃ t, inR xe 0 3 = t := ⟨_, rfl⟩
      obtain ⟨t2, q2⟩ : ∃ t, inR xr 0 3 = t := ⟨_, rfl⟩
      obtain ⟨t3, q3⟩ : ∃ t, inR xt 0 3 = t := ⟨_, rfl⟩
      have C1 : Hid (∀ w : World, Calls Try.prog 59 #[.int .i64 xe, .int .i64 0, .int .i64 3] w fun e w' => e = .returned (.bool t1) ∧ w = w') := fun w => by rw [← q1]; exact cin_c xe 0 3 w
      have C2 : Hid (∀ w : World, Calls Try.prog 59 #[.int .i64 xr, .int .i64 0, .int .i64 3] w fun e w' => e = .returned (.bool t2) ∧ w = w') := fun w => by rw [← q2]; exact cin_c xr 0 3 w
      have C3 : Hid (∀ w : World, Calls Try.prog 59 #[.int .i64 xt, .int .i64 0, .int .i64 3] w fun e w' => e = .returned (.bool t3) ∧ w = w') := fun w => by rw [← q3]; exact cin_c xt 0 3 w
      obtain ⟨i, hi⟩ : ∃ i : Int, (k : Int) + 1 = i := ⟨_, rfl⟩
      have HI : Hid ((k : Int) + 1 = i) := hi
      have HX2 : Hid (ndTo ms (ndsP ns) (k + 1) = if (t1 && (t2 && t3)) = true then (if hdB ms i hs = true then (if decide hs.Nodup = true then 0 else 6) else 4) else 3) := by
        show _ = _
        rw [HX.out, ← q1, ← q2, ← q3, ← hi]
        rfl
      have HE3 : Hid ((t1 && (t2 && t3)) = false → K = 3) := fun q => by
        rw [← HK.out]
        exact ndTo_stay ms (ndsP ns) (k + 1) nn 3 (by omega) (by rw [HX2.out, q]; rfl) (by omega)
      clear hx hat HX q1 q2 q3 hi
      go_wp2_with fail
      refine (C1.out _).mono ?_
      rintro e w1 ⟨rfl, rfl⟩
      cases t1
      · have HE : Hid (K = 3) := HE3.out rfl
        clear HE3 HX2
        go_wp2
        go_ret
        exact ⟨by rw [HE.out]; rfl, hnx⟩
      go_wp2_with fail
      refine (C2.out _).mono ?_
      rintro e w1 ⟨rfl, rfl⟩
      cases t2
      · have HE : Hid (K = 3) := HE3.out rfl
        clear HE3 HX2
        go_wp2
        go_ret
        exact ⟨by rw [HE.out]; rfl, hnx⟩
      go_wp2_with fail
      refine (C3.out _).mono ?_
      rintro e w1 ⟨rfl, rfl⟩
      cases t3
      · have HE : Hid (K = 3) := HE3.out rfl
        clear HE3 HX2
        go_wp2
        go_ret
        exact ⟨by rw [HE.out]; rfl, hnx⟩
      have HX3 : Hid (ndTo ms (ndsP ns) (k + 1) = if hdB ms i hs = true then (if decide hs.Nodup = true then 0 else 6) else 4) := HX2.out
      clear HX2 HE3 C1 C2 C3
      obtain ⟨U, rfl⟩ : ∃ U, U = wr := ⟨_, rfl⟩
      go_wp2_with fail
      clear v3 hgw n0 n1 n2 n3 hbw
      go_loopw [5] (fun i0 wr => ∃ j : Nat, j ≤ xn ∧ i0 = .int .i64 (j : Int) ∧ Hid (∀ q y, q < j → hs[q]? = some y → (hasMs ms y && decide (y.t = i)) = true) ∧ Below w.heap.size w wr) (fun i _ => xn - (intOf i).toNat)
      case atStart => exact ⟨0, Nat.zero_le _, rfl, fun q y h => by omega, hnx⟩
      case round =>
        obtain ⟨j, hj, rfl, HJ, hnx⟩ := hrel
        obtain ⟨U2, rfl⟩ : ∃ U, U = wr := ⟨_, rfl⟩
        have n3 := (HA.out.below hnx).1.2.2.2
        dsimp only at n3
        have hbw : b < U2.heap.size := Nat.lt_of_lt_of_le hbl hnx.size
        by_cases hlt2 : j < xn
        · obtain ⟨d, o, y, rfl, hy, hya, hdl⟩ := HH.out.at hlt2
          have hlt3 : (j : Int) < (xn : Int) := by omega
          obtain ⟨y0, y1, y2, y3⟩ := hya.below hnx hdl
          have hdw : d < U2.heap.size := Nat.lt_of_lt_of_le hdl hnx.size
          have g4 := (HB.out.below hnx).out 4 _ rfl
          have hgw : g < U2.heap.size := Nat.lt_of_lt_of_le hgl hnx.size
          have HY : Hid (hs[j]? = some y) := hy
          obtain ⟨u, hu⟩ : ∃ u, hasMs ms y = u := ⟨_, rfl⟩
          have HU : Hid (hasMs ms y = u) := hu
          have HQ : Hid (∀ w2 : World, KC U2 w2 → Calls Try.prog 80 #[.slice ma mn mc, .agg #[.int .i64 y.f, .int .i64 y.t, .int .i64 y.k, .int .i64 y.v]] w2 fun e w' => e = .returned (.bool u) ∧ Below w2.heap.size w2 w') := fun w2 hb => by
            have q := l10Has_c ma mn mc ms y w2 hmn ((HM.out.below hnx).below hb.2)
            rw [hu] at q
            exact q
          have HE4 : Hid ((u && decide (y.t = i)) = false → K = 4) := fun z => by
            rw [← HK.out]
            refine ndTo_stay ms (ndsP ns) (k + 1) nn 4 (by omega) ?_ (by omega)
            have : hdB ms i hs = false := by
              cases z2 : hdB ms i hs
              · rfl
              · unfold hdB at z2
                have := List.all_eq_true.1 z2 y (List.mem_of_getElem? HY.out)
                rw [HU.out, z] at this
                cases this
            rw [HX3.out, this]; rfl
          clear hu hy hya
          go_upto_region 10 with fail
          cases u
          · have HE : Hid (K = 4) := HE4.out rfl
            clear HE4 HX3
            refine wp_region_held_drew (S := fun w' => KC U2 w') (by kernel_rfl) (kp_drew _) (fun hHeld => ?_)
            refine wpAnyH_take (i := 0) (v := ?_) rfl (by kernel_rfl) (by kernel_rfl) (by kernel_rfl) (fun _ _ _ h => h) (Or.inl ⟨by kernel_rfl, ?_⟩) (by assumption) ?_
            rotate_left 1
            · intro w hSw; (try dsimp only at hSw); go_simp; try (with_reducible rfl)
            try simp only [Act.put, List.getElem_toArray, List.getElem_cons_succ, List.getElem_cons_zero, List.setIfInBounds_toArray, List.set_cons_zero, List.set_cons_succ]
            refine wpAnyH_take (i := 1) (v := ?_) rfl (by kernel_rfl) (by kernel_rfl) (by kernel_rfl) (fun _ _ _ h => h) (Or.inl ⟨by kernel_rfl, ?_⟩) (by assumption) ?_
            rotate_left 1
            · intro w hSw; (try dsimp only at hSw); go_simp; try (with_reducible rfl)
            try simp only [Act.put, List.getElem_toArray, List.getElem_cons_succ, List.getElem_cons_zero, List.setIfInBounds_toArray, List.set_cons_zero, List.set_cons_succ]
            refine wpAnyH_take (i := 2) (v := ?_) rfl (by kernel_rfl) (by kernel_rfl) (by kernel_rfl) (fun _ _ _ h => h) (Or.inl ⟨by kernel_rfl, ?_⟩) (by assumption) ?_
            rotate_left 1
            · intro w hSw; (try dsimp only at hSw); go_simp; try (with_reducible rfl)
            try simp only [Act.put, List.getElem_toArray, List.getElem_cons_succ, List.getElem_cons_zero, List.setIfInBounds_toArray, List.set_cons_zero, List.set_cons_succ]
            refine wpAnyH_take (i := 3) (v := ?_) rfl (by kernel_rfl) (by kernel_rfl) (by kernel_rfl) (fun _ _ _ h => h) (Or.inl ⟨by kernel_rfl, ?_⟩) (by assumption) ?_
            rotate_left 1
            · intro w hSw; (try dsimp only at hSw); go_simp; try (with_reducible rfl)
            try simp only [Act.put, List.getElem_toArray, List.getElem_cons_succ, List.getElem_cons_zero, List.setIfInBounds_toArray, List.set_cons_zero, List.set_cons_succ]
            refine wpAnyH_take (i := 4) (v := ?_) rfl (by kernel_rfl) (by kernel_rfl) (by kernel_rfl) (fun _ _ _ h => h) (Or.inl ⟨by kernel_rfl, ?_⟩) (by assumption) ?_
            rotate_left 1
            · intro w hSw; (try dsimp only at hSw); go_simp; try (with_reducible rfl)
            try simp only [Act.put, List.getElem_toArray, List.getElem_cons_succ, List.getElem_cons_zero, List.setIfInBounds_toArray, List.set_cons_zero, List.set_cons_succ]
            refine wpAnyH_take (i := 5) (v := ?_) rfl (by kernel_rfl) (by kernel_rfl) (by kernel_rfl) (fun _ _ _ h => h) (Or.inl ⟨by kernel_rfl, ?_⟩) (by assumption) ?_
            rotate_left 1
            · intro w hSw; (try dsimp only at hSw); go_simp; try (with_reducible rfl)
            try simp only [Act.put, List.getElem_toArray, List.getElem_cons_succ, List.getElem_cons_zero, List.setIfInBounds_toArray, List.set_cons_zero, List.set_cons_succ]
            refine wpAnyH_take (i := 6) (v := ?_) rfl (by kernel_rfl) (by kernel_rfl) (by kernel_rfl) (fun _ _ _ h => h) (Or.inl ⟨by kernel_rfl, ?_⟩) (by assumption) ?_
            rotate_left 1
            · intro w hSw; (try dsimp only at hSw); go_simp; try (with_reducible rfl)
            try simp only [Act.put, List.getElem_toArray, List.getElem_cons_succ, List.getElem_cons_zero, List.setIfInBounds_toArray, List.set_cons_zero, List.set_cons_succ]
            refine wpAnyH_take (i := 7) (v := ?_) rfl (by kernel_rfl) (by kernel_rfl) (by kernel_rfl) (fun _ _ _ h => h) (Or.inl ⟨by kernel_rfl, ?_⟩) (by assumption) ?_
            rotate_left 1
            · intro w hSw; (try dsimp only at hSw); go_simp; try (with_reducible rfl)
            try simp only [Act.put, List.getElem_toArray, List.getElem_cons_succ, List.getElem_cons_zero, List.setIfInBounds_toArray, List.set_cons_zero, List.set_cons_succ]
            refine wpAnyH_take (i := 8) (v := ?_) rfl (by kernel_rfl) (by kernel_rfl) (by kernel_rfl) (fun _ _ _ h => h) (Or.inl ⟨by kernel_rfl, ?_⟩) (by assumption) ?_
            rotate_left 1
            · intro w hSw; (try dsimp only at hSw); go_simp; try (with_reducible rfl)
            try simp only [Act.put, List.getElem_toArray, List.getElem_cons_succ, List.getElem_cons_zero, List.setIfInBounds_toArray, List.set_cons_zero, List.set_cons_succ]
            refine wpAnyH_take (i := 9) (v := ?_) rfl (by kernel_rfl) (by kernel_rfl) (by kernel_rfl) (fun _ _ _ h => h) (Or.inl ⟨by kernel_rfl, ?_⟩) (by assumption) ?_
            rotate_left 1
            · intro w hSw; (try dsimp only at hSw); go_simp; try (with_reducible rfl)
            try simp only [Act.put, List.getElem_toArray, List.getElem_cons_succ, List.getElem_cons_zero, List.setIfInBounds_toArray, List.set_cons_zero, List.set_cons_succ]
            refine wpAnyH_take (i := 10) (v := ?_) rfl (by kernel_rfl) (by kernel_rfl) (by kernel_rfl) (fun _ _ _ h => h) (Or.inl ⟨by kernel_rfl, ?_⟩) (by assumption) ?_
            rotate_left 1
            · intro w hSw; (try dsimp only at hSw); go_simp; try (with_reducible rfl)
            try simp only [Act.put, List.getElem_toArray, List.getElem_cons_succ, List.getElem_cons_zero, List.setIfInBounds_toArray, List.set_cons_zero, List.set_cons_succ]
            refine wpAnyH_ready (rs := [11]) (by kernel_rfl) (by simp) ?_
            refine AllReadyH.cons rfl (fun K hK => ?_) AllReadyH.nil
            go_simp
            refine (HQ.out _ hHeld).mono ?_
            rintro d wA ⟨rfl, hbA⟩
            have hS := kp_step hHeld hbA
            refine hK.out _ _ hS (fun hHeld => ?_)
            clear hK K
            try simp only [Act.put, List.getElem_toArray, List.getElem_cons_succ, List.getElem_cons_zero, List.setIfInBounds_toArray, List.set_cons_zero, List.set_cons_succ]
            refine wpAnyH_take (i := 12) (v := ?_) rfl (by kernel_rfl) (by kernel_rfl) (by kernel_rfl) (fun _ _ _ h => h) (Or.inl ⟨by kernel_rfl, ?_⟩) (by assumption) ?_
            rotate_left 1
            · intro w hSw; (try dsimp only at hSw); go_simp; try (with_reducible rfl)
            try simp only [Act.put, List.getElem_toArray, List.getElem_cons_succ, List.getElem_cons_zero, List.setIfInBounds_toArray, List.set_cons_zero, List.set_cons_succ]
            refine wpAnyH_take (i := 13) (v := ?_) rfl (by kernel_rfl) (by kernel_rfl) (by kernel_rfl) (fun _ _ _ h => h) (Or.inl ⟨by kernel_rfl, ?_⟩) (by assumption) ?_
            rotate_left 1
            · intro w hSw; (try dsimp only at hSw); go_simp; try (with_reducible rfl)
            try simp only [Act.put, List.getElem_toArray, List.getElem_cons_succ, List.getElem_cons_zero, List.setIfInBounds_toArray, List.set_cons_zero, List.set_cons_succ]
            refine wpAnyH_take (i := 14) (v := undef) rfl (by kernel_rfl) (by kernel_rfl) (by kernel_rfl) (fun _ _ _ h => h) (Or.inr ⟨by kernel_rfl, rfl⟩) (by assumption) ?_
            try simp only [Act.put, List.getElem_toArray, List.getElem_cons_succ, List.getElem_cons_zero, List.setIfInBounds_toArray, List.set_cons_zero, List.set_cons_succ]
            refine wpAnyH_take (i := 15) (v := undef) rfl (by kernel_rfl) (by kernel_rfl) (by kernel_rfl) (fun _ _ _ h => h) (Or.inr ⟨by kernel_rfl, rfl⟩) (by assumption) ?_
            try simp only [Act.put, List.getElem_toArray, List.getElem_cons_succ, List.getElem_cons_zero, List.setIfInBounds_toArray, List.set_cons_zero, List.set_cons_succ]
            refine wpAnyH_take (i := 16) (v := undef) rfl (by kernel_rfl) (by kernel_rfl) (by kernel_rfl) (fun _ _ _ h => h) (Or.inr ⟨by kernel_rfl, rfl⟩) (by assumption) ?_
            try simp only [Act.put, List.getElem_toArray, List.getElem_cons_succ, List.getElem_cons_zero, List.setIfInBounds_toArray, List.set_cons_zero, List.set_cons_succ]
            refine wpAnyH_take (i := 17) (v := undef) rfl (by kernel_rfl) (by kernel_rfl) (by kernel_rfl) (fun _ _ _ h => h) (Or.inr ⟨by kernel_rfl, rfl⟩) (by assumption) ?_
            try simp only [Act.put, List.getElem_toArray, List.getElem_cons_succ, List.getElem_cons_zero, List.setIfInBounds_toArray, List.set_cons_zero, List.set_cons_succ]
            refine wpAnyH_take (i := 18) (v := undef) rfl (by kernel_rfl) (by kernel_rfl) (by kernel_rfl) (fun _ _ _ h => h) (Or.inr ⟨by kernel_rfl, rfl⟩) (by assumption) ?_
            try simp only [Act.put, List.getElem_toArray, List.getElem_cons_succ, List.getElem_cons_zero, List.setIfInBounds_toArray, List.set_cons_zero, List.set_cons_succ]
            refine wpAnyH_take (i := 19) (v := undef) rfl (by kernel_rfl) (by kernel_rfl) (by kernel_rfl) (fun _ _ _ h => h) (Or.inr ⟨by kernel_rfl, rfl⟩) (by assumption) ?_
            try simp only [Act.put, List.getElem_toArray, List.getElem_cons_succ, List.getElem_cons_zero, List.setIfInBounds_toArray, List.set_cons_zero, List.set_cons_succ]
            refine wpAnyH_take (i := 20) (v := undef) rfl (by kernel_rfl) (by kernel_rfl) (by kernel_rfl) (fun _ _ _ h => h) (Or.inr ⟨by kernel_rfl, rfl⟩) (by assumption) ?_
            try simp only [Act.put, List.getElem_toArray, List.getElem_cons_succ, List.getElem_cons_zero, List.setIfInBounds_toArray, List.set_cons_zero, List.set_cons_succ]
            refine wpAnyH_take (i := 21) (v := undef) rfl (by kernel_rfl) (by kernel_rfl) (by kernel_rfl) (fun _ _ _ h => h) (Or.inr ⟨by kernel_rfl, rfl⟩) (by assumption) ?_
            try simp only [Act.put, List.getElem_toArray, List.getElem_cons_succ, List.getElem_cons_zero, List.setIfInBounds_toArray, List.set_cons_zero, List.set_cons_succ]
            refine wpAnyH_take (i := 22) (v := undef) rfl (by kernel_rfl) (by kernel_rfl) (by kernel_rfl) (fun _ _ _ h => h) (Or.inr ⟨by kernel_rfl, rfl⟩) (by assumption) ?_
            try simp only [Act.put, List.getElem_toArray, List.getElem_cons_succ, List.getElem_cons_zero, List.setIfInBounds_toArray, List.set_cons_zero, List.set_cons_succ]
            refine wpAnyH_take (i := 23) (v := undef) rfl (by kernel_rfl) (by kernel_rfl) (by kernel_rfl) (fun _ _ _ h => h) (Or.inr ⟨by kernel_rfl, rfl⟩) (by assumption) ?_
            try simp only [Act.put, List.getElem_toArray, List.getElem_cons_succ, List.getElem_cons_zero, List.setIfInBounds_toArray, List.set_cons_zero, List.set_cons_succ]
            refine wpAnyH_take (i := 24) (v := undef) rfl (by kernel_rfl) (by kernel_rfl) (by kernel_rfl) (fun _ _ _ h => h) (Or.inr ⟨by kernel_rfl, rfl⟩) (by assumption) ?_
            try simp only [Act.put, List.getElem_toArray, List.getElem_cons_succ, List.getElem_cons_zero, List.setIfInBounds_toArray, List.set_cons_zero, List.set_cons_succ]
            refine wpAnyH_take (i := 25) (v := ?_) rfl (by kernel_rfl) (by kernel_rfl) (by kernel_rfl) (fun _ _ _ h => h) (Or.inl ⟨by kernel_rfl, ?_⟩) (by assumption) ?_
            rotate_left 1
            · intro w hSw; (try dsimp only at hSw); go_simp; try (with_reducible rfl)
            try simp only [Act.put, List.getElem_toArray, List.getElem_cons_succ, List.getElem_cons_zero, List.setIfInBounds_toArray, List.set_cons_zero, List.set_cons_succ]
            refine wpAnyH_done (by kernel_rfl) ?_ _
            clear hHeld g4 y0 y1 y2 y3 n3
            go_wp2
            go_ret
            exact ⟨by rw [HE.out]; rfl, hnx.trans (hS.2.mono hnx.size)⟩
          · have hki := HI.out
            have hwk : IntKind.i64.wrap ((k : Int) + 1) = i := by rw [IntKind.wrap_i64]; omega
            by_cases q1 : y.t = i
            · have q1' : (y.t != i) = false := by simp [q1]
              have HNx : Hid (∀ q z, q < j + 1 → hs[q]? = some z → (hasMs ms z && decide (z.t = i)) = true) := fun q z h1 h2 => by
                by_cases e : q = j
                · subst e
                  rw [HY.out] at h2
                  cases h2
                  rw [HU.out, decide_eq_true q1]; rfl
                · exact HJ.out q z (by omega) h2
              clear q1 HE4 hki
              go_region_held3 (fun w' => KC U2 w') (first | exact hS | exact kp_drew _)
                (first | (go_at_call 80; refine (HQ.out _ (by assumption)).mono ?_; rintro e w' ⟨rfl, hb1⟩; have hS := kp_step (by assumption) hb1))
              clear g4 y0 y1 y2 y3 n3
              go_wp2
              exact ⟨⟨j + 1, by omega, by go_num, HNx, hnx.trans (hS.2.mono hnx.size)⟩, by simp [intOf]; omega⟩
            · have q1' : (y.t != i) = true := by simp [q1]
              have HE : Hid (K = 4) := HE4.out (by rw [decide_eq_false q1]; rfl)
              clear q1 HE4 hki HX3
              go_region_held3 (fun w' => KC U2 w') (first | exact hS | exact kp_drew _)
                (first | (go_at_call 80; refine (HQ.out _ (by assumption)).mono ?_; rintro e w' ⟨rfl, hb1⟩; have hS := kp_step (by assumption) hb1))
              clear g4 y0 y1 y2 y3 n3
              go_wp2
              go_ret
              exact ⟨by rw [HE.out]; rfl, hnx.trans (hS.2.mono hnx.size)⟩
        · have hjn : j = xn := by omega
          have hlt3 : ¬ ((j : Int) < (xn : Int)) := by omega
          have HX4 : Hid (ndTo ms (ndsP ns) (k + 1) = if decide hs.Nodup = true then 0 else 6) := by
            show _ = _
            have : hdB ms i hs = true := by
              unfold hdB
              refine List.all_eq_true.2 (fun y hy => ?_)
              obtain ⟨q, hq, e⟩ := List.mem_iff_getElem.1 hy
              exact HJ.out q y (by have := HZ.out; omega) (by rw [List.getElem?_eq_getElem hq, e])
            rw [HX3.out, this, if_pos rfl]
          clear hjn HJ HX3
          go_wp2_with fail
          clear n3 hbw
          go_loopw [6] (fun i0 wr => ∃ j : Nat, j ≤ xn ∧ i0 = .int .i64 (j : Int) ∧ Hid (∀ q y, q < j → hs[q]? = some y → ¬ y ∈ hs.take q) ∧ Below w.heap.size w wr) (fun i _ => xn - (intOf i).toNat)
          case atStart => exact ⟨0, Nat.zero_le _, rfl, fun q y h => by omega, hnx⟩
          case round =>
            obtain ⟨j, hj, rfl, HJ, hnx⟩ := hrel
            obtain ⟨U3, rfl⟩ : ∃ U, U = wr := ⟨_, rfl⟩
            have n3 := (HA.out.below hnx).1.2.2.2
            dsimp only at n3
            have hbw : b < U3.heap.size := Nat.lt_of_lt_of_le hbl hnx.size
            by_cases hlt2 : j < xn
            · obtain ⟨d, o, y, rfl, hy, hya, hdl⟩ := HH.out.at hlt2
              have hlt3 : (j : Int) < (xn : Int) := by omega
              obtain ⟨y0, y1, y2, y3⟩ := hya.below hnx hdl
              have hdw : d < U3.heap.size := Nat.lt_of_lt_of_le hdl hnx.size
              have HY : Hid (hs[j]? = some y) := hy
              have hkc : (j : Int) ≤ (xc : Int) := by omega
              have hk0 : (0 : Int) ≤ (j : Int) := by omega
              obtain ⟨u, hu⟩ : ∃ u, hasMs (hs.take j) y = u := ⟨_, rfl⟩
              have HU : Hid (hasMs (hs.take j) y = u) := hu
              have HQ : Hid (∀ w2 : World, KC U3 w2 → Calls Try.prog 80 #[.slice (some ⟨d, o, none⟩) j xc, .agg #[.int .i64 y.f, .int .i64 y.t, .int .i64 y.k, .int .i64 y.v]] w2 fun e w' => e = .returned (.bool u) ∧ Below w2.heap.size w2 w') := fun w2 hb => by
                have q := l10Has_c (some ⟨d, o, none⟩) j xc (hs.take j) y w2 (by omega) (((HH.out.below hnx).below hb.2).take hj)
                rw [hu] at q
                exact q
              clear hu hy hya
              go_wp2_with fail
              go_region_held3 (fun w' => KC U3 w') (first | exact hS | exact kp_drew _)
                (first | (go_at_call 80; refine (HQ.out _ (by assumption)).mono ?_; rintro e w' ⟨rfl, hb1⟩; have hS := kp_step (by assumption) hb1))
              have B4 := hnx.trans (hS.2.mono hnx.size)
              clear y0 y1 y2 y3 n3
              cases u
              · have HNx : Hid (∀ q z, q < j + 1 → hs[q]? = some z → ¬ z ∈ hs.take q) := fun q z h1 h2 => by
                  by_cases e : q = j
                  · subst e
                    rw [HY.out] at h2
                    cases h2
                    intro hm
                    have := hasMs_iff.2 hm
                    rw [HU.out] at this
                    cases this
                  · exact HJ.out q z (by omega) h2
                go_wp2
                exact ⟨⟨j + 1, by omega, by go_num, HNx, B4⟩, by simp [intOf]; omega⟩
              · have HE : Hid (K = 6) := by
                  show K = 6
                  rw [← HK.out]
                  exact ndTo_stay ms (ndsP ns) (k + 1) nn 6 (by omega) (by rw [HX4.out, decide_eq_false (nodup_not HY.out (hasMs_iff.1 HU.out))]; rfl) (by omega)
                clear HX4
                go_wp2
                go_ret
                exact ⟨by rw [HE.out]; rfl, B4⟩
            · have hjn : j = xn := by omega
              have hlt3 : ¬ ((j : Int) < (xn : Int)) := by omega
              have HE : Hid (ndTo ms (ndsP ns) (k + 1) = 0) := by
                show _ = _
                have : hs.Nodup := nodup_take (fun q y e => HJ.out q y (by have := (List.getElem?_eq_some_iff.1 e).1; have := HZ.out; omega) e)
                rw [HX4.out, decide_eq_true this]; rfl
              clear hjn HX4
              go_wp2
              exact ⟨⟨k + 1, by omega, by go_num, HE, hnx⟩, by simp [intOf]; omega⟩
    · have hkn : k = nn := by omega
      have hlt' : ¬ ((k : Int) < (nn : Int)) := by omega
      have HE : Hid (K = 0) := by show K = 0; rw [← HK.out, ← hkn]; exact HK0.out
      clear hkn
      go_wp2
      go_ret
      exact ⟨by rw [HE.out]; rfl, hnx⟩

end Go.Proofs.Ytbebhiglnfmjcaa
