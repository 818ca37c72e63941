/-
  CONTRACTS: chapter 10, the program: node, nodeFault, CastFault.
  Conditions: each contract bears its own.
-/
import Derived.Test.YtbebhiglnfmjcaaCq3
namespace Go.Proofs.Ytbebhiglnfmjcaa
open Go.RowKit
set_option linter.unusedVariables false
set_option linter.unusedSimpArgs false
attribute [local go_sem] fldN0 fldN1
attribute [local go_sem ↓] ms_eql

theorem nodup_take {hs : List MsI} (h : ∀ (j : Nat) x, hs[j]? = some x → ¬ x ∈ hs.take j) : hs.Nodup := by
  refine List.pairwise_iff_getElem.2 (fun i j hi hj hij e => ?_)
  refine h j hs[j] (List.getElem?_eq_getElem hj) ?_
  rw [← e]
  exact mem_takeM.2 ⟨i, hij, List.getElem?_eq_getElem hi⟩

theorem nodup_not {hs : List MsI} {j : Nat} {x : MsI} (e : hs[j]? = some x) (hm : x ∈ hs.take j) : ¬ hs.Nodup := by
  intro hn
  obtain ⟨i, hi, e2⟩ := mem_takeM.1 hm
  have hj : j < hs.length := (List.getElem?_eq_some_iff.1 e).1
  have := List.pairwise_iff_getElem.1 hn i j (by omega) hj hi
  rw [List.getElem?_eq_getElem (by omega)] at e e2
  exact this ((Option.some.inj e2).trans (Option.some.inj e).symm)

set_option maxRecDepth 20000 in
set_option maxHeartbeats 400000 in
theorem castNode_c (g b off k : Nat) (f s : Int) (u2 u4 : Value) (nn nc : Nat) (w : World) (hk : k < nn) (hn : nn ≤ 1048576) (hb : BoxV g [.int .i64 f, .int .i64 s, u2, .slice (some ⟨b, off, none⟩) nn nc, u4] w) :
    Calls Try.prog 54 #[.pointer (some ⟨g, 0, none⟩), .int .i64 ((k : Int) + 1)] w fun e w' => e = .returned (.pointer (some ⟨b, off + k * 4, none⟩)) ∧ w = w' := by
  have c3 := hb 3 _ rfl
  have hgl : g < w.heap.size := World.block_lt_of_cell? w ⟨g, 3, none⟩ c3
  have hki : (k : Int) < (nn : Int) := by omega
  have hni : (nn : Int) ≤ 1048576 := by omega
  have hk0 : (0 : Int) ≤ (k : Int) := by omega
  have hwr : IntKind.i64.wrap ((k : Int) + 1 - 1) = (k : Int) := by rw [IntKind.wrap_i64]; omega
  clear hb
  go_enter Try.func54, Try.ntmps54
  go_wp2
  go_ret
  exact ⟨by simp, rfl⟩

set_option maxRecDepth 20000 in
set_option maxHeartbeats 2000000 in
theorem nodeFault_c (g : Nat) (c : CastI) (k : Nat) (x : NodeI) (w : World) (hb : BoxV g [.int .i64 c.f, .int .i64 c.s, .slice c.ba c.bn c.bc, .slice c.na c.nn c.nc, .slice c.ma c.mn c.mc] w) (h : CastIn w c) (hle : CastLe 1048576 c) (hcap : CastCap c) (hx : c.ns[k]? = some x) :
    Calls Try.prog 47 #[.pointer (some ⟨g, 0, none⟩), .int .i64 ((k : Int) + 1)] w fun e w' => e = .returned (.int .i64 (ndOne c.ms ((k : Int) + 1) x.p)) ∧ Below w.heap.size w w' := by
  have hk : k < c.nn := by
    by_cases q : k < c.nn
    · exact q
    · rw [List.getElem?_eq_none (by rw [h.nodes.1]; omega)] at hx; cases hx
  obtain ⟨b, off, x', hna, hx', hat⟩ := h.nodes.at hk
  rw [hx] at hx'
  cases hx'
  obtain ⟨f, s, ba, bn, bc, bs, na, nn, nc, ns, ma, mn, mc, ms⟩ := c
  obtain ⟨xe, xr, xt, xa, xn, xc, hs⟩ := x
  change na = some ⟨b, off, none⟩ at hna
  subst hna
  change Calls Try.prog 47 #[.pointer (some ⟨g, 0, none⟩), .int .i64 ((k : Int) + 1)] w fun e w' => e = .returned (.int .i64 (ndOne ms ((k : Int) + 1) ⟨xe, xr, xt, hs⟩)) ∧ Below w.heap.size w w'
  have hnn : nn ≤ 1048576 := hle.nodes
  have hxn : xn ≤ 1048576 := hle.heard k _ hx
  have hxi : (xn : Int) ≤ 1048576 := by omega
  have hmn : mn ≤ 1048576 := hle.msgs
  have hc1 : xn ≤ xc := (hcap.n k _ hx).1
  have hc2 : xc ≤ maxLen := (hcap.n k _ hx).2
  have hgl : g < w.heap.size := World.block_lt_of_cell? w ⟨g, 0, none⟩ (hb 0 _ rfl)
  have hbl : b < w.heap.size := hat.lt
  have HB : Hid (Hold g (g + 1) (BoxV g [.int .i64 f, .int .i64 s, .slice ba bn bc, .slice (some ⟨b, off, none⟩) nn nc, .slice ma mn mc]) w) := BoxV.hold hb hgl
  have HM : Hid (MsIn w ma mn ms) := h.msgs
  have HH : Hid (MsIn w xa xn hs) := hat.2
  have HZ : Hid (hs.length = xn) := hat.2.1
  have HA : Hid (NdAt w b (off + k * 4) ⟨xe, xr, xt, xa, xn, xc, hs⟩) := hat
  have hkn : k < nn := hk
  obtain ⟨i, hi⟩ : ∃ i : Int, (k : Int) + 1 = i := ⟨_, rfl⟩
  have HND : Hid (∀ W : World, Below w.heap.size w W → Calls Try.prog 54 #[.pointer (some ⟨g, 0, none⟩), .int .i64 i] W fun e w' => e = .returned (.pointer (some ⟨b, off + k * 4, none⟩)) ∧ W = w') := fun W hW => by rw [← hi]; exact castNode_c g b off k f s _ _ nn nc W hkn hnn (HB.out.below hW).out
  have HIN : Hid (∀ W : World, Below w.heap.size w W → Calls Try.prog 93 #[.pointer (some ⟨b, off + k * 4, none⟩)] W fun e w' => e = .returned (.bool (ndB ⟨xe, xr, xt, hs⟩)) ∧ Below W.heap.size W w') := fun W hW => nodeInB_c b (off + k * 4) ⟨xe, xr, xt, xa, xn, xc, hs⟩ W (HA.out.below hW)
  obtain ⟨K, hK⟩ : ∃ K, ndOne ms ((k : Int) + 1) ⟨xe, xr, xt, hs⟩ = K := ⟨_, rfl⟩
  have HK : Hid ((if ndB ⟨xe, xr, xt, hs⟩ = true then (if hdB ms i hs = true then (if decide hs.Nodup = true then 0 else 6) else 4) else 3) = K) := by rw [← hi]; exact hK
  rw [hK, hi]
  generalize off + k * 4 = po at HA HND HIN ⊢
  clear hb h hle hcap hx hat hK hk hi hkn
  obtain ⟨t, ht⟩ : ∃ t, ndB ⟨xe, xr, xt, hs⟩ = t := ⟨_, rfl⟩
  rw [ht] at HIN HK
  clear ht
  go_enter Try.func47, Try.ntmps47
  go_wp2_with fail
  refine (HND.out _ (Below.refl _ _)).mono ?_
  rintro e w0 ⟨rfl, rfl⟩
  go_wp2_with fail
  refine (HIN.out _ (Below.refl _ _)).mono ?_
  rintro e V ⟨rfl, hbV⟩
  have BV := hidP hbV
  cases t
  · have HK3 : Hid (K = 3) := HK.out.symm
    clear HK
    go_wp2
    go_ret
    exact ⟨by rw [HK3.out]; rfl, hbV⟩
  clear hbV
  replace HK : Hid ((if hdB ms i hs = true then (if decide hs.Nodup = true then 0 else 6) else 4) = K) := by
    have q := HK.out
    simp only [if_true] at q
    exact q
  have v3 := (HA.out.below BV.out).1.2.2.2
  have hbV : b < V.heap.size := Nat.lt_of_lt_of_le hbl BV.out.size
  go_wp2_with fail
  clear v3 hbV
  go_loopw [21] (fun i0 wr => ∃ j : Nat, j ≤ xn ∧ i0 = .int .i64 (j : Int) ∧ Hid (∀ q y, q < j → hs[q]? = some y → (hasMs ms y && decide (y.t = i)) = true) ∧ Below w.heap.size w wr) (fun i _ => xn - (intOf i).toNat)
  case atStart => exact ⟨0, Nat.zero_le _, rfl, fun q y h => by omega, BV.out⟩
  case round =>
    obtain ⟨j, hj, rfl, HJ, hnx⟩ := hrel
    by_cases hlt : j < xn
    · obtain ⟨d, o, y, rfl, hy, hya, hdl⟩ := HH.out.at hlt
      have hlt' : (j : Int) < (xn : Int) := by omega
      obtain ⟨y0, y1, y2, y3⟩ := hya.below hnx hdl
      have hdw : d < wr.heap.size := Nat.lt_of_lt_of_le hdl hnx.size
      have HY : Hid (hs[j]? = some y) := hy
      obtain ⟨Y, hY⟩ : ∃ Y, Y = wr.alloc (.cells #[.int .i64 y.f, .int .i64 y.t, .int .i64 y.k, .int .i64 y.v] 51) := ⟨_, rfl⟩
      have AY : Below wr.heap.size wr Y := by rw [hY]; exact (Below.refl _ _).alloc (Nat.le_refl _) _
      have BY := hidP (hnx.trans (AY.mono hnx.size))
      have XY : Hid (Hold wr.heap.size (wr.heap.size + 1) (BoxV wr.heap.size [.int .i64 y.f, .int .i64 y.t, .int .i64 y.k, .int .i64 y.v]) Y) := by rw [hY]; exact boxV_new wr #[.int .i64 y.f, .int .i64 y.t, .int .i64 y.k, .int .i64 y.v] 51
      clear AY hy hya
      go_upto_region 7 with fail
      rw [← hY]
      clear hY y0 y1 y2 y3 hdw
      generalize wr.heap.size = by' at XY ⊢
      have m0 := XY.out.out 0 _ rfl
      have m1 := XY.out.out 1 _ rfl
      have m2 := XY.out.out 2 _ rfl
      have m3 := XY.out.out 3 _ rfl
      have hyl : by' < Y.heap.size := XY.out.le
      have g4 := (HB.out.below BY.out).out 4 _ rfl
      have hgY : g < Y.heap.size := Nat.lt_of_lt_of_le hgl BY.out.size
      by_cases q1 : y.t = i
      · have q1' : (y.t != i) = false := by simp [q1]
        obtain ⟨u, hu⟩ : ∃ u, hasMs ms y = u := ⟨_, rfl⟩
        have HU : Hid (hasMs ms y = u ∧ y.t = i) := ⟨hu, q1⟩
        have HQ : Hid (∀ w2 : World, KC Y w2 → Calls Try.prog 92 #[.slice ma mn mc, .agg #[.int .i64 y.f, .int .i64 y.t, .int .i64 y.k, .int .i64 y.v]] w2 fun e w' => e = .returned (.bool u) ∧ Below w2.heap.size w2 w') := fun w2 hb => by
          have q := slContainsM_c ma mn mc ms y w2 hmn ((HM.out.below BY.out).below hb.2)
          rw [hu] at q
          exact q
        clear hu q1
        go_region_held3 (fun w' => KC Y w') (first | exact hS | exact kp_drew _)
          (first | (go_at_call 92; refine (HQ.out _ (by assumption)).mono ?_; rintro e w' ⟨rfl, hb1⟩; have hS := kp_step (by assumption) hb1))
        have B4 := BY.out.trans (hS.2.mono BY.out.size)
        clear g4 m0 m1 m2 m3
        cases u
        · have HE : Hid (K = 4) := by
            show K = 4
            rw [← HK.out]
            have : hdB ms i hs = false := by
              cases z : hdB ms i hs
              · rfl
              · unfold hdB at z
                have := List.all_eq_true.1 z y (List.mem_of_getElem? HY.out)
                rw [HU.out.1] at this
                cases this
            rw [this]; rfl
          clear HK
          go_wp2
          go_ret
          exact ⟨by rw [HE.out]; rfl, B4⟩
        · have HN : Hid (∀ q z, q < j + 1 → hs[q]? = some z → (hasMs ms z && decide (z.t = i)) = true) := fun q z h1 h2 => by
            by_cases e : q = j
            · subst e
              rw [HY.out] at h2
              cases h2
              rw [HU.out.1, decide_eq_true HU.out.2]; rfl
            · exact HJ.out q z (by omega) h2
          go_wp2
          exact ⟨⟨j + 1, by omega, by go_num, HN, B4⟩, by simp [intOf]; omega⟩
      · have q1' : (y.t != i) = true := by simp [q1]
        have HE : Hid (K = 4) := by
          show K = 4
          rw [← HK.out]
          have : hdB ms i hs = false := by
            cases z : hdB ms i hs
            · rfl
            · unfold hdB at z
              have := List.all_eq_true.1 z y (List.mem_of_getElem? HY.out)
              rw [decide_eq_false q1] at this
              simp at this
          rw [this]; rfl
        clear HK q1
        go_quiet (fail)
        go_wp2
        go_ret
        exact ⟨by rw [HE.out]; rfl, below_drewN BY.out _⟩
    · have hjn : j = xn := by omega
      have hlt' : ¬ ((j : Int) < (xn : Int)) := by omega
      have HK2 : Hid ((if decide hs.Nodup = true then 0 else 6) = K) := by
        show _ = K
        rw [← HK.out]
        have : hdB ms i hs = true := by
          unfold hdB
          refine List.all_eq_true.2 (fun y hy => ?_)
          obtain ⟨q, hq, e⟩ := List.mem_iff_getElem.1 hy
          exact HJ.out q y (by have := HZ.out; omega) (by rw [List.getElem?_eq_getElem hq, e])
        rw [this, if_pos rfl]
      clear hjn HJ HK BV
      obtain ⟨U, rfl⟩ : ∃ U, U = wr := ⟨_, rfl⟩
      have v3 := (HA.out.below hnx).1.2.2.2
      have hbU : b < U.heap.size := Nat.lt_of_lt_of_le hbl hnx.size
      go_wp2_with fail
      clear v3 hbU
      go_loopw [44] (fun i0 wr => ∃ j : Nat, j ≤ xn ∧ i0 = .int .i64 (j : Int) ∧ Hid (∀ q y, q < j → hs[q]? = some y → ¬ y ∈ hs.take q) ∧ Below w.heap.size w wr) (fun i _ => xn - (intOf i).toNat)
      case atStart => exact ⟨0, Nat.zero_le _, rfl, fun q y h => by omega, hnx⟩
      case round =>
        obtain ⟨j, hj, rfl, HJ, hnx⟩ := hrel
        by_cases hlt : j < xn
        · obtain ⟨d, o, y, rfl, hy, hya, hdl⟩ := HH.out.at hlt
          have hlt' : (j : Int) < (xn : Int) := by omega
          obtain ⟨y0, y1, y2, y3⟩ := hya.below hnx hdl
          have hdw : d < wr.heap.size := Nat.lt_of_lt_of_le hdl hnx.size
          have HY : Hid (hs[j]? = some y) := hy
          obtain ⟨Y, hY⟩ : ∃ Y, Y = wr.alloc (.cells #[.int .i64 y.f, .int .i64 y.t, .int .i64 y.k, .int .i64 y.v] 51) := ⟨_, rfl⟩
          have AY : Below wr.heap.size wr Y := by rw [hY]; exact (Below.refl _ _).alloc (Nat.le_refl _) _
          have BY := hidP (hnx.trans (AY.mono hnx.size))
          have XY : Hid (Hold wr.heap.size (wr.heap.size + 1) (BoxV wr.heap.size [.int .i64 y.f, .int .i64 y.t, .int .i64 y.k, .int .i64 y.v]) Y) := by rw [hY]; exact boxV_new wr #[.int .i64 y.f, .int .i64 y.t, .int .i64 y.k, .int .i64 y.v] 51
          clear AY hy hya
          go_upto_region 13 with fail
          rw [← hY]
          clear hY y0 y1 y2 y3 hdw
          generalize wr.heap.size = by' at XY ⊢
          have m0 := XY.out.out 0 _ rfl
          have m1 := XY.out.out 1 _ rfl
          have m2 := XY.out.out 2 _ rfl
          have m3 := XY.out.out 3 _ rfl
          have hyl : by' < Y.heap.size := XY.out.le
          have v3 := (HA.out.below BY.out).1.2.2.2
          have hbY : b < Y.heap.size := Nat.lt_of_lt_of_le hbl BY.out.size
          have hkc : (j : Int) ≤ (xc : Int) := by omega
          have hk0 : (0 : Int) ≤ (j : Int) := by omega
          obtain ⟨u, hu⟩ : ∃ u, hasMs (hs.take j) y = u := ⟨_, rfl⟩
          have HU : Hid (hasMs (hs.take j) y = u) := hu
          have HQ : Hid (∀ w2 : World, KC Y w2 → Calls Try.prog 92 #[.slice (some ⟨d, o, none⟩) j xc, .agg #[.int .i64 y.f, .int .i64 y.t, .int .i64 y.k, .int .i64 y.v]] w2 fun e w' => e = .returned (.bool u) ∧ Below w2.heap.size w2 w') := fun w2 hb => by
            have q := slContainsM_c (some ⟨d, o, none⟩) j xc (hs.take j) y w2 (by omega) (((HH.out.below BY.out).below hb.2).take hj)
            rw [hu] at q
            exact q
          clear hu
          go_region_held3 (fun w' => KC Y w') (first | exact hS | exact kp_drew _)
            (first | (go_at_call 92; refine (HQ.out _ (by assumption)).mono ?_; rintro e w' ⟨rfl, hb1⟩; have hS := kp_step (by assumption) hb1))
          have B4 := BY.out.trans (hS.2.mono BY.out.size)
          clear v3 m0 m1 m2 m3
          cases u
          · have HN : Hid (∀ q z, q < j + 1 → hs[q]? = some z → ¬ z ∈ hs.take q) := fun q z h1 h2 => by
              by_cases e : q = j
              · subst e
                rw [HY.out] at h2
                cases h2
                intro hm
                have := hasMs_iff.2 hm
                rw [HU.out] at this
                cases this
              · exact HJ.out q z (by omega) h2
            go_wp2
            exact ⟨⟨j + 1, by omega, by go_num, HN, B4⟩, by simp [intOf]; omega⟩
          · have HE : Hid (K = 6) := by
              show K = 6
              rw [← HK2.out, decide_eq_false (nodup_not HY.out (hasMs_iff.1 HU.out))]; rfl
            clear HK2
            go_wp2
            go_ret
            exact ⟨by rw [HE.out]; rfl, B4⟩
        · have hjn : j = xn := by omega
          have hlt' : ¬ ((j : Int) < (xn : Int)) := by omega
          have HE : Hid (K = 0) := by
            show K = 0
            have : hs.Nodup := nodup_take (fun q y e => HJ.out q y (by have := (List.getElem?_eq_some_iff.1 e).1; have := HZ.out; omega) e)
            rw [← HK2.out, decide_eq_true this]; rfl
          clear hjn HK2
          go_wp2
          go_ret
          exact ⟨by rw [HE.out]; rfl, hnx⟩

set_option maxRecDepth 20000 in
set_option maxHeartbeats 2000000 in
theorem implCastFault_c (c : CastI) (w : World) (h : CastIn w c) (hle : CastLe 1048576 c) (hcap : CastCap c) :
    Calls Try.prog 16 #[.agg #[.int .i64 c.f, .int .i64 c.s, .slice c.ba c.bn c.bc, .slice c.na c.nn c.nc, .slice c.ma c.mn c.mc]] w fun e w' => e = .returned (.int .i64 (caCode c.p)) ∧ Below w.heap.size w w' := by
  obtain ⟨V, hV⟩ : ∃ V, V = w.alloc (.cells #[.int .i64 c.f, .int .i64 c.s, .slice c.ba c.bn c.bc, .slice c.na c.nn c.nc, .slice c.ma c.mn c.mc] 28) := ⟨_, rfl⟩
  have BV : Hid (Below w.heap.size w V) := by rw [hV]; exact (Below.refl _ _).alloc (Nat.le_refl _) _
  have XV : Hid (Hold w.heap.size (w.heap.size + 1) (BoxV w.heap.size [.int .i64 c.f, .int .i64 c.s, .slice c.ba c.bn c.bc, .slice c.na c.nn c.nc, .slice c.ma c.mn c.mc]) V) := by rw [hV]; exact boxV_new w #[.int .i64 c.f, .int .i64 c.s, .slice c.ba c.bn c.bc, .slice c.na c.nn c.nc, .slice c.ma c.mn c.mc] 28
  have HI := hidP h
  have HN : Hid (c.ns.length = c.nn) := h.nodes.1
  have hni : (c.nn : Int) ≤ 1048576 := by have := hle.nodes; omega
  have HHF : Hid (∀ W : World, Below V.heap.size V W → Calls Try.prog 45 #[.pointer (some ⟨w.heap.size, 0, none⟩)] W fun e w' => e = .returned (.int .i64 (hdCode c.f c.s c.bs c.nn c.mn)) ∧ Below W.heap.size W w') := fun W hW => headFault_c _ c W (XV.out.below hW).out (HI.out.below (BV.out.trans (hW.mono BV.out.size))) hle
  have HMF : Hid (inR c.f 1 2 = true → ∀ W : World, Below V.heap.size V W → Calls Try.prog 46 #[.pointer (some ⟨w.heap.size, 0, none⟩)] W fun e w' => e = .returned (.int .i64 (msTo c.f c.ms c.mn)) ∧ Below W.heap.size W w') := fun q W hW => msgsFault_c _ c W (XV.out.below hW).out (HI.out.below (BV.out.trans (hW.mono BV.out.size))) hle hcap q
  have HNF : Hid (∀ (k : Nat) (x : NodeI), c.ns[k]? = some x → ∀ W : World, Below V.heap.size V W → Calls Try.prog 47 #[.pointer (some ⟨w.heap.size, 0, none⟩), .int .i64 ((k : Int) + 1)] W fun e w' => e = .returned (.int .i64 (ndOne c.ms ((k : Int) + 1) x.p)) ∧ Below W.heap.size W w') := fun k x e W hW => nodeFault_c _ c k x W (XV.out.below hW).out (HI.out.below (BV.out.trans (hW.mono BV.out.size))) hle hcap e
  obtain ⟨K, hK⟩ : ∃ K, caCode c.p = K := ⟨_, rfl⟩
  have HK : Hid ((if hdCode c.f c.s c.bs c.nn c.mn = 0 then (if msTo c.f c.ms c.mn = 0 then ndTo c.ms (ndsP c.ns) c.nn else msTo c.f c.ms c.mn) else hdCode c.f c.s c.bs c.nn c.mn) = K) := by
    show _ = K
    rw [← hK]
    unfold caCode CastI.p
    have e1 : (ndsP c.ns).length = c.nn := by rw [← h.nodes.1]; simp [ndsP]
    simp only [e1, h.msgs.1]
  rw [hK]
  clear hK h hle hcap
  obtain ⟨d1, hd1⟩ : ∃ d, hdCode c.f c.s c.bs c.nn c.mn = d := ⟨_, rfl⟩
  obtain ⟨d2, hd2⟩ : ∃ d, msTo c.f c.ms c.mn = d := ⟨_, rfl⟩
  have HF : Hid (d1 = 0 → inR c.f 1 2 = true) := fun q => (inR_iff _ _ _).2 (hd_ok (hd1.trans q)).1
  rw [hd1] at HHF HK
  rw [hd2] at HMF HK
  clear hd1 hd2
  go_enter Try.func16, Try.ntmps16
  go_upto_region 1 with fail
  rw [← hV]
  clear hV
  generalize w.heap.size = g at XV HHF HMF HNF ⊢
  go_wp2_with fail
  refine (HHF.out _ (Below.refl _ _)).mono ?_
  rintro e w1 ⟨rfl, hb1⟩
  have B1 := hidP hb1
  clear hb1
  by_cases q1 : d1 = 0
  · subst q1
    have HM2 := hidP (HMF.out (HF.out rfl))
    go_wp2_with fail
    refine (HM2.out _ B1.out).mono ?_
    rintro e w2 ⟨rfl, hb2⟩
    have B2 := hidP (B1.out.trans (hb2.mono B1.out.size))
    clear hb2 HM2 HMF
    by_cases q2 : d2 = 0
    · subst q2
      have HK2 : Hid (ndTo c.ms (ndsP c.ns) c.nn = K) := HK.out
      have v3 := (XV.out.below B2.out).out 3 _ rfl
      have hgl : g < w2.heap.size := (XV.out.below B2.out).le
      clear HK
      go_wp2_with fail
      clear v3 hgl
      go_loopw [18] (fun i wr => ∃ k : Nat, k ≤ c.nn ∧ i = .int .i64 (k : Int) ∧ Hid (ndTo c.ms (ndsP c.ns) k = 0) ∧ Below V.heap.size V wr) (fun i _ => c.nn - (intOf i).toNat)
      case atStart => exact ⟨0, Nat.zero_le _, rfl, rfl, B2.out⟩
      case round =>
        obtain ⟨k, hk, rfl, HK0, hvx⟩ := hrel
        by_cases hlt : k < c.nn
        · have hkl : k < c.ns.length := by rw [HN.out]; exact hlt
          have hlt' : (k : Int) < (c.nn : Int) := by omega
          obtain ⟨x, hx⟩ : ∃ x, c.ns[k]? = some x := ⟨_, List.getElem?_eq_getElem hkl⟩
          have HC := hidP (HNF.out k x hx)
          have HX : Hid (ndTo c.ms (ndsP c.ns) (k + 1) = ndOne c.ms ((k : Int) + 1) x.p) := ndTo_next (by unfold ndsP; rw [List.getElem?_map, hx]; rfl) HK0.out
          obtain ⟨d, hd⟩ : ∃ d, ndOne c.ms ((k : Int) + 1) x.p = d := ⟨_, rfl⟩
          rw [hd] at HC HX
          clear hx hd hkl
          go_wp2_with fail
          refine (HC.out _ hvx).mono ?_
          rintro e w3 ⟨rfl, hb3⟩
          have B3 := hvx.trans (hb3.mono hvx.size)
          by_cases q3 : d = 0
          · subst q3
            go_wp2
            exact ⟨⟨k + 1, by omega, by go_num, HX, B3⟩, by simp [intOf]; omega⟩
          · have hdb : (d != 0) = true := by simp [q3]
            have HE : Hid (K = d) := by
              show K = d
              rw [← HK2.out]
              exact ndTo_stay _ _ (k + 1) c.nn d q3 HX.out (by omega)
            clear HK2 HX q3
            go_wp2
            go_ret
            exact ⟨by rw [HE.out]; rfl, BV.out.trans (B3.mono BV.out.size)⟩
        · have hkn : k = c.nn := by omega
          have hlt' : ¬ ((k : Int) < (c.nn : Int)) := by omega
          have HE : Hid (K = 0) := by show K = 0; rw [← HK2.out, ← hkn]; exact HK0.out
          clear hkn HK2
          go_wp2
          go_ret
          exact ⟨by rw [HE.out]; rfl, BV.out.trans (hvx.mono BV.out.size)⟩
    · have hdb : (d2 != 0) = true := by simp [q2]
      have HE : Hid (K = d2) := by show K = d2; rw [← HK.out, if_pos trivial, if_neg q2]
      clear HK q2
      go_wp2
      go_ret
      exact ⟨by rw [HE.out]; rfl, BV.out.trans (B2.out.mono BV.out.size)⟩
  · have hdb : (d1 != 0) = true := by simp [q1]
    have HE : Hid (K = d1) := by show K = d1; rw [← HK.out, if_neg q1]
    clear HK q1
    go_wp2
    go_ret
    exact ⟨by rw [HE.out]; rfl, BV.out.trans (B1.out.mono BV.out.size)⟩

end Go.Proofs.Ytbebhiglnfmjcaa
