/-
  CONTRACTS: chapter 10, the program: msgsFault, node, nodeFault, CastFault.
  Conditions: each contract bears its own.
-/
import Derived.Test.YtbebhiglnfmjcaaCq2
namespace Go.Proofs.Ytbebhiglnfmjcaa
open Go.RowKit
set_option linter.unusedVariables false
set_option linter.unusedSimpArgs false
attribute [local go_sem] fldN0 fldN1
attribute [local go_sem ↓] ms_eql

/-- Lists that can be cut: what there is room for is at least what there is. -/
structure CastCap (c : CastI) : Prop where
  m : c.mn ≤ c.mc ∧ c.mc ≤ maxLen
  n : ∀ (k : Nat) (x : NodeI), c.ns[k]? = some x → x.n ≤ x.cap ∧ x.cap ≤ maxLen

set_option maxRecDepth 20000 in
set_option maxHeartbeats 2000000 in
theorem msgsFault_c (g : Nat) (c : CastI) (w : World) (hb : BoxV g [.int .i64 c.f, .int .i64 c.s, .slice c.ba c.bn c.bc, .slice c.na c.nn c.nc, .slice c.ma c.mn c.mc] w) (h : CastIn w c) (hle : CastLe 1048576 c) (hcap : CastCap c) (hf : inR c.f 1 2 = true) :
    Calls Try.prog 46 #[.pointer (some ⟨g, 0, none⟩)] w fun e w' => e = .returned (.int .i64 (msTo c.f c.ms c.mn)) ∧ Below w.heap.size w w' := by
  obtain ⟨f, s, ba, bn, bc, bs, na, nn, nc, ns, ma, mn, mc, ms⟩ := c
  change Calls Try.prog 46 #[.pointer (some ⟨g, 0, none⟩)] w fun e w' => e = .returned (.int .i64 (msTo f ms mn)) ∧ Below w.heap.size w w'
  replace hf : inR f 1 2 = true := hf
  have c0 : w.cell? ⟨g, 0, none⟩ = some (.int .i64 f) := hb 0 _ rfl
  have hgl : g < w.heap.size := World.block_lt_of_cell? w ⟨g, 0, none⟩ c0
  have HB : Hid (Hold g (g + 1) (BoxV g [.int .i64 f, .int .i64 s, .slice ba bn bc, .slice na nn nc, .slice ma mn mc]) w) := BoxV.hold hb hgl
  have HI : Hid (MsIn w ma mn ms) := h.msgs
  have HZ : Hid (ms.length = mn) := h.msgs.1
  have hmn : mn ≤ 1048576 := hle.msgs
  have hmi : (mn : Int) ≤ 1048576 := by omega
  have hc1 : mn ≤ mc := hcap.m.1
  have hc2 : mc ≤ maxLen := hcap.m.2
  have HRF : Hid (∀ w : World, Calls Try.prog 53 #[.int .i64 f] w fun e w' => e = .returned (.agg #[.int .i64 0, .int .i64 (3 * f + 1)]) ∧ Below w.heap.size w w') := fun w => by
    have q := implReplicasOf_c f w
    unfold GivesNF nfCode nfVal at q
    rw [hf] at q
    exact q
  obtain ⟨K, hK⟩ : ∃ K, msTo f ms mn = K := ⟨_, rfl⟩
  have HK : Hid (msTo f ms mn = K) := hK
  rw [hK]
  clear hb h hle hK hf hcap
  go_enter Try.func46, Try.ntmps46
  go_wp2_with fail
  refine (HRF.out _).mono ?_
  rintro e w2 ⟨rfl, hb2⟩
  obtain ⟨V, hV⟩ : ∃ V, V = w2.alloc (.cells #[.int .i64 0, .int .i64 (3 * f + 1)] 37) := ⟨_, rfl⟩
  have AV : Below w2.heap.size w2 V := by rw [hV]; exact (Below.refl _ _).alloc (Nat.le_refl _) _
  have XV := hidP ((HB.out.below hb2).below AV)
  have BV : Hid (Below w.heap.size w V) := hb2.trans (AV.mono hb2.size)
  have MV : Hid (Hold w2.heap.size (w2.heap.size + 1) (BoxV w2.heap.size [.int .i64 0, .int .i64 (3 * f + 1)]) V) := by rw [hV]; exact boxV_new w2 #[.int .i64 0, .int .i64 (3 * f + 1)] 37
  clear hb2 AV c0
  go_upto_region 2 with fail
  rw [← hV]
  clear hV
  generalize w2.heap.size = bm at MV ⊢
  have v4 := XV.out.out 4 _ rfl
  have hgV : g < V.heap.size := Nat.lt_of_lt_of_le hgl BV.out.size
  go_wp2_with fail
  clear v4 hgV
  go_loopw [16] (fun i wr => ∃ k : Nat, k ≤ mn ∧ i = .int .i64 (k : Int) ∧ Hid (msTo f ms k = 0) ∧ Below V.heap.size V wr) (fun i _ => mn - (intOf i).toNat)
  case atStart => exact ⟨0, Nat.zero_le _, rfl, rfl, Below.refl _ _⟩
  case round =>
    obtain ⟨k, hk, rfl, HK0, hvx⟩ := hrel
    have hnx : Below w.heap.size w wr := BV.out.trans (hvx.mono BV.out.size)
    by_cases hlt : k < mn
    · obtain ⟨b, off, y, rfl, hy, hya, hbl⟩ := HI.out.at hlt
      have hlt' : (k : Int) < (mn : Int) := by omega
      obtain ⟨y0, y1, y2, y3⟩ := hya.below hnx hbl
      have hbw : b < wr.heap.size := Nat.lt_of_lt_of_le hbl hnx.size
      have HN : Hid (msTo f ms (k + 1) = msOne f (ms.take k) y) := msTo_next hy HK0.out
      obtain ⟨Y, hY⟩ : ∃ Y, Y = wr.alloc (.cells #[.int .i64 y.f, .int .i64 y.t, .int .i64 y.k, .int .i64 y.v] 51) := ⟨_, rfl⟩
      have AY : Below wr.heap.size wr Y := by rw [hY]; exact (Below.refl _ _).alloc (Nat.le_refl _) _
      have BY := hidP (hvx.trans (AY.mono hvx.size))
      have XY : Hid (Hold wr.heap.size (wr.heap.size + 1) (BoxV wr.heap.size [.int .i64 y.f, .int .i64 y.t, .int .i64 y.k, .int .i64 y.v]) Y) := by rw [hY]; exact boxV_new wr #[.int .i64 y.f, .int .i64 y.t, .int .i64 y.k, .int .i64 y.v] 51
      clear AY hy hya
      go_upto_region 5 with fail
      rw [← hY]
      clear hY y0 y1 y2 y3 hbw
      generalize wr.heap.size = by' at XY ⊢
      have m0 := XY.out.out 0 _ rfl
      have m1 := XY.out.out 1 _ rfl
      have m2 := XY.out.out 2 _ rfl
      have m3 := XY.out.out 3 _ rfl
      have hyl : by' < Y.heap.size := XY.out.le
      have n0 := (MV.out.below BY.out).out 0 _ rfl
      have n1 := (MV.out.below BY.out).out 1 _ rfl
      have hnl : bm < Y.heap.size := (MV.out.below BY.out).le
      obtain ⟨t, ht⟩ : ∃ t, msB f y = t := ⟨_, rfl⟩
      have HIB : Hid (∀ w : World, Calls Try.prog 73 #[.agg #[.int .i64 y.f, .int .i64 y.t, .int .i64 y.k, .int .i64 y.v], .agg #[.int .i64 0, .int .i64 (3 * f + 1)]] w fun e w' => e = .returned (.bool t) ∧ Below w.heap.size w w') := fun w => by rw [← ht]; exact msgInB_c y f w
      have HT : Hid (msB f y = t) := ht
      clear ht
      go_wp2_with fail
      refine (HIB.out _).mono ?_
      rintro e w3 ⟨rfl, hb3⟩
      have B3 := hidP (BY.out.trans (hb3.mono BY.out.size))
      have BW : Hid (Below w.heap.size w w3) := BV.out.trans (B3.out.mono BV.out.size)
      have X3 := hidP (XY.out.below hb3)
      clear hb3 m0 m1 m2 m3 hyl n0 n1 hnl BY XY
      cases t
      · have HE : Hid (K = 3) := by
          show K = 3
          rw [← HK.out]
          exact msTo_stay f ms (k + 1) mn 3 (by omega) (by rw [HN.out]; unfold msOne; rw [HT.out]; rfl) (by omega)
        clear HN
        go_wp2
        go_ret
        exact ⟨by rw [HE.out]; rfl, BW.out⟩
      · obtain ⟨u, hu⟩ : ∃ u, hasMs (ms.take k) y = u := ⟨_, rfl⟩
        have HN2 : Hid (msTo f ms (k + 1) = if u = true then 6 else 0) := by show _ = _; rw [HN.out]; unfold msOne; rw [HT.out, if_pos rfl, hu]
        have g4 := ((XV.out.below B3.out).out 4 _ rfl)
        have hg3 : g < w3.heap.size := Nat.lt_of_lt_of_le hgl BW.out.size
        have m0 := X3.out.out 0 _ rfl
        have m1 := X3.out.out 1 _ rfl
        have m2 := X3.out.out 2 _ rfl
        have m3 := X3.out.out 3 _ rfl
        have hyl : by' < w3.heap.size := X3.out.le
        have hkc : (k : Int) ≤ (mc : Int) := by omega
        have hk0 : (0 : Int) ≤ (k : Int) := by omega
        have HQ : Hid (∀ w2 : World, KC w3 w2 → Calls Try.prog 92 #[.slice (some ⟨b, off, none⟩) k mc, .agg #[.int .i64 y.f, .int .i64 y.t, .int .i64 y.k, .int .i64 y.v]] w2 fun e w' => e = .returned (.bool u) ∧ Below w2.heap.size w2 w') := fun w2 hb => by
          have q := slContainsM_c (some ⟨b, off, none⟩) k mc (ms.take k) y w2 (by omega) (((HI.out.below BW.out).below hb.2).take hk)
          rw [hu] at q
          exact q
        clear hu HN HT
        go_wp2_with fail
        go_region_held3 (fun w' => KC w3 w') (first | exact hS | exact kp_drew _)
          (first | (go_at_call 92; refine (HQ.out _ (by assumption)).mono ?_; rintro e w' ⟨rfl, hb1⟩; have hS := kp_step (by assumption) hb1))
        have B4 := B3.out.trans (hS.2.mono B3.out.size)
        clear g4 m0 m1 m2 m3
        cases u
        · have HX0 : Hid (msTo f ms (k + 1) = 0) := by show _ = _; rw [HN2.out]; rfl
          clear HN2
          go_wp2
          exact ⟨⟨k + 1, by omega, by go_num, HX0, B4⟩, by simp [intOf]; omega⟩
        · have HX6 : Hid (K = 6) := by
            show K = 6
            rw [← HK.out]
            exact msTo_stay f ms (k + 1) mn 6 (by omega) (by rw [HN2.out]; rfl) (by omega)
          clear HN2
          go_wp2
          go_ret
          exact ⟨by rw [HX6.out]; rfl, BV.out.trans (B4.mono BV.out.size)⟩
    · have hkn : k = mn := by omega
      have hlt' : ¬ ((k : Int) < (mn : Int)) := by omega
      have HE : Hid (K = 0) := by show K = 0; rw [← HK.out, ← hkn]; exact HK0.out
      clear hkn
      go_wp2
      go_ret
      exact ⟨by rw [HE.out]; rfl, hnx⟩

end Go.Proofs.Ytbebhiglnfmjcaa
