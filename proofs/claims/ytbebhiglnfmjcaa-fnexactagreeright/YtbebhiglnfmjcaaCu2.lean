/-
  CONTRACTS: chapter 10, the model: CastFault.
  Conditions: each contract bears its own.
-/
import Derived.Test.YtbebhiglnfmjcaaCu1
namespace Go.Proofs.Ytbebhiglnfmjcaa
open Go.RowKit
set_option linter.unusedVariables false
set_option linter.unusedSimpArgs false
attribute [local go_sem ↓] ms_eql

theorem hd_bd {f s : Int} {bs : List Int} {nn mn : Nat} (h1 : inR f 1 2 = true) (h2 : inR s 1 (3 * f + 1) = true) : hdCode f s bs nn mn = if bdCode f bs = 3 then 3 else if bdCode f bs = 2 ∨ 200 < mn then 2 else if bdCode f bs = 0 ∧ (nn : Int) = 3 * f + 1 then 0 else 1 := by
  unfold hdCode bdCode
  rw [h1, h2, if_pos rfl]
  cases q1 : rngAll f bs
  · simp
  · simp only [Bool.and_true, if_true]
    by_cases q2 : f < (bs.length : Int)
    · simp [q2]
    · cases q3 : riseB bs
      · simp [q2]
      · simp [q2]

theorem bd_of {f : Int} {bs : List Int} : bdCode f bs = 3 ∨ bdCode f bs = 2 ∨ bdCode f bs = 1 ∨ bdCode f bs = 0 := by
  unfold bdCode
  split
  · split
    · omega
    · split <;> omega
  · omega

set_option maxRecDepth 20000 in
set_option maxHeartbeats 4000000 in
theorem l10Fault_c (g : Nat) (c : CastI) (w : World) (hb : BoxV g [.int .i64 c.f, .int .i64 c.s, .slice c.ba c.bn c.bc, .slice c.na c.nn c.nc, .slice c.ma c.mn c.mc] w) (h : CastIn w c) (hle : CastLe 1048576 c) (hcap : CastCap c) :
    Calls Try.prog 48 #[.pointer (some ⟨g, 0, none⟩)] w fun e w' => e = .returned (.int .i64 (caCode c.p)) ∧ Below w.heap.size w w' := by
  have HND : Hid (∀ W : World, Below w.heap.size w W → Calls Try.prog 94 #[.pointer (some ⟨g, 0, none⟩)] W fun e w' => e = .returned (.int .i64 (ndTo c.ms (ndsP c.ns) c.nn)) ∧ Below W.heap.size W w') := fun W hW => l10Nodes_c g c W ((BoxV.hold hb (World.block_lt_of_cell? w ⟨g, 0, none⟩ (hb 0 _ rfl))).below hW).out (h.below hW) hle hcap
  have HK0 : caCode c.p = if hdCode c.f c.s c.bs c.nn c.mn = 0 then (if msTo c.f c.ms c.mn = 0 then ndTo c.ms (ndsP c.ns) c.nn else msTo c.f c.ms c.mn) else hdCode c.f c.s c.bs c.nn c.mn := by
    unfold caCode CastI.p
    have e1 : (ndsP c.ns).length = c.nn := by rw [← h.nodes.1]; simp [ndsP]
    simp only [e1, h.msgs.1]
  obtain ⟨K, hK⟩ : ∃ K, caCode c.p = K := ⟨_, rfl⟩
  rw [hK] at HK0 ⊢
  obtain ⟨f, s, ba, bn, bc, bs, na, nn, nc, ns, ma, mn, mc, ms⟩ := c
  dsimp only at HK0 HND
  obtain ⟨D, hD⟩ : ∃ D, ndTo ms (ndsP ns) nn = D := ⟨_, rfl⟩
  rw [hD] at HK0 HND
  have HK : Hid (K = if hdCode f s bs nn mn = 0 then (if msTo f ms mn = 0 then D else msTo f ms mn) else hdCode f s bs nn mn) := HK0
  have hgl : g < w.heap.size := World.block_lt_of_cell? w ⟨g, 0, none⟩ (hb 0 _ rfl)
  have HB : Hid (Hold g (g + 1) (BoxV g [.int .i64 f, .int .i64 s, .slice ba bn bc, .slice na nn nc, .slice ma mn mc]) w) := BoxV.hold hb hgl
  have HM : Hid (MsIn w ma mn ms) := h.msgs
  have HI : Hid (IntIn w ba bn bs) := h.bad
  have hbn : bn ≤ 1048576 := hle.bad
  have hbi : (bn : Int) ≤ 1048576 := by omega
  have hmn : mn ≤ 1048576 := hle.msgs
  have hmi : (mn : Int) ≤ 1048576 := by omega
  have hni : (nn : Int) ≤ 1048576 := by have : nn ≤ 1048576 := hle.nodes; omega
  have hc1 : mn ≤ mc := hcap.m.1
  have hc2 : mc ≤ maxLen := hcap.m.2
  have c0 : w.cell? ⟨g, 0, none⟩ = some (.int .i64 f) := hb 0 _ rfl
  have c1 : w.cell? ⟨g, 1, none⟩ = some (.int .i64 s) := hb 1 _ rfl
  clear hb h hle hcap hK hD HK0
  obtain ⟨t0, ht0⟩ : ∃ t, inR f 1 2 = t := ⟨_, rfl⟩
  have HF0 : Hid (∀ w : World, Calls Try.prog 67 #[.int .i64 f] w fun e w' => e = .returned (.bool t0) ∧ w = w') := fun w => by rw [← ht0]; exact l6F_c f w
  go_enter Try.func48, Try.ntmps48
  go_wp2_with fail
  refine (HF0.out _).mono ?_
  rintro e w1 ⟨rfl, rfl⟩
  cases t0
  · have HE : Hid (K = 3) := by
      show K = 3
      have : hdCode f s bs nn mn = 3 := by unfold hdCode; rw [ht0]; rfl
      rw [HK.out, this]; rfl
    clear HK ht0
    go_wp2
    go_ret
    exact ⟨by rw [HE.out]; rfl, Below.refl _ _⟩
  obtain ⟨hf1, hf2⟩ := (inR_iff f 1 2).1 ht0
  have HT0 : Hid (inR f 1 2 = true) := ht0
  obtain ⟨t1, ht1⟩ : ∃ t, inR s 1 (3 * f + 1) = t := ⟨_, rfl⟩
  have HT1 : Hid (inR s 1 (3 * f + 1) = t1) := ht1
  have HF1 : Hid (∀ w : World, Calls Try.prog 68 #[.int .i64 f, .int .i64 s] w fun e w' => e = .returned (.bool t1) ∧ w = w') := fun w => by rw [← ht1]; exact l10Member_c f s w hf1 hf2
  clear ht0 ht1
  go_wp2_with fail
  go_region_held3 (fun w' => KC w w') (first | exact hS | exact kp_drew _ | assumption)
    (first | (go_at_call 68; refine (HF1.out _).mono ?_; rintro e w' ⟨rfl, rfl⟩))
  obtain ⟨W1, hW1⟩ : ∃ W, W = w.drew := ⟨_, rfl⟩
  have B1 : Hid (Below w.heap.size w W1) := by rw [hW1]; exact (Below.refl _ _).drew
  rw [← hW1]
  clear hW1 c0 c1
  cases t1
  · have HE : Hid (K = 3) := by
      show K = 3
      have : hdCode f s bs nn mn = 3 := by unfold hdCode; rw [HT0.out, HT1.out]; rfl
      rw [HK.out, this]; rfl
    clear HK
    go_wp2
    go_ret
    exact ⟨by rw [HE.out]; rfl, B1.out⟩
  obtain ⟨d, hd⟩ : ∃ d, bdCode f bs = d := ⟨_, rfl⟩
  have HD : Hid (hdCode f s bs nn mn = if d = 3 then 3 else if d = 2 ∨ 200 < mn then 2 else if d = 0 ∧ (nn : Int) = 3 * f + 1 then 0 else 1) := by
    show _ = _
    rw [hd_bd HT0.out HT1.out, hd]
  have hd4 : Hid (d = 3 ∨ d = 2 ∨ d = 1 ∨ d = 0) := by rw [← hd]; exact bd_of
  have HF2 : Hid (∀ W : World, Below w.heap.size w W → Calls Try.prog 70 #[.int .i64 f, .slice ba bn bc] W fun e w' => e = .returned (.int .i64 d) ∧ Below W.heap.size W w') := fun W hW => by rw [← hd]; exact l10Bad_c f ba bn bc bs W hf1 hf2 hbn (HI.out.below hW)
  clear hd
  have c0 := (HB.out.below B1.out).out 0 _ rfl
  have c2 := (HB.out.below B1.out).out 2 _ rfl
  have hg1 : g < W1.heap.size := Nat.lt_of_lt_of_le hgl B1.out.size
  go_wp2_with fail
  go_region_held3 (fun w' => KC W1 w') (first | exact hS | exact kp_drew _ | assumption)
    (first | (go_at_call 70; refine (HF2.out _ (B1.out.trans ((by first | exact hS.2 | exact (kp_drew _).2 | assumption : Below W1.heap.size W1 _).mono B1.out.size))).mono ?_; rintro e w' ⟨rfl, hbA⟩; have hS := kp_step (by first | exact hS | exact kp_drew _) hbA))
  obtain ⟨W2, rfl⟩ : ∃ W, W = w' := ⟨_, rfl⟩
  have B2 := hidP (B1.out.trans (hS.2.mono B1.out.size))
  clear hS hbA c0 c2 hg1 B1
  have c0 := (HB.out.below B2.out).out 0 _ rfl
  have c3 := (HB.out.below B2.out).out 3 _ rfl
  have c4 := (HB.out.below B2.out).out 4 _ rfl
  have hg2 : g < W2.heap.size := Nat.lt_of_lt_of_le hgl B2.out.size
  by_cases q3 : d = 3
  · have HE : Hid (K = 3) := by
      show K = 3
      have e : hdCode f s bs nn mn = 3 := by rw [HD.out, if_pos q3]
      rw [HK.out, e]; rfl
    subst q3
    clear HK HD
    go_wp2
    go_ret
    exact ⟨by rw [HE.out]; rfl, B2.out⟩
  have q3' : (d == 3) = false := by simp [q3]
  by_cases q2 : d = 2
  · have HE : Hid (K = 2) := by
      show K = 2
      have e : hdCode f s bs nn mn = 2 := by rw [HD.out, if_neg q3, if_pos (Or.inl q2)]
      rw [HK.out, e]; rfl
    subst q2
    clear HK HD q3
    go_wp2
    go_ret
    exact ⟨by rw [HE.out]; rfl, B2.out⟩
  have q2' : (d == 2) = false := by simp [q2]
  by_cases qm : 200 < mn
  · have HE : Hid (K = 2) := by
      show K = 2
      have e : hdCode f s bs nn mn = 2 := by rw [HD.out, if_neg q3, if_pos (Or.inr qm)]
      rw [HK.out, e]; rfl
    have qm' : (200 : Int) < (mn : Int) := by omega
    clear HK HD q3 q2
    go_wp2
    go_ret
    exact ⟨by rw [HE.out]; rfl, B2.out⟩
  have qm' : ¬ (200 : Int) < (mn : Int) := by omega
  have HD2 : Hid (hdCode f s bs nn mn = if d = 0 ∧ (nn : Int) = 3 * f + 1 then 0 else 1) := by
    show _ = _
    have q : ¬ (d = 2 ∨ 200 < mn) := fun z => z.elim q2 qm
    rw [HD.out, if_neg q3, if_neg q]
  clear HD q3 q2
  by_cases q0 : d = 0
  · by_cases qn : (nn : Int) = 3 * f + 1
    · have HK2 : Hid (K = if msTo f ms mn = 0 then D else msTo f ms mn) := by
        show K = _
        have e : hdCode f s bs nn mn = 0 := by rw [HD2.out, if_pos ⟨q0, qn⟩]
        rw [HK.out, e, if_pos rfl]
      have qn' : ((nn : Int) != 3 * f + 1) = false := by simp [qn]
      subst q0
      clear HK HD2 qn
      go_wp2_with fail
      go_quiet (fail)
      go_wp2_with fail
      obtain ⟨nq1, rfl⟩ : ∃ q, q = nq := ⟨_, rfl⟩
      clear c0 c3 c4 hg2
      go_loopw [4] (fun i wr => ∃ k : Nat, k ≤ mn ∧ i = .int .i64 (k : Int) ∧ Hid (msTo f ms k = 0) ∧ Below w.heap.size w wr) (fun i _ => mn - (intOf i).toNat)
      case atStart => exact ⟨0, Nat.zero_le _, rfl, rfl, below_drewN B2.out _⟩
      case round =>
        obtain ⟨k, hk, rfl, HK0, hnx⟩ := hrel
        obtain ⟨U, rfl⟩ : ∃ U, U = wr := ⟨_, rfl⟩
        have c0 := (HB.out.below hnx).out 0 _ rfl
        have c4 := (HB.out.below hnx).out 4 _ rfl
        have hgU : g < U.heap.size := Nat.lt_of_lt_of_le hgl hnx.size
        by_cases hlt : k < mn
        · obtain ⟨b, off, y, rfl, hy, hya, hbl⟩ := HM.out.at hlt
          have hlt' : (k : Int) < (mn : Int) := by omega
          have HYA : Hid (MsAt U b (off + k * 4) y) := hya.below hnx hbl
          have hbw : b < U.heap.size := Nat.lt_of_lt_of_le hbl hnx.size
          have HN : Hid (msTo f ms (k + 1) = msOne f (ms.take k) y) := msTo_next hy HK0.out
          obtain ⟨t, ht⟩ : ∃ t, msB f y = t := ⟨_, rfl⟩
          have HT : Hid (msB f y = t) := ht
          have HQ : Hid (∀ w2 : World, KC U w2 → Calls Try.prog 79 #[.int .i64 f, .pointer (some ⟨b, off + k * 4, none⟩)] w2 fun e w' => e = .returned (.bool t) ∧ w2 = w') := fun w2 hb => by rw [← ht]; exact l10Msg_c f b (off + k * 4) y w2 hf1 hf2 (HYA.out.below hb.2 hbw)
          clear ht hy hya
          go_wp2_with fail
          go_region_held3 (fun w' => KC U w') (first | exact hS | exact kp_drew _ | assumption)
            (first | (go_at_call 79; refine (HQ.out _ (by first | exact hS | exact kp_drew _ | assumption)).mono ?_; rintro e w' ⟨rfl, rfl⟩))
          obtain ⟨U2, hU2⟩ : ∃ W, W = U.drew := ⟨_, rfl⟩
          have BU : Below U.heap.size U U2 := by rw [hU2]; exact (Below.refl _ _).drew
          have B5 := hidP (hnx.trans (BU.mono hnx.size))
          have HY2 := hidP (HYA.out.below BU hbw)
          have hbw2 : b < U2.heap.size := Nat.lt_of_lt_of_le hbw BU.size
          rw [← hU2]
          clear hU2 BU c0 c4 hgU hbw HYA HQ
          cases t
          · have HE : Hid (K = 3) := by
              show K = 3
              have : msTo f ms mn = 3 := msTo_stay f ms (k + 1) mn 3 (by omega) (by rw [HN.out]; unfold msOne; rw [HT.out]; rfl) (by omega)
              rw [HK2.out, this]; rfl
            clear HN HK2
            go_wp2
            go_ret
            exact ⟨by rw [HE.out]; rfl, B5.out⟩
          · obtain ⟨u, hu⟩ : ∃ u, hasMs (ms.take k) y = u := ⟨_, rfl⟩
            have HN2 : Hid (msTo f ms (k + 1) = if u = true then 6 else 0) := by show _ = _; rw [HN.out]; unfold msOne; rw [HT.out, if_pos rfl, hu]
            have c4 := (HB.out.below B5.out).out 4 _ rfl
            have hg3 : g < U2.heap.size := Nat.lt_of_lt_of_le hgl B5.out.size
            obtain ⟨y0, y1, y2, y3⟩ := HY2.out
            have hkc : (k : Int) ≤ (mc : Int) := by omega
            have hk0 : (0 : Int) ≤ (k : Int) := by omega
            have HQ : Hid (∀ w2 : World, KC U2 w2 → Calls Try.prog 80 #[.slice (some ⟨b, off, none⟩) k mc, .agg #[.int .i64 y.f, .int .i64 y.t, .int .i64 y.k, .int .i64 y.v]] w2 fun e w' => e = .returned (.bool u) ∧ Below w2.heap.size w2 w') := fun w2 hb => by
              have q := l10Has_c (some ⟨b, off, none⟩) k mc (ms.take k) y w2 (by omega) (((HM.out.below B5.out).below hb.2).take hk)
              rw [hu] at q
              exact q
            clear hu HN HT
            go_wp2_with fail
            go_region_held3 (fun w' => KC U2 w') (first | exact hS | exact kp_drew _)
              (first | (go_at_call 80; refine (HQ.out _ (by assumption)).mono ?_; rintro e w' ⟨rfl, hb1⟩; have hS := kp_step (by assumption) hb1))
            have B6 := B5.out.trans (hS.2.mono B5.out.size)
            clear c4 y0 y1 y2 y3
            cases u
            · have HX0 : Hid (msTo f ms (k + 1) = 0) := by show _ = _; rw [HN2.out]; rfl
              clear HN2
              go_wp2
              exact ⟨⟨k + 1, by omega, by go_num, HX0, B6⟩, by simp [intOf]; omega⟩
            · have HE : Hid (K = 6) := by
                show K = 6
                have : msTo f ms mn = 6 := msTo_stay f ms (k + 1) mn 6 (by omega) (by rw [HN2.out]; rfl) (by omega)
                rw [HK2.out, this]; rfl
              clear HN2 HK2
              go_wp2
              go_ret
              exact ⟨by rw [HE.out]; rfl, B6⟩
        · have hkn : k = mn := by omega
          have hlt' : ¬ ((k : Int) < (mn : Int)) := by omega
          have HE : Hid (K = D) := by
            show K = D
            have : msTo f ms mn = 0 := by rw [← hkn]; exact HK0.out
            rw [HK2.out, this, if_pos rfl]
          clear hkn HK2
          go_wp2_with fail
          refine (HND.out _ hnx).mono ?_
          rintro e w3 ⟨rfl, hb3⟩
          clear c0 c4
          go_wp2
          go_ret
          exact ⟨by rw [HE.out]; rfl, hnx.trans (hb3.mono hnx.size)⟩
    · have HE : Hid (K = 1) := by
        show K = 1
        have z : ¬ (d = 0 ∧ (nn : Int) = 3 * f + 1) := fun q => qn q.2
        have e : hdCode f s bs nn mn = 1 := by rw [HD2.out, if_neg z]
        rw [HK.out, e]; rfl
      have qn' : ((nn : Int) != 3 * f + 1) = true := by simp [qn]
      subst q0
      clear HK HD2 qn
      go_wp2_with fail
      go_quiet (fail)
      go_wp2
      go_ret
      exact ⟨by rw [HE.out]; rfl, below_drewN B2.out _⟩
  · have HE : Hid (K = 1) := by
      show K = 1
      have z : ¬ (d = 0 ∧ (nn : Int) = 3 * f + 1) := fun q => q0 q.1
      have e : hdCode f s bs nn mn = 1 := by rw [HD2.out, if_neg z]
      rw [HK.out, e]; rfl
    have q0' : (d != 0) = true := by simp [q0]
    clear HK HD2 q0
    go_wp2_with fail
    go_quiet (fail)
    go_wp2
    go_ret
    exact ⟨by rw [HE.out]; rfl, below_drewN B2.out _⟩

end Go.Proofs.Ytbebhiglnfmjcaa
