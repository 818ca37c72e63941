/-
  CONTRACTS: SharesFault of the program.
  Conditions: each contract bears its own.
-/
import Derived.Test.YthogdfnaojijhaaCe2
import Derived.Test.YthogdfnaojijhaaRi0
import Derived.Test.YthogdfnaojijhaaBx2
namespace Go.Proofs.Ythogdfnaojijhaa
open Go.RowKit
set_option linter.unusedVariables false
set_option linter.unusedSimpArgs false

attribute [local go_sem] fldN0 fldN1

set_option maxRecDepth 20000 in
set_option maxHeartbeats 2000000 in
theorem implSharesFault_c (a : Option Addr) (n cap : Nat) (zs : List ShI) (f : Int) (w : World) (hn : n ≤ 1048576) (hcap : n ≤ cap) (hcm : cap ≤ maxLen) (h : ShIn w a n zs) : GivesSF 34 a n cap f (shCode f zs) w := by
  have H : Hid (ShIn w a n zs) := h
  have HZ : Hid (zs.length = n) := h.1
  have hn' : (n : Int) ≤ 1048576 := by omega
  unfold GivesSF
  clear h
  have HNF : Hid (∀ w : World, GivesNF 59 f (nfCode f) (nfVal 2 f) w) := implNeedOf_c f
  cases hf : inR f 1 2
  · have HC : Hid (shCode f zs = 3) := by show shCode f zs = 3; unfold shCode; rw [if_neg (by rw [hf]; simp)]
    have e1 : nfCode f = 3 := by unfold nfCode; rw [if_neg (by rw [hf]; simp)]
    have e2 : nfVal 2 f = 0 := by unfold nfVal; rw [if_neg (by rw [hf]; simp)]
    rw [e1, e2] at HNF
    unfold GivesNF at HNF
    clear hf e1 e2
    rw [HC.out]
    go_enter Try.func34, Try.ntmps34
    go_wp2_with fail
    refine (HNF.out _).mono ?_
    rintro e w1 ⟨rfl, hb1⟩
    go_wp2
    go_ret
    exact ⟨rfl, hb1⟩
  · obtain ⟨hf1, hf2⟩ := (inR_iff f 1 2).1 hf
    have e1 : nfCode f = 0 := by unfold nfCode; rw [if_pos hf]
    have e2 : nfVal 2 f = 2 * f + 1 := by unfold nfVal; rw [if_pos hf]
    have e3 : nfVal 3 f = 3 * f + 1 := by unfold nfVal; rw [if_pos hf]
    have HRF : Hid (∀ w : World, GivesNF 60 f (nfCode f) (nfVal 3 f) w) := implReplicasOf_c f
    rw [e1, e2] at HNF
    rw [e1, e3] at HRF
    unfold GivesNF at HNF HRF
    by_cases hl : 120 < n
    · have HC : Hid (shCode f zs = 2) := by show shCode f zs = 2; unfold shCode; rw [if_pos hf, if_pos (by rw [HZ.out]; exact hl)]
      have hl' : (120 : Int) < (n : Int) := by omega
      clear hf e1 e2 e3
      rw [HC.out]
      go_enter Try.func34, Try.ntmps34
      go_wp2_with fail
      refine (HNF.out _).mono ?_
      rintro e w1 ⟨rfl, hb1⟩
      go_wp2
      go_ret
      exact ⟨rfl, hb1⟩
    · have HC : Hid (shCode f zs = shTo f zs n) := by show shCode f zs = _; unfold shCode; rw [if_pos hf, if_neg (by rw [HZ.out]; exact hl), HZ.out]
      have hl' : ¬ ((120 : Int) < (n : Int)) := by omega
      clear hf e1 e2 e3
      rw [HC.out]
      obtain ⟨v, hv⟩ : ∃ v, v = 3 * f + 1 := ⟨_, rfl⟩
      rw [← hv] at HRF
      have HV : Hid (v = 3 * f + 1) := hv
      clear hv
      go_enter Try.func34, Try.ntmps34
      go_wp2_with fail
      refine (HNF.out _).mono ?_
      rintro e w1 ⟨rfl, hb1⟩
      go_wp2_with fail
      refine (HRF.out _).mono ?_
      rintro e w2 ⟨rfl, hb2⟩
      have hb12 : Below w.heap.size w w2 := hb1.trans (hb2.mono hb1.size)
      obtain ⟨V, hV⟩ : ∃ V, V = w2.alloc (.cells #[.int .i64 0, .int .i64 v] 96) := ⟨_, rfl⟩
      have BV : Hid (Below w.heap.size w V) := by rw [hV]; exact hb12.alloc hb12.size _
      have XV : Hid (Box2 V w2.heap.size (.int .i64 0) (.int .i64 v)) := by rw [hV]; exact Box2.new _ _ _ _
      go_wp2_with fail
      rw [← hV]
      clear hV hb1 hb2 hb12
      go_loopw [23] (fun i wr => ∃ k : Nat, k ≤ n ∧ i = .int .i64 (k : Int) ∧ shTo f zs k = 0 ∧ Below V.heap.size V wr) (fun i _ => n - (intOf i).toNat)
      case atStart => exact ⟨0, Nat.zero_le _, rfl, rfl, Below.refl _ _⟩
      case round =>
        obtain ⟨k, hk, rfl, hz, hvx⟩ := hrel
        have hnx : Below w.heap.size w wr := BV.out.trans (hvx.mono BV.out.size)
        have HK0 : Hid (shTo f zs k = 0) := hz
        clear hz
        by_cases hlt : k < n
        · obtain ⟨b, off, x, rfl, hx, hxa, hbl⟩ := H.out.at hlt
          have hlt' : (k : Int) < (n : Int) := by omega
          have HN : Hid (shTo f zs (k + 1) = shOne f (zs.take k) x) := shTo_next hx HK0.out
          obtain ⟨x0, x1, x2, x3, x4, x5⟩ := hxa.below hnx hbl
          obtain ⟨U, hU⟩ : ∃ U, U = wr.alloc (.cells #[.int .i64 x.r, .int .i64 x.k, .int .i64 x.e, .int .i64 x.f, .int .i64 x.s, .int .i64 x.n] 71) := ⟨_, rfl⟩
          have BU : Below wr.heap.size wr U := by rw [hU]; exact (Below.refl _ _).alloc (Nat.le_refl _) _
          have KU : Hid (ShAt U wr.heap.size 0 x) := by rw [hU]; exact ShAt.new wr x _
          have hUl : wr.heap.size < U.heap.size := by rw [hU]; simp
          have YU : Hid (Box2 U w2.heap.size (.int .i64 0) (.int .i64 v)) := (XV.out.below hvx).below BU
          have BWU : Below w.heap.size w U := hnx.trans (BU.mono hnx.size)
          have BVU : Below V.heap.size V U := hvx.trans (BU.mono hvx.size)
          have HT : Hid (ShIn U (some ⟨b, off, none⟩) k (zs.take k)) := (H.out.below BWU).take hk
          clear hx hxa
          obtain ⟨t, ht⟩ : ∃ t, inR x.r 1 v = t := ⟨_, rfl⟩
          have HTR : Hid (inR x.r 1 v = t) := ht
          obtain ⟨c, hc⟩ : ∃ c, stCode x.st = c := ⟨_, rfl⟩
          have HSC : Hid (∀ w : World, Calls Try.prog 35 #[.agg #[.int .i64 x.k, .int .i64 x.e, .int .i64 x.f, .int .i64 x.s, .int .i64 x.n]] w fun e w' => e = .returned (.int .i64 c) ∧ Below w.heap.size w w') := by rw [← hc]; exact implStatementFault_c x.st
          have HID : Hid (∀ w : World, Calls Try.prog 61 #[.int .i64 x.r, .agg #[.int .i64 0, .int .i64 v]] w fun e w' => e = .returned (.bool t) ∧ Below w.heap.size w w') := fun w => by
            have := isReplicaId_c x.r 0 v w
            rw [ht] at this
            simpa using this
          obtain ⟨u, hu⟩ : ∃ u, hasSh (zs.take k) x = u := ⟨_, rfl⟩
          have HU : Hid (hasSh (zs.take k) x = u) := hu
          have HN2 : Hid (shTo f zs (k + 1) = if t = true then (if c = 0 then (if u = true then 6 else 0) else c) else 3) := by show _ = _; rw [HN.out]; unfold shOne; rw [← HV.out, ht, hc, hu]
          clear ht hc hu HN
          obtain ⟨z0, z1, z2, z3, z4, z5⟩ := KU.out
          simp only [Nat.zero_add] at z0 z1 z2 z3 z4 z5
          obtain ⟨y0, y1⟩ := XV.out.below hvx
          have hYl : w2.heap.size < wr.heap.size := (XV.out.below hvx).lt
          cases t
          · have HE : Hid (shTo f zs n = 3) := shTo_stay f zs (k + 1) n 3 (by omega) (by rw [HN2.out]; rfl) (by omega)
            go_wp2_with fail
            rw [← hU]
            clear hU
            refine (HID.out _).mono ?_
            rintro e w3 ⟨rfl, hb3⟩
            go_wp2
            go_ret
            exact ⟨by rw [HE.out]; rfl, BWU.trans (hb3.mono BWU.size)⟩
          · by_cases c0 : c = 0
            · have cb : (c != 0) = false := by simp [c0]
              have HE0 : Hid (u = false → shTo f zs (k + 1) = 0) := fun q => by rw [HN2.out, if_pos rfl, if_pos c0, q]; rfl
              have HE6 : Hid (u = true → shTo f zs n = 6) := fun q => shTo_stay f zs (k + 1) n 6 (by omega) (by rw [HN2.out, if_pos rfl, if_pos c0, q]; rfl) (by omega)
              clear c0 HN2
              have hkc : (k : Int) ≤ (cap : Int) := by omega
              have hk0 : (0 : Int) ≤ (k : Int) := by omega
              go_wp2_with fail
              rw [← hU]
              clear hU
              refine (HID.out _).mono ?_
              rintro e w3 ⟨rfl, hb3⟩
              have K3 : Hid (ShAt w3 wr.heap.size 0 x) := KU.out.below hb3 hUl
              have hs3 := hb3.size
              clear z0 z1 z2 z3 z4 z5 y0 y1
              obtain ⟨z0, z1, z2, z3, z4, z5⟩ := K3.out
              simp only [Nat.zero_add] at z0 z1 z2 z3 z4 z5
              go_wp2_with fail
              refine (HSC.out _).mono ?_
              rintro e w4 ⟨rfl, hb4⟩
              have K4 : Hid (ShAt w4 wr.heap.size 0 x) := K3.out.below hb4 (by omega)
              have hs4 := hb4.size
              have BU4 : Below U.heap.size U w4 := hb3.trans (hb4.mono hs3)
              have BW4 : Below w.heap.size w w4 := BWU.trans (BU4.mono BWU.size)
              have BV4 : Below V.heap.size V w4 := BVU.trans (BU4.mono BVU.size)
              have hl4 : wr.heap.size < w4.heap.size := by omega
              clear z0 z1 z2 z3 z4 z5
              obtain ⟨z0, z1, z2, z3, z4, z5⟩ := K4.out
              simp only [Nat.zero_add] at z0 z1 z2 z3 z4 z5
              have HQ : Hid (∀ w2 : World, (∀ b o, b < w4.heap.size → w2.cell? ⟨b, o, none⟩ = w4.cell? ⟨b, o, none⟩) ∧ Below w4.heap.size w4 w2 → Calls Try.prog 62 #[.slice (some ⟨b, off, none⟩) k cap, .agg #[.int .i64 x.r, .int .i64 x.k, .int .i64 x.e, .int .i64 x.f, .int .i64 x.s, .int .i64 x.n]] w2 fun e w' => e = .returned (.bool u) ∧ Below w2.heap.size w2 w') := fun w2 hb => by
                have := slContainsH_c (some ⟨b, off, none⟩) k cap (zs.take k) x w2 (by omega) ((HT.out.below BU4).below hb.2)
                rw [HU.out] at this
                exact this
              clear hb3 hb4 hs3 hs4
              go_wp2_with fail
              go_region_held3 (fun w' => (∀ b o, b < w4.heap.size → w'.cell? ⟨b, o, none⟩ = w4.cell? ⟨b, o, none⟩) ∧ Below w4.heap.size w4 w') (first | exact hS | exact kp_drew _)
                (first | (go_at_call 62; refine (HQ.out _ (by assumption)).mono ?_; rintro e w' ⟨rfl, hb1⟩; have hS := kp_step (by assumption) hb1))
              have B1 := BW4.trans (hS.2.mono BW4.size)
              have B2 := BV4.trans (hS.2.mono BV4.size)
              cases u
              · have HX0 : Hid (shTo f zs (k + 1) = 0) := HE0.out rfl
                go_wp2
                exact ⟨⟨k + 1, by omega, by go_num, HX0.out, B2⟩, by simp [intOf]; omega⟩
              · have HX6 : Hid (shTo f zs n = 6) := HE6.out rfl
                go_wp2
                go_ret
                exact ⟨by rw [HX6.out]; rfl, B1⟩
            · have cb : (c != 0) = true := by simp [c0]
              have HE : Hid (shTo f zs n = c) := shTo_stay f zs (k + 1) n c c0 (by rw [HN2.out, if_pos rfl, if_neg c0]) (by omega)
              clear c0 HN2
              go_wp2_with fail
              rw [← hU]
              clear hU
              refine (HID.out _).mono ?_
              rintro e w3 ⟨rfl, hb3⟩
              have K3 : Hid (ShAt w3 wr.heap.size 0 x) := KU.out.below hb3 hUl
              have hs3 := hb3.size
              clear z0 z1 z2 z3 z4 z5 y0 y1
              obtain ⟨z0, z1, z2, z3, z4, z5⟩ := K3.out
              simp only [Nat.zero_add] at z0 z1 z2 z3 z4 z5
              go_wp2_with fail
              refine (HSC.out _).mono ?_
              rintro e w4 ⟨rfl, hb4⟩
              go_wp2
              go_ret
              exact ⟨by rw [HE.out]; rfl, BWU.trans ((hb3.trans (hb4.mono hs3)).mono BWU.size)⟩
        · have hkn : k = n := by omega
          have hlt' : ¬ ((k : Int) < (n : Int)) := by omega
          have HE : Hid (shTo f zs n = 0) := by rw [← hkn]; exact HK0.out
          clear hkn
          go_wp2
          go_ret
          exact ⟨by rw [HE.out]; rfl, hnx⟩

end Go.Proofs.Ythogdfnaojijhaa
