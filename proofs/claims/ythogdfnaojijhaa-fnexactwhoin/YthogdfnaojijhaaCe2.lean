/-
  CONTRACTS: SharesFault of both programs.
  Conditions: each contract bears its own.
-/
import Derived.Test.YthogdfnaojijhaaCe1
import Derived.Deep.RegionHeld3
namespace Go.Proofs.Ythogdfnaojijhaa
open Go.RowKit
set_option linter.unusedVariables false
set_option linter.unusedSimpArgs false

def GivesSF (fn : Nat) (a : Option Addr) (n cap : Nat) (f c : Int) (w : World) : Prop := Calls Try.prog fn #[.slice a n cap, .int .i64 f] w fun e w' => e = .returned (.int .i64 c) ∧ Below w.heap.size w w'

set_option maxRecDepth 20000 in
set_option maxHeartbeats 2000000 in
theorem l9Fault_c (a : Option Addr) (n cap : Nat) (zs : List ShI) (f : Int) (w : World) (hn : n ≤ 1048576) (hcap : n ≤ cap) (hcm : cap ≤ maxLen) (h : ShIn w a n zs) : GivesSF 29 a n cap f (shCode f zs) w := by
  have H : Hid (ShIn w a n zs) := h
  have HZ : Hid (zs.length = n) := h.1
  have hn' : (n : Int) ≤ 1048576 := by omega
  unfold GivesSF
  clear h
  cases hf : inR f 1 2
  · have HC : Hid (shCode f zs = 3) := by show shCode f zs = 3; unfold shCode; rw [if_neg (by rw [hf]; simp)]
    have HF : Hid (inR f 1 2 = false) := hf
    clear hf
    rw [HC.out]
    go_enter Try.func29, Try.ntmps29
    go_wp2_with (first | (go_at_call 53; refine (l6F_c _ _).mono ?_; rintro e w' ⟨rfl, rfl⟩; rw [HF.out]))
    go_ret
    exact ⟨rfl, Below.refl _ _⟩
  · obtain ⟨hf1, hf2⟩ := (inR_iff f 1 2).1 hf
    have HF : Hid (inR f 1 2 = true) := hf
    by_cases hl : 120 < n
    · have HC : Hid (shCode f zs = 2) := by show shCode f zs = 2; unfold shCode; rw [if_pos hf, if_pos (by rw [HZ.out]; exact hl)]
      have hl' : (120 : Int) < (n : Int) := by omega
      clear hf
      rw [HC.out]
      go_enter Try.func29, Try.ntmps29
      go_wp2_with (first | (go_at_call 53; refine (l6F_c _ _).mono ?_; rintro e w' ⟨rfl, rfl⟩; rw [HF.out]))
      go_ret
      exact ⟨rfl, Below.refl _ _⟩
    · have HC : Hid (shCode f zs = shTo f zs n) := by show shCode f zs = _; unfold shCode; rw [if_pos hf, if_neg (by rw [HZ.out]; exact hl), HZ.out]
      have hl' : ¬ ((120 : Int) < (n : Int)) := by omega
      clear hf
      rw [HC.out]
      go_enter Try.func29, Try.ntmps29
      go_wp2_with (first | (go_at_call 53; refine (l6F_c _ _).mono ?_; rintro e w' ⟨rfl, rfl⟩; rw [HF.out]))
      go_loopw [5] (fun i wr => ∃ k : Nat, k ≤ n ∧ i = .int .i64 (k : Int) ∧ shTo f zs k = 0 ∧ Below w.heap.size w wr) (fun i _ => n - (intOf i).toNat)
      case atStart => exact ⟨0, Nat.zero_le _, rfl, rfl, Below.refl _ _⟩
      case round =>
        obtain ⟨k, hk, rfl, hz, hnx⟩ := hrel
        have HK0 : Hid (shTo f zs k = 0) := hz
        clear hz
        by_cases hlt : k < n
        · obtain ⟨b, off, x, rfl, hx, hxa, hbl⟩ := H.out.at hlt
          have hlt' : (k : Int) < (n : Int) := by omega
          have hxw := hxa.below hnx hbl
          have HX : Hid (ShAt wr b (off + k * 6) x) := hxw
          have hbw : b < wr.heap.size := Nat.lt_of_lt_of_le hbl hnx.size
          have HN : Hid (shTo f zs (k + 1) = shOne f (zs.take k) x) := shTo_next hx HK0.out
          have HT : Hid (ShIn wr (some ⟨b, off, none⟩) k (zs.take k)) := (H.out.below hnx).take hk
          obtain ⟨x0, x1, x2, x3, x4, x5⟩ := hxw
          clear hx hxa
          obtain ⟨t, ht⟩ : ∃ t, inR x.r 1 (3 * f + 1) = t := ⟨_, rfl⟩
          have HTR : Hid (inR x.r 1 (3 * f + 1) = t) := ht
          obtain ⟨c, hc⟩ : ∃ c, stCode x.st = c := ⟨_, rfl⟩
          have HSC : Hid (stCode x.st = c) := hc
          obtain ⟨u, hu⟩ : ∃ u, hasSh (zs.take k) x = u := ⟨_, rfl⟩
          have HU : Hid (hasSh (zs.take k) x = u) := hu
          have HN2 : Hid (shTo f zs (k + 1) = if t = true then (if c = 0 then (if u = true then 6 else 0) else c) else 3) := by show _ = _; rw [HN.out]; unfold shOne; rw [ht, hc, hu]
          clear ht hc hu HN
          cases t
          · have HE : Hid (shTo f zs n = 3) := shTo_stay f zs (k + 1) n 3 (by omega) (by rw [HN2.out]; rfl) (by omega)
            go_wp2_with (first | (go_at_call 27; refine (cin_c _ _ _ _).mono ?_; rintro e w' ⟨rfl, rfl⟩; rw [HTR.out]))
            go_ret
            exact ⟨by rw [HE.out]; rfl, hnx⟩
          · by_cases c0 : c = 0
            · have cb : (c != 0) = false := by simp [c0]
              have HE0 : Hid (u = false → shTo f zs (k + 1) = 0) := fun q => by rw [HN2.out, if_pos rfl, if_pos c0, q]; rfl
              have HE6 : Hid (u = true → shTo f zs n = 6) := fun q => shTo_stay f zs (k + 1) n 6 (by omega) (by rw [HN2.out, if_pos rfl, if_pos c0, q]; rfl) (by omega)
              clear c0 HN2
              have hkc : (k : Int) ≤ (cap : Int) := by omega
              have hk0 : (0 : Int) ≤ (k : Int) := by omega
              go_wp2_with (first | (go_at_call 27; refine (cin_c _ _ _ _).mono ?_; rintro e w' ⟨rfl, rfl⟩; rw [HTR.out]) | (go_at_call 30; refine (l7Fault_c _ _ x.st _ HX.out.stat).mono ?_; rintro e w' ⟨rfl, rfl⟩; rw [HSC.out]))
              have HQ : Hid (∀ w2 : World, (∀ b o, b < wr.heap.size → w2.cell? ⟨b, o, none⟩ = wr.cell? ⟨b, o, none⟩) ∧ Below wr.heap.size wr w2 → Calls Try.prog 54 #[.slice (some ⟨b, off, none⟩) k cap, .agg #[.int .i64 x.r, .int .i64 x.k, .int .i64 x.e, .int .i64 x.f, .int .i64 x.s, .int .i64 x.n]] w2 fun e w' => e = .returned (.bool u) ∧ Below w2.heap.size w2 w') := fun w2 hb => by
                have := l9Has_c (some ⟨b, off, none⟩) k cap (zs.take k) x w2 (by omega) (HT.out.below hb.2)
                rw [HU.out] at this
                exact this
              go_region_held3 (fun w' => (∀ b o, b < wr.heap.size → w'.cell? ⟨b, o, none⟩ = wr.cell? ⟨b, o, none⟩) ∧ Below wr.heap.size wr w') (first | exact hS | exact kp_drew _)
                (first | (go_at_call 54; refine (HQ.out _ (by assumption)).mono ?_; rintro e w' ⟨rfl, hb1⟩; have hS := kp_step (by assumption) hb1))
              have B1 := hnx.trans (hS.2.mono hnx.size)
              cases u
              · have HX0 : Hid (shTo f zs (k + 1) = 0) := HE0.out rfl
                go_wp2
                exact ⟨⟨k + 1, by omega, by go_num, HX0.out, B1⟩, by simp [intOf]; omega⟩
              · have HX6 : Hid (shTo f zs n = 6) := HE6.out rfl
                go_wp2
                go_ret
                exact ⟨by rw [HX6.out]; rfl, B1⟩
            · have cb : (c != 0) = true := by simp [c0]
              have HE : Hid (shTo f zs n = c) := shTo_stay f zs (k + 1) n c c0 (by rw [HN2.out, if_pos rfl, if_neg c0]) (by omega)
              clear c0
              go_wp2_with (first | (go_at_call 27; refine (cin_c _ _ _ _).mono ?_; rintro e w' ⟨rfl, rfl⟩; rw [HTR.out]) | (go_at_call 30; refine (l7Fault_c _ _ x.st _ HX.out.stat).mono ?_; rintro e w' ⟨rfl, rfl⟩; rw [HSC.out]))
              go_ret
              exact ⟨by rw [HE.out]; rfl, hnx⟩
        · have hkn : k = n := by omega
          have hlt' : ¬ ((k : Int) < (n : Int)) := by omega
          have HE : Hid (shTo f zs n = 0) := by rw [← hkn]; exact HK0.out
          clear hkn
          go_wp2
          go_ret
          exact ⟨by rw [HE.out]; rfl, hnx⟩

end Go.Proofs.Ythogdfnaojijhaa
