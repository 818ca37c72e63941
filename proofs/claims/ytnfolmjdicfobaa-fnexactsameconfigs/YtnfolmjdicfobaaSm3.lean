/-
  CONTRACTS: spec.l6Same where all numbers and lengths are the same.
  Conditions: each contract bears its own.
-/
import Derived.Test.YtnfolmjdicfobaaSm1
import Derived.BigQuiet
import Derived.Deep.QuietTactic
namespace Go.Proofs.Ytnfolmjdicfobaa
open Go.RowKit
set_option linter.unusedVariables false
set_option linter.unusedSimpArgs false

attribute [local go_sem ↓] Rule_neq Part_neq

set_option maxRecDepth 100000 in
set_option maxHeartbeats 20000000 in
theorem l6Same_all (g h : Nat) (e f : Int) (rn fn cn : Nat) (ra ra' fa fa' ca ca' : Option Addr) (rc rc' fc fc' cc cc' : Nat) (zs zs' : List RuleI) (fs fs' : List FormI) (cs cs' : List Int) (w : World)
    (hg : ConfAt w g ⟨e, f, ra, rn, rc, zs, fa, fn, fc, fs, ca, cn, cc, cs⟩) (hh : ConfAt w h ⟨e, f, ra', rn, rc', zs', fa', fn, fc', fs', ca', cn, cc', cs'⟩)
    (hi : ConfIn w ⟨e, f, ra, rn, rc, zs, fa, fn, fc, fs, ca, cn, cc, cs⟩) (hi' : ConfIn w ⟨e, f, ra', rn, rc', zs', fa', fn, fc', fs', ca', cn, cc', cs'⟩)
    (r1 : rn ≤ 1048576) (r2 : fn ≤ 1048576) (r3 : cn ≤ 1048576) (hl : FormsLe 1048576 fs) (hl' : FormsLe 1048576 fs') (t : Bool)
    (ht : (decide (zs = zs') && (decide (partsL fs = partsL fs') && decide (cs = cs'))) = t) :
    Calls Try.prog 38 #[.pointer (some ⟨g, 0, none⟩), .pointer (some ⟨h, 0, none⟩)] w fun e w' => e = .returned (.bool t) ∧ Below w.heap.size w w' := by
  have hgl := hg.lt
  have hhl := hh.lt
  obtain ⟨k0, k1, k2, k3, k4⟩ := hg
  obtain ⟨m0, m1, m2, m3, m4⟩ := hh
  simp only at k0 k1 k2 k3 k4 m0 m1 m2 m3 m4
  have HR : Hid (RulesIn w ra rn zs ∧ RulesIn w ra' rn zs') := ⟨hi.rules, hi'.rules⟩
  have HF : Hid (FormsIn w fa fn fs ∧ FormsIn w fa' fn fs') := ⟨hi.forms, hi'.forms⟩
  have HC : Hid (IntIn w ca cn cs ∧ IntIn w ca' cn cs') := ⟨hi.classes, hi'.classes⟩
  have HL : Hid (FormsLe 1048576 fs ∧ FormsLe 1048576 fs') := ⟨hl, hl'⟩
  have HT : Hid ((decide (zs = zs') && (decide (partsL fs = partsL fs') && decide (cs = cs'))) = t) := ht
  clear hi hi' hl hl' ht
  have q1 : (rn : Int) ≤ 1048576 := by omega
  have q2 : (fn : Int) ≤ 1048576 := by omega
  have q3 : (cn : Int) ≤ 1048576 := by omega
  have be : (e != e) = false := by simp
  have bf : (f != f) = false := by simp
  have br : ((rn : Int) != (rn : Int)) = false := by simp
  have bff : ((fn : Int) != (fn : Int)) = false := by simp
  have bc : ((cn : Int) != (cn : Int)) = false := by simp
  go_enter Try.func38, Try.ntmps38
  go_wp2
  go_quiet (fail)
  go_wp2
  clear be bf br bff bc k0 k1 m0 m1
  go_loopw [5] (fun i wr => ∃ k : Nat, k ≤ rn ∧ i = .int .i64 (k : Int) ∧ zs.take k = zs'.take k ∧ ∃ q, wr = w.drewN q) (fun i _ => rn - (intOf i).toNat)
  case atStart => exact ⟨0, Nat.zero_le _, rfl, by simp, _, rfl⟩
  case round =>
    obtain ⟨k, hk, rfl, htk, q, rfl⟩ := hrel
    have HTK : Hid (zs.take k = zs'.take k) := htk
    clear htk
    by_cases hlt : k < rn
    · obtain ⟨b1, o1, s, e1, hs, hr⟩ := HR.out.1.at hlt
      obtain ⟨b2, o2, s2, e2, hs2, hr2⟩ := HR.out.2.at hlt
      rw [e1] at k2
      rw [e2] at m2
      have HS : Hid (zs[k]? = some s ∧ zs'[k]? = some s2) := ⟨hs, hs2⟩
      have hb1 : b1 < w.heap.size := World.block_lt_of_cell? w ⟨b1, _, none⟩ hr.1
      have hb2 : b2 < w.heap.size := World.block_lt_of_cell? w ⟨b2, _, none⟩ hr2.1
      clear hs hs2 e1 e2 k3 k4 m3 m4
      obtain ⟨h0, h1, h2, h3, h4, h5, h6, h7⟩ := hr
      obtain ⟨g0, g1, g2, g3, g4, g5, g6, g7⟩ := hr2
      have hlt' : (k : Int) < (rn : Int) := by omega
      by_cases hsame : s = s2
      · have HN : Hid (zs.take (k + 1) = zs'.take (k + 1)) := by
          show zs.take (k + 1) = zs'.take (k + 1)
          rw [List.take_add_one, List.take_add_one, HTK.out, HS.out.1, HS.out.2, hsame]
        have hd : decide (s = s2) = true := decide_eq_true hsame
        clear hsame
        go_wp2
        go_quiet (fail)
        go_wp2
        exact ⟨⟨k + 1, by omega, by go_num, HN.out, _, rfl⟩, by simp [intOf]; omega⟩
      · have HE : Hid (t = false) := by
          show t = false
          rw [← HT.out, decide_eq_false (fun e => hsame (by have h1 := HS.out.1; rw [e, HS.out.2] at h1; exact (Option.some.inj h1).symm)), Bool.false_and]
        have hd : decide (s = s2) = false := decide_eq_false hsame
        clear hsame
        go_wp2
        go_quiet (fail)
        go_wp2
        go_ret
        exact ⟨by rw [HE.out]; rfl, bdN (bdN (Below.refl _ _) _) _⟩
    · have HZ : Hid (zs = zs') := by
        have := HTK.out
        have l1 := HR.out.1.1
        have l2 := HR.out.2.1
        rw [List.take_of_length_le (by omega), List.take_of_length_le (by omega)] at this
        exact this
      have hlt' : ¬ ((k : Int) < (rn : Int)) := by omega
      clear HTK HR
      go_wp2
      clear k2 m2
      go_loopw [6] (fun i wr => ∃ k : Nat, k ≤ cn ∧ i = .int .i64 (k : Int) ∧ cs.take k = cs'.take k ∧ ∃ q, wr = w.drewN q) (fun i _ => cn - (intOf i).toNat)
      case atStart => exact ⟨0, Nat.zero_le _, rfl, by simp, _, rfl⟩
      case round =>
        obtain ⟨j, hj, rfl, htk, q, rfl⟩ := hrel
        have HTK : Hid (cs.take j = cs'.take j) := htk
        clear htk
        by_cases hlj : j < cn
        · obtain ⟨b1, o1, s, e1, hs, h0, hb1⟩ := HC.out.1.at hlj
          obtain ⟨b2, o2, s2, e2, hs2, g0, hb2⟩ := HC.out.2.at hlj
          rw [e1] at k4
          rw [e2] at m4
          have HS : Hid (cs[j]? = some s ∧ cs'[j]? = some s2) := ⟨hs, hs2⟩
          clear hs hs2 e1 e2 k3 m3
          have hlj' : (j : Int) < (cn : Int) := by omega
          by_cases hsame : s = s2
          · have HN : Hid (cs.take (j + 1) = cs'.take (j + 1)) := by
              show cs.take (j + 1) = cs'.take (j + 1)
              rw [List.take_add_one, List.take_add_one, HTK.out, HS.out.1, HS.out.2, hsame]
            have hd : (s != s2) = false := by simp [hsame]
            clear hsame
            go_wp2
            go_quiet (fail)
            go_wp2
            exact ⟨⟨j + 1, by omega, by go_num, HN.out, _, rfl⟩, by simp [intOf]; omega⟩
          · have HE : Hid (t = false) := by
              show t = false
              rw [← HT.out, decide_eq_false (p := cs = cs') (fun e => hsame (by have h1 := HS.out.1; rw [e, HS.out.2] at h1; exact (Option.some.inj h1).symm)), Bool.and_false, Bool.and_false]
            have hd : (s != s2) = true := by simp [hsame]
            clear hsame
            go_wp2
            go_quiet (fail)
            go_wp2
            go_ret
            exact ⟨by rw [HE.out]; rfl, bdN (bdN (Below.refl _ _) _) _⟩
        · have HK : Hid (cs = cs') := by
            have := HTK.out
            have l1 := HC.out.1.1
            have l2 := HC.out.2.1
            rw [List.take_of_length_le (by omega), List.take_of_length_le (by omega)] at this
            exact this
          have hlj' : ¬ ((j : Int) < (cn : Int)) := by omega
          clear HTK HC
          go_wp2
          clear k4 m4
          go_loopw [7] (fun i wr => ∃ k : Nat, k ≤ fn ∧ i = .int .i64 (k : Int) ∧ partsL (fs.take k) = partsL (fs'.take k) ∧ ∃ q, wr = w.drewN q) (fun i _ => fn - (intOf i).toNat)
          case atStart => exact ⟨0, Nat.zero_le _, rfl, by simp [partsL], _, rfl⟩
          case round =>
            obtain ⟨i, hi, rfl, htk, q, rfl⟩ := hrel
            have HTK : Hid (partsL (fs.take i) = partsL (fs'.take i)) := htk
            clear htk
            by_cases hli : i < fn
            · obtain ⟨b1, o1, x, e1, hs, hr⟩ := HF.out.1.at hli
              obtain ⟨b2, o2, y, e2, hs2, hr2⟩ := HF.out.2.at hli
              rw [e1] at k3
              rw [e2] at m3
              have HS : Hid (fs[i]? = some x ∧ fs'[i]? = some y) := ⟨hs, hs2⟩
              have x1 := HL.out.1 i x hs
              have y1 := HL.out.2 i y hs2
              have x1' : (x.n : Int) ≤ 1048576 := by omega
              have y1' : (y.n : Int) ≤ 1048576 := by omega
              have h0 := hr.1
              have g0 := hr2.1
              have hb1 := hr.lt
              have hb2 := hr2.lt
              have HP : Hid (PartsIn w x.a x.n x.ps ∧ PartsIn w y.a y.n y.ps) := ⟨hr.2, hr2.2⟩
              clear hs hs2 e1 e2 hr hr2
              have hli' : (i : Int) < (fn : Int) := by omega
              by_cases hxy : x.n = y.n
              · have bxy : ((x.n : Int) != (y.n : Int)) = false := by simp [hxy]
                have HXY : Hid (x.n = y.n) := hxy
                clear hxy
                go_wp2
                clear h0 g0 k3 m3
                go_loopw [10] (fun v wr => ∃ k : Nat, k ≤ x.n ∧ v = .int .i64 (k : Int) ∧ x.ps.take k = y.ps.take k ∧ ∃ q, wr = w.drewN q) (fun v _ => x.n - (intOf v).toNat)
                case atStart => exact ⟨0, Nat.zero_le _, rfl, by simp, _, rfl⟩
                case round =>
                  obtain ⟨p, hp, rfl, htp, q, rfl⟩ := hrel
                  have HTP : Hid (x.ps.take p = y.ps.take p) := htp
                  clear htp
                  by_cases hlp : p < x.n
                  · obtain ⟨c1, o1, s, e1, hs, hr⟩ := HP.out.1.at hlp
                    obtain ⟨c2, o2, s2, e2, hs2, hr2⟩ := HP.out.2.at (by rw [← HXY.out]; exact hlp)
                    rw [e1, e2]
                    have HSS : Hid (x.ps[p]? = some s ∧ y.ps[p]? = some s2) := ⟨hs, hs2⟩
                    have hc1 : c1 < w.heap.size := hr.lt
                    have hc2 : c2 < w.heap.size := hr2.lt
                    clear hs hs2 e1 e2
                    obtain ⟨h0, h1, h2, h3, h4⟩ := hr
                    obtain ⟨g0, g1, g2, g3, g4⟩ := hr2
                    have hlp' : (p : Int) < (x.n : Int) := by omega
                    have hlp2 : (p : Int) < (y.n : Int) := by have := HXY.out; omega
                    by_cases hsame : s = s2
                    · have HN : Hid (x.ps.take (p + 1) = y.ps.take (p + 1)) := by
                        show x.ps.take (p + 1) = y.ps.take (p + 1)
                        rw [List.take_add_one, List.take_add_one, HTP.out, HSS.out.1, HSS.out.2, hsame]
                      have hd : decide (s = s2) = true := decide_eq_true hsame
                      clear hsame
                      go_wp2
                      go_quiet (fail)
                      go_wp2
                      exact ⟨⟨p + 1, by omega, by go_num, HN.out, _, rfl⟩, by simp [intOf]; omega⟩
                    · have HE : Hid (t = false) := by
                        show t = false
                        rw [← HT.out, decide_eq_false (p := partsL fs = partsL fs') (parts_ne HS.out.1 HS.out.2 (fun e => hsame (by have h1 := HSS.out.1; rw [e, HSS.out.2] at h1; exact (Option.some.inj h1).symm))), Bool.false_and, Bool.and_false]
                      have hd : decide (s = s2) = false := decide_eq_false hsame
                      clear hsame
                      go_wp2
                      go_quiet (fail)
                      go_wp2
                      go_ret
                      exact ⟨by rw [HE.out]; rfl, bdN (bdN (Below.refl _ _) _) _⟩
                  · have HN : Hid (partsL (fs.take (i + 1)) = partsL (fs'.take (i + 1))) := by
                      refine parts_take1 HTK.out HS.out.1 HS.out.2 ?_
                      have := HTP.out
                      have l1 := HP.out.1.1
                      have l2 := HP.out.2.1
                      have l3 := HXY.out
                      rw [List.take_of_length_le (by omega), List.take_of_length_le (by omega)] at this
                      exact this
                    have hlp' : ¬ ((p : Int) < (x.n : Int)) := by omega
                    go_wp2
                    exact ⟨⟨i + 1, by omega, by go_num, HN.out, _, rfl⟩, by simp [intOf]; omega⟩
              · have HE : Hid (t = false) := by
                  show t = false
                  rw [← HT.out, decide_eq_false (p := partsL fs = partsL fs') (parts_ne HS.out.1 HS.out.2 (fun e => hxy (by have l1 := HP.out.1.1; have l2 := HP.out.2.1; rw [e] at l1; omega))), Bool.false_and, Bool.and_false]
                have bxy : ((x.n : Int) != (y.n : Int)) = true := by simp; omega
                have hxy' : ¬ ((x.n : Int) = (y.n : Int)) := by omega
                clear hxy
                go_wp2
                go_ret
                exact ⟨by rw [HE.out]; rfl, bdN (Below.refl _ _) _⟩
            · have HE : Hid (t = true) := by
                show t = true
                have := HTK.out
                have l1 := HF.out.1.1
                have l2 := HF.out.2.1
                rw [List.take_of_length_le (by omega), List.take_of_length_le (by omega)] at this
                rw [← HT.out, decide_eq_true HZ.out, decide_eq_true this, decide_eq_true HK.out]
                rfl
              have hli' : ¬ ((i : Int) < (fn : Int)) := by omega
              go_wp2
              go_ret
              exact ⟨by rw [HE.out]; rfl, bdN (Below.refl _ _) _⟩

end Go.Proofs.Ytnfolmjdicfobaa
