/- Contracts. -/
import Derived.Test.YtfkajnenniapaaaGreatPr04
import Derived.Test.YtfkajnenniapaaaGreatPr09
namespace Go.Proofs.YtfkajnenniapaaaGreat
set_option maxRecDepth 100000
set_option maxHeartbeats 8000000
open Go.RowKit
set_option linter.unusedVariables false
set_option linter.unusedSimpArgs false

section
attribute [local go_sem ↓] rule_eql
theorem l2Fault_many (a : Option Addr) (n cap : Nat) (w : World) (hn : n ≤ 1048576) (h16 : 16 < n) :
  Calls Tryz.prog 110 #[.slice a n cap] w fun e w' => e = .returned (.int .i64 2) ∧ Below w.heap.size w w' := by
 have h' : (16 : Int) < (n : Int) := by omega
 go_enter Tryz.func110, Tryz.ntmps110
 go_wp2
 go_ret
 exact ⟨rfl, Below.refl _ _⟩
theorem l2Fault_few (a : Option Addr) (n cap : Nat) (zs : List RuleI) (c : Int) (w : World) (h16 : n ≤ 16) (h : RulesIn w a n zs) (hc : polTo zs n = c) :
  Calls Tryz.prog 110 #[.slice a n cap] w fun e w' => e = .returned (.int .i64 c) ∧ Below w.heap.size w w' := by
 have H : Hid (RulesIn w a n zs) := h
 have hz : Hid (zs.length = n) := h.1
 have HC : Hid (polTo zs n = c) := hc
 clear h hc
 have h' : ¬ ((16 : Int) < (n : Int)) := by omega
 go_enter Tryz.func110, Tryz.ntmps110
 go_wp2
 go_loopw [3] (fun i wr => ∃ k : Nat, k ≤ n ∧ i = .int .i64 (k : Int) ∧ polTo zs k = 0 ∧ Below w.heap.size w wr) (fun i _ => n - (intOf i).toNat)
 case atStart => exact ⟨0, Nat.zero_le _, rfl, rfl, Below.refl _ _⟩
 case round =>
  obtain ⟨k, hk, rfl, hp, hnx⟩ := hrel
  have HP : Hid (polTo zs k = 0) := hp
  clear hp
  by_cases hlt : k < n
  ·obtain ⟨b, off, r, rfl, hs, hr⟩ := H.out.at hlt
   have HS : Hid (zs[k]? = some r) := hs
   clear hs
   have hr1 : Hid (RuleAt wr b (off + k * 8) r) := hr.below hnx
   clear hr
   have hlt' : (k : Int) < (n : Int) := by omega
   go_wp2_with fail
   refine (l2Rule_c b (off + k * 8) r _ hr1.out).mono ?_
   rintro e w1 ⟨rfl, hb1⟩
   have hnx1 : Below w.heap.size w w1 := hnx.trans (hb1.mono hnx.size)
   have hr2 : Hid (RuleAt w1 b (off + k * 8) r) := hr1.out.below hb1
   clear hr1 hb1 hnx
   by_cases hcode : ruleCode r = 0
   ·rw [hcode]
    have HO : Hid (ruleCode r = 0) := hcode
    clear hcode
    go_wp2
    go_loopw [5] (fun i2 wq => ∃ j : Nat, j ≤ k ∧ i2 = .int .i64 (j : Int) ∧ ¬ r ∈ zs.take j ∧ ∃ m, wq = w1.drewN m) (fun i2 _ => k - (intOf i2).toNat)
    case atStart => exact ⟨0, Nat.zero_le _, rfl, by simp, 0, rfl⟩
    case round =>
     obtain ⟨j, hj, rfl, hm, m, rfl⟩ := hrel
     have HM : Hid (¬ r ∈ zs.take j) := hm
     clear hm
     by_cases hjk : j < k
     ·obtain ⟨s, hs2, hq⟩ := H.out.here (show j < n by omega)
      have HS2 : Hid (zs[j]? = some s) := hs2
      clear hs2
      obtain ⟨h0, h1, h2, h3, h4, h5, h6, h7⟩ := hr2.out
      obtain ⟨g0, g1, g2, g3, g4, g5, g6, g7⟩ := hq.below hnx1
      clear hq
      have hjk' : (j : Int) < (k : Int) := by omega
      cases hsame : sameB s r
      ·have HF : Hid (sameB s r = false) := hsame
       have HN : Hid (¬ r ∈ zs.take (j + 1)) := by
        show ¬ r ∈ zs.take (j + 1)
        rw [mem_take_iff]
        rintro ⟨i, hi, his⟩
        by_cases e : i = j
        ·subst e
         rw [HS2.out] at his
         simp [sameB] at hsame
         exact hsame (Option.some.inj his)
        ·exact HM.out ((mem_take_iff _ _ _).2 ⟨i, by omega, his⟩)
       clear hsame
       have hsame : sameB s r = false := HF.out
       go_wp2
       go_quiet (fail)
       go_wp2
       exact ⟨⟨j + 1, by omega, by go_num, HN.out, _, rfl⟩, by simp [intOf]; omega⟩
      ·have HI : Hid (c = 6) := by
        show c = 6
        simp [sameB] at hsame
        subst hsame
        exact HC.out.symm.trans (polTo_stay zs (k + 1) n 6 (by decide) (polTo_same zs k s HS.out HP.out HO.out ((mem_take_iff _ _ _).2 ⟨j, hjk, HS2.out⟩)) (by omega))
       go_wp2
       go_quiet (fail)
       go_wp2
       go_ret
       exact ⟨by rw [HI.out]; rfl, by first | exact bdN hnx1 _ | exact bdN (bdN hnx1 _) _⟩
     ·have hjn : j = k := by omega
      subst hjn
      have HN : Hid (polTo zs (j + 1) = 0) := polTo_good zs j r HS.out HP.out HO.out HM.out
      go_wp2
      exact ⟨⟨j + 1, by omega, by go_num, HN.out, by first | exact hnx1 | exact bdN hnx1 _⟩, by simp [intOf]; omega⟩
   ·have E : Hid (c = ruleCode r) := (HC.out.symm.trans (polTo_stay zs (k + 1) n _ hcode (polTo_bad zs k r HS.out HP.out hcode) (by omega)))
    obtain ⟨d, hd⟩ : ∃ d, d = ruleCode r := ⟨_, rfl⟩
    rw [← hd] at hcode E ⊢
    clear hd
    have hne : (d != 0) = true := by simpa using hcode
    go_wp2
    go_ret
    exact ⟨by rw [E.out]; rfl, hnx1⟩
  ·have hkn : k = n := by omega
   subst hkn
   have E : Hid (c = 0) := HC.out.symm.trans HP.out
   go_wp2
   go_ret
   exact ⟨by rw [E.out]; rfl, hnx⟩
theorem l2Fault_c (a : Option Addr) (n cap : Nat) (zs : List RuleI) (w : World) (hn : n ≤ 1048576) (h : RulesIn w a n zs) :
  Calls Tryz.prog 110 #[.slice a n cap] w fun e w' => e = .returned (.int .i64 (polCode zs)) ∧ Below w.heap.size w w' := by
 have hz := h.1
 by_cases h16 : 16 < n
 ·have e : polCode zs = 2 := by simp [polCode, hz, h16]
  rw [e]
  exact l2Fault_many a n cap w hn h16
 ·have e : polCode zs = polTo zs n := by simp [polCode, hz, h16]
  rw [e]
  exact l2Fault_few a n cap zs _ w (by omega) h rfl
end

end Go.Proofs.YtfkajnenniapaaaGreat
