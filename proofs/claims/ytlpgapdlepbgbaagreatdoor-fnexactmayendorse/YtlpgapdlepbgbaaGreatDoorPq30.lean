/- Contracts. -/
import Derived.Test.YtlpgapdlepbgbaaGreatDoorPq15
import Derived.Test.YtlpgapdlepbgbaaGreatDoorPq25
import Derived.Test.YtlpgapdlepbgbaaGreatDoorPq29
namespace Go.Proofs.YtlpgapdlepbgbaaGreatDoor
set_option maxRecDepth 100000
set_option maxHeartbeats 8000000
open Go.RowKit
set_option linter.unusedVariables false
set_option linter.unusedSimpArgs false

theorem idx_seal {said : List StI} {k e i : Int} (h : SaidIdx said k e i) : decide (0 ≤ i) = kindB said k e := by
 rw [kindB_at]
 rcases h with ⟨rfl, q⟩ | ⟨j, x, rfl, _, q⟩
 ·rw [q]; rfl
 ·rw [q]; simp
theorem isSealed_c (a : Option Addr) (n cap : Nat) (said : List StI) (e : Int) (w : World) (hn : n ≤ 1048576) (h : StIn w a n said) :
  Calls Tryz.prog 107 #[.slice a n cap, .int .i64 e] w fun d w' => d = .returned (.bool (sealB said e)) ∧ Below w.heap.size w w' := by
 have HK : Hid (∀ (k : Int) (w2 : World), Below w.heap.size w w2 → Calls Tryz.prog 106 #[.slice a n cap, .int .i64 k, .int .i64 e] w2 fun d w' => (∃ i : Int, d = .returned (.int .i64 i) ∧ SaidIdx said k e i) ∧ Below w2.heap.size w2 w') := fun k w2 hb => saidOf_c a n cap said k e w2 hn (h.below hb)
 clear h
 unfold sealB
 cases q : kindB said 3 e
 ·have HQ : Hid (kindB said 3 e = false) := q
  clear q
  obtain ⟨t, ht⟩ : ∃ t, kindB said 4 e = t := ⟨_, rfl⟩
  have HT : Hid (kindB said 4 e = t) := ht
  rw [ht, Bool.false_or]
  clear ht
  go_enter Tryz.func107, Tryz.ntmps107
  go_wp2_with fail
  refine (HK.out 3 _ (Below.refl _ _)).mono ?_
  rintro d w1 ⟨⟨i, rfl, hi⟩, hb1⟩
  have h1 := idx_seal hi
  rw [HQ.out] at h1
  clear hi
  go_wp2_with fail
  refine (HK.out 4 _ hb1).mono ?_
  rintro d w2 ⟨⟨i2, rfl, hi2⟩, hb2⟩
  have h2 := idx_seal hi2
  rw [HT.out] at h2
  have H2 : Hid (decide (0 ≤ i2) = t) := h2
  clear hi2 h1 h2
  go_wp2
  go_ret
  exact ⟨by rw [← H2.out]; rfl, hb1.trans (hb2.mono hb1.size)⟩
 ·have HQ : Hid (kindB said 3 e = true) := q
  clear q
  rw [Bool.true_or]
  go_enter Tryz.func107, Tryz.ntmps107
  go_wp2_with fail
  refine (HK.out 3 _ (Below.refl _ _)).mono ?_
  rintro d w1 ⟨⟨i, rfl, hi⟩, hb1⟩
  have h1 := idx_seal hi
  rw [HQ.out] at h1
  clear hi
  go_wp2
  go_ret
  exact ⟨rfl, hb1⟩
theorem szReplica_ok (r : qG5) (l : Int) (w : World) (h0 : (r.sn : Int) + (r.ln : Int) ≤ l) (hl : l ≤ 1048576) :
  Calls Tryz.prog 8 #[.agg #[.int .i64 r.i, .int .i64 r.u, .slice r.sa r.sn r.sc, .slice r.la r.ln r.lc], .int .i64 l] w fun e w' => e = .returned (.int .i64 (l - r.sn - r.ln)) ∧ Below w.heap.size w w' := by
 have h1 : (r.sn : Int) ≤ l := by omega
 have h2 : ¬ (l - (r.sn : Int) < 0) := by omega
 have h3 : ¬ (l - (r.sn : Int) - (r.ln : Int) < 0) := by omega
 go_enter Tryz.func8, Tryz.ntmps8
 go_wp2_with go_in
 go_ret
 exact ⟨rfl, by go_grown⟩
theorem szReplica_said (r : qG5) (l : Int) (w : World) (hm : r.sn ≤ maxLen) (h0 : l < (r.sn : Int)) (hl0 : 0 ≤ l) (hl : l ≤ 1048576) :
  Calls Tryz.prog 8 #[.agg #[.int .i64 r.i, .int .i64 r.u, .slice r.sa r.sn r.sc, .slice r.la r.ln r.lc], .int .i64 l] w fun e w' => e = .returned (.int .i64 (-1)) ∧ Below w.heap.size w w' := by
 unfold maxLen at hm
 have hm' : (r.sn : Int) ≤ 9223372036854775807 := by omega
 clear hm
 go_enter Tryz.func8, Tryz.ntmps8
 go_wp2_with go_in
 go_ret
 exact ⟨rfl, by go_grown⟩
theorem szReplica_locks (r : qG5) (l : Int) (w : World) (h1 : (r.sn : Int) ≤ l) (hm : r.ln ≤ maxLen) (h0 : l < (r.sn : Int) + (r.ln : Int)) (hl : l ≤ 1048576) :
  Calls Tryz.prog 8 #[.agg #[.int .i64 r.i, .int .i64 r.u, .slice r.sa r.sn r.sc, .slice r.la r.ln r.lc], .int .i64 l] w fun e w' => e = .returned (.int .i64 (-1)) ∧ Below w.heap.size w w' := by
 unfold maxLen at hm
 have hm' : (r.ln : Int) ≤ 9223372036854775807 := by omega
 clear hm
 go_enter Tryz.func8, Tryz.ntmps8
 go_wp2_with go_in
 go_ret
 exact ⟨rfl, by go_grown⟩
theorem szReplica_c (r : qG5) (l : Int) (w : World) (hm : RepLe maxLen r) (hl0 : 0 ≤ l) (hl : l ≤ 1048576) :
  Calls Tryz.prog 8 #[.agg #[.int .i64 r.i, .int .i64 r.u, .slice r.sa r.sn r.sc, .slice r.la r.ln r.lc], .int .i64 l] w fun e w' => (∃ v : Int, e = .returned (.int .i64 v) ∧ v ≤ l ∧ (0 ≤ v → (r.sn : Int) ≤ l ∧ (r.ln : Int) ≤ l)) ∧ Below w.heap.size w w' := by
 by_cases h1 : (r.sn : Int) ≤ l
 ·by_cases h2 : (r.sn : Int) + (r.ln : Int) ≤ l
  ·exact (szReplica_ok r l w h2 hl).mono fun e w' h => ⟨⟨_, h.1, by omega, fun _ => by omega⟩, h.2⟩
  ·exact (szReplica_locks r l w h1 hm.locks (by omega) hl).mono fun e w' h => ⟨⟨_, h.1, by omega, fun q => by omega⟩, h.2⟩
 ·exact (szReplica_said r l w hm.said (by omega) hl0 hl).mono fun e w' h => ⟨⟨_, h.1, by omega, fun q => by omega⟩, h.2⟩

def nfC (cs : List qA4) (e n : Int) : Int := if n < 0 ∨ (cs.length : Int) ≤ n then 3 else if (cs[n.toNat]?.getD default).e ≠ e + 1 then 10 else 0
theorem nextFault_c (a : Option Addr) (m cap : Nat) (cs : List qA4) (e n : Int) (w : World) (hm : m ≤ 1048576) (he : 0 ≤ e ∧ e ≤ 100) (hc : qA6 w a m cs) :
  Calls Tryz.prog 111 #[.slice a m cap, .int .i64 e, .int .i64 n] w fun d w' => d = .returned (.int .i64 (nfC cs e n)) ∧ Below w.heap.size w w' := by
 have HC : Hid (qA6 w a m cs) := hc
 have HL : Hid (cs.length = m) := hc.len
 have hm' : (m : Int) ≤ 1048576 := by omega
 obtain ⟨he0, he1⟩ := he
 clear hc
 by_cases h0 : n < 0
 ·have HV : Hid (nfC cs e n = 3) := by show nfC cs e n = 3; unfold nfC; rw [if_pos (.inl h0)]
  rw [HV.out]
  have hb : decide (n < 0) = true := by simp [h0]
  go_enter Tryz.func111, Tryz.ntmps111
  go_wp2
  go_ret
  exact ⟨rfl, Below.refl _ _⟩
 ·have hb : decide (n < 0) = false := by simp; omega
  by_cases h1 : (m : Int) ≤ n
  ·have HV : Hid (nfC cs e n = 3) := by show nfC cs e n = 3; unfold nfC; rw [if_pos (.inr (by rw [HL.out]; exact h1))]
   rw [HV.out]
   have hb1 : decide ((m : Int) ≤ n) = true := by simp [h1]
   go_enter Tryz.func111, Tryz.ntmps111
   go_wp2
   go_ret
   exact ⟨rfl, Below.refl _ _⟩
  ·obtain ⟨k, rfl⟩ : ∃ k : Nat, n = (k : Int) := Int.eq_ofNat_of_zero_le (by omega)
   have hkm : k < m := by omega
   have hb1 : decide ((m : Int) ≤ (k : Int)) = false := by simp; omega
   obtain ⟨g, off, c, rfl, hck, hat, _⟩ := HC.out.at hkm
   have HV : Hid (nfC cs e (k : Int) = if c.e ≠ e + 1 then 10 else 0) := by show nfC _ _ _ = _; unfold nfC; rw [if_neg (by rw [HL.out]; omega), Int.toNat_natCast, hck]; rfl
   have hgl := hat.lt
   obtain ⟨y0, _⟩ := hat
   have hlt' : (k : Int) < (m : Int) := by omega
   by_cases hce : c.e = e + 1
   ·have hceb : (c.e != e + 1) = false := by simp [hce]
    rw [HV.out, if_neg (by simp [hce])]
    clear hce hck h0 h1
    go_enter Tryz.func111, Tryz.ntmps111
    go_wp2
    go_ret
    exact ⟨rfl, Below.refl _ _⟩
   ·have hceb : (c.e != e + 1) = true := by simp [hce]
    rw [HV.out, if_pos hce]
    clear hce hck h0 h1
    go_enter Tryz.func111, Tryz.ntmps111
    go_wp2
    go_ret
    exact ⟨rfl, Below.refl _ _⟩

def setIn (s : Int) : Bool := decide (0 ≤ s) && decide (s ≤ 255)

section
open Go.RowKit Go.Sort
theorem setFault_c (s : Int) (w : World) : Calls Tryz.prog 133 #[.int .i64 s] w fun e w' => e = .returned (.int .i64 (if setIn s = true then 0 else 3)) ∧ w = w' := by
 by_cases h0 : 0 ≤ s
 ·by_cases h1 : s ≤ 255
  ·have h2 : s < (256 : Int) := by omega
   rw [show (if setIn s = true then (0 : Int) else 3) = 0 by simp [setIn, h0, h1]]
   go_enter Tryz.func133, Tryz.ntmps133
   go_wp2
   go_ret
   exact ⟨rfl, rfl⟩
  ·have h2 : (256 : Int) ≤ s := by omega
   rw [show (if setIn s = true then (0 : Int) else 3) = 3 by simp [setIn, h1]]
   go_enter Tryz.func133, Tryz.ntmps133
   go_wp2
   go_ret
   exact ⟨rfl, rfl⟩
 ·have h2 : s < (0 : Int) := by omega
  rw [show (if setIn s = true then (0 : Int) else 3) = 3 by simp [setIn, h0]]
  go_enter Tryz.func133, Tryz.ntmps133
  go_wp2
  go_ret
  exact ⟨rfl, rfl⟩
end

theorem l1Set_c (s : Int) (w : World) : Calls Tryz.prog 124 #[.int .i64 s] w fun e w' => e = .returned (.bool (setIn s)) ∧ w = w' := by
 unfold setIn
 cases h0 : decide (0 ≤ s)
 ·go_enter Tryz.func124, Tryz.ntmps124
  go_wp2
  go_ret
  exact ⟨by simp, rfl⟩
 ·have h0' := of_decide_eq_true h0
  cases h1 : decide (s ≤ 255)
  all_goals
   go_enter Tryz.func124, Tryz.ntmps124
   go_wp2
   go_ret
   exact ⟨by simp, rfl⟩

end Go.Proofs.YtlpgapdlepbgbaaGreatDoor
