/- Contracts. -/
import Derived.Test.YtfkajnenniapaaaGreatPt16
namespace Go.Proofs.YtfkajnenniapaaaGreat
set_option maxRecDepth 100000
set_option maxHeartbeats 8000000
open Go.RowKit
set_option linter.unusedVariables false
set_option linter.unusedSimpArgs false

theorem configsFault_c (a : Option Addr) (n cap : Nat) (cs : List ConfI) (w : World) (hn : n ≤ 1048576) (hle : ConfsLe 1048576 cs) (h : ConfsIn w a n cs) :
  Calls Tryz.prog 72 #[.slice a n cap] w fun e w' => e = .returned (.int .i64 (cfsCode cs)) ∧ Below w.heap.size w w' := by
 have H : Hid (ConfsIn w a n cs) := h
 have HLE : Hid (ConfsLe 1048576 cs) := hle
 have HZ : Hid (cs.length = n) := h.len
 have hn' : (n : Int) ≤ 1048576 := by omega
 clear h hle
 by_cases h1 : n < 1
 ·have HC : Hid (cfsCode cs = 2) := by show cfsCode cs = 2; unfold cfsCode; rw [if_pos (.inl (by rw [HZ.out]; exact h1))]
  have hn0 : n = 0 := by omega
  subst hn0
  rw [HC.out]
  go_enter Tryz.func72, Tryz.ntmps72
  go_wp2
  go_ret
  exact ⟨rfl, Below.refl _ _⟩
 ·by_cases h8 : 8 < n
  ·have HC : Hid (cfsCode cs = 2) := by show cfsCode cs = 2; unfold cfsCode; rw [if_pos (.inr (by rw [HZ.out]; exact h8))]
   have h1' : ¬ ((n : Int) < 1) := by omega
   have h8' : (8 : Int) < (n : Int) := by omega
   rw [HC.out]
   go_enter Tryz.func72, Tryz.ntmps72
   go_wp2
   go_ret
   exact ⟨rfl, Below.refl _ _⟩
  ·have h1' : ¬ ((n : Int) < 1) := by omega
   have h8' : ¬ ((8 : Int) < (n : Int)) := by omega
   have HC : Hid (cfsCode cs = cfsTo cs n) := by show cfsCode cs = _; unfold cfsCode; rw [if_neg (by rw [HZ.out]; omega), HZ.out]
   obtain ⟨b0, off0, c0, rfl, hc0, hat0, _⟩ := H.out.at (show 0 < n by omega)
   have HC0 : Hid ((cs[0]?.getD default).f = c0.f) := by show (cs[0]?.getD default).f = _; rw [hc0]; rfl
   have HAT0 : Hid (ConfAtO w b0 off0 c0) := by have := hat0; rw [Nat.zero_mul, Nat.add_zero] at this; exact this
   clear hc0 hat0
   rw [HC.out]
   go_enter Tryz.func72, Tryz.ntmps72
   go_wp2
   go_loopw [16] (fun i wr => ∃ k : Nat, k ≤ n ∧ i = .int .i64 (k : Int) ∧ cfsTo cs k = 0 ∧ Below w.heap.size w wr) (fun i _ => n - (intOf i).toNat)
   case atStart => exact ⟨0, Nat.zero_le _, rfl, rfl, Below.refl _ _⟩
   case round =>
    obtain ⟨k, hk, rfl, hz, hnx⟩ := hrel
    have HK0 : Hid (cfsTo cs k = 0) := hz
    clear hz
    by_cases hlt : k < n
    ·obtain ⟨b, off, c, e, hc, hat, hin⟩ := H.out.at hlt
     cases e
     have hlt' : (k : Int) < (n : Int) := by omega
     have hA := hat.below hnx
     have hl := hA.lt
     obtain ⟨u0, u1, u2, u3, u4⟩ := hA
     have HN : Hid (cfsTo cs (k + 1) = if codeC c = 0 then (if c.f = c0.f then 0 else 1) else codeC c) := by show cfsTo cs (k + 1) = _; rw [cfsTo_next hc HK0.out, HC0.out]
     obtain ⟨V, hV⟩ : ∃ V, V = wr.alloc (.cells #[.int .i64 c.e, .int .i64 c.f, .slice c.ra c.rn c.rc, .slice c.fa c.fn c.fc, .slice c.ca c.cn c.cc] 73) := ⟨_, rfl⟩
     have BV : Below wr.heap.size wr V := by rw [hV]; exact zN
     have BW : Below w.heap.size w V := hnx.trans (BV.mono hnx.size)
     have KV : Hid (ConfAt V wr.heap.size c) := by rw [hV]; exact ConfAt.new wr c _
     obtain ⟨q, hq⟩ : ∃ q, codeC c = q := ⟨_, rfl⟩
     rw [hq] at HN
     have HQ : Hid (Calls Tryz.prog 93 #[.agg #[.int .i64 c.e, .int .i64 c.f, .slice c.ra c.rn c.rc, .slice c.fa c.fn c.fc, .slice c.ca c.cn c.cc]] V fun e w' => e = .returned (.int .i64 q) ∧ Below V.heap.size V w') := by rw [← hq]; exact implConfigFault_c c V (HLE.out.le k c hc) (HLE.out.rc k c hc).1 (HLE.out.rc k c hc).2 (hin.below BW)
     clear hq hc hat hin
     go_wp2_with fail
     rw [← hV]
     clear hV u0 u1 u2 u3 u4
     refine HQ.out.mono ?_
     rintro e w1 ⟨rfl, hb1⟩
     have B1 : Below w.heap.size w w1 := BW.trans (hb1.mono BW.size)
     by_cases q0 : q = 0
     ·have qb : (q != 0) = false := by simp [q0]
      rw [if_pos q0] at HN
      have hK := KV.out.below hb1
      have hl1 := hK.lt
      obtain ⟨x0, x1, _⟩ := hK
      have hB1 := HAT0.out.below B1
      have hl0 := hB1.lt
      obtain ⟨y0, y1, _⟩ := hB1
      by_cases hf : c.f = c0.f
      ·have fb : (c.f != c0.f) = false := by simp [hf]
       rw [if_pos hf] at HN
       clear q0 hf
       go_wp2
       go_quiet (fail)
       go_wp2
       exact ⟨⟨k + 1, by omega, by go_num, HN.out, below_drewN B1 _⟩, by simp [intOf]; omega⟩
      ·have fb : (c.f != c0.f) = true := by simp [hf]
       rw [if_neg hf] at HN
       have HE : Hid (cfsTo cs n = 1) := cfsTo_stay cs (k + 1) n 1 (by omega) HN.out (by omega)
       clear q0 hf
       go_wp2
       go_quiet (fail)
       go_wp2
       go_ret
       exact ⟨by rw [HE.out]; rfl, below_drewN B1 _⟩
     ·have qb : (q != 0) = true := by simp [q0]
      rw [if_neg q0] at HN
      have HE : Hid (cfsTo cs n = q) := cfsTo_stay cs (k + 1) n q q0 HN.out (by omega)
      clear q0
      go_wp2
      go_ret
      exact ⟨by rw [HE.out]; rfl, B1⟩
    ·have hkn : k = n := by omega
     have hlt' : ¬ ((k : Int) < (n : Int)) := by omega
     have HE : Hid (cfsTo cs n = 0) := by rw [← hkn]; exact HK0.out
     clear hkn
     go_wp2
     go_ret
     exact ⟨by rw [HE.out]; rfl, hnx⟩

end Go.Proofs.YtfkajnenniapaaaGreat
