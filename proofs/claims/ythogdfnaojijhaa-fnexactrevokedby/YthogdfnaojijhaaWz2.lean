/-
  CONTRACT: chapter 14: spec.RevokedBy.
  Conditions: the contract bears its own.
-/
import Derived.Test.YthogdfnaojijhaaWz1
namespace Go.Proofs.Ythogdfnaojijhaa
open Go.RowKit
set_option linter.unusedVariables false
set_option linter.unusedSimpArgs false

set_option maxRecDepth 20000 in
set_option maxHeartbeats 1000000 in
theorem specRevoked_c (a : Option Addr) (n cap : Nat) (zs : List ShI) (f : Int) (x : StI) (s : Option Addr) (N sc : Nat) (cr : List CrI) (w : World) (hn : n ≤ 1048576) (hcap : n ≤ cap) (hcm : cap ≤ maxLen) (h : ShIn w a n zs) (hN : N ≤ 1048576) (hcr : CrsIn w s N cr) (hl : ∀ (k : Nat) c, cr[k]? = some c → c.gn ≤ 1048576) : GivesRV 11 a n cap f x s N sc (rvB f zs x (chL cr)) w := by
  obtain ⟨V, hV⟩ : ∃ V, V = w.alloc (.cells #[.int .i64 x.k, .int .i64 x.e, .int .i64 x.f, .int .i64 x.s, .int .i64 x.n] 36) := ⟨_, rfl⟩
  have BV : Below w.heap.size w V := by rw [hV]; exact (Below.refl _ _).alloc (Nat.le_refl _) _
  have HX : StAt V w.heap.size 0 x := by rw [hV]; exact StAt.new w x _
  have hVl : w.heap.size < V.heap.size := by rw [hV]; simp
  obtain ⟨c, hc⟩ : ∃ c, shCode f zs = c := ⟨_, rfl⟩
  obtain ⟨d, hd⟩ : ∃ d, stCode x = d := ⟨_, rfl⟩
  have HSF : Hid (Calls Try.prog 29 #[.slice a n cap, .int .i64 f] V fun e w' => e = .returned (.int .i64 c) ∧ Below V.heap.size V w') := by have := l9Fault_c a n cap zs f V hn hcap hcm (h.below BV); rw [hc] at this; exact this
  have HST : Hid (∀ W : World, Below V.heap.size V W → Calls Try.prog 30 #[.pointer (some ⟨w.heap.size, 0, none⟩)] W fun e w' => e = .returned (.int .i64 d) ∧ W = w') := fun W hb => by have := l7Fault_c w.heap.size 0 x W (HX.below hb hVl); rw [hd] at this; exact this
  have HLN : Hid ((chL cr).length = N) := by show _ = _; rw [chL_len]; exact hcr.len
  by_cases c0 : c = 0
  · have cb : (c == 0) = true := by simp [c0]
    by_cases d0 : d = 0
    · have db : (d == 0) = true := by simp [d0]
      by_cases hm : 10 < N
      · have HV : Hid (rvB f zs x (chL cr) = false) := by show _ = _; unfold rvB; rw [HLN.out, decide_eq_false (p := N ≤ 10) (by omega)]; simp
        have hmb : decide ((N : Int) ≤ 10) = false := by simp; omega
        rw [HV.out]
        clear h hcr hl hc hd c0 d0 HX HLN HV
        go_enter Try.func11, Try.ntmps11
        go_upto_region 1 with fail
        rw [← hV]
        clear hV
        go_wp2_with fail
        refine HSF.out.mono ?_
        rintro e w1 ⟨rfl, hb1⟩
        have HB1 := hidW hb1
        clear hb1
        go_wp2_with fail
        refine (HST.out _ HB1.out).mono ?_
        rintro e w2 ⟨rfl, rfl⟩
        go_wp2
        go_ret
        exact ⟨rfl, BV.trans (HB1.out.mono BV.size)⟩
      · have HV : Hid (rvB f zs x (chL cr) = bkB f zs x (chL cr)) := by show _ = _; unfold rvB; rw [HLN.out, hc, hd, decide_eq_true c0, decide_eq_true d0, decide_eq_true (p := N ≤ 10) (by omega)]; simp
        have hmb : decide ((N : Int) ≤ 10) = true := by simp; omega
        rw [HV.out]
        have hok := sh_ok (hc.trans c0)
        have HAN : Hid (∀ W : World, Below V.heap.size V W → Calls Try.prog 31 #[.slice a n cap, .int .i64 f, .pointer (some ⟨w.heap.size, 0, none⟩), .slice s N sc] W fun d w' => d = .returned (.bool (bkB f zs x (chL cr))) ∧ Below W.heap.size W w') := fun W hb =>
          l14Back_c a n cap zs f w.heap.size x s N sc cr W hn hok.1 ((h.below BV).below hb) (HX.below hb hVl) hN ((hcr.below BV).below hb) hl
        clear h hcr hl hc hd c0 d0 HX HLN HV hok
        go_enter Try.func11, Try.ntmps11
        go_upto_region 1 with fail
        rw [← hV]
        clear hV
        go_wp2_with fail
        refine HSF.out.mono ?_
        rintro e w1 ⟨rfl, hb1⟩
        have HB1 := hidW hb1
        clear hb1
        go_wp2_with fail
        refine (HST.out _ HB1.out).mono ?_
        rintro e w2 ⟨rfl, rfl⟩
        go_wp2_with fail
        refine (HAN.out _ HB1.out).mono ?_
        rintro e w3 ⟨rfl, hb3⟩
        go_wp2
        go_ret
        exact ⟨rfl, (BV.trans (HB1.out.mono BV.size)).trans (hb3.mono (Nat.le_trans BV.size HB1.out.size))⟩
    · have db : (d == 0) = false := by simp [d0]
      have HV : Hid (rvB f zs x (chL cr) = false) := by show _ = _; unfold rvB; rw [hd, decide_eq_false d0]; simp
      rw [HV.out]
      clear h hcr hl hc hd c0 d0 HX HLN HV
      go_enter Try.func11, Try.ntmps11
      go_upto_region 1 with fail
      rw [← hV]
      clear hV
      go_wp2_with fail
      refine HSF.out.mono ?_
      rintro e w1 ⟨rfl, hb1⟩
      have HB1 := hidW hb1
      clear hb1
      go_wp2_with fail
      refine (HST.out _ HB1.out).mono ?_
      rintro e w2 ⟨rfl, rfl⟩
      go_wp2
      go_ret
      exact ⟨rfl, BV.trans (HB1.out.mono BV.size)⟩
  · have cb : (c == 0) = false := by simp [c0]
    have HV : Hid (rvB f zs x (chL cr) = false) := by show _ = _; unfold rvB; rw [hc, decide_eq_false c0]; simp
    rw [HV.out]
    clear h hcr hl hc hd c0 HX HLN HV
    go_enter Try.func11, Try.ntmps11
    go_upto_region 1 with fail
    rw [← hV]
    clear hV
    go_wp2_with fail
    refine HSF.out.mono ?_
    rintro e w1 ⟨rfl, hb1⟩
    go_wp2
    go_ret
    exact ⟨rfl, BV.trans (hb1.mono BV.size)⟩

end Go.Proofs.Ythogdfnaojijhaa
