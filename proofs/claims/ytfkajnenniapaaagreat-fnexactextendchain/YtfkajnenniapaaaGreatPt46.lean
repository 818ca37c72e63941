/- Contracts. -/
import Derived.Test.YtfkajnenniapaaaGreatPt33
namespace Go.Proofs.YtfkajnenniapaaaGreat
set_option maxRecDepth 100000
set_option maxHeartbeats 8000000
open Go.RowKit
set_option linter.unusedVariables false
set_option linter.unusedSimpArgs false

theorem two_news (w : World) (cs ds : Array Value) (T : TypeId) : ∃ V, V = (w.alloc (.cells cs T)).alloc (.cells ds T) ∧ Below w.heap.size w V ∧ w.heap.size + 1 + 1 ≤ V.heap.size ∧ BoxV w.heap.size cs.toList V ∧ BoxV (w.heap.size + 1) ds.toList V := by
 refine ⟨_, rfl, (zN).alloc (by simp) _, by simp, ?_, ?_⟩
 ·exact ((boxV_new w cs T).alloc _).out
 ·have q := (boxV_new (w.alloc (.cells cs T)) ds T).out
  simp only [World.size_alloc] at q
  exact q
theorem eqCertV_same (x : StI) (a b : Option Addr) (n ca cb : Nat) (zs : List Int) (w : World) (hn : n ≤ 1048576) (ha : RowIn w a n zs) (hb : RowIn w b n zs) :
  Calls Tryz.prog 55 #[.agg #[.int .i64 x.k, .int .i64 x.e, .int .i64 x.f, .int .i64 x.s, .int .i64 x.n, .slice a n ca], .agg #[.int .i64 x.k, .int .i64 x.e, .int .i64 x.f, .int .i64 x.s, .int .i64 x.n, .slice b n cb]] w fun e w' => e = .returned (.bool true) ∧ Below w.heap.size w w' := by
 obtain ⟨V, hV, BV, hVs, xb, yb⟩ := two_news w #[.int .i64 x.k, .int .i64 x.e, .int .i64 x.f, .int .i64 x.s, .int .i64 x.n, .slice a n ca] #[.int .i64 x.k, .int .i64 x.e, .int .i64 x.f, .int .i64 x.s, .int .i64 x.n, .slice b n cb] 56
 have x5 := xb 5 _ rfl
 have y5 := yb 5 _ rfl
 have I1 : Hid (RowIn V a n zs) := ha.below BV
 have I2 : Hid (RowIn V b n zs) := hb.below BV
 clear ha hb xb yb
 go_enter Tryz.func55, Tryz.ntmps55
 go_wp2_with fail
 rw [← hV]
 clear hV
 refine (eqStatement_same x _).mono ?_
 rintro e w1 ⟨rfl, hb1⟩
 have hs1 := hb1.size
 have c5 := (hb1.cell (p := ⟨w.heap.size, 5, none⟩) (by show w.heap.size < _; omega)).trans x5
 have d5 := (hb1.cell (p := ⟨w.heap.size + 1, 5, none⟩) (by show w.heap.size + 1 < _; omega)).trans y5
 have J1 : Hid (RowIn w1 a n zs) := I1.out.below hb1
 have J2 : Hid (RowIn w1 b n zs) := I2.out.below hb1
 clear x5 y5
 go_wp2_with fail
 refine (eqS_same _ _ n _ _ zs _ hn J1.out.2 J2.out.2).mono ?_
 rintro e w2 ⟨rfl, hb2⟩
 go_wp2
 go_ret
 exact ⟨rfl, (BV.trans (hb1.mono BV.size)).trans (hb2.mono (by have := BV.size; omega))⟩
theorem eqCertR_same (c : Int) (x : StI) (a b : Option Addr) (n ca cb : Nat) (zs : List Int) (w : World) (hn : n ≤ 1048576) (ha : RowIn w a n zs) (hb : RowIn w b n zs) :
  Calls Tryz.prog 30 #[.agg #[.int .i64 c, .int .i64 x.k, .int .i64 x.e, .int .i64 x.f, .int .i64 x.s, .int .i64 x.n, .slice a n ca], .agg #[.int .i64 c, .int .i64 x.k, .int .i64 x.e, .int .i64 x.f, .int .i64 x.s, .int .i64 x.n, .slice b n cb]] w fun e w' => e = .returned (.bool true) ∧ Below w.heap.size w w' := by
 obtain ⟨V, hV, BV, hVs, xb, yb⟩ := two_news w #[.int .i64 c, .int .i64 x.k, .int .i64 x.e, .int .i64 x.f, .int .i64 x.s, .int .i64 x.n, .slice a n ca] #[.int .i64 c, .int .i64 x.k, .int .i64 x.e, .int .i64 x.f, .int .i64 x.s, .int .i64 x.n, .slice b n cb] 58
 have HK : Hid (Calls Tryz.prog 55 #[.agg #[.int .i64 x.k, .int .i64 x.e, .int .i64 x.f, .int .i64 x.s, .int .i64 x.n, .slice a n ca], .agg #[.int .i64 x.k, .int .i64 x.e, .int .i64 x.f, .int .i64 x.s, .int .i64 x.n, .slice b n cb]] V fun e w' => e = .returned (.bool true) ∧ Below V.heap.size V w') := eqCertV_same x a b n ca cb zs V hn (ha.below BV) (hb.below BV)
 clear ha hb xb yb
 go_enter Tryz.func30, Tryz.ntmps30
 go_wp2_with fail
 rw [← hV]
 clear hV
 refine HK.out.mono ?_
 rintro e w1 ⟨rfl, hb1⟩
 go_wp2
 go_ret
 exact ⟨rfl, BV.trans (hb1.mono BV.size)⟩
theorem grown_news {w V w1 : World} {row : Option Nat} (gV : w.grownBy V none) (hg1 : V.grownBy w1 row) : w.grownBy w1 row := ⟨hg1.os.trans gV.os, hg1.tape.trans gV.tape, hg1.output.trans gV.output, Nat.le_trans gV.size hg1.size, fun q hq hne => (hg1.block q (Nat.lt_of_lt_of_le hq gV.size) hne).trans (gV.block q hq (by simp))⟩
theorem markCertV_c (x : StI) (B : Nat) (a : Option Addr) (n cap : Nat) (xs : List Value) (w : World) (hn : n ≤ 1048576) (h : w.ownsRow B 2 1 (.slice a n cap) n xs) :
  Calls Tryz.prog 60 #[.agg #[.int .i64 x.k, .int .i64 x.e, .int .i64 x.f, .int .i64 x.s, .int .i64 x.n, .slice a n cap], .int .i64 1] w fun e w' => e = .returned (.int .i64 (1 + (n : Int))) ∧ w'.ownsRow B 2 1 (.slice a n cap) n ((marks 1 n).map (Value.int .i64)) ∧ w.grownBy w' (Value.slice a n cap).ownBlock := by
 obtain ⟨V, hV⟩ : ∃ V, V = w.alloc (.cells #[.int .i64 x.k, .int .i64 x.e, .int .i64 x.f, .int .i64 x.s, .int .i64 x.n, .slice a n cap] 56) := ⟨_, rfl⟩
 have gV : w.grownBy V none := by rw [hV]; exact World.grownBy_alloc w _ none
 have OV : Hid (V.ownsRow B 2 1 (.slice a n cap) n xs) := by rw [hV]; exact h.alloc _
 clear h
 go_enter Tryz.func60, Tryz.ntmps60
 go_wp2_with fail
 rw [← hV]
 clear hV
 refine (mark_c 1 B a n cap xs _ (by omega) hn OV.out).mono ?_
 rintro e w1 ⟨rfl, ho1, hg1⟩
 have G1 := grown_news gV hg1
 have HO : Hid (w1.ownsRow B 2 1 (.slice a n cap) n ((marks 1 n).map (Value.int .i64))) := ho1
 have e1 : ((1 + n : Nat) : Int) = 1 + (n : Int) := by omega
 rw [e1]
 clear hg1 gV ho1 e1
 go_wp2
 go_ret
 exact ⟨rfl, HO.out, G1⟩
theorem markCertR_c (c : Int) (x : StI) (B : Nat) (a : Option Addr) (n cap : Nat) (xs : List Value) (w : World) (hn : n ≤ 1048576) (h : w.ownsRow B 2 1 (.slice a n cap) n xs) :
  Calls Tryz.prog 31 #[.agg #[.int .i64 c, .int .i64 x.k, .int .i64 x.e, .int .i64 x.f, .int .i64 x.s, .int .i64 x.n, .slice a n cap], .int .i64 1] w fun e w' => e = .returned (.int .i64 (1 + (n : Int))) ∧ w'.ownsRow B 2 1 (.slice a n cap) n ((marks 1 n).map (Value.int .i64)) ∧ w.grownBy w' (Value.slice a n cap).ownBlock := by
 obtain ⟨V, hV⟩ : ∃ V, V = w.alloc (.cells #[.int .i64 c, .int .i64 x.k, .int .i64 x.e, .int .i64 x.f, .int .i64 x.s, .int .i64 x.n, .slice a n cap] 58) := ⟨_, rfl⟩
 have gV : w.grownBy V none := by rw [hV]; exact World.grownBy_alloc w _ none
 have OV : Hid (V.ownsRow B 2 1 (.slice a n cap) n xs) := by rw [hV]; exact h.alloc _
 clear h
 go_enter Tryz.func31, Tryz.ntmps31
 go_wp2_with fail
 rw [← hV]
 clear hV
 refine (markCertV_c x B a n cap xs _ hn OV.out).mono ?_
 rintro e w1 ⟨rfl, ho1, hg1⟩
 have G1 := grown_news gV hg1
 have HO : Hid (w1.ownsRow B 2 1 (.slice a n cap) n ((marks 1 n).map (Value.int .i64))) := ho1
 clear hg1 gV ho1
 go_wp2
 go_ret
 exact ⟨rfl, HO.out, G1⟩
theorem heldCertV_c (x : StI) (a : Option Addr) (n cap : Nat) (w : World) (hn : n ≤ 1048576) (hr : RowIn w a n (marks 1 n)) :
  Calls Tryz.prog 61 #[.agg #[.int .i64 x.k, .int .i64 x.e, .int .i64 x.f, .int .i64 x.s, .int .i64 x.n, .slice a n cap], .int .i64 1] w fun e w' => e = .returned (.int .i64 (1 + (n : Int))) ∧ Below w.heap.size w w' := by
 obtain ⟨V, hV⟩ : ∃ V, V = w.alloc (.cells #[.int .i64 x.k, .int .i64 x.e, .int .i64 x.f, .int .i64 x.s, .int .i64 x.n, .slice a n cap] 56) := ⟨_, rfl⟩
 have BV : Below w.heap.size w V := by rw [hV]; exact zN
 have HR : Hid (RowIn V a n (marks 1 n)) := hr.below BV
 have hkn : decide ((1 : Int) + (n : Int) < 0) = false := by simp; omega
 have e1 : ((1 + n : Nat) : Int) = 1 + (n : Int) := by omega
 have HE : Hid (((1 + n : Nat) : Int) = 1 + (n : Int)) := e1
 clear hr e1
 go_enter Tryz.func61, Tryz.ntmps61
 go_wp2_with fail
 rw [← hV]
 clear hV
 refine (held_c 1 a n cap _ (by omega) hn HR.out).mono ?_
 rintro e w1 ⟨rfl, rfl⟩
 rw [HE.out]
 go_wp2
 go_ret
 exact ⟨rfl, BV⟩
theorem heldCertR_c (c : Int) (x : StI) (a : Option Addr) (n cap : Nat) (w : World) (hn : n ≤ 1048576) (hr : RowIn w a n (marks 1 n)) :
  Calls Tryz.prog 32 #[.agg #[.int .i64 c, .int .i64 x.k, .int .i64 x.e, .int .i64 x.f, .int .i64 x.s, .int .i64 x.n, .slice a n cap], .int .i64 1] w fun e w' => e = .returned (.int .i64 (1 + (n : Int))) ∧ Below w.heap.size w w' := by
 obtain ⟨V, hV⟩ : ∃ V, V = w.alloc (.cells #[.int .i64 c, .int .i64 x.k, .int .i64 x.e, .int .i64 x.f, .int .i64 x.s, .int .i64 x.n, .slice a n cap] 58) := ⟨_, rfl⟩
 have BV : Below w.heap.size w V := by rw [hV]; exact zN
 have HR : Hid (RowIn V a n (marks 1 n)) := hr.below BV
 have hkn : decide ((1 : Int) + (n : Int) < 0) = false := by simp; omega
 clear hr
 go_enter Tryz.func32, Tryz.ntmps32
 go_wp2_with fail
 rw [← hV]
 clear hV
 refine (heldCertV_c x a n cap _ hn HR.out).mono ?_
 rintro e w1 ⟨rfl, hb1⟩
 go_wp2
 go_ret
 exact ⟨rfl, BV.trans (hb1.mono BV.size)⟩

end Go.Proofs.YtfkajnenniapaaaGreat
