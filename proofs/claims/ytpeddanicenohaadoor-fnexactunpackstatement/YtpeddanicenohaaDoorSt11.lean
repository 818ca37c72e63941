/-
  CONTRACT: UnpackStatement of the document's program.
  Conditions: none.
-/
import Derived.Test.YtpeddanicenohaaDoorSt10
import Derived.Deep.CutBlock
namespace Go.Proofs.YtpeddanicenohaaDoor
open Go.RowKit
set_option linter.unusedVariables false
set_option linter.unusedSimpArgs false

set_option maxRecDepth 20000 in
set_option maxHeartbeats 2000000 in
theorem specUnpack_c (a : Option Addr) (n cap : Nat) (zs : List Int) (w : World) (h : IntIn w a n zs) : GivesU 33 a n cap (unpC zs) (unpS zs) w := by
  obtain ⟨W, hW⟩ : ∃ W, W = w.alloc (.cells #[.int .i64 0, .int .i64 0, .int .i64 0, .int .i64 0, .int .i64 0, .int .i64 0] 60) := ⟨_, rfl⟩
  have HW : Hid (W = w.alloc (.cells #[.int .i64 0, .int .i64 0, .int .i64 0, .int .i64 0, .int .i64 0, .int .i64 0] 60)) := hW
  have B0 : Below w.heap.size w W := by rw [hW]; exact (Below.refl _ _).alloc (Nat.le_refl _) _
  have R0 : Hid (SRes W w.heap.size 0 noSt) := by rw [hW]; exact SRes.new _ _
  obtain ⟨x, hx, hxs⟩ := l7Unpack_c a n cap zs W (h.below B0)
  have HX : Hid (GivesV a n cap x (unpB zs).isSome W) := hx
  have hC : unpC zs = if (unpB zs).isSome = true then 0 else 5 := rfl
  have hS : (unpB zs).isSome = false → unpS zs = noSt := fun q => by
    unfold unpS
    cases r : unpB zs with
    | none => rfl
    | some y => rw [r] at q; cases q
  obtain ⟨t, ht⟩ : ∃ t, (unpB zs).isSome = t := ⟨_, rfl⟩
  rw [ht] at HX hxs hC hS
  clear hx h hW ht
  unfold GivesU
  cases t
  · rw [hC, hS rfl]
    clear hC hS hxs
    go_enter Tryd.func33, Tryd.ntmps33
    go_wp2_with fail
    rw [← HW.out]
    refine HX.out.mono ?_
    rintro e w1 ⟨rfl, hb1⟩
    have A1 : Below w1.heap.size w1 (w1.alloc (.cells #[.int .i64 x.k, .int .i64 x.e, .int .i64 x.f, .int .i64 x.s, .int .i64 x.n] 55)) := (Below.refl _ _).alloc (Nat.le_refl _) _
    have B1 : Below w.heap.size w (w1.alloc (.cells #[.int .i64 x.k, .int .i64 x.e, .int .i64 x.f, .int .i64 x.s, .int .i64 x.n] 55)) := (B0.trans (hb1.mono B0.size)).trans (A1.mono (by have := B0.size; have := hb1.size; omega))
    have S1 : SRes (w1.alloc (.cells #[.int .i64 x.k, .int .i64 x.e, .int .i64 x.f, .int .i64 x.s, .int .i64 x.n] 55)) w.heap.size 0 noSt := (R0.out.below hb1).below A1
    have X1 : StAt (w1.alloc (.cells #[.int .i64 x.k, .int .i64 x.e, .int .i64 x.f, .int .i64 x.s, .int .i64 x.n] 55)) w1.heap.size 0 x := StAt.new w1 x _
    go_upto_region 2 with fail
    clear A1 hb1
    generalize w1.alloc (.cells #[.int .i64 x.k, .int .i64 x.e, .int .i64 x.f, .int .i64 x.s, .int .i64 x.n] 55) = w2 at B1 S1 X1 ⊢
    obtain ⟨⟨d0, d1, d2, d3, d4, d5⟩, hf⟩ := S1
    simp only [noSt] at d0 d1 d2 d3 d4 d5
    obtain ⟨x0, x1, x2, x3, x4⟩ := X1
    simp only [Nat.zero_add] at x0 x1 x2 x3 x4
    have f0 := hf 0
    have f1 := hf 1
    have f2 := hf 2
    have f3 := hf 3
    have f4 := hf 4
    have f5 := hf 5
    clear hf
    go_wp2_with fail
    refine bodyPost_ret (v := .agg #[.int .i64 5, .int .i64 0, .int .i64 0, .int .i64 0, .int .i64 0, .int .i64 0]) (by simp [results, Tryd.results33, go_sem, d0, d1, d2, d3, d4, d5]) rfl ⟨rfl, ?_⟩
    exact B1.setCell (Nat.le_refl _) _ |>.setCell (Nat.le_refl _) _ |>.setCell (Nat.le_refl _) _ |>.setCell (Nat.le_refl _) _ |>.setCell (Nat.le_refl _) _ |>.setCell (Nat.le_refl _) _
  · rw [hC, ← hxs rfl]
    clear hC hS hxs
    go_enter Tryd.func33, Tryd.ntmps33
    go_wp2_with fail
    rw [← HW.out]
    refine HX.out.mono ?_
    rintro e w1 ⟨rfl, hb1⟩
    have A1 : Below w1.heap.size w1 (w1.alloc (.cells #[.int .i64 x.k, .int .i64 x.e, .int .i64 x.f, .int .i64 x.s, .int .i64 x.n] 55)) := (Below.refl _ _).alloc (Nat.le_refl _) _
    have B1 : Below w.heap.size w (w1.alloc (.cells #[.int .i64 x.k, .int .i64 x.e, .int .i64 x.f, .int .i64 x.s, .int .i64 x.n] 55)) := (B0.trans (hb1.mono B0.size)).trans (A1.mono (by have := B0.size; have := hb1.size; omega))
    have S1 : SRes (w1.alloc (.cells #[.int .i64 x.k, .int .i64 x.e, .int .i64 x.f, .int .i64 x.s, .int .i64 x.n] 55)) w.heap.size 0 noSt := (R0.out.below hb1).below A1
    have X1 : StAt (w1.alloc (.cells #[.int .i64 x.k, .int .i64 x.e, .int .i64 x.f, .int .i64 x.s, .int .i64 x.n] 55)) w1.heap.size 0 x := StAt.new w1 x _
    go_upto_region 2 with fail
    clear A1 hb1
    generalize w1.alloc (.cells #[.int .i64 x.k, .int .i64 x.e, .int .i64 x.f, .int .i64 x.s, .int .i64 x.n] 55) = w2 at B1 S1 X1 ⊢
    obtain ⟨⟨d0, d1, d2, d3, d4, d5⟩, hf⟩ := S1
    simp only [noSt] at d0 d1 d2 d3 d4 d5
    obtain ⟨x0, x1, x2, x3, x4⟩ := X1
    simp only [Nat.zero_add] at x0 x1 x2 x3 x4
    have f0 := hf 0
    have f1 := hf 1
    have f2 := hf 2
    have f3 := hf 3
    have f4 := hf 4
    have f5 := hf 5
    clear hf
    go_wp2_with fail
    refine bodyPost_ret (v := .agg #[.int .i64 0, .int .i64 x.k, .int .i64 x.e, .int .i64 x.f, .int .i64 x.s, .int .i64 x.n]) (by simp [results, Tryd.results33, go_sem, d0, d1, d2, d3, d4, d5]) rfl ⟨rfl, ?_⟩
    exact B1.setCell (Nat.le_refl _) _ |>.setCell (Nat.le_refl _) _ |>.setCell (Nat.le_refl _) _ |>.setCell (Nat.le_refl _) _ |>.setCell (Nat.le_refl _) _ |>.setCell (Nat.le_refl _) _

end Go.Proofs.YtpeddanicenohaaDoor
