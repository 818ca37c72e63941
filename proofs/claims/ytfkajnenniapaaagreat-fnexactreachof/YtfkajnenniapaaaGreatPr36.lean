/- Contracts. -/
import Derived.Test.YtfkajnenniapaaaGreatPr35
namespace Go.Proofs.YtfkajnenniapaaaGreat
set_option maxRecDepth 100000
set_option maxHeartbeats 8000000
open Go.RowKit
set_option linter.unusedVariables false
set_option linter.unusedSimpArgs false

section
open Go.RowKit Go.Maps
attribute [local go_sem] fldN0 fldN1
def cbX (f : Int) (zs : List ShI) (x : StI) : StI := if cbCode f zs x = 0 then x else ⟨0, 0, 0, 0, 0⟩
def cbL (f : Int) (zs : List ShI) (x : StI) : List Int := if cbCode f zs x = 0 then (sgL zs x).take (2 * f + 1).toNat else []
def GivesCB (fn : Nat) (a : Option Addr) (n cap : Nat) (f : Int) (x : StI) (c : Int) (cx : StI) (ys : List Int) (w : World) : Prop := Calls Tryz.prog fn #[.slice a n cap, .int .i64 f, .agg #[.int .i64 x.k, .int .i64 x.e, .int .i64 x.f, .int .i64 x.s, .int .i64 x.n]] w fun e w' => ∃ (ra : Option Addr) (rc : Nat), e = .returned (.agg #[.int .i64 c, .int .i64 cx.k, .int .i64 cx.e, .int .i64 cx.f, .int .i64 cx.s, .int .i64 cx.n, .slice ra ys.length rc]) ∧ w'.ownsRow w.heap.size 2 1 (.slice ra ys.length rc) ys.length (ys.map (Value.int .i64)) ∧ Below w.heap.size w w'
theorem two_boxes7 (w : World) (x : StI) (T R : TypeId) : ∃ V, V = (w.alloc (.cells #[.int .i64 x.k, .int .i64 x.e, .int .i64 x.f, .int .i64 x.s, .int .i64 x.n] T)).alloc (.cells #[.int .i64 0, .int .i64 0, .int .i64 0, .int .i64 0, .int .i64 0, .int .i64 0, .slice none 0 0] R) ∧ Below w.heap.size w V ∧ V.heap.size = w.heap.size + 1 + 1 ∧ StAt V w.heap.size 0 x ∧ BoxW (w.heap.size + 1) [.int .i64 0, .int .i64 0, .int .i64 0, .int .i64 0, .int .i64 0, .int .i64 0, .slice none 0 0] V := by
 refine ⟨_, rfl, (zN).alloc (by simp) _, by simp, ?_, ?_⟩
 ·exact (StAt.new w x T).below (zN) (by simp)
 ·have q := boxW_new (w.alloc (.cells #[.int .i64 x.k, .int .i64 x.e, .int .i64 x.f, .int .i64 x.s, .int .i64 x.n] T)) #[.int .i64 0, .int .i64 0, .int .i64 0, .int .i64 0, .int .i64 0, .int .i64 0, .slice none 0 0] R
  simp only [World.size_alloc] at q
  exact q
theorem owns_takeI {w : World} {B : Nat} {g m q k : Nat} {ys : List Int} (h : OwnI w B (.slice (some ⟨g, 0, none⟩) m q) ys) (hk : k ≤ m) : w.ownsRow B 2 1 (.slice (some ⟨g, 0, none⟩) k q) k ((ys.take k).map (Value.int .i64)) := by
 have hp := ownI_parts h
 have h0 : w.ownsRow B 2 1 (.slice (some ⟨g, 0, none⟩) m q) ys.length (ys.map (Value.int .i64)) := h
 refine ⟨by simp; omega, ?_⟩
 rcases h0.2 with ⟨h1, _⟩ | ⟨g', cap', cur, h1, hg, hb, h3, h4, h5, h6⟩
 ·simp at h1
 ·simp at h1
  obtain ⟨rfl, _, rfl⟩ := h1
  refine .inr ⟨g, q, cur, rfl, hg, hb, by omega, h4, h5, ?_⟩
  rw [List.map_take, ← h6, List.take_take]
  congr 1
  omega
theorem owns_drew {w : World} {B : Nat} {t : TypeId} {sz : Nat} {v : Value} {n : Nat} {xs : List Value} (h : w.ownsRow B t sz v n xs) : w.drew.ownsRow B t sz v n xs := owns_kept h (fun _ _ => rfl)
theorem own7 {w : World} {base : Nat} {e : TypeId} {size : Nat} {v : Value} {n : Nat} {xs : List Value} (h : w.ownsRow base e size v n xs) (b : Nat) (hb : b < base) (v0 v1 v2 v3 v4 v5 v6 : Value) : (((((((w.setCell ⟨b, 0, none⟩ v0).setCell ⟨b, 1, none⟩ v1).setCell ⟨b, 2, none⟩ v2).setCell ⟨b, 3, none⟩ v3).setCell ⟨b, 4, none⟩ v4).setCell ⟨b, 5, none⟩ v5).setCell ⟨b, 6, none⟩ v6).ownsRow base e size v n xs := (ownsE_set (ownsE_set (ownsE_set (ownsE_set (ownsE_set (ownsE_set (ownsE_set h (a := ⟨b, 0, none⟩) hb v0) (a := ⟨b, 1, none⟩) hb v1) (a := ⟨b, 2, none⟩) hb v2) (a := ⟨b, 3, none⟩) hb v3) (a := ⟨b, 4, none⟩) hb v4) (a := ⟨b, 5, none⟩) hb v5) (a := ⟨b, 6, none⟩) hb v6)
theorem below7 {B : Nat} {w0 w : World} (h : Below B w0 w) (b : Nat) (hb : B ≤ b) (v0 v1 v2 v3 v4 v5 v6 : Value) : Below B w0 (((((((w.setCell ⟨b, 0, none⟩ v0).setCell ⟨b, 1, none⟩ v1).setCell ⟨b, 2, none⟩ v2).setCell ⟨b, 3, none⟩ v3).setCell ⟨b, 4, none⟩ v4).setCell ⟨b, 5, none⟩ v5).setCell ⟨b, 6, none⟩ v6) := (((((((h.setCell hb v0).setCell hb v1).setCell hb v2).setCell hb v3).setCell hb v4).setCell hb v5).setCell hb v6)
theorem low_owns {w : World} {B B' : Nat} {t : TypeId} {sz : Nat} {v : Value} {n : Nat} {xs : List Value} (h : w.ownsRow B t sz v n xs) (hB : B' ≤ B) : w.ownsRow B' t sz v n xs := by
 refine ⟨h.1, ?_⟩
 rcases h.2 with q | ⟨g, cap, cur, e, hg, rest⟩
 ·exact .inl q
 ·exact .inr ⟨g, cap, cur, e, Nat.le_trans hB hg, rest⟩
end

end Go.Proofs.YtfkajnenniapaaaGreat
