/-
  CONTRACTS: Statement in memory; laws.toStatementS (a copy of a slice) and laws.eqStatementS (two that are alike).
  Conditions: each contract bears its own.
-/
import Derived.Test.YthogdfnaojijhaaPol0
import Derived.Test.YthogdfnaojijhaaSpec1
import Derived.Handy
import Derived.WalkSmall
import Derived.BigQuiet
import Derived.Deep.QuietTactic
import Derived.Deep.RegionHeld3
namespace Go.Proofs.Ythogdfnaojijhaa
open Go.RowKit
set_option linter.unusedVariables false
set_option linter.unusedSimpArgs false

/-- Statement, as numbers. -/
structure StI where
  k : Int
  e : Int
  f : Int
  s : Int
  n : Int
deriving DecidableEq, Inhabited

/-- One of them in memory. -/
def StAt (w : World) (b o : Nat) (x : StI) : Prop := w.cell? ⟨b, o, none⟩ = some (.int .i64 x.k) ∧ w.cell? ⟨b, o + 1, none⟩ = some (.int .i64 x.e) ∧ w.cell? ⟨b, o + 2, none⟩ = some (.int .i64 x.f) ∧ w.cell? ⟨b, o + 3, none⟩ = some (.int .i64 x.s) ∧ w.cell? ⟨b, o + 4, none⟩ = some (.int .i64 x.n)

theorem StAt.below {w w' : World} {B b o : Nat} {x : StI} (h : StAt w b o x) (hb : Below B w w') (hB : b < B) : StAt w' b o x :=
  ⟨(hb.cell (p := ⟨b, o, none⟩) hB).trans h.1, (hb.cell (p := ⟨b, o + 1, none⟩) hB).trans h.2.1, (hb.cell (p := ⟨b, o + 2, none⟩) hB).trans h.2.2.1, (hb.cell (p := ⟨b, o + 3, none⟩) hB).trans h.2.2.2.1, (hb.cell (p := ⟨b, o + 4, none⟩) hB).trans h.2.2.2.2⟩

/-- Several in memory. -/
def StIn (w : World) (a : Option Addr) (n : Nat) (gs : List StI) : Prop := gs.length = n ∧ (0 < n → ∃ b off, a = some ⟨b, off, none⟩ ∧ ∀ k x, gs[k]? = some x → StAt w b (off + k * 5) x)

theorem StIn.below {w w' : World} {a : Option Addr} {n : Nat} {gs : List StI} (h : StIn w a n gs) (hb : Below w.heap.size w w') : StIn w' a n gs := by
  refine ⟨h.1, fun hn => ?_⟩
  obtain ⟨b, off, e, k⟩ := h.2 hn
  exact ⟨b, off, e, fun j x hx => (k j x hx).below hb (World.block_lt_of_cell? w ⟨b, off + j * 5, none⟩ (k j x hx).1)⟩

theorem StIn.at {w : World} {a : Option Addr} {n : Nat} {gs : List StI} (h : StIn w a n gs) {k : Nat} (hk : k < n) : ∃ b off x, a = some ⟨b, off, none⟩ ∧ gs[k]? = some x ∧ StAt w b (off + k * 5) x ∧ b < w.heap.size := by
  obtain ⟨b, off, e, q⟩ := h.2 (by omega)
  have hx := List.getElem?_eq_getElem (l := gs) (i := k) (by rw [h.1]; exact hk)
  exact ⟨b, off, _, e, hx, q k _ hx, World.block_lt_of_cell? w ⟨b, off + k * 5, none⟩ (q k _ hx).1⟩

/-- In a block, from its beginning. -/
def StsAt (w : World) (g : Nat) (gs : List StI) : Prop := ∀ k x, gs[k]? = some x → StAt w g (k * 5) x

theorem StsAt.below {w w' : World} {g : Nat} {gs : List StI} (h : StsAt w g gs) (hb : Below w.heap.size w w') : StsAt w' g gs := fun k x e =>
  (h k x e).below hb (World.block_lt_of_cell? w ⟨g, k * 5, none⟩ (h k x e).1)

theorem StIn.of {w : World} {g n : Nat} {gs : List StI} (hl : gs.length = n) (h : StsAt w g gs) : StIn w (some ⟨g, 0, none⟩) n gs :=
  ⟨hl, fun _ => ⟨g, 0, rfl, fun k x e => by rw [Nat.zero_add]; exact h k x e⟩⟩

/-- A block of n of them that may be written. -/
def StRoom (w : World) (g n : Nat) : Prop := (∀ j, j < n * 5 → ∃ v, w.cell? ⟨g, j, none⟩ = some v) ∧ ∀ j, w.frozen? ⟨g, j, none⟩ = false

abbrev StPut (w : World) (g o : Nat) (s : StI) : World := (((((w.setCell ⟨g, o, none⟩ (.int .i64 s.k)).setCell ⟨g, o + 1, none⟩ (.int .i64 s.e)).setCell ⟨g, o + 2, none⟩ (.int .i64 s.f)).setCell ⟨g, o + 3, none⟩ (.int .i64 s.s)).setCell ⟨g, o + 4, none⟩ (.int .i64 s.n))

theorem StPut_other (w : World) (g o : Nat) (s : StI) (a : Addr) (h : ∀ j, j < 5 → a ≠ ⟨g, o + j, none⟩) : (StPut w g o s).cell? a = w.cell? a := by
  rw [World.cell?_setCell_other (h := Ne.symm (h 4 (by omega))), World.cell?_setCell_other (h := Ne.symm (h 3 (by omega))), World.cell?_setCell_other (h := Ne.symm (h 2 (by omega))), World.cell?_setCell_other (h := Ne.symm (h 1 (by omega))), World.cell?_setCell_other (h := Ne.symm (a := a) (b := ⟨g, o, none⟩) (by simpa using h 0 (by omega)))]

theorem StPut_at (w : World) (g o : Nat) (s : StI) (h : ∀ j, j < 5 → ∃ v, w.cell? ⟨g, o + j, none⟩ = some v) : StAt (StPut w g o s) g o s := by
  obtain ⟨v0, h0⟩ := h 0 (by omega)
  obtain ⟨v1, h1⟩ := h 1 (by omega)
  obtain ⟨v2, h2⟩ := h 2 (by omega)
  obtain ⟨v3, h3⟩ := h 3 (by omega)
  obtain ⟨v4, h4⟩ := h 4 (by omega)
  rw [Nat.add_zero] at h0
  refine ⟨?_, ?_, ?_, ?_, ?_⟩ <;> simp [go_sem, h0, h1, h2, h3, h4]

theorem StPut_room {w : World} {g n k : Nat} {zs : List StI} {s : StI} (hroom : StRoom w g n) (hd : StsAt w g (zs.take k)) (hs : zs[k]? = some s) (hk : k < n) :
    StRoom (StPut w g (k * 5) s) g n ∧ StsAt (StPut w g (k * 5) s) g (zs.take (k + 1)) := by
  have hr := StPut_at w g (k * 5) s (fun j hj => hroom.1 (k * 5 + j) (by omega))
  refine ⟨⟨fun j hj => ?_, fun j => ?_⟩, fun i r e => ?_⟩
  · by_cases h : k * 5 ≤ j ∧ j < k * 5 + 5
    · have hj' : j = k * 5 ∨ j = k * 5 + 1 ∨ j = k * 5 + 2 ∨ j = k * 5 + 3 ∨ j = k * 5 + 4 := by omega
      obtain ⟨h0, h1, h2, h3, h4⟩ := hr
      rcases hj' with rfl | rfl | rfl | rfl | rfl
      · exact ⟨_, h0⟩
      · exact ⟨_, h1⟩
      · exact ⟨_, h2⟩
      · exact ⟨_, h3⟩
      · exact ⟨_, h4⟩
    · rw [StPut_other w g (k * 5) s ⟨g, j, none⟩ (fun i hi e => by have e2 := congrArg Addr.off e; simp only at e2; omega)]
      exact hroom.1 j hj
  · simp only [World.frozen?_setCell]
    exact hroom.2 j
  · rw [List.getElem?_take] at e
    split at e
    · by_cases hik : i = k
      · subst hik
        rw [hs] at e
        cases e
        exact hr
      · have hi : i < k := by omega
        have h1 := hd i r (by rw [List.getElem?_take, if_pos hi]; exact e)
        obtain ⟨h0, h1, h2, h3, h4⟩ := h1
        refine ⟨?_, ?_, ?_, ?_, ?_⟩
        · rw [StPut_other w g (k * 5) s ⟨g, i * 5, none⟩ (fun j hj e => by have e2 := congrArg Addr.off e; simp only at e2; omega)]; exact h0
        · rw [StPut_other w g (k * 5) s ⟨g, i * 5 + 1, none⟩ (fun j hj e => by have e2 := congrArg Addr.off e; simp only at e2; omega)]; exact h1
        · rw [StPut_other w g (k * 5) s ⟨g, i * 5 + 2, none⟩ (fun j hj e => by have e2 := congrArg Addr.off e; simp only at e2; omega)]; exact h2
        · rw [StPut_other w g (k * 5) s ⟨g, i * 5 + 3, none⟩ (fun j hj e => by have e2 := congrArg Addr.off e; simp only at e2; omega)]; exact h3
        · rw [StPut_other w g (k * 5) s ⟨g, i * 5 + 4, none⟩ (fun j hj e => by have e2 := congrArg Addr.off e; simp only at e2; omega)]; exact h4
    · cases e

theorem StPut_below {w0 w : World} {B g o : Nat} (h : Below B w0 w) (hg : B ≤ g) (s : StI) : Below B w0 (StPut w g o s) :=
  h.setCell hg _ |>.setCell hg _ |>.setCell hg _ |>.setCell hg _ |>.setCell hg _

theorem Try.info36 : (Try.prog.info? 36).map (fun i => (i.zero, i.size, i.bytes)) = some (some (.agg #[.int .i64 0, .int .i64 0, .int .i64 0, .int .i64 0, .int .i64 0]), 5, 40) := by kernel_rfl

set_option maxHeartbeats 400000 in
theorem toStatement_c (x : StI) (w : World) : Calls Try.prog 13 #[.agg #[.int .i64 x.k, .int .i64 x.e, .int .i64 x.f, .int .i64 x.s, .int .i64 x.n]] w fun e w' => e = .returned (.agg #[.int .i64 x.k, .int .i64 x.e, .int .i64 x.f, .int .i64 x.s, .int .i64 x.n]) ∧ Below w.heap.size w w' := by
  go_enter Try.func13, Try.ntmps13
  go_wp2
  go_returns
  exact ⟨rfl, by go_grown⟩

set_option maxHeartbeats 1000000 in
theorem eqStatement_same (x : StI) (w : World) :
    Calls Try.prog 70 #[.agg #[.int .i64 x.k, .int .i64 x.e, .int .i64 x.f, .int .i64 x.s, .int .i64 x.n], .agg #[.int .i64 x.k, .int .i64 x.e, .int .i64 x.f, .int .i64 x.s, .int .i64 x.n]] w fun e w' => e = .returned (.bool true) ∧ Below w.heap.size w w' := by
  go_enter Try.func70, Try.ntmps70
  go_wp2
  go_ret
  exact ⟨rfl, by go_grown⟩

end Go.Proofs.Ythogdfnaojijhaa
