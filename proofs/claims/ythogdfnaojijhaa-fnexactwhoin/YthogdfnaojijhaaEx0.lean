/-
  WHAT LIES IN BLOCKS OF ITS OWN, and stays while other blocks are turned: for the laws that hold two programs against each other.
-/
import Derived.Test.YthogdfnaojijhaaPol0
import Derived.Test.YthogdfnaojijhaaSpec1
import Derived.Below
import Derived.Laws.AppendOwn
namespace Go.Proofs.Ythogdfnaojijhaa
open Go.RowKit
set_option linter.unusedVariables false

/-- P holds of W, and hangs on blocks lo to hi alone. -/
structure Hold (lo hi : Nat) (P : World → Prop) (W : World) : Prop where
  out : P W
  le : hi ≤ W.heap.size
  kept : ∀ X X' : World, P X → (∀ b, lo ≤ b → b < hi → X'.heap[b]? = X.heap[b]?) → P X'

theorem Hold.below {lo hi : Nat} {P : World → Prop} {W W' : World} (h : Hold lo hi P W) (hb : Below W.heap.size W W') : Hold lo hi P W' :=
  ⟨h.kept _ _ h.out (fun b _ h2 => hb.block b (Nat.lt_of_lt_of_le h2 h.le)), Nat.le_trans h.le hb.size, h.kept⟩

theorem Hold.alloc {lo hi : Nat} {P : World → Prop} {W : World} (h : Hold lo hi P W) (o : Obj) : Hold lo hi P (W.alloc o) := h.below ((Below.refl _ _).alloc (Nat.le_refl _) _)

theorem Hold.drew {lo hi : Nat} {P : World → Prop} {W : World} (h : Hold lo hi P W) : Hold lo hi P W.drew := h.below (Below.refl _ _).drew

/-- W' is W but for blocks lo to hi, and what is new. -/
structure Chg (lo hi : Nat) (W W' : World) : Prop where
  below : ∀ B, B ≤ lo → B ≤ W.heap.size → Below B W W'
  size : W.heap.size ≤ W'.heap.size
  block : ∀ b, b < W.heap.size → (b < lo ∨ hi ≤ b) → W'.heap[b]? = W.heap[b]?

theorem Chg.grown {lo hi : Nat} {W W' : World} {row : Option Nat} (hg : W.grownBy W' row) (h : ∀ q, row = some q → lo ≤ q ∧ q < hi) : Chg lo hi W W' :=
  ⟨fun B h1 h2 => (Below.refl _ _).grown hg h2 (fun q e => Nat.le_trans h1 (h q e).1), hg.size, fun b h1 h2 => hg.block b h1 (fun e => by have := h b e.symm; omega)⟩

theorem Chg.calls {lo hi : Nat} {W W' : World} (hb : Below W.heap.size W W') : Chg lo hi W W' :=
  ⟨fun B h1 h2 => hb.mono h2, hb.size, fun b h1 h2 => hb.block b h1⟩

theorem Chg.trans {lo hi : Nat} {A B C : World} (h : Chg lo hi A B) (k : Chg lo hi B C) : Chg lo hi A C :=
  ⟨fun b h1 h2 => (h.below b h1 h2).trans (k.below b h1 (Nat.le_trans h2 h.size)), Nat.le_trans h.size k.size, fun b h1 h2 => (k.block b (Nat.lt_of_lt_of_le h1 h.size) h2).trans (h.block b h1 h2)⟩

theorem Hold.chg {lo hi l r : Nat} {P : World → Prop} {W W' : World} (h : Hold lo hi P W) (c : Chg l r W W') (d : hi ≤ l ∨ r ≤ lo) : Hold lo hi P W' :=
  ⟨h.kept _ _ h.out (fun b h1 h2 => c.block b (Nat.lt_of_lt_of_le h2 h.le) (by omega)), Nat.le_trans h.le c.size, h.kept⟩

theorem below_chg {B l r : Nat} {w W W' : World} (h : Below B w W) (c : Chg l r W W') (h1 : B ≤ l) (h2 : B ≤ W.heap.size) : Below B w W' := h.trans (c.below B h1 h2)

theorem kpE_new {W w : World} (h : (∀ b o, b < W.heap.size → w.cell? ⟨b, o, none⟩ = W.cell? ⟨b, o, none⟩) ∧ Below W.heap.size W w) (o : Obj) : (∀ b i, b < W.heap.size → (w.alloc o).cell? ⟨b, i, none⟩ = W.cell? ⟨b, i, none⟩) ∧ Below W.heap.size W (w.alloc o) :=
  ⟨fun b i hb => (((Below.refl w.heap.size w).alloc (Nat.le_refl _) o).cell (p := ⟨b, i, none⟩) (Nat.lt_of_lt_of_le hb h.2.size)).trans (h.1 b i hb), h.2.alloc h.2.size _⟩

theorem kpE_set {W w : World} (h : (∀ b o, b < W.heap.size → w.cell? ⟨b, o, none⟩ = W.cell? ⟨b, o, none⟩) ∧ Below W.heap.size W w) {p : Addr} (hp : W.heap.size ≤ p.block) (v : Value) : (∀ b i, b < W.heap.size → (w.setCell p v).cell? ⟨b, i, none⟩ = W.cell? ⟨b, i, none⟩) ∧ Below W.heap.size W (w.setCell p v) :=
  ⟨fun b i hb => by
    have hne : p ≠ ⟨b, i, none⟩ := fun e => by rw [e] at hp; simp only at hp; omega
    rw [World.cell?_setCell_other (h := hne)]
    exact h.1 b i hb, h.2.setCell hp _⟩

theorem ownsE_set {w : World} {base : Nat} {e : TypeId} {size : Nat} {v : Value} {n : Nat} {xs : List Value} (h : w.ownsRow base e size v n xs) {a : Addr} (ha : a.block < base) (u : Value) : (w.setCell a u).ownsRow base e size v n xs := by
  refine ⟨h.1, ?_⟩
  rcases h.2 with q | ⟨g, cap, cur, e1, hg, hb, rest⟩
  · exact .inl q
  · exact .inr ⟨g, cap, cur, e1, hg, (Below.heap_setCell _ _ _ _ (by intro q; omega)).trans hb, rest⟩

/-- The cells of a box. -/
def BoxV (b : Nat) (vs : List Value) (X : World) : Prop := ∀ j v, vs[j]? = some v → X.cell? ⟨b, j, none⟩ = some v

theorem BoxV.hold {b : Nat} {vs : List Value} {W : World} (h : BoxV b vs W) (hb : b < W.heap.size) : Hold b (b + 1) (BoxV b vs) W :=
  ⟨h, hb, fun X X' hX hk j v e => (World.cell?_of_block (w := X) (w' := X') (a := ⟨b, j, none⟩) (hk b (Nat.le_refl _) (by omega))).trans (hX j v e)⟩

theorem boxV_new (W : World) (cs : Array Value) (t : TypeId) : Hold W.heap.size (W.heap.size + 1) (BoxV W.heap.size cs.toList) (W.alloc (.cells cs t)) := by
  refine BoxV.hold (fun j v e => ?_) (by simp)
  have h : (W.alloc (.cells cs t)).heap[W.heap.size]? = some (.cells cs t) := by show (W.heap.push _)[W.heap.size]? = _; simp
  unfold World.cell?
  simp only
  rw [h]
  simpa using e

/-- The cells of a box that may be written. -/
def BoxW (b : Nat) (vs : List Value) (X : World) : Prop := BoxV b vs X ∧ (∀ j, X.frozen? ⟨b, j, none⟩ = false)

theorem BoxW.hold {b : Nat} {vs : List Value} {W : World} (h : BoxW b vs W) (hb : b < W.heap.size) : Hold b (b + 1) (BoxW b vs) W :=
  ⟨h, hb, fun X X' hX hk => ⟨(BoxV.hold h.1 hb).kept X X' hX.1 hk, fun j => (World.frozen?_of_block (w := X) (w' := X') (a := ⟨b, j, none⟩) (hk b (Nat.le_refl _) (by omega))).trans (hX.2 j)⟩⟩

theorem BoxW.below {b : Nat} {vs : List Value} {W W' : World} (h : BoxW b vs W) (hb : b < W.heap.size) (hw : Below W.heap.size W W') : BoxW b vs W' := ((h.hold hb).below hw).out

theorem boxW_new (W : World) (cs : Array Value) (t : TypeId) : BoxW W.heap.size cs.toList (W.alloc (.cells cs t)) :=
  ⟨(boxV_new W cs t).out, fun j => by
    have h : (W.alloc (.cells cs t)).heap[W.heap.size]? = some (.cells cs t) := by show (W.heap.push _)[W.heap.size]? = _; simp
    unfold World.frozen?
    simp only
    rw [h]
    simp⟩

theorem BoxW.put {b : Nat} {vs : List Value} {X : World} (h : BoxW b vs X) (j : Nat) (hj : j < vs.length) (v : Value) : BoxW b (vs.set j v) (X.setCell ⟨b, j, none⟩ v) := by
  refine ⟨fun i u e => ?_, fun i => by rw [World.frozen?_setCell]; exact h.2 i⟩
  by_cases q : i = j
  · subst q
    rw [List.getElem?_set_self hj] at e
    have hc := h.1 i _ (List.getElem?_eq_getElem hj)
    cases e
    simp [go_sem, hc]
  · rw [List.getElem?_set_ne (Ne.symm q)] at e
    rw [World.cell?_setCell_other (h := fun e => q (by have := congrArg Addr.off e; simp at this; omega))]
    exact h.1 i u e

theorem BoxW.other {b : Nat} {vs : List Value} {X : World} (h : BoxW b vs X) {p : Addr} (hp : p.block ≠ b) (v : Value) : BoxW b vs (X.setCell p v) := by
  refine ⟨fun i u e => ?_, fun i => by rw [World.frozen?_setCell]; exact h.2 i⟩
  rw [World.cell?_setCell_other (h := fun e => hp (by rw [e]))]
  exact h.1 i u e

/-- Numbers that were copied, to be written into. -/
def IntCp (g n : Nat) (zs : List Int) (X : World) : Prop := (∀ k x, zs[k]? = some x → X.cell? ⟨g, k, none⟩ = some (.int .i64 x)) ∧ (∀ j, j < n → ∃ v, X.cell? ⟨g, j, none⟩ = some v) ∧ ∀ j, X.frozen? ⟨g, j, none⟩ = false

theorem IntCp.hold {g n : Nat} {zs : List Int} {W : World} (h : IntCp g n zs W) (hg : g < W.heap.size) : Hold g (g + 1) (IntCp g n zs) W :=
  ⟨h, hg, fun X X' hX hk => by
    have hb := hk g (Nat.le_refl _) (by omega)
    exact ⟨fun k x e => (World.cell?_of_block (a := ⟨g, k, none⟩) hb).trans (hX.1 k x e), fun j hj => by
      obtain ⟨v, e⟩ := hX.2.1 j hj
      exact ⟨v, (World.cell?_of_block (a := ⟨g, j, none⟩) hb).trans e⟩, fun j => (World.frozen?_of_block (a := ⟨g, j, none⟩) hb).trans (hX.2.2 j)⟩⟩

/-- A row of its own. -/
theorem owns_kept {X X' : World} {B : Nat} {t : TypeId} {sz : Nat} {v : Value} {n : Nat} {xs : List Value} (h : X.ownsRow B t sz v n xs) (hk : ∀ g, v.ownBlock = some g → X'.heap[g]? = X.heap[g]?) : X'.ownsRow B t sz v n xs := by
  refine ⟨h.1, ?_⟩
  rcases h.2 with q | ⟨g, cap, cur, e, hg, hb, rest⟩
  · exact .inl q
  · exact .inr ⟨g, cap, cur, e, hg, (hk g (by rw [e]; rfl)).trans hb, rest⟩

theorem owns_hold {W : World} {B : Nat} {t : TypeId} {sz : Nat} {v : Value} {n : Nat} {xs : List Value} (h : W.ownsRow B t sz v n xs) (hi : Nat) (h1 : ∀ g, v.ownBlock = some g → g < hi) (h2 : hi ≤ W.heap.size) : Hold B hi (fun X => X.ownsRow B t sz v n xs) W :=
  ⟨h, h2, fun X X' hX hk => owns_kept hX (fun g e => hk g (hX.lt g e).1 (h1 g e))⟩

theorem owns_hold0 {W : World} {B : Nat} {t : TypeId} {sz : Nat} {v : Value} {n : Nat} {xs : List Value} (h : W.ownsRow B t sz v n xs) : Hold B W.heap.size (fun X => X.ownsRow B t sz v n xs) W := owns_hold h _ (fun g e => (h.lt g e).2) (Nat.le_refl _)

/-- What 'x := F(..)' leaves, F's answer being a struct with one row: a box with the answer and the row. -/
def ResB (t : TypeId) (sz n : Nat) (xs : List Value) (vs : Value → List Value) (V : World) (s : Value) (wx : World) : Prop :=
  ∃ (B lo hi : Nat) (a : Option Addr) (cap : Nat), s = .pointer (some ⟨B, 0, none⟩) ∧ V.heap.size ≤ B ∧ V.heap.size ≤ lo ∧ Hold B (B + 1) (BoxV B (vs (.slice a n cap))) wx ∧ Hold lo hi (fun X => X.ownsRow lo t sz (.slice a n cap) n xs) wx ∧ Below V.heap.size V wx

end Go.Proofs.Ythogdfnaojijhaa
