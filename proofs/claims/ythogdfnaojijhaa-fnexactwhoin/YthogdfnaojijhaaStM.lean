/-
  CONTRACTS on Statement in results: rows that are new, read, marked, held against their marks, compared.
  Conditions: each contract bears its own.
-/
import Derived.Test.YthogdfnaojijhaaSt0
import Derived.Test.YthogdfnaojijhaaRol1
import Derived.Test.YthogdfnaojijhaaBx2
import Derived.Deep.AppendLies
namespace Go.Proofs.Ythogdfnaojijhaa
open Go.RowKit
set_option linter.unusedVariables false
set_option linter.unusedSimpArgs false

def flatSt : List StI → List Value
  | [] => []
  | p :: ps => .int .i64 p.k :: .int .i64 p.e :: .int .i64 p.f :: .int .i64 p.s :: .int .i64 p.n :: flatSt ps

theorem flatSt_append (a b : List StI) : flatSt (a ++ b) = flatSt a ++ flatSt b := by
  induction a with
  | nil => rfl
  | cons p ps ih => simp [flatSt, ih]

theorem flatSt_len (a : List StI) : (flatSt a).length = a.length * 5 := by
  induction a with
  | nil => rfl
  | cons p ps ih => simp [flatSt, ih]; omega

theorem flatSt_at : ∀ (a : List StI) (k : Nat) (p : StI), a[k]? = some p → (flatSt a)[k * 5]? = some (.int .i64 p.k) ∧ (flatSt a)[k * 5 + 1]? = some (.int .i64 p.e) ∧ (flatSt a)[k * 5 + 2]? = some (.int .i64 p.f) ∧ (flatSt a)[k * 5 + 3]? = some (.int .i64 p.s) ∧ (flatSt a)[k * 5 + 4]? = some (.int .i64 p.n)
  | [], _, _, h => by simp at h
  | q :: qs, 0, p, h => by simp at h; subst h; exact ⟨rfl, rfl, rfl, rfl, rfl⟩
  | q :: qs, k + 1, p, h => by
    have := flatSt_at qs k p (by simpa using h)
    rw [show (k + 1) * 5 = k * 5 + 1 + 1 + 1 + 1 + 1 by omega, show k * 5 + 1 + 1 + 1 + 1 + 1 + 1 = (k * 5 + 1) + 1 + 1 + 1 + 1 + 1 by omega, show k * 5 + 1 + 1 + 1 + 1 + 1 + 2 = (k * 5 + 2) + 1 + 1 + 1 + 1 + 1 by omega, show k * 5 + 1 + 1 + 1 + 1 + 1 + 3 = (k * 5 + 3) + 1 + 1 + 1 + 1 + 1 by omega, show k * 5 + 1 + 1 + 1 + 1 + 1 + 4 = (k * 5 + 4) + 1 + 1 + 1 + 1 + 1 by omega]
    simpa [flatSt] using this

theorem flatSt_one (a : List StI) : ∀ u ∈ flatSt a, u.oneCell' = true := by
  induction a with
  | nil => simp [flatSt]
  | cons p ps ih =>
    intro u hu
    simp only [flatSt, List.mem_cons] at hu
    rcases hu with rfl | rfl | rfl | rfl | rfl | hu
    · rfl
    · rfl
    · rfl
    · rfl
    · rfl
    · exact ih u hu

/-- A slice of them that is new since B. -/
def OwnSt (w : World) (B : Nat) (v : Value) (gs : List StI) : Prop := w.ownsRow B 36 5 v gs.length (flatSt gs)

theorem OwnSt.shape {w : World} {B : Nat} {v : Value} {gs : List StI} (h : OwnSt w B v gs) (hv : v ≠ .slice none 0 0) : ∃ g cap, v = .slice (some ⟨g, 0, none⟩) gs.length cap := by
  have h0 : w.ownsRow B 36 5 v gs.length (flatSt gs) := h
  rcases h0.2 with ⟨h', _⟩ | ⟨g, cap, cur, h', _⟩
  · exact absurd h' hv
  · exact ⟨g, cap, h'⟩

theorem OwnSt.below {w w' : World} {B : Nat} {v : Value} {gs : List StI} (h : OwnSt w B v gs) (hb : Below w.heap.size w w') : OwnSt w' B v gs :=
  World.ownsRow.kept (row := none) h ⟨hb.os, hb.tape, hb.output, hb.size, fun k hk _ => hb.block k hk⟩ (by cases v.ownBlock <;> simp)

theorem ownSt_lower {w : World} {B B' : Nat} {v : Value} {gs : List StI} (h : OwnSt w B v gs) (hb : B' ≤ B) : OwnSt w B' v gs := by
  have h0 : w.ownsRow B 36 5 v gs.length (flatSt gs) := h
  refine ⟨h0.1, ?_⟩
  rcases h0.2 with h' | ⟨g, cap, cur, e, hg, rest⟩
  · exact .inl h'
  · exact .inr ⟨g, cap, cur, e, Nat.le_trans hb hg, rest⟩

theorem ownSt_push {w : World} {B : Nat} {v : Value} {es : List StI} {x : StI} (h : w.ownsRow B 36 5 v (es.length + 1) (flatSt es ++ [.int .i64 x.k, .int .i64 x.e, .int .i64 x.f, .int .i64 x.s, .int .i64 x.n])) : OwnSt w B v (es ++ [x]) := by
  unfold OwnSt
  rw [List.length_append, flatSt_append]
  exact h

theorem ownSt_grown {w1 Z w' : World} {B : Nat} {v : Value} {es : List StI} (ho : OwnSt Z B v es) (hb : Below B w1 Z) (hg : Z.grownBy w' v.ownBlock) (hB : B ≤ Z.heap.size) : Below B w1 w' := by
  have h0 : Z.ownsRow B 36 5 v es.length (flatSt es) := ho
  exact hb.grown hg hB (fun j hj => (h0.lt j hj).1)

/-- A slice of them, read. -/
def StV (w : World) (a : Option Addr) (zs : List StI) : Prop := ∀ k p, zs[k]? = some p → ∃ g, a = some ⟨g, 0, none⟩ ∧ StAt w g (k * 5) p

theorem StV.below {w w' : World} {a : Option Addr} {zs : List StI} (h : StV w a zs) (hb : Below w.heap.size w w') : StV w' a zs := fun k p e => by
  obtain ⟨g, ha, h1⟩ := h k p e
  exact ⟨g, ha, h1.below hb (World.block_lt_of_cell? w ⟨g, k * 5, none⟩ h1.1)⟩

theorem StV.kept {w w' : World} {a : Option Addr} {zs : List StI} {row : Option Nat} (h : StV w a zs) (hg : w.grownBy w' row) (hne : ∀ g, a = some ⟨g, 0, none⟩ → some g ≠ row) : StV w' a zs := fun k p e => by
  obtain ⟨g, ha, h1, h2, h3, h4, h5⟩ := h k p e
  exact ⟨g, ha, hg.cell h1 (hne g ha), hg.cell h2 (hne g ha), hg.cell h3 (hne g ha), hg.cell h4 (hne g ha), hg.cell h5 (hne g ha)⟩

theorem StV.isIn {w : World} {a : Option Addr} {n : Nat} {zs : List StI} (hn : zs.length = n) (h : StV w a zs) : StIn w a n zs := by
  refine ⟨hn, fun hp => ?_⟩
  obtain ⟨g, ha, _⟩ := h 0 _ (List.getElem?_eq_getElem (by omega))
  refine ⟨g, 0, ha, fun k x e => ?_⟩
  obtain ⟨g', ha', hx⟩ := h k x e
  rw [ha] at ha'
  cases ha'
  rw [Nat.zero_add]
  exact hx

theorem OwnSt.view {w : World} {B : Nat} {a : Option Addr} {n cap : Nat} {zs : List StI} (h : OwnSt w B (.slice a n cap) zs) : StV w a zs := by
  intro k p e
  have hk : k < zs.length := by
    by_cases q : k < zs.length
    · exact q
    · rw [List.getElem?_eq_none (by omega)] at e; cases e
  have h0 : w.ownsRow B 36 5 (.slice a n cap) zs.length (flatSt zs) := h
  rcases h0.2 with ⟨h', h''⟩ | ⟨g, cap', cur, h', _⟩
  · omega
  · simp at h'
    obtain ⟨rfl, rfl, rfl⟩ := h'
    obtain ⟨f0, f1, f2, f3, f4⟩ := flatSt_at zs k p e
    exact ⟨g, rfl, (h0.cellAt (k * 5) (by omega)).trans f0, (h0.cellAt (k * 5 + 1) (by omega)).trans f1, (h0.cellAt (k * 5 + 2) (by omega)).trans f2, (h0.cellAt (k * 5 + 3) (by omega)).trans f3, (h0.cellAt (k * 5 + 4) (by omega)).trans f4⟩

theorem OwnSt.form {w : World} {B : Nat} {v : Value} {zs : List StI} (h : OwnSt w B v zs) : (v = .slice none 0 0 ∧ zs = []) ∨ ∃ g cap, v = .slice (some ⟨g, 0, none⟩) zs.length cap ∧ B ≤ g ∧ g < w.heap.size ∧ zs.length ≤ cap ∧ cap ≤ maxLen := by
  have h0 : w.ownsRow B 36 5 v zs.length (flatSt zs) := h
  rcases h0.2 with ⟨h', h''⟩ | ⟨g, cap', cur, h', hb, hg, hc, hm, _⟩
  · exact .inl ⟨h', List.length_eq_zero_iff.1 h''⟩
  · exact .inr ⟨g, cap', h', hb, (Array.getElem?_eq_some_iff.1 hg).1, hc, hm⟩

theorem OwnSt.slice {w : World} {B : Nat} {v : Value} {zs : List StI} (h : OwnSt w B v zs) : ∃ a cap, v = .slice a zs.length cap := by
  rcases h.form with ⟨rfl, rfl⟩ | ⟨g, cap, rfl, _⟩
  · exact ⟨none, 0, rfl⟩
  · exact ⟨_, _, rfl⟩

theorem OwnSt.alloc {w : World} {B : Nat} {v : Value} {zs : List StI} (h : OwnSt w B v zs) (o : Obj) : OwnSt (w.alloc o) B v zs := World.ownsRow.alloc h o

/-- The marks of n of them. -/
def mkSt (n : Nat) : List StI := (List.range n).map fun j => (⟨((1 + 5 * j : Nat) : Int), ((2 + 5 * j : Nat) : Int), ((3 + 5 * j : Nat) : Int), ((4 + 5 * j : Nat) : Int), ((5 + 5 * j : Nat) : Int)⟩ : StI)
theorem mkSt_len (n : Nat) : (mkSt n).length = n := by simp [mkSt]
theorem mkSt_at (n j : Nat) (h : j < n) : (mkSt n)[j]? = some (⟨((1 + 5 * j : Nat) : Int), ((2 + 5 * j : Nat) : Int), ((3 + 5 * j : Nat) : Int), ((4 + 5 * j : Nat) : Int), ((5 + 5 * j : Nat) : Int)⟩ : StI) := by simp [mkSt, h]

theorem flatSt_set (a : List StI) (k : Nat) (p : StI) : flatSt (a.set k p) = ((((((flatSt a).set (k * 5) (.int .i64 p.k)).set (k * 5 + 1) (.int .i64 p.e)).set (k * 5 + 2) (.int .i64 p.f)).set (k * 5 + 3) (.int .i64 p.s)).set (k * 5 + 4) (.int .i64 p.n)) := by
  induction a generalizing k with
  | nil => simp [flatSt]
  | cons q qs ih =>
    cases k with
    | zero => simp [flatSt]
    | succ k =>
      rw [show (k + 1) * 5 = k * 5 + 1 + 1 + 1 + 1 + 1 by omega]
      simp [flatSt, ih]

theorem OwnSt.put {w : World} {B g cap : Nat} {zs : List StI} {n : Nat} (hn : n = zs.length) (h : OwnSt w B (.slice (some ⟨g, 0, none⟩) n cap) zs) (j : Nat) (p : StI) :
    OwnSt (((((w.setCell ⟨g, j * 5, none⟩ (.int .i64 p.k)).setCell ⟨g, j * 5 + 1, none⟩ (.int .i64 p.e)).setCell ⟨g, j * 5 + 2, none⟩ (.int .i64 p.f)).setCell ⟨g, j * 5 + 3, none⟩ (.int .i64 p.s)).setCell ⟨g, j * 5 + 4, none⟩ (.int .i64 p.n)) B (.slice (some ⟨g, 0, none⟩) n cap) (zs.set j p) ∧ w.grownBy (((((w.setCell ⟨g, j * 5, none⟩ (.int .i64 p.k)).setCell ⟨g, j * 5 + 1, none⟩ (.int .i64 p.e)).setCell ⟨g, j * 5 + 2, none⟩ (.int .i64 p.f)).setCell ⟨g, j * 5 + 3, none⟩ (.int .i64 p.s)).setCell ⟨g, j * 5 + 4, none⟩ (.int .i64 p.n)) (some g) := by
  subst hn
  have h0 : w.ownsRow B 36 5 (.slice (some ⟨g, 0, none⟩) zs.length cap) zs.length (flatSt zs) := h
  have h1 := h0.stored (j * 5) (.int .i64 p.k)
  have h2 := h1.1.stored (j * 5 + 1) (.int .i64 p.e)
  have h3 := h2.1.stored (j * 5 + 2) (.int .i64 p.f)
  have h4 := h3.1.stored (j * 5 + 3) (.int .i64 p.s)
  have h5 := h4.1.stored (j * 5 + 4) (.int .i64 p.n)
  refine ⟨?_, grown_tr (grown_tr (grown_tr (grown_tr h1.2 h2.2) h3.2) h4.2) h5.2⟩
  show World.ownsRow _ B 36 5 _ (zs.set j p).length (flatSt (zs.set j p))
  rw [flatSt_set, List.length_set]
  exact h5.1

theorem OwnSt.cell {w : World} {B g cap : Nat} {zs : List StI} {n : Nat} (hn : n = zs.length) (h : OwnSt w B (.slice (some ⟨g, 0, none⟩) n cap) zs) (j : Nat) (hj : j < n * 5) : (∃ v, w.cell? ⟨g, j, none⟩ = some v) ∧ w.frozen? ⟨g, j, none⟩ = false := by
  subst hn
  have h0 : w.ownsRow B 36 5 (.slice (some ⟨g, 0, none⟩) zs.length cap) zs.length (flatSt zs) := h
  exact ⟨⟨_, (h0.cellAt j hj).trans (List.getElem?_eq_getElem (by rw [flatSt_len]; exact hj))⟩, h0.frozenAt j⟩

theorem StRoom.below {w w' : World} {g n : Nat} (h : StRoom w g n) (hg : g < w.heap.size) (hb : Below w.heap.size w w') : StRoom w' g n :=
  ⟨fun j hj => by obtain ⟨v, e⟩ := h.1 j hj; exact ⟨v, (hb.cell (p := ⟨g, j, none⟩) hg).trans e⟩, fun j => (hb.frozen (p := ⟨g, j, none⟩) hg).trans (h.2 j)⟩

theorem StRoom.grown {w w' : World} {g n : Nat} {row : Option Nat} (h : StRoom w g n) (hg : g < w.heap.size) (hr : w.grownBy w' row) (hne : some g ≠ row) : StRoom w' g n :=
  ⟨fun j hj => by obtain ⟨v, e⟩ := h.1 j hj; exact ⟨v, hr.cell e hne⟩, fun j => by
    have := h.2 j
    unfold World.frozen? at this ⊢
    simp only at this ⊢
    rw [hr.block g hg hne]
    exact this⟩

theorem StRoom.set {w : World} {g n : Nat} (h : StRoom w g n) (o : Nat) (v : Value) : StRoom (w.setCell ⟨g, o, none⟩ v) g n := by
  refine ⟨fun j hj => ?_, fun j => by simp only [World.frozen?_setCell]; exact h.2 j⟩
  obtain ⟨u, e⟩ := h.1 j hj
  by_cases q : j = o
  · subst q
    exact ⟨v, by simp [go_sem, e]⟩
  · exact ⟨u, by rw [World.cell?_setCell_other (h := fun e => q (by have := congrArg Addr.off e; simp at this; omega))]; exact e⟩

theorem StIn_kept {w w' : World} {a : Option Addr} {n L : Nat} {zs : List StI} {row : Option Nat} (h : StIn w a n zs) (hg : w.grownBy w' row) (hL : ∀ b off, a = some ⟨b, off, none⟩ → n = 0 ∨ b < L) (hne : ∀ q, row = some q → L ≤ q) : StIn w' a n zs := by
  refine ⟨h.1, fun hp => ?_⟩
  obtain ⟨b, off, e, hr⟩ := h.2 hp
  have hb : b < L := by
    rcases hL b off e with h0 | h0
    · omega
    · exact h0
  refine ⟨b, off, e, fun k r hk => ?_⟩
  have hx : ∀ (o : Nat) (u : Value), w.cell? ⟨b, o, none⟩ = some u → w'.cell? ⟨b, o, none⟩ = some u := fun o u hu => hg.cell hu (fun q => by have := hne b q.symm; omega)
  obtain ⟨h0, h1, h2, h3, h4⟩ := hr k r hk
  exact ⟨hx _ _ h0, hx _ _ h1, hx _ _ h2, hx _ _ h3, hx _ _ h4⟩

theorem St_lt {w : World} {a : Option Addr} {n : Nat} {zs : List StI} (h : StIn w a n zs) : ∀ b off, a = some ⟨b, off, none⟩ → n = 0 ∨ b < w.heap.size := by
  intro b off e
  by_cases h0 : n = 0
  · exact .inl h0
  · obtain ⟨b', off', r, e', _, _, hb⟩ := h.at (show 0 < n by omega)
    rw [e] at e'
    cases e'
    exact .inr hb

theorem ownSt_row {W : World} {B : Nat} {a : Option Addr} {n cap : Nat} {ys : List StI} (h : OwnSt W B (.slice a n cap) ys) : ∀ q, (Value.slice a n cap).ownBlock = some q → B ≤ q ∧ q < W.heap.size := by
  have h0 : W.ownsRow B 36 5 (.slice a n cap) ys.length (flatSt ys) := h
  exact fun q e => h0.lt q e

theorem rowSt_lt {w : World} {B : Nat} {a : Option Addr} {cap : Nat} {ys : List StI} (h : OwnSt w B (.slice a ys.length cap) ys) : ∀ g, a = some ⟨g, 0, none⟩ → B ≤ g ∧ g < w.heap.size := by
  intro g e
  subst e
  exact ownSt_row h g rfl

theorem ownSt_kept {W W' : World} {B q : Nat} {a : Option Addr} {n cap : Nat} {ys : List StI} (h : OwnSt W B (.slice a n cap) ys) (hg : W.grownBy W' (some q)) (hq : q < B) : OwnSt W' B (.slice a n cap) ys := by
  refine World.ownsRow.kept h hg ?_
  rcases a with _ | ⟨g, o, sp⟩
  · rcases h.form with ⟨h1, _⟩ | ⟨g', cap', h1, h2, _⟩
    · simp at h1; obtain ⟨rfl, rfl⟩ := h1; exact .inl rfl
    · simp at h1
  · rcases h.form with ⟨h1, _⟩ | ⟨g', cap', h1, h2, _⟩
    · simp at h1
    · simp at h1
      obtain ⟨⟨rfl, rfl, rfl⟩, _⟩ := h1
      exact .inr (by simp [Value.ownBlock]; omega)

end Go.Proofs.Ythogdfnaojijhaa
