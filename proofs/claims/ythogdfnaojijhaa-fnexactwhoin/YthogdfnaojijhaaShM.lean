/-
  CONTRACTS on Share in results: rows that are new, read, marked, held against their marks, compared.
  Conditions: each contract bears its own.
-/
import Derived.Test.YthogdfnaojijhaaSh0
import Derived.Test.YthogdfnaojijhaaRol1
import Derived.Test.YthogdfnaojijhaaBx2
import Derived.Deep.AppendLies
namespace Go.Proofs.Ythogdfnaojijhaa
open Go.RowKit
set_option linter.unusedVariables false
set_option linter.unusedSimpArgs false

def flatSh : List ShI → List Value
  | [] => []
  | p :: ps => .int .i64 p.r :: .int .i64 p.k :: .int .i64 p.e :: .int .i64 p.f :: .int .i64 p.s :: .int .i64 p.n :: flatSh ps

theorem flatSh_append (a b : List ShI) : flatSh (a ++ b) = flatSh a ++ flatSh b := by
  induction a with
  | nil => rfl
  | cons p ps ih => simp [flatSh, ih]

theorem flatSh_len (a : List ShI) : (flatSh a).length = a.length * 6 := by
  induction a with
  | nil => rfl
  | cons p ps ih => simp [flatSh, ih]; omega

theorem flatSh_at : ∀ (a : List ShI) (k : Nat) (p : ShI), a[k]? = some p → (flatSh a)[k * 6]? = some (.int .i64 p.r) ∧ (flatSh a)[k * 6 + 1]? = some (.int .i64 p.k) ∧ (flatSh a)[k * 6 + 2]? = some (.int .i64 p.e) ∧ (flatSh a)[k * 6 + 3]? = some (.int .i64 p.f) ∧ (flatSh a)[k * 6 + 4]? = some (.int .i64 p.s) ∧ (flatSh a)[k * 6 + 5]? = some (.int .i64 p.n)
  | [], _, _, h => by simp at h
  | q :: qs, 0, p, h => by simp at h; subst h; exact ⟨rfl, rfl, rfl, rfl, rfl, rfl⟩
  | q :: qs, k + 1, p, h => by
    have := flatSh_at qs k p (by simpa using h)
    rw [show (k + 1) * 6 = k * 6 + 1 + 1 + 1 + 1 + 1 + 1 by omega, show k * 6 + 1 + 1 + 1 + 1 + 1 + 1 + 1 = (k * 6 + 1) + 1 + 1 + 1 + 1 + 1 + 1 by omega, show k * 6 + 1 + 1 + 1 + 1 + 1 + 1 + 2 = (k * 6 + 2) + 1 + 1 + 1 + 1 + 1 + 1 by omega, show k * 6 + 1 + 1 + 1 + 1 + 1 + 1 + 3 = (k * 6 + 3) + 1 + 1 + 1 + 1 + 1 + 1 by omega, show k * 6 + 1 + 1 + 1 + 1 + 1 + 1 + 4 = (k * 6 + 4) + 1 + 1 + 1 + 1 + 1 + 1 by omega, show k * 6 + 1 + 1 + 1 + 1 + 1 + 1 + 5 = (k * 6 + 5) + 1 + 1 + 1 + 1 + 1 + 1 by omega]
    simpa [flatSh] using this

theorem flatSh_one (a : List ShI) : ∀ u ∈ flatSh a, u.oneCell' = true := by
  induction a with
  | nil => simp [flatSh]
  | cons p ps ih =>
    intro u hu
    simp only [flatSh, List.mem_cons] at hu
    rcases hu with rfl | rfl | rfl | rfl | rfl | rfl | hu
    · rfl
    · rfl
    · rfl
    · rfl
    · rfl
    · rfl
    · exact ih u hu

/-- A slice of them that is new since B. -/
def OwnSh (w : World) (B : Nat) (v : Value) (gs : List ShI) : Prop := w.ownsRow B 71 6 v gs.length (flatSh gs)

theorem OwnSh.shape {w : World} {B : Nat} {v : Value} {gs : List ShI} (h : OwnSh w B v gs) (hv : v ≠ .slice none 0 0) : ∃ g cap, v = .slice (some ⟨g, 0, none⟩) gs.length cap := by
  have h0 : w.ownsRow B 71 6 v gs.length (flatSh gs) := h
  rcases h0.2 with ⟨h', _⟩ | ⟨g, cap, cur, h', _⟩
  · exact absurd h' hv
  · exact ⟨g, cap, h'⟩

theorem OwnSh.below {w w' : World} {B : Nat} {v : Value} {gs : List ShI} (h : OwnSh w B v gs) (hb : Below w.heap.size w w') : OwnSh w' B v gs :=
  World.ownsRow.kept (row := none) h ⟨hb.os, hb.tape, hb.output, hb.size, fun k hk _ => hb.block k hk⟩ (by cases v.ownBlock <;> simp)

theorem ownSh_lower {w : World} {B B' : Nat} {v : Value} {gs : List ShI} (h : OwnSh w B v gs) (hb : B' ≤ B) : OwnSh w B' v gs := by
  have h0 : w.ownsRow B 71 6 v gs.length (flatSh gs) := h
  refine ⟨h0.1, ?_⟩
  rcases h0.2 with h' | ⟨g, cap, cur, e, hg, rest⟩
  · exact .inl h'
  · exact .inr ⟨g, cap, cur, e, Nat.le_trans hb hg, rest⟩

theorem ownSh_push {w : World} {B : Nat} {v : Value} {es : List ShI} {x : ShI} (h : w.ownsRow B 71 6 v (es.length + 1) (flatSh es ++ [.int .i64 x.r, .int .i64 x.k, .int .i64 x.e, .int .i64 x.f, .int .i64 x.s, .int .i64 x.n])) : OwnSh w B v (es ++ [x]) := by
  unfold OwnSh
  rw [List.length_append, flatSh_append]
  exact h

theorem ownSh_grown {w1 Z w' : World} {B : Nat} {v : Value} {es : List ShI} (ho : OwnSh Z B v es) (hb : Below B w1 Z) (hg : Z.grownBy w' v.ownBlock) (hB : B ≤ Z.heap.size) : Below B w1 w' := by
  have h0 : Z.ownsRow B 71 6 v es.length (flatSh es) := ho
  exact hb.grown hg hB (fun j hj => (h0.lt j hj).1)

/-- A slice of them, read. -/
def ShV (w : World) (a : Option Addr) (zs : List ShI) : Prop := ∀ k p, zs[k]? = some p → ∃ g, a = some ⟨g, 0, none⟩ ∧ ShAt w g (k * 6) p

theorem ShV.below {w w' : World} {a : Option Addr} {zs : List ShI} (h : ShV w a zs) (hb : Below w.heap.size w w') : ShV w' a zs := fun k p e => by
  obtain ⟨g, ha, h1⟩ := h k p e
  exact ⟨g, ha, h1.below hb (World.block_lt_of_cell? w ⟨g, k * 6, none⟩ h1.1)⟩

theorem ShV.kept {w w' : World} {a : Option Addr} {zs : List ShI} {row : Option Nat} (h : ShV w a zs) (hg : w.grownBy w' row) (hne : ∀ g, a = some ⟨g, 0, none⟩ → some g ≠ row) : ShV w' a zs := fun k p e => by
  obtain ⟨g, ha, h1, h2, h3, h4, h5, h6⟩ := h k p e
  exact ⟨g, ha, hg.cell h1 (hne g ha), hg.cell h2 (hne g ha), hg.cell h3 (hne g ha), hg.cell h4 (hne g ha), hg.cell h5 (hne g ha), hg.cell h6 (hne g ha)⟩

theorem ShV.isIn {w : World} {a : Option Addr} {n : Nat} {zs : List ShI} (hn : zs.length = n) (h : ShV w a zs) : ShIn w a n zs := by
  refine ⟨hn, fun hp => ?_⟩
  obtain ⟨g, ha, _⟩ := h 0 _ (List.getElem?_eq_getElem (by omega))
  refine ⟨g, 0, ha, fun k x e => ?_⟩
  obtain ⟨g', ha', hx⟩ := h k x e
  rw [ha] at ha'
  cases ha'
  rw [Nat.zero_add]
  exact hx

theorem OwnSh.view {w : World} {B : Nat} {a : Option Addr} {n cap : Nat} {zs : List ShI} (h : OwnSh w B (.slice a n cap) zs) : ShV w a zs := by
  intro k p e
  have hk : k < zs.length := by
    by_cases q : k < zs.length
    · exact q
    · rw [List.getElem?_eq_none (by omega)] at e; cases e
  have h0 : w.ownsRow B 71 6 (.slice a n cap) zs.length (flatSh zs) := h
  rcases h0.2 with ⟨h', h''⟩ | ⟨g, cap', cur, h', _⟩
  · omega
  · simp at h'
    obtain ⟨rfl, rfl, rfl⟩ := h'
    obtain ⟨f0, f1, f2, f3, f4, f5⟩ := flatSh_at zs k p e
    exact ⟨g, rfl, (h0.cellAt (k * 6) (by omega)).trans f0, (h0.cellAt (k * 6 + 1) (by omega)).trans f1, (h0.cellAt (k * 6 + 2) (by omega)).trans f2, (h0.cellAt (k * 6 + 3) (by omega)).trans f3, (h0.cellAt (k * 6 + 4) (by omega)).trans f4, (h0.cellAt (k * 6 + 5) (by omega)).trans f5⟩

theorem OwnSh.form {w : World} {B : Nat} {v : Value} {zs : List ShI} (h : OwnSh w B v zs) : (v = .slice none 0 0 ∧ zs = []) ∨ ∃ g cap, v = .slice (some ⟨g, 0, none⟩) zs.length cap ∧ B ≤ g ∧ g < w.heap.size ∧ zs.length ≤ cap ∧ cap ≤ maxLen := by
  have h0 : w.ownsRow B 71 6 v zs.length (flatSh zs) := h
  rcases h0.2 with ⟨h', h''⟩ | ⟨g, cap', cur, h', hb, hg, hc, hm, _⟩
  · exact .inl ⟨h', List.length_eq_zero_iff.1 h''⟩
  · exact .inr ⟨g, cap', h', hb, (Array.getElem?_eq_some_iff.1 hg).1, hc, hm⟩

theorem OwnSh.slice {w : World} {B : Nat} {v : Value} {zs : List ShI} (h : OwnSh w B v zs) : ∃ a cap, v = .slice a zs.length cap := by
  rcases h.form with ⟨rfl, rfl⟩ | ⟨g, cap, rfl, _⟩
  · exact ⟨none, 0, rfl⟩
  · exact ⟨_, _, rfl⟩

theorem OwnSh.alloc {w : World} {B : Nat} {v : Value} {zs : List ShI} (h : OwnSh w B v zs) (o : Obj) : OwnSh (w.alloc o) B v zs := World.ownsRow.alloc h o

/-- The marks of n of them. -/
def mkSh (n : Nat) : List ShI := (List.range n).map fun j => (⟨((1 + 6 * j : Nat) : Int), ((2 + 6 * j : Nat) : Int), ((3 + 6 * j : Nat) : Int), ((4 + 6 * j : Nat) : Int), ((5 + 6 * j : Nat) : Int), ((6 + 6 * j : Nat) : Int)⟩ : ShI)
theorem mkSh_len (n : Nat) : (mkSh n).length = n := by simp [mkSh]
theorem mkSh_at (n j : Nat) (h : j < n) : (mkSh n)[j]? = some (⟨((1 + 6 * j : Nat) : Int), ((2 + 6 * j : Nat) : Int), ((3 + 6 * j : Nat) : Int), ((4 + 6 * j : Nat) : Int), ((5 + 6 * j : Nat) : Int), ((6 + 6 * j : Nat) : Int)⟩ : ShI) := by simp [mkSh, h]

theorem flatSh_set (a : List ShI) (k : Nat) (p : ShI) : flatSh (a.set k p) = (((((((flatSh a).set (k * 6) (.int .i64 p.r)).set (k * 6 + 1) (.int .i64 p.k)).set (k * 6 + 2) (.int .i64 p.e)).set (k * 6 + 3) (.int .i64 p.f)).set (k * 6 + 4) (.int .i64 p.s)).set (k * 6 + 5) (.int .i64 p.n)) := by
  induction a generalizing k with
  | nil => simp [flatSh]
  | cons q qs ih =>
    cases k with
    | zero => simp [flatSh]
    | succ k =>
      rw [show (k + 1) * 6 = k * 6 + 1 + 1 + 1 + 1 + 1 + 1 by omega]
      simp [flatSh, ih]

theorem OwnSh.put {w : World} {B g cap : Nat} {zs : List ShI} {n : Nat} (hn : n = zs.length) (h : OwnSh w B (.slice (some ⟨g, 0, none⟩) n cap) zs) (j : Nat) (p : ShI) :
    OwnSh ((((((w.setCell ⟨g, j * 6, none⟩ (.int .i64 p.r)).setCell ⟨g, j * 6 + 1, none⟩ (.int .i64 p.k)).setCell ⟨g, j * 6 + 2, none⟩ (.int .i64 p.e)).setCell ⟨g, j * 6 + 3, none⟩ (.int .i64 p.f)).setCell ⟨g, j * 6 + 4, none⟩ (.int .i64 p.s)).setCell ⟨g, j * 6 + 5, none⟩ (.int .i64 p.n)) B (.slice (some ⟨g, 0, none⟩) n cap) (zs.set j p) ∧ w.grownBy ((((((w.setCell ⟨g, j * 6, none⟩ (.int .i64 p.r)).setCell ⟨g, j * 6 + 1, none⟩ (.int .i64 p.k)).setCell ⟨g, j * 6 + 2, none⟩ (.int .i64 p.e)).setCell ⟨g, j * 6 + 3, none⟩ (.int .i64 p.f)).setCell ⟨g, j * 6 + 4, none⟩ (.int .i64 p.s)).setCell ⟨g, j * 6 + 5, none⟩ (.int .i64 p.n)) (some g) := by
  subst hn
  have h0 : w.ownsRow B 71 6 (.slice (some ⟨g, 0, none⟩) zs.length cap) zs.length (flatSh zs) := h
  have h1 := h0.stored (j * 6) (.int .i64 p.r)
  have h2 := h1.1.stored (j * 6 + 1) (.int .i64 p.k)
  have h3 := h2.1.stored (j * 6 + 2) (.int .i64 p.e)
  have h4 := h3.1.stored (j * 6 + 3) (.int .i64 p.f)
  have h5 := h4.1.stored (j * 6 + 4) (.int .i64 p.s)
  have h6 := h5.1.stored (j * 6 + 5) (.int .i64 p.n)
  refine ⟨?_, grown_tr (grown_tr (grown_tr (grown_tr (grown_tr h1.2 h2.2) h3.2) h4.2) h5.2) h6.2⟩
  show World.ownsRow _ B 71 6 _ (zs.set j p).length (flatSh (zs.set j p))
  rw [flatSh_set, List.length_set]
  exact h6.1

theorem OwnSh.cell {w : World} {B g cap : Nat} {zs : List ShI} {n : Nat} (hn : n = zs.length) (h : OwnSh w B (.slice (some ⟨g, 0, none⟩) n cap) zs) (j : Nat) (hj : j < n * 6) : (∃ v, w.cell? ⟨g, j, none⟩ = some v) ∧ w.frozen? ⟨g, j, none⟩ = false := by
  subst hn
  have h0 : w.ownsRow B 71 6 (.slice (some ⟨g, 0, none⟩) zs.length cap) zs.length (flatSh zs) := h
  exact ⟨⟨_, (h0.cellAt j hj).trans (List.getElem?_eq_getElem (by rw [flatSh_len]; exact hj))⟩, h0.frozenAt j⟩

theorem ShRoom.below {w w' : World} {g n : Nat} (h : ShRoom w g n) (hg : g < w.heap.size) (hb : Below w.heap.size w w') : ShRoom w' g n :=
  ⟨fun j hj => by obtain ⟨v, e⟩ := h.1 j hj; exact ⟨v, (hb.cell (p := ⟨g, j, none⟩) hg).trans e⟩, fun j => (hb.frozen (p := ⟨g, j, none⟩) hg).trans (h.2 j)⟩

theorem ShRoom.grown {w w' : World} {g n : Nat} {row : Option Nat} (h : ShRoom w g n) (hg : g < w.heap.size) (hr : w.grownBy w' row) (hne : some g ≠ row) : ShRoom w' g n :=
  ⟨fun j hj => by obtain ⟨v, e⟩ := h.1 j hj; exact ⟨v, hr.cell e hne⟩, fun j => by
    have := h.2 j
    unfold World.frozen? at this ⊢
    simp only at this ⊢
    rw [hr.block g hg hne]
    exact this⟩

theorem ShRoom.set {w : World} {g n : Nat} (h : ShRoom w g n) (o : Nat) (v : Value) : ShRoom (w.setCell ⟨g, o, none⟩ v) g n := by
  refine ⟨fun j hj => ?_, fun j => by simp only [World.frozen?_setCell]; exact h.2 j⟩
  obtain ⟨u, e⟩ := h.1 j hj
  by_cases q : j = o
  · subst q
    exact ⟨v, by simp [go_sem, e]⟩
  · exact ⟨u, by rw [World.cell?_setCell_other (h := fun e => q (by have := congrArg Addr.off e; simp at this; omega))]; exact e⟩

theorem ShIn_kept {w w' : World} {a : Option Addr} {n L : Nat} {zs : List ShI} {row : Option Nat} (h : ShIn w a n zs) (hg : w.grownBy w' row) (hL : ∀ b off, a = some ⟨b, off, none⟩ → n = 0 ∨ b < L) (hne : ∀ q, row = some q → L ≤ q) : ShIn w' a n zs := by
  refine ⟨h.1, fun hp => ?_⟩
  obtain ⟨b, off, e, hr⟩ := h.2 hp
  have hb : b < L := by
    rcases hL b off e with h0 | h0
    · omega
    · exact h0
  refine ⟨b, off, e, fun k r hk => ?_⟩
  have hx : ∀ (o : Nat) (u : Value), w.cell? ⟨b, o, none⟩ = some u → w'.cell? ⟨b, o, none⟩ = some u := fun o u hu => hg.cell hu (fun q => by have := hne b q.symm; omega)
  obtain ⟨h0, h1, h2, h3, h4, h5⟩ := hr k r hk
  exact ⟨hx _ _ h0, hx _ _ h1, hx _ _ h2, hx _ _ h3, hx _ _ h4, hx _ _ h5⟩

theorem Sh_lt {w : World} {a : Option Addr} {n : Nat} {zs : List ShI} (h : ShIn w a n zs) : ∀ b off, a = some ⟨b, off, none⟩ → n = 0 ∨ b < w.heap.size := by
  intro b off e
  by_cases h0 : n = 0
  · exact .inl h0
  · obtain ⟨b', off', r, e', _, _, hb⟩ := h.at (show 0 < n by omega)
    rw [e] at e'
    cases e'
    exact .inr hb

theorem ownSh_row {W : World} {B : Nat} {a : Option Addr} {n cap : Nat} {ys : List ShI} (h : OwnSh W B (.slice a n cap) ys) : ∀ q, (Value.slice a n cap).ownBlock = some q → B ≤ q ∧ q < W.heap.size := by
  have h0 : W.ownsRow B 71 6 (.slice a n cap) ys.length (flatSh ys) := h
  exact fun q e => h0.lt q e

theorem rowSh_lt {w : World} {B : Nat} {a : Option Addr} {cap : Nat} {ys : List ShI} (h : OwnSh w B (.slice a ys.length cap) ys) : ∀ g, a = some ⟨g, 0, none⟩ → B ≤ g ∧ g < w.heap.size := by
  intro g e
  subst e
  exact ownSh_row h g rfl

theorem ownSh_kept {W W' : World} {B q : Nat} {a : Option Addr} {n cap : Nat} {ys : List ShI} (h : OwnSh W B (.slice a n cap) ys) (hg : W.grownBy W' (some q)) (hq : q < B) : OwnSh W' B (.slice a n cap) ys := by
  refine World.ownsRow.kept h hg ?_
  rcases a with _ | ⟨g, o, sp⟩
  · rcases h.form with ⟨h1, _⟩ | ⟨g', cap', h1, h2, _⟩
    · simp at h1; obtain ⟨rfl, rfl⟩ := h1; exact .inl rfl
    · simp at h1
  · rcases h.form with ⟨h1, _⟩ | ⟨g', cap', h1, h2, _⟩
    · simp at h1
    · simp at h1
      obtain ⟨⟨rfl, rfl, rfl⟩, _⟩ := h1
      exact .inr (by simp [Value.ownBlock]; omega)

end Go.Proofs.Ythogdfnaojijhaa
