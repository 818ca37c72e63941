/-
  CONTRACTS on Lock in results: rows that are new, read, marked, held against their marks, compared.
  Conditions: each contract bears its own.
-/
import Derived.Test.YtabbjcngilocnabLk0
import Derived.Test.YtabbjcngilocnabRol1
import Derived.Test.YtabbjcngilocnabBx2
import Derived.Deep.AppendLies
namespace Go.Proofs.Ytabbjcngilocnab
open Go.RowKit
set_option linter.unusedVariables false
set_option linter.unusedSimpArgs false

def flatLk : List LkI → List Value
  | [] => []
  | p :: ps => .int .i64 p.e :: .int .i64 p.c :: .int .i64 p.p :: .int .i64 p.f :: flatLk ps

theorem flatLk_append (a b : List LkI) : flatLk (a ++ b) = flatLk a ++ flatLk b := by
  induction a with
  | nil => rfl
  | cons p ps ih => simp [flatLk, ih]

theorem flatLk_len (a : List LkI) : (flatLk a).length = a.length * 4 := by
  induction a with
  | nil => rfl
  | cons p ps ih => simp [flatLk, ih]; omega

theorem flatLk_at : ∀ (a : List LkI) (k : Nat) (p : LkI), a[k]? = some p → (flatLk a)[k * 4]? = some (.int .i64 p.e) ∧ (flatLk a)[k * 4 + 1]? = some (.int .i64 p.c) ∧ (flatLk a)[k * 4 + 2]? = some (.int .i64 p.p) ∧ (flatLk a)[k * 4 + 3]? = some (.int .i64 p.f)
  | [], _, _, h => by simp at h
  | q :: qs, 0, p, h => by simp at h; subst h; exact ⟨rfl, rfl, rfl, rfl⟩
  | q :: qs, k + 1, p, h => by
    have := flatLk_at qs k p (by simpa using h)
    rw [show (k + 1) * 4 = k * 4 + 1 + 1 + 1 + 1 by omega, show k * 4 + 1 + 1 + 1 + 1 + 1 = (k * 4 + 1) + 1 + 1 + 1 + 1 by omega, show k * 4 + 1 + 1 + 1 + 1 + 2 = (k * 4 + 2) + 1 + 1 + 1 + 1 by omega, show k * 4 + 1 + 1 + 1 + 1 + 3 = (k * 4 + 3) + 1 + 1 + 1 + 1 by omega]
    simpa [flatLk] using this

theorem flatLk_one (a : List LkI) : ∀ u ∈ flatLk a, u.oneCell' = true := by
  induction a with
  | nil => simp [flatLk]
  | cons p ps ih =>
    intro u hu
    simp only [flatLk, List.mem_cons] at hu
    rcases hu with rfl | rfl | rfl | rfl | hu
    · rfl
    · rfl
    · rfl
    · rfl
    · exact ih u hu

/-- A slice of them that is new since B. -/
def OwnLk (w : World) (B : Nat) (v : Value) (gs : List LkI) : Prop := w.ownsRow B 50 4 v gs.length (flatLk gs)

theorem OwnLk.shape {w : World} {B : Nat} {v : Value} {gs : List LkI} (h : OwnLk w B v gs) (hv : v ≠ .slice none 0 0) : ∃ g cap, v = .slice (some ⟨g, 0, none⟩) gs.length cap := by
  have h0 : w.ownsRow B 50 4 v gs.length (flatLk gs) := h
  rcases h0.2 with ⟨h', _⟩ | ⟨g, cap, cur, h', _⟩
  · exact absurd h' hv
  · exact ⟨g, cap, h'⟩

theorem OwnLk.below {w w' : World} {B : Nat} {v : Value} {gs : List LkI} (h : OwnLk w B v gs) (hb : Below w.heap.size w w') : OwnLk w' B v gs :=
  World.ownsRow.kept (row := none) h ⟨hb.os, hb.tape, hb.output, hb.size, fun k hk _ => hb.block k hk⟩ (by cases v.ownBlock <;> simp)

theorem ownLk_lower {w : World} {B B' : Nat} {v : Value} {gs : List LkI} (h : OwnLk w B v gs) (hb : B' ≤ B) : OwnLk w B' v gs := by
  have h0 : w.ownsRow B 50 4 v gs.length (flatLk gs) := h
  refine ⟨h0.1, ?_⟩
  rcases h0.2 with h' | ⟨g, cap, cur, e, hg, rest⟩
  · exact .inl h'
  · exact .inr ⟨g, cap, cur, e, Nat.le_trans hb hg, rest⟩

theorem ownLk_push {w : World} {B : Nat} {v : Value} {es : List LkI} {x : LkI} (h : w.ownsRow B 50 4 v (es.length + 1) (flatLk es ++ [.int .i64 x.e, .int .i64 x.c, .int .i64 x.p, .int .i64 x.f])) : OwnLk w B v (es ++ [x]) := by
  unfold OwnLk
  rw [List.length_append, flatLk_append]
  exact h

theorem ownLk_grown {w1 Z w' : World} {B : Nat} {v : Value} {es : List LkI} (ho : OwnLk Z B v es) (hb : Below B w1 Z) (hg : Z.grownBy w' v.ownBlock) (hB : B ≤ Z.heap.size) : Below B w1 w' := by
  have h0 : Z.ownsRow B 50 4 v es.length (flatLk es) := ho
  exact hb.grown hg hB (fun j hj => (h0.lt j hj).1)

/-- A slice of them, read. -/
def LkV (w : World) (a : Option Addr) (zs : List LkI) : Prop := ∀ k p, zs[k]? = some p → ∃ g, a = some ⟨g, 0, none⟩ ∧ LkAt w g (k * 4) p

theorem LkV.below {w w' : World} {a : Option Addr} {zs : List LkI} (h : LkV w a zs) (hb : Below w.heap.size w w') : LkV w' a zs := fun k p e => by
  obtain ⟨g, ha, h1⟩ := h k p e
  exact ⟨g, ha, h1.below hb (World.block_lt_of_cell? w ⟨g, k * 4, none⟩ h1.1)⟩

theorem LkV.kept {w w' : World} {a : Option Addr} {zs : List LkI} {row : Option Nat} (h : LkV w a zs) (hg : w.grownBy w' row) (hne : ∀ g, a = some ⟨g, 0, none⟩ → some g ≠ row) : LkV w' a zs := fun k p e => by
  obtain ⟨g, ha, h1, h2, h3, h4⟩ := h k p e
  exact ⟨g, ha, hg.cell h1 (hne g ha), hg.cell h2 (hne g ha), hg.cell h3 (hne g ha), hg.cell h4 (hne g ha)⟩

theorem LkV.isIn {w : World} {a : Option Addr} {n : Nat} {zs : List LkI} (hn : zs.length = n) (h : LkV w a zs) : LkIn w a n zs := by
  refine ⟨hn, fun hp => ?_⟩
  obtain ⟨g, ha, _⟩ := h 0 _ (List.getElem?_eq_getElem (by omega))
  refine ⟨g, 0, ha, fun k x e => ?_⟩
  obtain ⟨g', ha', hx⟩ := h k x e
  rw [ha] at ha'
  cases ha'
  rw [Nat.zero_add]
  exact hx

theorem OwnLk.view {w : World} {B : Nat} {a : Option Addr} {n cap : Nat} {zs : List LkI} (h : OwnLk w B (.slice a n cap) zs) : LkV w a zs := by
  intro k p e
  have hk : k < zs.length := by
    by_cases q : k < zs.length
    · exact q
    · rw [List.getElem?_eq_none (by omega)] at e; cases e
  have h0 : w.ownsRow B 50 4 (.slice a n cap) zs.length (flatLk zs) := h
  rcases h0.2 with ⟨h', h''⟩ | ⟨g, cap', cur, h', _⟩
  · omega
  · simp at h'
    obtain ⟨rfl, rfl, rfl⟩ := h'
    obtain ⟨f0, f1, f2, f3⟩ := flatLk_at zs k p e
    exact ⟨g, rfl, (h0.cellAt (k * 4) (by omega)).trans f0, (h0.cellAt (k * 4 + 1) (by omega)).trans f1, (h0.cellAt (k * 4 + 2) (by omega)).trans f2, (h0.cellAt (k * 4 + 3) (by omega)).trans f3⟩

theorem OwnLk.form {w : World} {B : Nat} {v : Value} {zs : List LkI} (h : OwnLk w B v zs) : (v = .slice none 0 0 ∧ zs = []) ∨ ∃ g cap, v = .slice (some ⟨g, 0, none⟩) zs.length cap ∧ B ≤ g ∧ g < w.heap.size ∧ zs.length ≤ cap ∧ cap ≤ maxLen := by
  have h0 : w.ownsRow B 50 4 v zs.length (flatLk zs) := h
  rcases h0.2 with ⟨h', h''⟩ | ⟨g, cap', cur, h', hb, hg, hc, hm, _⟩
  · exact .inl ⟨h', List.length_eq_zero_iff.1 h''⟩
  · exact .inr ⟨g, cap', h', hb, (Array.getElem?_eq_some_iff.1 hg).1, hc, hm⟩

theorem OwnLk.slice {w : World} {B : Nat} {v : Value} {zs : List LkI} (h : OwnLk w B v zs) : ∃ a cap, v = .slice a zs.length cap := by
  rcases h.form with ⟨rfl, rfl⟩ | ⟨g, cap, rfl, _⟩
  · exact ⟨none, 0, rfl⟩
  · exact ⟨_, _, rfl⟩

theorem OwnLk.alloc {w : World} {B : Nat} {v : Value} {zs : List LkI} (h : OwnLk w B v zs) (o : Obj) : OwnLk (w.alloc o) B v zs := World.ownsRow.alloc h o

/-- The marks of n of them. -/
def mkLk (n : Nat) : List LkI := (List.range n).map fun j => (⟨((1 + 4 * j : Nat) : Int), ((2 + 4 * j : Nat) : Int), ((3 + 4 * j : Nat) : Int), ((4 + 4 * j : Nat) : Int)⟩ : LkI)
theorem mkLk_len (n : Nat) : (mkLk n).length = n := by simp [mkLk]
theorem mkLk_at (n j : Nat) (h : j < n) : (mkLk n)[j]? = some (⟨((1 + 4 * j : Nat) : Int), ((2 + 4 * j : Nat) : Int), ((3 + 4 * j : Nat) : Int), ((4 + 4 * j : Nat) : Int)⟩ : LkI) := by simp [mkLk, h]

theorem flatLk_set (a : List LkI) (k : Nat) (p : LkI) : flatLk (a.set k p) = (((((flatLk a).set (k * 4) (.int .i64 p.e)).set (k * 4 + 1) (.int .i64 p.c)).set (k * 4 + 2) (.int .i64 p.p)).set (k * 4 + 3) (.int .i64 p.f)) := by
  induction a generalizing k with
  | nil => simp [flatLk]
  | cons q qs ih =>
    cases k with
    | zero => simp [flatLk]
    | succ k =>
      rw [show (k + 1) * 4 = k * 4 + 1 + 1 + 1 + 1 by omega]
      simp [flatLk, ih]

theorem OwnLk.put {w : World} {B g cap : Nat} {zs : List LkI} {n : Nat} (hn : n = zs.length) (h : OwnLk w B (.slice (some ⟨g, 0, none⟩) n cap) zs) (j : Nat) (p : LkI) :
    OwnLk ((((w.setCell ⟨g, j * 4, none⟩ (.int .i64 p.e)).setCell ⟨g, j * 4 + 1, none⟩ (.int .i64 p.c)).setCell ⟨g, j * 4 + 2, none⟩ (.int .i64 p.p)).setCell ⟨g, j * 4 + 3, none⟩ (.int .i64 p.f)) B (.slice (some ⟨g, 0, none⟩) n cap) (zs.set j p) ∧ w.grownBy ((((w.setCell ⟨g, j * 4, none⟩ (.int .i64 p.e)).setCell ⟨g, j * 4 + 1, none⟩ (.int .i64 p.c)).setCell ⟨g, j * 4 + 2, none⟩ (.int .i64 p.p)).setCell ⟨g, j * 4 + 3, none⟩ (.int .i64 p.f)) (some g) := by
  subst hn
  have h0 : w.ownsRow B 50 4 (.slice (some ⟨g, 0, none⟩) zs.length cap) zs.length (flatLk zs) := h
  have h1 := h0.stored (j * 4) (.int .i64 p.e)
  have h2 := h1.1.stored (j * 4 + 1) (.int .i64 p.c)
  have h3 := h2.1.stored (j * 4 + 2) (.int .i64 p.p)
  have h4 := h3.1.stored (j * 4 + 3) (.int .i64 p.f)
  refine ⟨?_, grown_tr (grown_tr (grown_tr h1.2 h2.2) h3.2) h4.2⟩
  show World.ownsRow _ B 50 4 _ (zs.set j p).length (flatLk (zs.set j p))
  rw [flatLk_set, List.length_set]
  exact h4.1

theorem OwnLk.cell {w : World} {B g cap : Nat} {zs : List LkI} {n : Nat} (hn : n = zs.length) (h : OwnLk w B (.slice (some ⟨g, 0, none⟩) n cap) zs) (j : Nat) (hj : j < n * 4) : (∃ v, w.cell? ⟨g, j, none⟩ = some v) ∧ w.frozen? ⟨g, j, none⟩ = false := by
  subst hn
  have h0 : w.ownsRow B 50 4 (.slice (some ⟨g, 0, none⟩) zs.length cap) zs.length (flatLk zs) := h
  exact ⟨⟨_, (h0.cellAt j hj).trans (List.getElem?_eq_getElem (by rw [flatLk_len]; exact hj))⟩, h0.frozenAt j⟩

theorem LkRoom.below {w w' : World} {g n : Nat} (h : LkRoom w g n) (hg : g < w.heap.size) (hb : Below w.heap.size w w') : LkRoom w' g n :=
  ⟨fun j hj => by obtain ⟨v, e⟩ := h.1 j hj; exact ⟨v, (hb.cell (p := ⟨g, j, none⟩) hg).trans e⟩, fun j => (hb.frozen (p := ⟨g, j, none⟩) hg).trans (h.2 j)⟩

theorem LkRoom.grown {w w' : World} {g n : Nat} {row : Option Nat} (h : LkRoom w g n) (hg : g < w.heap.size) (hr : w.grownBy w' row) (hne : some g ≠ row) : LkRoom w' g n :=
  ⟨fun j hj => by obtain ⟨v, e⟩ := h.1 j hj; exact ⟨v, hr.cell e hne⟩, fun j => by
    have := h.2 j
    unfold World.frozen? at this ⊢
    simp only at this ⊢
    rw [hr.block g hg hne]
    exact this⟩

theorem LkRoom.set {w : World} {g n : Nat} (h : LkRoom w g n) (o : Nat) (v : Value) : LkRoom (w.setCell ⟨g, o, none⟩ v) g n := by
  refine ⟨fun j hj => ?_, fun j => by simp only [World.frozen?_setCell]; exact h.2 j⟩
  obtain ⟨u, e⟩ := h.1 j hj
  by_cases q : j = o
  · subst q
    exact ⟨v, by simp [go_sem, e]⟩
  · exact ⟨u, by rw [World.cell?_setCell_other (h := fun e => q (by have := congrArg Addr.off e; simp at this; omega))]; exact e⟩

theorem LkIn_kept {w w' : World} {a : Option Addr} {n L : Nat} {zs : List LkI} {row : Option Nat} (h : LkIn w a n zs) (hg : w.grownBy w' row) (hL : ∀ b off, a = some ⟨b, off, none⟩ → n = 0 ∨ b < L) (hne : ∀ q, row = some q → L ≤ q) : LkIn w' a n zs := by
  refine ⟨h.1, fun hp => ?_⟩
  obtain ⟨b, off, e, hr⟩ := h.2 hp
  have hb : b < L := by
    rcases hL b off e with h0 | h0
    · omega
    · exact h0
  refine ⟨b, off, e, fun k r hk => ?_⟩
  have hx : ∀ (o : Nat) (u : Value), w.cell? ⟨b, o, none⟩ = some u → w'.cell? ⟨b, o, none⟩ = some u := fun o u hu => hg.cell hu (fun q => by have := hne b q.symm; omega)
  obtain ⟨h0, h1, h2, h3⟩ := hr k r hk
  exact ⟨hx _ _ h0, hx _ _ h1, hx _ _ h2, hx _ _ h3⟩

theorem Lk_lt {w : World} {a : Option Addr} {n : Nat} {zs : List LkI} (h : LkIn w a n zs) : ∀ b off, a = some ⟨b, off, none⟩ → n = 0 ∨ b < w.heap.size := by
  intro b off e
  by_cases h0 : n = 0
  · exact .inl h0
  · obtain ⟨b', off', r, e', _, _, hb⟩ := h.at (show 0 < n by omega)
    rw [e] at e'
    cases e'
    exact .inr hb

theorem ownLk_row {W : World} {B : Nat} {a : Option Addr} {n cap : Nat} {ys : List LkI} (h : OwnLk W B (.slice a n cap) ys) : ∀ q, (Value.slice a n cap).ownBlock = some q → B ≤ q ∧ q < W.heap.size := by
  have h0 : W.ownsRow B 50 4 (.slice a n cap) ys.length (flatLk ys) := h
  exact fun q e => h0.lt q e

theorem rowLk_lt {w : World} {B : Nat} {a : Option Addr} {cap : Nat} {ys : List LkI} (h : OwnLk w B (.slice a ys.length cap) ys) : ∀ g, a = some ⟨g, 0, none⟩ → B ≤ g ∧ g < w.heap.size := by
  intro g e
  subst e
  exact ownLk_row h g rfl

theorem ownLk_kept {W W' : World} {B q : Nat} {a : Option Addr} {n cap : Nat} {ys : List LkI} (h : OwnLk W B (.slice a n cap) ys) (hg : W.grownBy W' (some q)) (hq : q < B) : OwnLk W' B (.slice a n cap) ys := by
  refine World.ownsRow.kept h hg ?_
  rcases a with _ | ⟨g, o, sp⟩
  · rcases h.form with ⟨h1, _⟩ | ⟨g', cap', h1, h2, _⟩
    · simp at h1; obtain ⟨rfl, rfl⟩ := h1; exact .inl rfl
    · simp at h1
  · rcases h.form with ⟨h1, _⟩ | ⟨g', cap', h1, h2, _⟩
    · simp at h1
    · simp at h1
      obtain ⟨⟨rfl, rfl, rfl⟩, _⟩ := h1
      exact .inr (by simp [Value.ownBlock]; omega)

end Go.Proofs.Ytabbjcngilocnab
