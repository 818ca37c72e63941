/-
  FACTS for laws whose result is a list of numbers: its box, its row, what a law keeps.
  Conditions: each fact bears its own.
-/
import Derived.Test.YtnmidppiakdanaaPf5
import Derived.Test.YtnmidppiakdanaaBx0
import Derived.Test.YtnmidppiakdanaaRol1
namespace Go.Proofs.Ytnmidppiakdanaa
open Go.RowKit
set_option linter.unusedVariables false
set_option linter.unusedSimpArgs false

theorem at_cast {w : World} {g g' : Nat} {zs : List RuleI} (h : RulesAt w g 0 zs) (e : g = g') : RulesAt w g' 0 zs := e ▸ h

/-- An empty box of a number and a list. -/
def BoxI (w : World) (B : Nat) : Prop := w.cell? ⟨B, 0, none⟩ = some (.int .i64 0) ∧ w.cell? ⟨B, 1, none⟩ = some (.slice none 0 0) ∧ w.frozen? ⟨B, 0, none⟩ = false ∧ w.frozen? ⟨B, 1, none⟩ = false
theorem BoxI.lt {w : World} {B : Nat} (h : BoxI w B) : B < w.heap.size := World.block_lt_of_cell? w ⟨B, 0, none⟩ h.1
theorem BoxI.new (X : World) : BoxI (X.alloc (.cells #[.int .i64 0, .slice none 0 0] 64)) X.heap.size := ⟨by simp, by simp, by simp [go_sem], by simp [go_sem]⟩
theorem BoxI.newD (X : World) : BoxI (X.drew.alloc (.cells #[.int .i64 0, .slice none 0 0] 64)) X.heap.size := BoxI.new X.drew
theorem BoxI.below {w w' : World} {B : Nat} (h : BoxI w B) (hb : Below w.heap.size w w') : BoxI w' B := by
  have hl : B < w.heap.size := h.lt
  exact ⟨(hb.cell (p := ⟨B, 0, none⟩) hl).trans h.1, (hb.cell (p := ⟨B, 1, none⟩) hl).trans h.2.1, (hb.frozen (p := ⟨B, 0, none⟩) hl).trans h.2.2.1, (hb.frozen (p := ⟨B, 1, none⟩) hl).trans h.2.2.2⟩
theorem BoxI.put {w : World} {B : Nat} (h : BoxI w B) (c : Int) (v : Value) : Box2 ((w.setCell ⟨B, 0, none⟩ (.int .i64 c)).setCell ⟨B, 1, none⟩ v) B (.int .i64 c) v := by
  obtain ⟨h0, h1, _, _⟩ := h
  exact ⟨by simp [go_sem, h0], by simp [go_sem, h1]⟩

/-- A row that a box's two stores leave. -/
def RowB (w : World) (B : Nat) (a : Option Addr) (ls : List Int) : Prop := ∀ x y, RowIn ((w.setCell ⟨B, 0, none⟩ x).setCell ⟨B, 1, none⟩ y) a ls.length ls
theorem row_box {w : World} {Bs B : Nat} {a : Option Addr} {cap : Nat} {ls : List Int} (h : w.ownsRow Bs 2 1 (.slice a ls.length cap) ls.length (ls.map (Value.int .i64))) (hB : B < Bs) : RowB w B a ls := fun x y =>
  row_of_owns (owns_box1 h hB)

/-- What a drawn statement 'x := F(..)' leaves: a box with the result, its row; what lay is as it was. -/
def Res1 (c : Int) (ls : List Int) (W : World) (s : Value) (wx : World) : Prop := ∃ (B : Nat) (a1 : Option Addr) (cap1 : Nat), s = .pointer (some ⟨B, 0, none⟩) ∧ Box2 wx B (.int .i64 c) (.slice a1 ls.length cap1) ∧ RowIn wx a1 ls.length ls ∧ Below W.heap.size W wx

theorem RowIn.kept0 {w w' : World} {a : Option Addr} {n N : Nat} {zs : List Int} {row : Option Nat} (h : RowIn w a n zs) (hg : w.grownBy w' row) (hrow : ∀ q, row = some q → N ≤ q) (hN : ∀ g off, a = some ⟨g, off, none⟩ → n = 0 ∨ g < N) : RowIn w' a n zs := by
  refine ⟨h.1, fun k hk => ?_⟩
  obtain ⟨g, off, e, hc⟩ := h.2 k hk
  refine ⟨g, off, e, hg.cell hc (fun q => ?_)⟩
  have := hrow g q.symm
  have := hN g off e
  omega

theorem row_lt {w : World} {a : Option Addr} {n : Nat} {zs : List Int} (h : RowIn w a n zs) : ∀ g off, a = some ⟨g, off, none⟩ → n = 0 ∨ g < w.heap.size := by
  intro g off e
  by_cases h0 : n = 0
  · exact .inl h0
  · obtain ⟨g', off', e', hc⟩ := h.2 0 (by omega)
    rw [e] at e'
    cases e'
    exact .inr (World.block_lt_of_cell? w _ hc)

theorem owns_kept1 {W W' : World} {B q : Nat} {a : Option Addr} {n cap : Nat} {xs : List Value} (h : W.ownsRow B 2 1 (.slice a n cap) n xs) (hg : W.grownBy W' (some q)) (hq : q < B) : W'.ownsRow B 2 1 (.slice a n cap) n xs := by
  refine h.kept hg ?_
  rcases h.2 with ⟨e, _⟩ | ⟨g, cap', cur, e, hB, _⟩
  · exact .inl (by rw [e]; rfl)
  · simp at e
    obtain ⟨rfl, _⟩ := e
    exact .inr (by simp [Value.ownBlock]; omega)

/-- What the law keeps: its rules, and the first result in its box. -/
structure SP (w : World) (a0 : Option Addr) (len : Nat) (zs : List RuleI) (r : RoI) (R B1 : Nat) (c : Int) (a1 : Option Addr) (cap1 : Nat) (ls : List Int) (W : World) : Prop where
  bl : Below w.heap.size w W
  ru : RulesIn W a0 len zs
  ro : Box2 W R (.int .i64 r.1) (.int .i64 r.2)
  bx : Box2 W B1 (.int .i64 c) (.slice a1 ls.length cap1)
  vw : RowIn W a1 ls.length ls

theorem SP.below {w : World} {a0 : Option Addr} {len : Nat} {zs : List RuleI} {r : RoI} {R B1 : Nat} {c : Int} {a1 : Option Addr} {cap1 : Nat} {ls : List Int} {W W' : World} (h : SP w a0 len zs r R B1 c a1 cap1 ls W) (hb : Below W.heap.size W W') : SP w a0 len zs r R B1 c a1 cap1 ls W' :=
  ⟨h.bl.trans (hb.mono h.bl.size), h.ru.below hb, h.ro.below hb, h.bx.below hb, h.vw.below hb⟩

theorem SP.grown {w : World} {a0 : Option Addr} {len : Nat} {zs : List RuleI} {r : RoI} {R B1 : Nat} {c : Int} {a1 : Option Addr} {cap1 : Nat} {ls : List Int} {W W' : World} {row : Option Nat} (N : Nat) (h : SP w a0 len zs r R B1 c a1 cap1 ls W) (hg : W.grownBy W' row)
    (hlr : ∀ b off, a0 = some ⟨b, off, none⟩ → len = 0 ∨ b < w.heap.size) (hrow : ∀ q, row = some q → N ≤ q) (hN : w.heap.size ≤ N) (hR : R < N) (hB : B1 < N) (hV : ∀ g off, a1 = some ⟨g, off, none⟩ → ls.length = 0 ∨ g < N) : SP w a0 len zs r R B1 c a1 cap1 ls W' :=
  ⟨h.bl.grown hg h.bl.size (fun q e => by have := hrow q e; omega), rulesIn_kept h.ru hg hlr (fun q e => by have := hrow q e; omega), h.ro.grown hg (fun e => by have := hrow _ e.symm; omega),
    h.bx.grown hg (fun e => by have := hrow _ e.symm; omega), h.vw.kept0 hg hrow hV⟩

end Go.Proofs.Ytnmidppiakdanaa
