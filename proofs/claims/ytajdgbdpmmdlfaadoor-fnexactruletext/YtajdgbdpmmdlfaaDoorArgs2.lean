/-
  WHAT AN ARGUMENT LOOKS LIKE: a role, a rule, a slice of rules, out of its reading.
  Conditions: each fact bears its own.
-/
import Derived.Test.YtajdgbdpmmdlfaaDoorProg
import Derived.Test.YtajdgbdpmmdlfaaDoorRole0
import Derived.ProofKit
import Derived.OpenShut
import Derived.ChangeSame
import Derived.Deep.Slices
namespace Go.Proofs.YtajdgbdpmmdlfaaDoor
open Go.RowKit Go.ChangeShapes Go.WideShapes

theorem Tryd.cells57 : Tryd.prog.cellsOf 57 = 2 := by kernel_rfl
theorem Tryd.cells2 : Tryd.prog.cellsOf 2 = 1 := by kernel_rfl

theorem list2 {α : Type} {l : List α} (h : l.length = 2) : ∃ a b, l = [a, b] := by
  match l, h with
  | [a, b], _ => exact ⟨a, b, rfl⟩
theorem list5 {α : Type} {l : List α} (h : l.length = 5) : ∃ a b c d e, l = [a, b, c, d, e] := by
  match l, h with
  | [a, b, c, d, e], _ => exact ⟨a, b, c, d, e, rfl⟩
theorem list8 {α : Type} {l : List α} (h : l.length = 8) : ∃ a b c d e f g i, l = [a, b, c, d, e, f, g, i] := by
  match l, h with
  | [a, b, c, d, e, f, g, i], _ => exact ⟨a, b, c, d, e, f, g, i, rfl⟩

theorem role_list {H : Type} {enc : TypeId × Value → H} {w : World} {base : Nat} {spare : Nat → Bool} {held : Bool} {fuel : Nat} {cs : List Value} {x : DataW H × List MemPlace} (h : DataW.trod enc Tryd.prog w base spare held fuel 57 cs = some x) :
    ∃ o n, cs = [.int .i64 o, .int .i64 n] := by
  obtain ⟨y0, y1, n, _, hl, h0, h1⟩ := trod_struct2 Tryd.underlying57 h
  rw [Tryd.cells57] at hl
  obtain ⟨c0, c1, rfl⟩ := list2 hl
  simp [Tryd.cells2] at h0 h1
  obtain ⟨a, e0, _, _⟩ := DataW.trod_int Tryd.underlying2 h0
  obtain ⟨b, e1, _, _⟩ := DataW.trod_int Tryd.underlying2 h1
  simp at e0 e1
  exact ⟨a, b, by rw [e0, e1]⟩

theorem role_shape {H : Type} {enc : TypeId × Value → H} {w : World} {base : Nat} {spare : Nat → Bool} {held : Bool} {fuel : Nat} (cs : Array Value) {x : DataW H × List MemPlace} (h : DataW.trod enc Tryd.prog w base spare held fuel 57 cs.toList = some x) :
    ∃ o n, cs = #[.int .i64 o, .int .i64 n] := by
  obtain ⟨o, n, e⟩ := role_list h
  exact ⟨o, n, by cases cs; simp_all⟩

theorem Tryd.cells61 : Tryd.prog.cellsOf 61 = 8 := by kernel_rfl

theorem rule_list {H : Type} {enc : TypeId × Value → H} {w : World} {base : Nat} {spare : Nat → Bool} {held : Bool} {fuel : Nat} {cs : List Value} {x : DataW H × List MemPlace} (h : DataW.trod enc Tryd.prog w base spare held fuel 61 cs = some x) :
    ∃ r : RuleI, cs = [.int .i64 r.k, .int .i64 r.ho, .int .i64 r.hn, .int .i64 r.w, .int .i64 r.oo, .int .i64 r.on, .int .i64 r.to, .int .i64 r.tn] := by
  obtain ⟨xs, n, _, _, hl, hlen, hf⟩ := DataW.trod_struct Tryd.underlying61 h
  rw [Tryd.cells61] at hl
  obtain ⟨c0, c1, c2, c3, c4, c5, c6, c7, rfl⟩ := list8 hl
  obtain ⟨y0, y1, y2, y3, y4, rfl⟩ := list5 hlen
  have g0 := hf 0 _ rfl
  have g1 := hf 1 _ rfl
  have g2 := hf 2 _ rfl
  have g3 := hf 3 _ rfl
  have g4 := hf 4 _ rfl
  simp [Tryd.cells2, Tryd.cells57] at g0 g1 g2 g3 g4
  obtain ⟨k, e0, _, _⟩ := DataW.trod_int Tryd.underlying2 g0
  obtain ⟨wh, e3, _, _⟩ := DataW.trod_int Tryd.underlying2 g2
  obtain ⟨ho, hn, e1⟩ := role_list g1
  obtain ⟨oo, on, e4⟩ := role_list g3
  obtain ⟨to, tn, e6⟩ := role_list g4
  simp at e0 e1 e3 e4 e6
  obtain ⟨rfl, rfl⟩ := e1
  obtain ⟨rfl, rfl⟩ := e4
  obtain ⟨rfl, rfl⟩ := e6
  subst e0 e3
  exact ⟨⟨k, ho, hn, wh, oo, on, to, tn⟩, rfl⟩

theorem rule_shape {H : Type} {enc : TypeId × Value → H} {w : World} {base : Nat} {spare : Nat → Bool} {held : Bool} {fuel : Nat} (cs : Array Value) {x : DataW H × List MemPlace} (h : DataW.trod enc Tryd.prog w base spare held fuel 61 cs.toList = some x) :
    ∃ r : RuleI, cs = #[.int .i64 r.k, .int .i64 r.ho, .int .i64 r.hn, .int .i64 r.w, .int .i64 r.oo, .int .i64 r.on, .int .i64 r.to, .int .i64 r.tn] := by
  obtain ⟨r, e⟩ := rule_list h
  exact ⟨r, by cases cs; simp_all⟩

end Go.Proofs.YtajdgbdpmmdlfaaDoor
