/-
  WHAT AN ARGUMENT LOOKS LIKE: a slice of Statement, out of its reading.
  Conditions: each fact bears its own.
-/
import Derived.Test.YthogdfnaojijhaaArgs2
import Derived.Test.YthogdfnaojijhaaSt0
namespace Go.Proofs.Ythogdfnaojijhaa
open Go.RowKit Go.ChangeShapes Go.WideShapes

/-- A slice of them that came in. -/
def StArg (w : World) (a : Option Addr) (len : Nat) (zs : List StI) : Prop := StIn w a len zs ∧ len ≤ maxLen

theorem cells64St : Try.prog.cellsOf 2 = 1 := by kernel_rfl

theorem Try.cells29 : Try.prog.cellsOf 29 = 5 := by kernel_rfl

theorem listSt {α : Type} {l : List α} (h : l.length = 5) : ∃ c0 c1 c2 c3 c4, l = [c0, c1, c2, c3, c4] := by
  match l, h with
  | [c0, c1, c2, c3, c4], _ => exact ⟨c0, c1, c2, c3, c4, rfl⟩

theorem statement_list {H : Type} {enc : TypeId × Value → H} {w : World} {base : Nat} {spare : Nat → Bool} {held : Bool} {fuel : Nat} {cs : List Value} {x : DataW H × List MemPlace} (h : DataW.trod enc Try.prog w base spare held fuel 29 cs = some x) :
    ∃ r : StI, cs = [.int .i64 r.k, .int .i64 r.e, .int .i64 r.f, .int .i64 r.s, .int .i64 r.n] := by
  obtain ⟨xs, n, _, _, hl, hlen, hf⟩ := DataW.trod_struct Try.underlying29 h
  rw [Try.cells29] at hl
  obtain ⟨c0, c1, c2, c3, c4, rfl⟩ := listSt hl
  obtain ⟨y0, y1, y2, y3, y4, rfl⟩ := listSt hlen
  have h0 := hf 0 _ rfl
  have h1 := hf 1 _ rfl
  have h2 := hf 2 _ rfl
  have h3 := hf 3 _ rfl
  have h4 := hf 4 _ rfl
  simp [cells64St] at h0 h1 h2 h3 h4
  obtain ⟨b0, e0, _, _⟩ := DataW.trod_int Try.underlying2 h0
  obtain ⟨b1, e1, _, _⟩ := DataW.trod_int Try.underlying2 h1
  obtain ⟨b2, e2, _, _⟩ := DataW.trod_int Try.underlying2 h2
  obtain ⟨b3, e3, _, _⟩ := DataW.trod_int Try.underlying2 h3
  obtain ⟨b4, e4, _, _⟩ := DataW.trod_int Try.underlying2 h4
  simp at e0 e1 e2 e3 e4
  subst e0 e1 e2 e3 e4
  exact ⟨⟨b0, b1, b2, b3, b4⟩, rfl⟩

theorem statement_shape {H : Type} {enc : TypeId × Value → H} {w : World} {base : Nat} {spare : Nat → Bool} {held : Bool} {fuel : Nat} (cs : Array Value) {x : DataW H × List MemPlace} (h : DataW.trod enc Try.prog w base spare held fuel 29 cs.toList = some x) :
    ∃ r : StI, cs = #[.int .i64 r.k, .int .i64 r.e, .int .i64 r.f, .int .i64 r.s, .int .i64 r.n] := by
  obtain ⟨r, e⟩ := statement_list h
  exact ⟨r, by cases cs; simp_all⟩

theorem cellsSt {w : World} {base : Nat} {a : Addr} {r : StI} (h : w.cells? base a 5 = some [.int .i64 r.k, .int .i64 r.e, .int .i64 r.f, .int .i64 r.s, .int .i64 r.n]) : a.spot = none ∧ StAt w a.block a.off r := by
  have e : List.range 5 = [0, 1, 2, 3, 4] := rfl
  unfold World.cells? at h
  split at h
  · rw [e] at h
    simp only [List.mapM_cons, List.mapM_nil, Option.bind_eq_bind, Option.bind_eq_some_iff, Option.pure_def, Option.some.injEq, List.cons.injEq] at h
    obtain ⟨x0, h0, y0, ⟨x1, h1, y1, ⟨x2, h2, y2, ⟨x3, h3, y3, ⟨x4, h4, y4, rfl, e4⟩, e3⟩, e2⟩, e1⟩, e0, ee⟩ := h
    subst e0
    rw [← e1] at ee
    simp only [List.cons.injEq] at ee
    obtain ⟨rfl, ee⟩ := ee
    rw [← e2] at ee
    simp only [List.cons.injEq] at ee
    obtain ⟨rfl, ee⟩ := ee
    rw [← e3] at ee
    simp only [List.cons.injEq] at ee
    obtain ⟨rfl, ee⟩ := ee
    rw [← e4] at ee
    simp only [List.cons.injEq] at ee
    obtain ⟨rfl, _⟩ := ee
    obtain ⟨b, off, spot⟩ := a
    have hspot : spot = none := by simpa [Addr.add] using World.cell?_spot h0
    subst hspot
    simp only [Addr.add] at h0 h1 h2 h3 h4
    exact ⟨rfl, by simpa using h0, by simpa using h1, by simpa using h2, by simpa using h3, by simpa using h4⟩
  · cases h

end Go.Proofs.Ythogdfnaojijhaa
