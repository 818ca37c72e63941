/-
  WHAT AN ARGUMENT LOOKS LIKE: a slice of grants, out of its reading.
  Conditions: each fact bears its own.
-/
import Derived.Test.YtipmkdacnpkgjaaArgs2
import Derived.Test.YtipmkdacnpkgjaaGr2
namespace Go.Proofs.Ytipmkdacnpkgjaa
open Go.RowKit Go.ChangeShapes Go.WideShapes

/-- A slice of grants that came in. -/
def GrArg (w : World) (a : Option Addr) (len : Nat) (zs : List GrI) : Prop := GrIn w a len zs ∧ len ≤ maxLen

theorem Try.cells94 : Try.prog.cellsOf 94 = 3 := by kernel_rfl

theorem list3 {α : Type} {l : List α} (h : l.length = 3) : ∃ a b c, l = [a, b, c] := by
  match l, h with
  | [a, b, c], _ => exact ⟨a, b, c, rfl⟩

theorem grant_list {H : Type} {enc : TypeId × Value → H} {w : World} {base : Nat} {spare : Nat → Bool} {held : Bool} {fuel : Nat} {cs : List Value} {x : DataW H × List MemPlace} (h : DataW.trod enc Try.prog w base spare held fuel 94 cs = some x) :
    ∃ r : GrI, cs = [.int .i64 r.1.1, .int .i64 r.1.2, .int .i64 r.2] := by
  obtain ⟨y0, y1, n, _, hl, h0, h1⟩ := trod_struct2 Try.underlying94 h
  rw [Try.cells94] at hl
  obtain ⟨c0, c1, c2, rfl⟩ := list3 hl
  simp [Try.cells2, Try.cells42] at h0 h1
  obtain ⟨o, n, e0⟩ := role_list h0
  obtain ⟨b, e1, _, _⟩ := DataW.trod_int Try.underlying2 h1
  simp at e0 e1
  obtain ⟨rfl, rfl⟩ := e0
  subst e1
  exact ⟨((o, n), b), rfl⟩

theorem cells3 {w : World} {base : Nat} {a : Addr} {r : GrI} (h : w.cells? base a 3 = some [.int .i64 r.1.1, .int .i64 r.1.2, .int .i64 r.2]) : a.spot = none ∧ GrAt w a.block a.off r := by
  have e : List.range 3 = [0, 1, 2] := rfl
  unfold World.cells? at h
  split at h
  · rw [e] at h
    simp only [List.mapM_cons, List.mapM_nil, Option.bind_eq_bind, Option.bind_eq_some_iff, Option.pure_def, Option.some.injEq, List.cons.injEq] at h
    obtain ⟨x0, h0, y0, ⟨x1, h1, y1, ⟨x2, h2, y2, rfl, e2⟩, e1⟩, e0, ee⟩ := h
    subst e0
    rw [← e1] at ee
    simp only [List.cons.injEq] at ee
    obtain ⟨rfl, ee⟩ := ee
    rw [← e2] at ee
    simp only [List.cons.injEq] at ee
    obtain ⟨rfl, _⟩ := ee
    obtain ⟨b, off, spot⟩ := a
    have hspot : spot = none := by simpa [Addr.add] using World.cell?_spot h0
    subst hspot
    simp only [Addr.add] at h0 h1 h2
    exact ⟨rfl, by simpa using h0, by simpa using h1, by simpa using h2⟩
  · cases h

theorem grants_shape {H : Type} {enc : TypeId × Value → H} {w : World} {base : Nat} {spare : Nat → Bool} {held : Bool} {fuel : Nat} {a0 : Option Addr} {len cap : Nat} {x : DataW H × List MemPlace} (h : DataW.trod enc Try.prog w base spare held fuel 53 [.slice a0 len cap] = some x) :
    ∃ zs : List GrI, GrArg w a0 len zs := by
  rcases Go.Deep.open_slice Try.underlying53 h with ⟨hcs, _⟩ | ⟨a, l, c, m, n, D, Pl, hcs, hb, hl, hm, hmm, _, hel⟩
  · simp at hcs
    obtain ⟨rfl, rfl, rfl⟩ := hcs
    exact ⟨[], ⟨rfl, fun h => by omega⟩, Nat.zero_le _⟩
  · simp at hcs
    obtain ⟨rfl, rfl, rfl⟩ := hcs
    have hle : len ≤ m := by rw [hmm]; split <;> omega
    rw [Try.cells94] at hel
    have hk : ∀ i, i < len → ∃ r : GrI, w.cells? base (a.add (i * 3)) 3 = some [.int .i64 r.1.1, .int .i64 r.1.2, .int .i64 r.2] := fun i hi => by
      obtain ⟨cs', hc, ht⟩ := hel i (by omega)
      obtain ⟨r, rfl⟩ := grant_list ht
      exact ⟨r, hc⟩
    obtain ⟨f, hf⟩ := Go.Deep.choose_lt hk
    refine ⟨(List.range len).map f, ⟨by simp, fun hp => ?_⟩, Nat.le_trans hl hm⟩
    obtain ⟨hsp, _⟩ := cells3 (hf 0 hp)
    obtain ⟨b, off, spot⟩ := a
    simp [Addr.add] at hsp
    subst hsp
    refine ⟨b, off, rfl, fun k r e => ?_⟩
    have hkl : k < len := by
      by_cases q : k < len
      · exact q
      · rw [List.getElem?_eq_none (by simp; omega)] at e; cases e
    rw [List.getElem?_map, List.getElem?_range hkl] at e
    simp at e
    subst e
    obtain ⟨_, hr⟩ := cells3 (hf k hkl)
    have : ((⟨b, off, none⟩ : Addr).add (k * 3)) = ⟨b, off + k * 3, none⟩ := Go.WideShapes.add_plain ..
    rw [this] at hr
    exact hr

end Go.Proofs.Ytipmkdacnpkgjaa
