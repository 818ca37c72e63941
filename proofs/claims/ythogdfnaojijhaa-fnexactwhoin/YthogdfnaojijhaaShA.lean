/-
  WHAT AN ARGUMENT LOOKS LIKE: a slice of Share, out of its reading.
  Conditions: each fact bears its own.
-/
import Derived.Test.YthogdfnaojijhaaArgs2
import Derived.Test.YthogdfnaojijhaaStA
import Derived.Test.YthogdfnaojijhaaSh0
namespace Go.Proofs.Ythogdfnaojijhaa
open Go.RowKit Go.ChangeShapes Go.WideShapes

/-- A slice of them that came in. -/
def ShArg (w : World) (a : Option Addr) (len : Nat) (zs : List ShI) : Prop := ShIn w a len zs ∧ len ≤ maxLen ∧ ∀ z ∈ zs, (Lit.int .i64 z.r).wf = true

theorem cells64Sh : Try.prog.cellsOf 2 = 1 := by kernel_rfl

theorem Try.cells74 : Try.prog.cellsOf 74 = 6 := by kernel_rfl

theorem listSh {α : Type} {l : List α} (h : l.length = 6) : ∃ c0 c1 c2 c3 c4 c5, l = [c0, c1, c2, c3, c4, c5] := by
  match l, h with
  | [c0, c1, c2, c3, c4, c5], _ => exact ⟨c0, c1, c2, c3, c4, c5, rfl⟩

theorem list2Sh {α : Type} {l : List α} (h : l.length = 2) : ∃ c0 c1, l = [c0, c1] := by
  match l, h with
  | [c0, c1], _ => exact ⟨c0, c1, rfl⟩

theorem share_list {H : Type} {enc : TypeId × Value → H} {w : World} {base : Nat} {spare : Nat → Bool} {held : Bool} {fuel : Nat} {cs : List Value} {x : DataW H × List MemPlace} (h : DataW.trod enc Try.prog w base spare held fuel 74 cs = some x) :
    ∃ r : ShI, cs = [.int .i64 r.r, .int .i64 r.k, .int .i64 r.e, .int .i64 r.f, .int .i64 r.s, .int .i64 r.n] ∧ (Lit.int .i64 r.r).wf = true := by
  obtain ⟨xs, n, _, _, hl, hlen, hf⟩ := DataW.trod_struct Try.underlying74 h
  rw [Try.cells74] at hl
  obtain ⟨c0, c1, c2, c3, c4, c5, rfl⟩ := listSh hl
  obtain ⟨y0, y1, rfl⟩ := list2Sh hlen
  have g0 := hf 0 _ rfl
  have g1 := hf 1 _ rfl
  simp [cells64Sh, Try.cells29] at g0 g1
  obtain ⟨b0, e0, _, hwf⟩ := DataW.trod_int Try.underlying2 g0
  obtain ⟨b1, e1⟩ := statement_list g1
  simp at e0 e1
  obtain ⟨rfl, rfl, rfl, rfl, rfl⟩ := e1
  subst e0
  exact ⟨⟨b0, b1.k, b1.e, b1.f, b1.s, b1.n⟩, rfl, hwf⟩

theorem share_shape {H : Type} {enc : TypeId × Value → H} {w : World} {base : Nat} {spare : Nat → Bool} {held : Bool} {fuel : Nat} (cs : Array Value) {x : DataW H × List MemPlace} (h : DataW.trod enc Try.prog w base spare held fuel 74 cs.toList = some x) :
    ∃ r : ShI, cs = #[.int .i64 r.r, .int .i64 r.k, .int .i64 r.e, .int .i64 r.f, .int .i64 r.s, .int .i64 r.n] := by
  obtain ⟨r, e, _⟩ := share_list h
  exact ⟨r, by cases cs; simp_all⟩

theorem cellsSh {w : World} {base : Nat} {a : Addr} {r : ShI} (h : w.cells? base a 6 = some [.int .i64 r.r, .int .i64 r.k, .int .i64 r.e, .int .i64 r.f, .int .i64 r.s, .int .i64 r.n]) : a.spot = none ∧ ShAt w a.block a.off r := by
  have e : List.range 6 = [0, 1, 2, 3, 4, 5] := rfl
  unfold World.cells? at h
  split at h
  · rw [e] at h
    simp only [List.mapM_cons, List.mapM_nil, Option.bind_eq_bind, Option.bind_eq_some_iff, Option.pure_def, Option.some.injEq, List.cons.injEq] at h
    obtain ⟨x0, h0, y0, ⟨x1, h1, y1, ⟨x2, h2, y2, ⟨x3, h3, y3, ⟨x4, h4, y4, ⟨x5, h5, y5, rfl, e5⟩, e4⟩, e3⟩, e2⟩, e1⟩, e0, ee⟩ := h
    subst e0
    rw [← e1] at ee
    simp only [List.cons.injEq] at ee
    obtain ⟨rfl, ee⟩ := ee
    rw [← e2] at ee
    simp only [List.cons.injEq] at ee
    obtain ⟨rfl, ee⟩ := ee
    rw [← e3] at ee
    simp only [List.cons.injEq] at ee
    obtain ⟨rfl, ee⟩ := ee
    rw [← e4] at ee
    simp only [List.cons.injEq] at ee
    obtain ⟨rfl, ee⟩ := ee
    rw [← e5] at ee
    simp only [List.cons.injEq] at ee
    obtain ⟨rfl, _⟩ := ee
    obtain ⟨b, off, spot⟩ := a
    have hspot : spot = none := by simpa [Addr.add] using World.cell?_spot h0
    subst hspot
    simp only [Addr.add] at h0 h1 h2 h3 h4 h5
    exact ⟨rfl, by simpa using h0, by simpa using h1, by simpa using h2, by simpa using h3, by simpa using h4, by simpa using h5⟩
  · cases h

theorem shares_shape {H : Type} {enc : TypeId × Value → H} {w : World} {base : Nat} {spare : Nat → Bool} {held : Bool} {fuel : Nat} {a0 : Option Addr} {len cap : Nat} {x : DataW H × List MemPlace} (h : DataW.trod enc Try.prog w base spare held fuel 27 [.slice a0 len cap] = some x) :
    ∃ zs : List ShI, ShArg w a0 len zs := by
  rcases Go.Deep.open_slice Try.underlying27 h with ⟨hcs, _⟩ | ⟨a, l, c, m, n, D, Pl, hcs, hb, hl, hm, hmm, _, hel⟩
  · simp at hcs
    obtain ⟨rfl, rfl, rfl⟩ := hcs
    exact ⟨[], ⟨rfl, fun h => by omega⟩, Nat.zero_le _, fun z h => by cases h⟩
  · simp at hcs
    obtain ⟨rfl, rfl, rfl⟩ := hcs
    have hle : len ≤ m := by rw [hmm]; split <;> omega
    rw [Try.cells74] at hel
    have hk : ∀ i, i < len → ∃ r : ShI, w.cells? base (a.add (i * 6)) 6 = some [.int .i64 r.r, .int .i64 r.k, .int .i64 r.e, .int .i64 r.f, .int .i64 r.s, .int .i64 r.n] ∧ (Lit.int .i64 r.r).wf = true := fun i hi => by
      obtain ⟨cs', hc, ht⟩ := hel i (by omega)
      obtain ⟨r, rfl, hwf⟩ := share_list ht
      exact ⟨r, hc, hwf⟩
    obtain ⟨f, hf⟩ := Go.Deep.choose_lt hk
    refine ⟨(List.range len).map f, ⟨by simp, fun hp => ?_⟩, Nat.le_trans hl hm, fun z hz => ?_⟩
    rotate_left 1
    · obtain ⟨i, hi, rfl⟩ := List.mem_map.1 hz
      exact (hf i (List.mem_range.1 hi)).2
    obtain ⟨hsp, _⟩ := cellsSh (hf 0 hp).1
    obtain ⟨b, off, spot⟩ := a
    simp [Addr.add] at hsp
    subst hsp
    refine ⟨b, off, rfl, fun k r e => ?_⟩
    have hkl : k < len := by
      by_cases q : k < len
      · exact q
      · rw [List.getElem?_eq_none (by simp; omega)] at e; cases e
    rw [List.getElem?_map, List.getElem?_range hkl] at e
    simp at e
    subst e
    obtain ⟨_, hr⟩ := cellsSh (hf k hkl).1
    have : ((⟨b, off, none⟩ : Addr).add (k * 6)) = ⟨b, off + k * 6, none⟩ := Go.WideShapes.add_plain ..
    rw [this] at hr
    exact hr

end Go.Proofs.Ythogdfnaojijhaa
