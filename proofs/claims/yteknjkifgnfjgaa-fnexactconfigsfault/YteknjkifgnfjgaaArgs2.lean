/-
  WHAT AN ARGUMENT LOOKS LIKE: a role, a rule, a slice of rules, out of its reading.
  Conditions: each fact bears its own.
-/
import Derived.Test.YteknjkifgnfjgaaProg
import Derived.Test.YteknjkifgnfjgaaPol0
import Derived.ProofKit
import Derived.OpenShut
import Derived.ChangeSame
import Derived.Deep.Slices
namespace Go.Proofs.Yteknjkifgnfjgaa
open Go.RowKit Go.ChangeShapes Go.WideShapes

theorem Try.cells84 : Try.prog.cellsOf 84 = 2 := by kernel_rfl
theorem Try.cells2 : Try.prog.cellsOf 2 = 1 := by kernel_rfl

theorem list2 {α : Type} {l : List α} (h : l.length = 2) : ∃ a b, l = [a, b] := by
  match l, h with
  | [a, b], _ => exact ⟨a, b, rfl⟩
theorem list5 {α : Type} {l : List α} (h : l.length = 5) : ∃ a b c d e, l = [a, b, c, d, e] := by
  match l, h with
  | [a, b, c, d, e], _ => exact ⟨a, b, c, d, e, rfl⟩
theorem list8 {α : Type} {l : List α} (h : l.length = 8) : ∃ a b c d e f g i, l = [a, b, c, d, e, f, g, i] := by
  match l, h with
  | [a, b, c, d, e, f, g, i], _ => exact ⟨a, b, c, d, e, f, g, i, rfl⟩

theorem role_list {H : Type} {enc : TypeId × Value → H} {w : World} {base : Nat} {spare : Nat → Bool} {held : Bool} {fuel : Nat} {cs : List Value} {x : DataW H × List MemPlace} (h : DataW.trod enc Try.prog w base spare held fuel 84 cs = some x) :
    ∃ o n, cs = [.int .i64 o, .int .i64 n] := by
  obtain ⟨y0, y1, n, _, hl, h0, h1⟩ := trod_struct2 Try.underlying84 h
  rw [Try.cells84] at hl
  obtain ⟨c0, c1, rfl⟩ := list2 hl
  simp [Try.cells2] at h0 h1
  obtain ⟨a, e0, _, _⟩ := DataW.trod_int Try.underlying2 h0
  obtain ⟨b, e1, _, _⟩ := DataW.trod_int Try.underlying2 h1
  simp at e0 e1
  exact ⟨a, b, by rw [e0, e1]⟩

theorem role_shape {H : Type} {enc : TypeId × Value → H} {w : World} {base : Nat} {spare : Nat → Bool} {held : Bool} {fuel : Nat} (cs : Array Value) {x : DataW H × List MemPlace} (h : DataW.trod enc Try.prog w base spare held fuel 84 cs.toList = some x) :
    ∃ o n, cs = #[.int .i64 o, .int .i64 n] := by
  obtain ⟨o, n, e⟩ := role_list h
  exact ⟨o, n, by cases cs; simp_all⟩

theorem Try.cells86 : Try.prog.cellsOf 86 = 8 := by kernel_rfl

theorem rule_list {H : Type} {enc : TypeId × Value → H} {w : World} {base : Nat} {spare : Nat → Bool} {held : Bool} {fuel : Nat} {cs : List Value} {x : DataW H × List MemPlace} (h : DataW.trod enc Try.prog w base spare held fuel 86 cs = some x) :
    ∃ r : RuleI, cs = [.int .i64 r.k, .int .i64 r.ho, .int .i64 r.hn, .int .i64 r.w, .int .i64 r.oo, .int .i64 r.on, .int .i64 r.to, .int .i64 r.tn] := by
  obtain ⟨xs, n, _, _, hl, hlen, hf⟩ := DataW.trod_struct Try.underlying86 h
  rw [Try.cells86] at hl
  obtain ⟨c0, c1, c2, c3, c4, c5, c6, c7, rfl⟩ := list8 hl
  obtain ⟨y0, y1, y2, y3, y4, rfl⟩ := list5 hlen
  have g0 := hf 0 _ rfl
  have g1 := hf 1 _ rfl
  have g2 := hf 2 _ rfl
  have g3 := hf 3 _ rfl
  have g4 := hf 4 _ rfl
  simp [Try.cells2, Try.cells84] at g0 g1 g2 g3 g4
  obtain ⟨k, e0, _, _⟩ := DataW.trod_int Try.underlying2 g0
  obtain ⟨wh, e3, _, _⟩ := DataW.trod_int Try.underlying2 g2
  obtain ⟨ho, hn, e1⟩ := role_list g1
  obtain ⟨oo, on, e4⟩ := role_list g3
  obtain ⟨tw, tn, e6⟩ := role_list g4
  simp at e0 e1 e3 e4 e6
  obtain ⟨rfl, rfl⟩ := e1
  obtain ⟨rfl, rfl⟩ := e4
  obtain ⟨rfl, rfl⟩ := e6
  subst e0 e3
  exact ⟨⟨k, ho, hn, wh, oo, on, tw, tn⟩, rfl⟩

theorem rule_shape {H : Type} {enc : TypeId × Value → H} {w : World} {base : Nat} {spare : Nat → Bool} {held : Bool} {fuel : Nat} (cs : Array Value) {x : DataW H × List MemPlace} (h : DataW.trod enc Try.prog w base spare held fuel 86 cs.toList = some x) :
    ∃ r : RuleI, cs = #[.int .i64 r.k, .int .i64 r.ho, .int .i64 r.hn, .int .i64 r.w, .int .i64 r.oo, .int .i64 r.on, .int .i64 r.to, .int .i64 r.tn] := by
  obtain ⟨r, e⟩ := rule_list h
  exact ⟨r, by cases cs; simp_all⟩

theorem cells8 {w : World} {base : Nat} {a : Addr} {r : RuleI} (h : w.cells? base a 8 = some [.int .i64 r.k, .int .i64 r.ho, .int .i64 r.hn, .int .i64 r.w, .int .i64 r.oo, .int .i64 r.on, .int .i64 r.to, .int .i64 r.tn]) : a.spot = none ∧ RuleAt w a.block a.off r := by
  have e : List.range 8 = [0, 1, 2, 3, 4, 5, 6, 7] := rfl
  unfold World.cells? at h
  split at h
  · rw [e] at h
    simp only [List.mapM_cons, List.mapM_nil, Option.bind_eq_bind, Option.bind_eq_some_iff, Option.pure_def, Option.some.injEq, List.cons.injEq] at h
    obtain ⟨x0, h0, y0, ⟨x1, h1, y1, ⟨x2, h2, y2, ⟨x3, h3, y3, ⟨x4, h4, y4, ⟨x5, h5, y5, ⟨x6, h6, y6, ⟨x7, h7, y7, rfl, e7⟩, e6⟩, e5⟩, e4⟩, e3⟩, e2⟩, e1⟩, e0, ee⟩ := h
    subst e0
    rw [← e1] at ee
    simp only [List.cons.injEq] at ee
    obtain ⟨rfl, ee⟩ := ee
    rw [← e2] at ee
    simp only [List.cons.injEq] at ee
    obtain ⟨rfl, ee⟩ := ee
    rw [← e3] at ee
    simp only [List.cons.injEq] at ee
    obtain ⟨rfl, ee⟩ := ee
    rw [← e4] at ee
    simp only [List.cons.injEq] at ee
    obtain ⟨rfl, ee⟩ := ee
    rw [← e5] at ee
    simp only [List.cons.injEq] at ee
    obtain ⟨rfl, ee⟩ := ee
    rw [← e6] at ee
    simp only [List.cons.injEq] at ee
    obtain ⟨rfl, ee⟩ := ee
    rw [← e7] at ee
    simp only [List.cons.injEq] at ee
    obtain ⟨rfl, _⟩ := ee
    obtain ⟨b, off, spot⟩ := a
    have hspot : spot = none := by simpa [Addr.add] using World.cell?_spot h0
    subst hspot
    simp only [Addr.add] at h0 h1 h2 h3 h4 h5 h6 h7
    exact ⟨rfl, by simpa using h0, by simpa using h1, by simpa using h2, by simpa using h3, by simpa using h4, by simpa using h5, by simpa using h6, by simpa using h7⟩
  · cases h

instance : Inhabited RuleI := ⟨⟨0, 0, 0, 0, 0, 0, 0, 0⟩⟩

theorem rules_shape {H : Type} {enc : TypeId × Value → H} {w : World} {base : Nat} {spare : Nat → Bool} {held : Bool} {fuel : Nat} {a0 : Option Addr} {len cap : Nat} {x : DataW H × List MemPlace} (h : DataW.trod enc Try.prog w base spare held fuel 38 [.slice a0 len cap] = some x) :
    ∃ zs : List RuleI, RulesArg w a0 len zs := by
  rcases Go.Deep.open_slice Try.underlying38 h with ⟨hcs, _⟩ | ⟨a, l, c, m, n, D, Pl, hcs, hb, hl, hm, hmm, _, hel⟩
  · simp at hcs
    obtain ⟨rfl, rfl, rfl⟩ := hcs
    exact ⟨[], ⟨rfl, fun h => by omega⟩, Nat.zero_le _⟩
  · simp at hcs
    obtain ⟨rfl, rfl, rfl⟩ := hcs
    have hle : len ≤ m := by rw [hmm]; split <;> omega
    rw [Try.cells86] at hel
    have hk : ∀ i, i < len → ∃ r : RuleI, w.cells? base (a.add (i * 8)) 8 = some [.int .i64 r.k, .int .i64 r.ho, .int .i64 r.hn, .int .i64 r.w, .int .i64 r.oo, .int .i64 r.on, .int .i64 r.to, .int .i64 r.tn] := fun i hi => by
      obtain ⟨cs', hc, ht⟩ := hel i (by omega)
      obtain ⟨r, rfl⟩ := rule_list ht
      exact ⟨r, hc⟩
    obtain ⟨f, hf⟩ := Go.Deep.choose_lt hk
    refine ⟨(List.range len).map f, ⟨by simp, fun hp => ?_⟩, Nat.le_trans hl hm⟩
    obtain ⟨hsp, _⟩ := cells8 (hf 0 hp)
    obtain ⟨b, off, spot⟩ := a
    simp [Addr.add] at hsp
    subst hsp
    refine ⟨b, off, rfl, fun k r e => ?_⟩
    have hkl : k < len := by
      by_cases q : k < len
      · exact q
      · rw [List.getElem?_eq_none (by simp; omega)] at e; cases e
    rw [List.getElem?_map, List.getElem?_range hkl] at e
    simp at e
    subst e
    obtain ⟨_, hr⟩ := cells8 (hf k hkl)
    have : ((⟨b, off, none⟩ : Addr).add (k * 8)) = ⟨b, off + k * 8, none⟩ := Go.WideShapes.add_plain ..
    rw [this] at hr
    exact hr

end Go.Proofs.Yteknjkifgnfjgaa
