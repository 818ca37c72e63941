/-
  WHAT AN ARGUMENT LOOKS LIKE: a broadcast, out of its reading.
  Conditions: each fact bears its own.
-/
import Derived.Test.YtbebhiglnfmjcaaMsA
import Derived.Test.YtbebhiglnfmjcaaCa0
namespace Go.Proofs.Ytbebhiglnfmjcaa
open Go.RowKit Go.ChangeShapes Go.WideShapes
set_option linter.unusedVariables false
set_option linter.unusedSimpArgs false

theorem Try.cells124 : Try.prog.cellsOf 124 = 4 := by kernel_rfl
theorem Try.cells61 : Try.prog.cellsOf 61 = 5 := by kernel_rfl
theorem Try.cellsN59 : Try.prog.cellsOf 59 = 1 := by kernel_rfl
theorem Try.cellsN58 : Try.prog.cellsOf 58 = 1 := by kernel_rfl
theorem Try.cellsN24 : Try.prog.cellsOf 24 = 1 := by kernel_rfl

theorem cell1N {w : World} {base : Nat} {a : Addr} {v : Value} (h : w.cells? base a 1 = some [v]) : a.spot = none ∧ w.cell? ⟨a.block, a.off, none⟩ = some v := by
  have e : List.range 1 = [0] := rfl
  unfold World.cells? at h
  split at h
  · rw [e] at h
    simp only [List.mapM_cons, List.mapM_nil, Option.bind_eq_bind, Option.bind_eq_some_iff, Option.pure_def, Option.some.injEq, List.cons.injEq] at h
    obtain ⟨x0, h0, y0, rfl, e0, ee⟩ := h
    subst e0
    obtain ⟨b, off, spot⟩ := a
    have hspot : spot = none := by simpa [Addr.add] using World.cell?_spot h0
    subst hspot
    simp only [Addr.add] at h0
    exact ⟨rfl, by simpa using h0⟩
  · cases h

theorem cell4N {w : World} {base : Nat} {a : Addr} {v0 v1 v2 v3 : Value} (h : w.cells? base a 4 = some [v0, v1, v2, v3]) : a.spot = none ∧ w.cell? ⟨a.block, a.off, none⟩ = some v0 ∧ w.cell? ⟨a.block, a.off + 1, none⟩ = some v1 ∧ w.cell? ⟨a.block, a.off + 2, none⟩ = some v2 ∧ w.cell? ⟨a.block, a.off + 3, none⟩ = some v3 := by
  have e : List.range 4 = [0, 1, 2, 3] := rfl
  unfold World.cells? at h
  split at h
  · rw [e] at h
    simp only [List.mapM_cons, List.mapM_nil, Option.bind_eq_bind, Option.bind_eq_some_iff, Option.pure_def, Option.some.injEq, List.cons.injEq] at h
    obtain ⟨x0, h0, l0, ⟨x1, h1, l1, ⟨x2, h2, l2, ⟨x3, h3, l3, rfl, rfl⟩, rfl⟩, rfl⟩, rfl, rfl, rfl, rfl, _⟩ := h
    obtain ⟨b, off, spot⟩ := a
    have hspot : spot = none := by simpa [Addr.add] using World.cell?_spot h0
    subst hspot
    simp only [Addr.add] at h0 h1 h2 h3
    exact ⟨rfl, by simpa using h0, by simpa using h1, by simpa using h2, by simpa using h3⟩
  · cases h

theorem msgsN_val {H : Type} {enc : TypeId × Value → H} {w : World} {base : Nat} {spare : Nat → Bool} {held : Bool} {fuel : Nat} {cs : List Value} {x : DataW H × List MemPlace} (h : DataW.trod enc Try.prog w base spare held fuel 59 cs = some x) :
    ∃ a n c, cs = [.slice a n c] := by
  rcases Go.Deep.open_slice Try.underlying59 h with ⟨hcs, _⟩ | ⟨a, l, c, m, n, D, Pl, hcs, _⟩
  · exact ⟨_, _, _, hcs⟩
  · exact ⟨_, _, _, hcs⟩

theorem nodesN_val {H : Type} {enc : TypeId × Value → H} {w : World} {base : Nat} {spare : Nat → Bool} {held : Bool} {fuel : Nat} {cs : List Value} {x : DataW H × List MemPlace} (h : DataW.trod enc Try.prog w base spare held fuel 58 cs = some x) :
    ∃ a n c, cs = [.slice a n c] := by
  rcases Go.Deep.open_slice Try.underlying58 h with ⟨hcs, _⟩ | ⟨a, l, c, m, n, D, Pl, hcs, _⟩
  · exact ⟨_, _, _, hcs⟩
  · exact ⟨_, _, _, hcs⟩

theorem intsN_val {H : Type} {enc : TypeId × Value → H} {w : World} {base : Nat} {spare : Nat → Bool} {held : Bool} {fuel : Nat} {cs : List Value} {x : DataW H × List MemPlace} (h : DataW.trod enc Try.prog w base spare held fuel 24 cs = some x) :
    ∃ a n c, cs = [.slice a n c] := by
  rcases Go.Deep.open_slice Try.underlying24 h with ⟨hcs, _⟩ | ⟨a, l, c, m, n, D, Pl, hcs, _⟩
  · exact ⟨_, _, _, hcs⟩
  · exact ⟨_, _, _, hcs⟩

theorem intsN_shape {H : Type} {enc : TypeId × Value → H} {w : World} {base : Nat} {spare : Nat → Bool} {held : Bool} {fuel : Nat} {a0 : Option Addr} {len cap : Nat} {x : DataW H × List MemPlace} (h : DataW.trod enc Try.prog w base spare held fuel 24 [.slice a0 len cap] = some x) :
    ∃ zs : List Int, IntIn w a0 len zs ∧ len ≤ maxLen := by
  rcases Go.Deep.open_slice Try.underlying24 h with ⟨hcs, _⟩ | ⟨a, l, c, m, n, D, Pl, hcs, hb, hl, hm, hmm, _, hel⟩
  · simp at hcs
    obtain ⟨rfl, rfl, rfl⟩ := hcs
    exact ⟨[], ⟨rfl, fun h => by omega⟩, Nat.zero_le _⟩
  · simp at hcs
    obtain ⟨rfl, rfl, rfl⟩ := hcs
    have hle : len ≤ m := by rw [hmm]; split <;> omega
    rw [cells64Ms] at hel
    have hk : ∀ i, i < len → ∃ r : Int, w.cells? base (a.add (i * 1)) 1 = some [.int .i64 r] := fun i hi => by
      obtain ⟨cs', hc, ht⟩ := hel i (by omega)
      obtain ⟨k, e0, _, _⟩ := DataW.trod_int Try.underlying2 ht
      exact ⟨k, by rw [hc, e0]⟩
    obtain ⟨f, hf⟩ := Go.Deep.choose_lt hk
    refine ⟨(List.range len).map f, ⟨by simp, fun hp => ?_⟩, Nat.le_trans hl hm⟩
    obtain ⟨hsp, _⟩ := cell1N (hf 0 hp)
    obtain ⟨b, off, spot⟩ := a
    simp [Addr.add] at hsp
    subst hsp
    refine ⟨b, off, rfl, fun k r e => ?_⟩
    have hkl : k < len := by
      by_cases q : k < len
      · exact q
      · rw [List.getElem?_eq_none (by simp; omega)] at e; cases e
    rw [List.getElem?_map, List.getElem?_range hkl] at e
    simp at e
    subst e
    obtain ⟨_, hr⟩ := cell1N (hf k hkl)
    have : ((⟨b, off, none⟩ : Addr).add (k * 1)) = ⟨b, off + k * 1, none⟩ := Go.WideShapes.add_plain ..
    rw [this, Nat.mul_one] at hr
    exact hr

theorem node_list {H : Type} {enc : TypeId × Value → H} {w : World} {base : Nat} {spare : Nat → Bool} {held : Bool} {fuel : Nat} {cs : List Value} {x : DataW H × List MemPlace} (h : DataW.trod enc Try.prog w base spare held fuel 124 cs = some x) :
    ∃ r : NodeI, cs = [.int .i64 r.e, .int .i64 r.r, .int .i64 r.t, .slice r.a r.n r.cap] ∧ MsArg w r.a r.n r.hs := by
  obtain ⟨xs, n, _, _, hl, hlen, hf⟩ := DataW.trod_struct Try.underlying124 h
  rw [Try.cells124] at hl
  obtain ⟨c0, c1, c2, c3, rfl⟩ := listMs hl
  obtain ⟨y0, y1, y2, y3, rfl⟩ := listMs hlen
  have g0 := hf 0 _ rfl
  have g1 := hf 1 _ rfl
  have g2 := hf 2 _ rfl
  have g3 := hf 3 _ rfl
  simp [cells64Ms, Try.cellsN59] at g0 g1 g2 g3
  obtain ⟨e0, q0, _, _⟩ := DataW.trod_int Try.underlying2 g0
  obtain ⟨e1, q1, _, _⟩ := DataW.trod_int Try.underlying2 g1
  obtain ⟨e2, q2, _, _⟩ := DataW.trod_int Try.underlying2 g2
  obtain ⟨a, n', c', e⟩ := msgsN_val g3
  simp at q0 q1 q2 e
  subst q0 q1 q2 e
  obtain ⟨zs, hz⟩ := msgs_shape g3
  exact ⟨⟨e0, e1, e2, a, n', c', zs⟩, rfl, hz⟩

theorem nodes_shape {H : Type} {enc : TypeId × Value → H} {w : World} {base : Nat} {spare : Nat → Bool} {held : Bool} {fuel : Nat} {a0 : Option Addr} {len cap : Nat} {x : DataW H × List MemPlace} (h : DataW.trod enc Try.prog w base spare held fuel 58 [.slice a0 len cap] = some x) :
    ∃ ns : List NodeI, NdsIn w a0 len ns ∧ len ≤ maxLen ∧ NdsLe maxLen ns := by
  rcases Go.Deep.open_slice Try.underlying58 h with ⟨hcs, _⟩ | ⟨a, l, c, m, n, D, Pl, hcs, hb, hl, hm, hmm, _, hel⟩
  · simp at hcs
    obtain ⟨rfl, rfl, rfl⟩ := hcs
    exact ⟨[], ⟨rfl, fun h => by omega⟩, Nat.zero_le _, fun k x e => by simp at e⟩
  · simp at hcs
    obtain ⟨rfl, rfl, rfl⟩ := hcs
    have hle : len ≤ m := by rw [hmm]; split <;> omega
    rw [Try.cells124] at hel
    have hk : ∀ i, i < len → ∃ r : NodeI, w.cells? base (a.add (i * 4)) 4 = some [.int .i64 r.e, .int .i64 r.r, .int .i64 r.t, .slice r.a r.n r.cap] ∧ MsArg w r.a r.n r.hs := fun i hi => by
      obtain ⟨cs', hc, ht⟩ := hel i (by omega)
      obtain ⟨r, rfl, hr⟩ := node_list ht
      exact ⟨r, hc, hr⟩
    obtain ⟨f, hf⟩ := Go.Deep.choose_lt hk
    have key : ∀ (k : Nat) (r : NodeI), ((List.range len).map f)[k]? = some r → k < len ∧ r = f k := fun k r e => by
      have hkl : k < len := by
        by_cases q : k < len
        · exact q
        · rw [List.getElem?_eq_none (by simp; omega)] at e; cases e
      rw [List.getElem?_map, List.getElem?_range hkl] at e
      simp at e
      exact ⟨hkl, e.symm⟩
    refine ⟨(List.range len).map f, ⟨by simp, fun hp => ?_⟩, Nat.le_trans hl hm, fun k r e => ?_⟩
    · obtain ⟨hsp, _⟩ := cell4N (hf 0 hp).1
      obtain ⟨b, off, spot⟩ := a
      simp [Addr.add] at hsp
      subst hsp
      refine ⟨b, off, rfl, fun k r e => ?_⟩
      obtain ⟨hkl, rfl⟩ := key k r e
      obtain ⟨_, hr⟩ := cell4N (hf k hkl).1
      have : ((⟨b, off, none⟩ : Addr).add (k * 4)) = ⟨b, off + k * 4, none⟩ := Go.WideShapes.add_plain ..
      rw [this] at hr
      exact ⟨hr, (hf k hkl).2.1⟩
    · obtain ⟨hkl, rfl⟩ := key k r e
      exact (hf k hkl).2.2

theorem list5N {α : Type} {l : List α} (h : l.length = 5) : ∃ a b c d e, l = [a, b, c, d, e] := by
  match l, h with
  | [a, b, c, d, e], _ => exact ⟨a, b, c, d, e, rfl⟩

theorem cast_list {H : Type} {enc : TypeId × Value → H} {w : World} {base : Nat} {spare : Nat → Bool} {held : Bool} {fuel : Nat} {cs : List Value} {x : DataW H × List MemPlace} (h : DataW.trod enc Try.prog w base spare held fuel 61 cs = some x) :
    ∃ c : CastI, cs = [.int .i64 c.f, .int .i64 c.s, .slice c.ba c.bn c.bc, .slice c.na c.nn c.nc, .slice c.ma c.mn c.mc] ∧ CastIn w c ∧ CastLe maxLen c := by
  obtain ⟨xs, n, _, _, hl, hlen, hf⟩ := DataW.trod_struct Try.underlying61 h
  rw [Try.cells61] at hl
  obtain ⟨c0, c1, c2, c3, c4, rfl⟩ := list5N hl
  obtain ⟨y0, y1, y2, y3, y4, rfl⟩ := list5N hlen
  have g0 := hf 0 _ rfl
  have g1 := hf 1 _ rfl
  have g2 := hf 2 _ rfl
  have g3 := hf 3 _ rfl
  have g4 := hf 4 _ rfl
  simp [cells64Ms, Try.cellsN59, Try.cellsN58, Try.cellsN24] at g0 g1 g2 g3 g4
  obtain ⟨e0, q0, _, _⟩ := DataW.trod_int Try.underlying2 g0
  obtain ⟨e1, q1, _, _⟩ := DataW.trod_int Try.underlying2 g1
  obtain ⟨ra, rn, rc, q2⟩ := intsN_val g2
  obtain ⟨fa, fn, fc, q3⟩ := nodesN_val g3
  obtain ⟨ca, cn, cc, q4⟩ := msgsN_val g4
  simp at q0 q1 q2 q3 q4
  subst q0 q1 q2 q3 q4
  obtain ⟨zs, hz1, hz2⟩ := intsN_shape g2
  obtain ⟨fs, hf1, hf2, hf3⟩ := nodes_shape g3
  obtain ⟨cs, hc1, hc2⟩ := msgs_shape g4
  exact ⟨⟨e0, e1, ra, rn, rc, zs, fa, fn, fc, fs, ca, cn, cc, cs⟩, rfl, ⟨hz1, hf1, hc1⟩, ⟨hz2, hf2, hf3, hc2⟩⟩

theorem cast_shape {H : Type} {enc : TypeId × Value → H} {w : World} {base : Nat} {spare : Nat → Bool} {held : Bool} {fuel : Nat} (cs : Array Value) {x : DataW H × List MemPlace} (h : DataW.trod enc Try.prog w base spare held fuel 61 cs.toList = some x) :
    ∃ c : CastI, cs = #[.int .i64 c.f, .int .i64 c.s, .slice c.ba c.bn c.bc, .slice c.na c.nn c.nc, .slice c.ma c.mn c.mc] ∧ CastIn w c ∧ CastLe maxLen c := by
  obtain ⟨c, e, h1, h2⟩ := cast_list h
  exact ⟨c, by cases cs; simp_all, h1, h2⟩

end Go.Proofs.Ytbebhiglnfmjcaa
