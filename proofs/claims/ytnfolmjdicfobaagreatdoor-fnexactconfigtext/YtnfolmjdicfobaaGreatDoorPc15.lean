/-
  WHAT AN ARGUMENT LOOKS LIKE: a slice of parts, out of its reading.
  Conditions: each fact bears its own.
  WHAT AN ARGUMENT LOOKS LIKE: a slice of forms, a configuration, out of its reading.
  Conditions: each fact bears its own.
  CONTRACTS of spec.l1Bit and impl.bitOf: the set of one principal.
  Conditions: the principal is one of 1 to 8.
  CONTRACTS: spec.l3By, whom a rule gives its head.
  Conditions: each contract bears its own.
-/
import Derived.Test.YtnfolmjdicfobaaGreatDoorPc14
import Derived.Test.YtnfolmjdicfobaaGreatDoorPc04
import Derived.Test.YtnfolmjdicfobaaGreatDoorPc11
import Derived.Test.YtnfolmjdicfobaaGreatDoorPc01
import Derived.Test.YtnfolmjdicfobaaGreatDoorPc05
import Derived.Deep.RegionHeld3
import Derived.Deep.DeepCutAuto
import Derived.Deep.CutBlock
namespace Go.Proofs.YtnfolmjdicfobaaGreatDoor
open Go.RowKit Go.ChangeShapes Go.WideShapes

theorem Tryz.cells216 : Tryz.prog.cellsOf 216 = 5 := by kernel_rfl

theorem list4 {α : Type} {l : List α} (h : l.length = 4) : ∃ a b c d, l = [a, b, c, d] := by
  match l, h with
  | [a, b, c, d], _ => exact ⟨a, b, c, d, rfl⟩

theorem part_list {H : Type} {enc : TypeId × Value → H} {w : World} {base : Nat} {spare : Nat → Bool} {held : Bool} {fuel : Nat} {cs : List Value} {x : DataW H × List MemPlace} (h : DataW.trod enc Tryz.prog w base spare held fuel 216 cs = some x) :
    ∃ r : PartI, cs = [.int .i64 r.k, .int .i64 r.ro, .int .i64 r.rn, .int .i64 r.l, .int .i64 r.r] := by
  obtain ⟨xs, n, _, _, hl, hlen, hf⟩ := DataW.trod_struct Tryz.underlying216 h
  rw [Tryz.cells216] at hl
  obtain ⟨c0, c1, c2, c3, c4, rfl⟩ := list5 hl
  obtain ⟨y0, y1, y2, y3, rfl⟩ := list4 hlen
  have g0 := hf 0 _ rfl
  have g1 := hf 1 _ rfl
  have g2 := hf 2 _ rfl
  have g3 := hf 3 _ rfl
  simp [Tryz.cells2, Tryz.cells142] at g0 g1 g2 g3
  obtain ⟨k, e0, _, _⟩ := DataW.trod_int Tryz.underlying2 g0
  obtain ⟨lf, e3, _, _⟩ := DataW.trod_int Tryz.underlying2 g2
  obtain ⟨rt, e4, _, _⟩ := DataW.trod_int Tryz.underlying2 g3
  obtain ⟨ho, hn, e1⟩ := role_list g1
  simp at e0 e1 e3 e4
  obtain ⟨rfl, rfl⟩ := e1
  subst e0 e3 e4
  exact ⟨⟨k, ho, hn, lf, rt⟩, rfl⟩

theorem cells5 {w : World} {base : Nat} {a : Addr} {r : PartI} (h : w.cells? base a 5 = some [.int .i64 r.k, .int .i64 r.ro, .int .i64 r.rn, .int .i64 r.l, .int .i64 r.r]) : a.spot = none ∧ PartAt w a.block a.off r := by
  have e : List.range 5 = [0, 1, 2, 3, 4] := rfl
  unfold World.cells? at h
  split at h
  · rw [e] at h
    simp only [List.mapM_cons, List.mapM_nil, Option.bind_eq_bind, Option.bind_eq_some_iff, Option.pure_def, Option.some.injEq, List.cons.injEq] at h
    obtain ⟨x0, h0, y0, ⟨x1, h1, y1, ⟨x2, h2, y2, ⟨x3, h3, y3, ⟨x4, h4, y4, rfl, e4⟩, e3⟩, e2⟩, e1⟩, e0, ee⟩ := h
    subst e0
    rw [← e1] at ee
    simp only [List.cons.injEq] at ee
    obtain ⟨rfl, ee⟩ := ee
    rw [← e2] at ee
    simp only [List.cons.injEq] at ee
    obtain ⟨rfl, ee⟩ := ee
    rw [← e3] at ee
    simp only [List.cons.injEq] at ee
    obtain ⟨rfl, ee⟩ := ee
    rw [← e4] at ee
    simp only [List.cons.injEq] at ee
    obtain ⟨rfl, _⟩ := ee
    obtain ⟨b, off, spot⟩ := a
    have hspot : spot = none := by simpa [Addr.add] using World.cell?_spot h0
    subst hspot
    simp only [Addr.add] at h0 h1 h2 h3 h4
    exact ⟨rfl, by simpa using h0, by simpa using h1, by simpa using h2, by simpa using h3, by simpa using h4⟩
  · cases h

theorem parts_shape {H : Type} {enc : TypeId × Value → H} {w : World} {base : Nat} {spare : Nat → Bool} {held : Bool} {fuel : Nat} {a0 : Option Addr} {len cap : Nat} {x : DataW H × List MemPlace} (h : DataW.trod enc Tryz.prog w base spare held fuel 138 [.slice a0 len cap] = some x) :
    ∃ zs : List PartI, PartsArg w a0 len zs := by
  rcases Go.Deep.open_slice Tryz.underlying138 h with ⟨hcs, _⟩ | ⟨a, l, c, m, n, D, Pl, hcs, hb, hl, hm, hmm, _, hel⟩
  · simp at hcs
    obtain ⟨rfl, rfl, rfl⟩ := hcs
    exact ⟨[], ⟨rfl, fun h => by omega⟩, Nat.zero_le _⟩
  · simp at hcs
    obtain ⟨rfl, rfl, rfl⟩ := hcs
    have hle : len ≤ m := by rw [hmm]; split <;> omega
    rw [Tryz.cells216] at hel
    have hk : ∀ i, i < len → ∃ r : PartI, w.cells? base (a.add (i * 5)) 5 = some [.int .i64 r.k, .int .i64 r.ro, .int .i64 r.rn, .int .i64 r.l, .int .i64 r.r] := fun i hi => by
      obtain ⟨cs', hc, ht⟩ := hel i (by omega)
      obtain ⟨r, rfl⟩ := part_list ht
      exact ⟨r, hc⟩
    obtain ⟨f, hf⟩ := Go.Deep.choose_lt hk
    refine ⟨(List.range len).map f, ⟨by simp, fun hp => ?_⟩, Nat.le_trans hl hm⟩
    obtain ⟨hsp, _⟩ := cells5 (hf 0 hp)
    obtain ⟨b, off, spot⟩ := a
    simp [Addr.add] at hsp
    subst hsp
    refine ⟨b, off, rfl, fun k r e => ?_⟩
    have hkl : k < len := by
      by_cases q : k < len
      · exact q
      · rw [List.getElem?_eq_none (by simp; omega)] at e; cases e
    rw [List.getElem?_map, List.getElem?_range hkl] at e
    simp at e
    subst e
    obtain ⟨_, hr⟩ := cells5 (hf k hkl)
    have : ((⟨b, off, none⟩ : Addr).add (k * 5)) = ⟨b, off + k * 5, none⟩ := Go.WideShapes.add_plain ..
    rw [this] at hr
    exact hr

end Go.Proofs.YtnfolmjdicfobaaGreatDoor

namespace Go.Proofs.YtnfolmjdicfobaaGreatDoor
open Go.RowKit Go.ChangeShapes Go.WideShapes
set_option linter.unusedVariables false
set_option linter.unusedSimpArgs false

theorem Tryz.cells140 : Tryz.prog.cellsOf 140 = 1 := by kernel_rfl
theorem Tryz.cells47 : Tryz.prog.cellsOf 47 = 5 := by kernel_rfl
theorem Tryz.cells138 : Tryz.prog.cellsOf 138 = 1 := by kernel_rfl
theorem Tryz.cells44 : Tryz.prog.cellsOf 44 = 1 := by kernel_rfl
theorem Tryz.cells45 : Tryz.prog.cellsOf 45 = 1 := by kernel_rfl
theorem Tryz.cells26 : Tryz.prog.cellsOf 26 = 1 := by kernel_rfl

theorem list1 {α : Type} {l : List α} (h : l.length = 1) : ∃ a, l = [a] := by
  match l, h with
  | [a], _ => exact ⟨a, rfl⟩

theorem cell1 {w : World} {base : Nat} {a : Addr} {v : Value} (h : w.cells? base a 1 = some [v]) : a.spot = none ∧ w.cell? ⟨a.block, a.off, none⟩ = some v := by
  have e : List.range 1 = [0] := rfl
  unfold World.cells? at h
  split at h
  · rw [e] at h
    simp only [List.mapM_cons, List.mapM_nil, Option.bind_eq_bind, Option.bind_eq_some_iff, Option.pure_def, Option.some.injEq, List.cons.injEq] at h
    obtain ⟨x0, h0, y0, rfl, e0, ee⟩ := h
    subst e0
    obtain ⟨b, off, spot⟩ := a
    have hspot : spot = none := by simpa [Addr.add] using World.cell?_spot h0
    subst hspot
    simp only [Addr.add] at h0
    exact ⟨rfl, by simpa using h0⟩
  · cases h

theorem parts_val {H : Type} {enc : TypeId × Value → H} {w : World} {base : Nat} {spare : Nat → Bool} {held : Bool} {fuel : Nat} {cs : List Value} {x : DataW H × List MemPlace} (h : DataW.trod enc Tryz.prog w base spare held fuel 138 cs = some x) :
    ∃ a n c, cs = [.slice a n c] := by
  rcases Go.Deep.open_slice Tryz.underlying138 h with ⟨hcs, _⟩ | ⟨a, l, c, m, n, D, Pl, hcs, _⟩
  · exact ⟨_, _, _, hcs⟩
  · exact ⟨_, _, _, hcs⟩

theorem rules_val {H : Type} {enc : TypeId × Value → H} {w : World} {base : Nat} {spare : Nat → Bool} {held : Bool} {fuel : Nat} {cs : List Value} {x : DataW H × List MemPlace} (h : DataW.trod enc Tryz.prog w base spare held fuel 44 cs = some x) :
    ∃ a n c, cs = [.slice a n c] := by
  rcases Go.Deep.open_slice Tryz.underlying44 h with ⟨hcs, _⟩ | ⟨a, l, c, m, n, D, Pl, hcs, _⟩
  · exact ⟨_, _, _, hcs⟩
  · exact ⟨_, _, _, hcs⟩

theorem forms_val {H : Type} {enc : TypeId × Value → H} {w : World} {base : Nat} {spare : Nat → Bool} {held : Bool} {fuel : Nat} {cs : List Value} {x : DataW H × List MemPlace} (h : DataW.trod enc Tryz.prog w base spare held fuel 45 cs = some x) :
    ∃ a n c, cs = [.slice a n c] := by
  rcases Go.Deep.open_slice Tryz.underlying45 h with ⟨hcs, _⟩ | ⟨a, l, c, m, n, D, Pl, hcs, _⟩
  · exact ⟨_, _, _, hcs⟩
  · exact ⟨_, _, _, hcs⟩

theorem ints_val {H : Type} {enc : TypeId × Value → H} {w : World} {base : Nat} {spare : Nat → Bool} {held : Bool} {fuel : Nat} {cs : List Value} {x : DataW H × List MemPlace} (h : DataW.trod enc Tryz.prog w base spare held fuel 26 cs = some x) :
    ∃ a n c, cs = [.slice a n c] := by
  rcases Go.Deep.open_slice Tryz.underlying26 h with ⟨hcs, _⟩ | ⟨a, l, c, m, n, D, Pl, hcs, _⟩
  · exact ⟨_, _, _, hcs⟩
  · exact ⟨_, _, _, hcs⟩

theorem ints_shape {H : Type} {enc : TypeId × Value → H} {w : World} {base : Nat} {spare : Nat → Bool} {held : Bool} {fuel : Nat} {a0 : Option Addr} {len cap : Nat} {x : DataW H × List MemPlace} (h : DataW.trod enc Tryz.prog w base spare held fuel 26 [.slice a0 len cap] = some x) :
    ∃ zs : List Int, IntIn w a0 len zs ∧ len ≤ maxLen := by
  rcases Go.Deep.open_slice Tryz.underlying26 h with ⟨hcs, _⟩ | ⟨a, l, c, m, n, D, Pl, hcs, hb, hl, hm, hmm, _, hel⟩
  · simp at hcs
    obtain ⟨rfl, rfl, rfl⟩ := hcs
    exact ⟨[], ⟨rfl, fun h => by omega⟩, Nat.zero_le _⟩
  · simp at hcs
    obtain ⟨rfl, rfl, rfl⟩ := hcs
    have hle : len ≤ m := by rw [hmm]; split <;> omega
    rw [Tryz.cells2] at hel
    have hk : ∀ i, i < len → ∃ r : Int, w.cells? base (a.add (i * 1)) 1 = some [.int .i64 r] := fun i hi => by
      obtain ⟨cs', hc, ht⟩ := hel i (by omega)
      obtain ⟨k, e0, _, _⟩ := DataW.trod_int Tryz.underlying2 ht
      exact ⟨k, by rw [hc, e0]⟩
    obtain ⟨f, hf⟩ := Go.Deep.choose_lt hk
    refine ⟨(List.range len).map f, ⟨by simp, fun hp => ?_⟩, Nat.le_trans hl hm⟩
    obtain ⟨hsp, _⟩ := cell1 (hf 0 hp)
    obtain ⟨b, off, spot⟩ := a
    simp [Addr.add] at hsp
    subst hsp
    refine ⟨b, off, rfl, fun k r e => ?_⟩
    have hkl : k < len := by
      by_cases q : k < len
      · exact q
      · rw [List.getElem?_eq_none (by simp; omega)] at e; cases e
    rw [List.getElem?_map, List.getElem?_range hkl] at e
    simp at e
    subst e
    obtain ⟨_, hr⟩ := cell1 (hf k hkl)
    have : ((⟨b, off, none⟩ : Addr).add (k * 1)) = ⟨b, off + k * 1, none⟩ := Go.WideShapes.add_plain ..
    rw [this, Nat.mul_one] at hr
    exact hr

theorem form_list {H : Type} {enc : TypeId × Value → H} {w : World} {base : Nat} {spare : Nat → Bool} {held : Bool} {fuel : Nat} {cs : List Value} {x : DataW H × List MemPlace} (h : DataW.trod enc Tryz.prog w base spare held fuel 140 cs = some x) :
    ∃ r : FormI, cs = [.slice r.a r.n r.cap] ∧ PartsArg w r.a r.n r.ps := by
  obtain ⟨xs, n, _, _, hl, hlen, hf⟩ := DataW.trod_struct Tryz.underlying140 h
  rw [Tryz.cells140] at hl
  obtain ⟨c0, rfl⟩ := list1 hl
  obtain ⟨y0, rfl⟩ := list1 hlen
  have g0 := hf 0 _ rfl
  simp [Tryz.cells138] at g0
  obtain ⟨a, n', c', e⟩ := parts_val g0
  simp at e
  subst e
  obtain ⟨zs, hz⟩ := parts_shape g0
  exact ⟨⟨a, n', c', zs⟩, rfl, hz⟩

theorem forms_shape {H : Type} {enc : TypeId × Value → H} {w : World} {base : Nat} {spare : Nat → Bool} {held : Bool} {fuel : Nat} {a0 : Option Addr} {len cap : Nat} {x : DataW H × List MemPlace} (h : DataW.trod enc Tryz.prog w base spare held fuel 45 [.slice a0 len cap] = some x) :
    ∃ fs : List FormI, FormsIn w a0 len fs ∧ len ≤ maxLen ∧ FormsLe maxLen fs := by
  rcases Go.Deep.open_slice Tryz.underlying45 h with ⟨hcs, _⟩ | ⟨a, l, c, m, n, D, Pl, hcs, hb, hl, hm, hmm, _, hel⟩
  · simp at hcs
    obtain ⟨rfl, rfl, rfl⟩ := hcs
    exact ⟨[], ⟨rfl, fun h => by omega⟩, Nat.zero_le _, fun k x e => by simp at e⟩
  · simp at hcs
    obtain ⟨rfl, rfl, rfl⟩ := hcs
    have hle : len ≤ m := by rw [hmm]; split <;> omega
    rw [Tryz.cells140] at hel
    have hk : ∀ i, i < len → ∃ r : FormI, w.cells? base (a.add (i * 1)) 1 = some [.slice r.a r.n r.cap] ∧ PartsArg w r.a r.n r.ps := fun i hi => by
      obtain ⟨cs', hc, ht⟩ := hel i (by omega)
      obtain ⟨r, rfl, hr⟩ := form_list ht
      exact ⟨r, hc, hr⟩
    obtain ⟨f, hf⟩ := Go.Deep.choose_lt hk
    have key : ∀ (k : Nat) (r : FormI), ((List.range len).map f)[k]? = some r → k < len ∧ r = f k := fun k r e => by
      have hkl : k < len := by
        by_cases q : k < len
        · exact q
        · rw [List.getElem?_eq_none (by simp; omega)] at e; cases e
      rw [List.getElem?_map, List.getElem?_range hkl] at e
      simp at e
      exact ⟨hkl, e.symm⟩
    refine ⟨(List.range len).map f, ⟨by simp, fun hp => ?_⟩, Nat.le_trans hl hm, fun k r e => ?_⟩
    · obtain ⟨hsp, _⟩ := cell1 (hf 0 hp).1
      obtain ⟨b, off, spot⟩ := a
      simp [Addr.add] at hsp
      subst hsp
      refine ⟨b, off, rfl, fun k r e => ?_⟩
      obtain ⟨hkl, rfl⟩ := key k r e
      obtain ⟨_, hr⟩ := cell1 (hf k hkl).1
      have : ((⟨b, off, none⟩ : Addr).add (k * 1)) = ⟨b, off + k * 1, none⟩ := Go.WideShapes.add_plain ..
      rw [this, Nat.mul_one] at hr
      exact ⟨hr, (hf k hkl).2.1⟩
    · obtain ⟨hkl, rfl⟩ := key k r e
      exact (hf k hkl).2.2

theorem conf_list {H : Type} {enc : TypeId × Value → H} {w : World} {base : Nat} {spare : Nat → Bool} {held : Bool} {fuel : Nat} {cs : List Value} {x : DataW H × List MemPlace} (h : DataW.trod enc Tryz.prog w base spare held fuel 47 cs = some x) :
    ∃ c : ConfI, cs = [.int .i64 c.e, .int .i64 c.f, .slice c.ra c.rn c.rc, .slice c.fa c.fn c.fc, .slice c.ca c.cn c.cc] ∧ ConfIn w c ∧ ConfLe maxLen c := by
  obtain ⟨xs, n, _, _, hl, hlen, hf⟩ := DataW.trod_struct Tryz.underlying47 h
  rw [Tryz.cells47] at hl
  obtain ⟨c0, c1, c2, c3, c4, rfl⟩ := list5 hl
  obtain ⟨y0, y1, y2, y3, y4, rfl⟩ := list5 hlen
  have g0 := hf 0 _ rfl
  have g1 := hf 1 _ rfl
  have g2 := hf 2 _ rfl
  have g3 := hf 3 _ rfl
  have g4 := hf 4 _ rfl
  simp [Tryz.cells2, Tryz.cells44, Tryz.cells45, Tryz.cells26] at g0 g1 g2 g3 g4
  obtain ⟨e0, q0, _, _⟩ := DataW.trod_int Tryz.underlying2 g0
  obtain ⟨e1, q1, _, _⟩ := DataW.trod_int Tryz.underlying2 g1
  obtain ⟨ra, rn, rc, q2⟩ := rules_val g2
  obtain ⟨fa, fn, fc, q3⟩ := forms_val g3
  obtain ⟨ca, cn, cc, q4⟩ := ints_val g4
  simp at q0 q1 q2 q3 q4
  subst q0 q1 q2 q3 q4
  obtain ⟨zs, hz⟩ := rules_shape g2
  obtain ⟨fs, hf1, hf2, hf3⟩ := forms_shape g3
  obtain ⟨cs, hc1, hc2⟩ := ints_shape g4
  exact ⟨⟨e0, e1, ra, rn, rc, zs, fa, fn, fc, fs, ca, cn, cc, cs⟩, rfl, ⟨hz.1, hf1, hc1⟩, ⟨hz.2, hf2, hf3, hc2⟩⟩

theorem conf_shape {H : Type} {enc : TypeId × Value → H} {w : World} {base : Nat} {spare : Nat → Bool} {held : Bool} {fuel : Nat} (cs : Array Value) {x : DataW H × List MemPlace} (h : DataW.trod enc Tryz.prog w base spare held fuel 47 cs.toList = some x) :
    ∃ c : ConfI, cs = #[.int .i64 c.e, .int .i64 c.f, .slice c.ra c.rn c.rc, .slice c.fa c.fn c.fc, .slice c.ca c.cn c.cc] ∧ ConfIn w c ∧ ConfLe maxLen c := by
  obtain ⟨c, e, h1, h2⟩ := conf_list h
  exact ⟨c, by cases cs; simp_all, h1, h2⟩

end Go.Proofs.YtnfolmjdicfobaaGreatDoor

namespace Go.Proofs.YtnfolmjdicfobaaGreatDoor
open Go.RowKit
set_option linter.unusedVariables false

set_option maxHeartbeats 400000 in
theorem l1Bit_c (p : Int) (p0 : 1 ≤ p) (p1 : p ≤ 8) (w : World) :
    Calls Tryz.prog 114 #[.int .i64 p] w fun e w' => e = .returned (.int .i64 (bitI p)) ∧ w = w' := by
  have hp : p = 1 ∨ p = 2 ∨ p = 3 ∨ p = 4 ∨ p = 5 ∨ p = 6 ∨ p = 7 ∨ p = 8 := by omega
  rcases hp with rfl | rfl | rfl | rfl | rfl | rfl | rfl | rfl
  all_goals
    go_enter Tryz.func114, Tryz.ntmps114
    go_wp2
    go_ret
    exact ⟨rfl, rfl⟩

set_option maxHeartbeats 400000 in
theorem bitOf_c (p : Int) (p0 : 1 ≤ p) (p1 : p ≤ 8) (w : World) :
    Calls Tryz.prog 129 #[.int .i64 p] w fun e w' => e = .returned (.int .u8 (bitI p)) ∧ w = w' := by
  have hp : p = 1 ∨ p = 2 ∨ p = 3 ∨ p = 4 ∨ p = 5 ∨ p = 6 ∨ p = 7 ∨ p = 8 := by omega
  rcases hp with rfl | rfl | rfl | rfl | rfl | rfl | rfl | rfl
  all_goals
    go_enter Tryz.func129, Tryz.ntmps129
    go_wp2
    go_ret
    exact ⟨rfl, rfl⟩

end Go.Proofs.YtnfolmjdicfobaaGreatDoor

namespace Go.Proofs.YtnfolmjdicfobaaGreatDoor
open Go.RowKit
set_option linter.unusedVariables false
set_option linter.unusedSimpArgs false

set_option maxHeartbeats 1000000 in
theorem l3By_1 (a : Option Addr) (n c : Nat) (gs : List GrI) (g off : Nat) (r : RuleI) (w : World) (hg : GrIn w a n gs) (hn : n ≤ 1048576) (hr : RuleAt w g off r) (hs : ∀ q, setB (ofG gs q)) (hk : okR r) (hk4 : r.k = 1) :
    Calls Tryz.prog 158 #[.slice a n c, .pointer (some ⟨g, off, none⟩)] w fun e w' => e = .returned (.int .i64 (byF (ofG gs) r)) ∧ Below w.heap.size w w' := by
  have HG : Hid (GrIn w a n gs) := hg
  have HX : Hid (RuleAt w g off r) := hr
  have HS : Hid (∀ q, setB (ofG gs q)) := hs
  have E : Hid (byF (ofG gs) r = bitI r.w) := by show byF (ofG gs) r = _; simp [byF, hk4]
  have hw := hk.2 hk4
  clear hk
  clear hg hr hs
  obtain ⟨k, ho, hn0, wh, oo, on, t0, tn⟩ := r
  have hb : Below w.heap.size w w := Below.refl _ _
  obtain ⟨h0, h1, h2, h3, h4, h5, h6, h7⟩ := HX.out.below hb
  simp only at h0 h1 h2 h3 h4 h5 h6 h7 hk4 hw
  subst hk4
  go_enter Tryz.func158, Tryz.ntmps158
  go_wp2_with (first | (go_at_call 113; refine (l3Of_c _ _ _ gs (oo, on) _ (HG.out.below hb) hn).mono ?_; rintro e w1 ⟨rfl, hb1⟩; replace hb := hb.trans (hb1.mono hb.size); clear h0 h1 h2 h3 h4 h5 h6 h7 hb1; obtain ⟨h0, h1, h2, h3, h4, h5, h6, h7⟩ := HX.out.below hb; simp only at h0 h1 h2 h3 h4 h5 h6 h7) | (go_at_call 114; refine (l1Bit_c _ hw.1 hw.2 _).mono ?_; rintro e w2 ⟨rfl, rfl⟩))
  go_ret
  exact ⟨by rw [E.out]; rfl, hb⟩

set_option maxHeartbeats 1000000 in
theorem l3By_2 (a : Option Addr) (n c : Nat) (gs : List GrI) (g off : Nat) (r : RuleI) (w : World) (hg : GrIn w a n gs) (hn : n ≤ 1048576) (hr : RuleAt w g off r) (hs : ∀ q, setB (ofG gs q)) (hk : okR r) (hk4 : r.k = 2) :
    Calls Tryz.prog 158 #[.slice a n c, .pointer (some ⟨g, off, none⟩)] w fun e w' => e = .returned (.int .i64 (byF (ofG gs) r)) ∧ Below w.heap.size w w' := by
  have HG : Hid (GrIn w a n gs) := hg
  have HX : Hid (RuleAt w g off r) := hr
  have HS : Hid (∀ q, setB (ofG gs q)) := hs
  have E : Hid (byF (ofG gs) r = ofG gs (r.oo, r.on)) := by show byF (ofG gs) r = _; simp [byF, hk4]
  clear hk
  clear hg hr hs
  obtain ⟨k, ho, hn0, wh, oo, on, t0, tn⟩ := r
  have hb : Below w.heap.size w w := Below.refl _ _
  obtain ⟨h0, h1, h2, h3, h4, h5, h6, h7⟩ := HX.out.below hb
  simp only at h0 h1 h2 h3 h4 h5 h6 h7 hk4
  subst hk4
  go_enter Tryz.func158, Tryz.ntmps158
  go_wp2_with (first | (go_at_call 113; refine (l3Of_c _ _ _ gs (oo, on) _ (HG.out.below hb) hn).mono ?_; rintro e w1 ⟨rfl, hb1⟩; replace hb := hb.trans (hb1.mono hb.size); clear h0 h1 h2 h3 h4 h5 h6 h7 hb1; obtain ⟨h0, h1, h2, h3, h4, h5, h6, h7⟩ := HX.out.below hb; simp only at h0 h1 h2 h3 h4 h5 h6 h7))
  go_ret
  exact ⟨by rw [E.out]; rfl, hb⟩

set_option maxHeartbeats 1000000 in
theorem l3By_4 (a : Option Addr) (n c : Nat) (gs : List GrI) (g off : Nat) (r : RuleI) (w : World) (hg : GrIn w a n gs) (hn : n ≤ 1048576) (hr : RuleAt w g off r) (hs : ∀ q, setB (ofG gs q)) (hk : okR r) (hk4 : r.k = 4) :
    Calls Tryz.prog 158 #[.slice a n c, .pointer (some ⟨g, off, none⟩)] w fun e w' => e = .returned (.int .i64 (byF (ofG gs) r)) ∧ Below w.heap.size w w' := by
  have HG : Hid (GrIn w a n gs) := hg
  have HX : Hid (RuleAt w g off r) := hr
  have HS : Hid (∀ q, setB (ofG gs q)) := hs
  have E : Hid (byF (ofG gs) r = andI (ofG gs (r.oo, r.on)) (ofG gs (r.to, r.tn))) := by show byF (ofG gs) r = _; simp [byF, hk4]
  clear hk
  clear hg hr hs
  obtain ⟨k, ho, hn0, wh, oo, on, t0, tn⟩ := r
  have hb : Below w.heap.size w w := Below.refl _ _
  obtain ⟨h0, h1, h2, h3, h4, h5, h6, h7⟩ := HX.out.below hb
  simp only at h0 h1 h2 h3 h4 h5 h6 h7 hk4
  subst hk4
  go_enter Tryz.func158, Tryz.ntmps158
  go_upto_region 8 with (first | (go_at_call 113; refine (l3Of_c _ _ _ gs (oo, on) _ (HG.out.below hb) hn).mono ?_; rintro e w1 ⟨rfl, hb1⟩; replace hb := hb.trans (hb1.mono hb.size); clear h0 h1 h2 h3 h4 h5 h6 h7 hb1; obtain ⟨h0, h1, h2, h3, h4, h5, h6, h7⟩ := HX.out.below hb; simp only at h0 h1 h2 h3 h4 h5 h6 h7))
  go_wp2_with (first | (go_at_call 113; refine (l3Of_c _ _ _ gs (t0, tn) _ (HG.out.below hb) hn).mono ?_; rintro e w2 ⟨rfl, hb1⟩; replace hb := hb.trans (hb1.mono hb.size); clear h0 h1 h2 h3 h4 h5 h6 h7 hb1))
  go_ret
  exact ⟨by rw [E.out]; rfl, hb⟩

set_option maxHeartbeats 1000000 in
theorem l3By_3 (a : Option Addr) (n c : Nat) (gs : List GrI) (g off : Nat) (r : RuleI) (w : World) (hg : GrIn w a n gs) (hn : n ≤ 1048576) (hr : RuleAt w g off r) (hs : ∀ q, setB (ofG gs q)) (hk : okR r) (hk4 : r.k = 3) :
    Calls Tryz.prog 158 #[.slice a n c, .pointer (some ⟨g, off, none⟩)] w fun e w' => e = .returned (.int .i64 (byF (ofG gs) r)) ∧ Below w.heap.size w w' := by
  have HG : Hid (GrIn w a n gs) := hg
  have HX : Hid (RuleAt w g off r) := hr
  have HS : Hid (∀ q, setB (ofG gs q)) := hs
  have E : Hid (byF (ofG gs) r = linkTo (ofG gs) r.tn (listTo (ofG gs (r.oo, r.on)) 8) (listTo (ofG gs (r.oo, r.on)) 8).length) := by show byF (ofG gs) r = _; simp [byF, hk4]
  clear hk
  clear hg hr hs
  obtain ⟨k, ho, hn0, wh, oo, on, t0, tn⟩ := r
  have hb : Below w.heap.size w w := Below.refl _ _
  obtain ⟨h0, h1, h2, h3, h4, h5, h6, h7⟩ := HX.out.below hb
  simp only at h0 h1 h2 h3 h4 h5 h6 h7 hk4
  subst hk4
  go_enter Tryz.func158, Tryz.ntmps158
  go_upto_region 10 with (first | (go_at_call 113; refine (l3Of_c _ _ _ gs (oo, on) _ (HG.out.below hb) hn).mono ?_; rintro e w1 ⟨rfl, hb1⟩; replace hb := hb.trans (hb1.mono hb.size); clear h0 h1 h2 h3 h4 h5 h6 h7 hb1; obtain ⟨h0, h1, h2, h3, h4, h5, h6, h7⟩ := HX.out.below hb; simp only at h0 h1 h2 h3 h4 h5 h6 h7))
  have HLs := HS.out (oo, on)
  obtain ⟨ys, hys⟩ : ∃ ys, ys = listTo (ofG gs (oo, on)) 8 := ⟨_, rfl⟩
  have hl8 : ys.length ≤ 8 := by rw [hys]; exact listTo_len _ 8
  have hl8' : (ys.length : Int) ≤ 8 := by omega
  have E2 : Hid (byF (ofG gs) ⟨3, ho, hn0, wh, oo, on, t0, tn⟩ = linkTo (ofG gs) tn ys ys.length) := by rw [hys]; exact E.out
  have HC : Hid (∀ W : World, Calls Tryz.prog 59 #[.int .i64 (ofG gs (oo, on))] W fun e w' => ∃ g cap, e = .returned (.slice (some ⟨g, 0, none⟩) ys.length cap) ∧ w'.ownsRow W.heap.size 2 1 (.slice (some ⟨g, 0, none⟩) ys.length cap) ys.length (ys.map (Value.int .i64)) ∧ Below W.heap.size W w') := fun W => by rw [hys]; exact l1List_c _ HLs.1 HLs.2 W
  clear E hys HLs
  go_wp2_with (first | (go_at_call 59; refine (HC.out _).mono ?_; rintro e w2 ⟨gl, cl, rfl, hown, hb1⟩; replace hb := hb.trans (hb1.mono hb.size); clear h0 h1 h2 h3 h4 h5 h6 h7 hb1))
  have HR : Hid (RuleAt w2 g off ⟨3, ho, hn0, wh, oo, on, t0, tn⟩) := HX.out.below hb
  have HY : Hid (∀ k y, ys[k]? = some y → w2.cell? ⟨gl, k, none⟩ = some (.int .i64 y)) := fun k y hy => by
    have hk : k < ys.length := by
      by_cases q : k < ys.length
      · exact q
      · rw [List.getElem?_eq_none (by omega)] at hy; cases hy
    rw [hown.cellAt k (by omega), List.getElem?_map, hy]
    rfl
  have hgl : gl < w2.heap.size := by
    rcases hown.2 with ⟨h', _⟩ | ⟨g', cap', cur, h', _, hg', _⟩
    · simp at h'
    · simp at h'; rw [h'.1]; exact (Array.getElem?_eq_some_iff.1 hg').1
  clear hown
  go_loopw [6, 8] (fun o i wr => ∃ k : Nat, k ≤ ys.length ∧ i = .int .i64 (k : Int) ∧ o = .int .i64 (linkTo (ofG gs) tn ys k) ∧ Below w2.heap.size w2 wr) (fun _ i _ => ys.length - (intOf i).toNat)
  case atStart => exact ⟨0, Nat.zero_le _, rfl, by rw [linkTo_zero], Below.refl _ _⟩
  case round =>
    obtain ⟨k, hk, rfl, rfl, hnx⟩ := hrel
    by_cases hlt : k < ys.length
    · obtain ⟨y, hy⟩ : ∃ y, ys[k]? = some y := ⟨_, List.getElem?_eq_getElem hlt⟩
      have c0 := (hnx.cell (p := ⟨gl, k, none⟩) hgl).trans (HY.out k y hy)
      have HL : Hid (linkTo (ofG gs) tn ys (k + 1) = orI (linkTo (ofG gs) tn ys k) (ofG gs (y, tn))) := linkTo_succ hy _ _
      have hw : Below w.heap.size w wr := hb.trans (hnx.mono hb.size)
      clear hy
      obtain ⟨h0, h1, h2, h3, h4, h5, h6, h7⟩ := HR.out.below hnx
      simp only at h0 h1 h2 h3 h4 h5 h6 h7
      have hlt' : (k : Int) < (ys.length : Int) := by omega
      have HQ : Hid (∀ W : World, ((∀ b o, b < wr.heap.size → W.cell? ⟨b, o, none⟩ = wr.cell? ⟨b, o, none⟩) ∧ Below wr.heap.size wr W) → Calls Tryz.prog 113 #[.slice a n c, .agg #[.int .i64 y, .int .i64 tn]] W fun e w' => e = .returned (.int .i64 (ofG gs (y, tn))) ∧ Below W.heap.size W w') := fun W hW => l3Of_c _ _ _ gs (y, tn) _ (HG.out.below (hw.trans (hW.2.mono hw.size))) hn
      have hbg : g < wr.heap.size := World.block_lt_of_cell? wr ⟨g, off, none⟩ h0
      have hgl2 : gl < wr.heap.size := World.block_lt_of_cell? wr ⟨gl, k, none⟩ c0
      go_wp2
      go_region_held3 (fun w' => (∀ b o, b < wr.heap.size → w'.cell? ⟨b, o, none⟩ = wr.cell? ⟨b, o, none⟩) ∧ Below wr.heap.size wr w') (first | exact hS | exact kp_drew _)
        (first | (go_at_call 113; refine (HQ.out _ (by assumption)).mono ?_; rintro e w' ⟨rfl, hb1⟩; have hS := kp_step (by assumption) hb1))
      go_wp2
      exact ⟨⟨k + 1, by omega, by go_num, by rw [HL.out], hnx.trans (hS.2.mono hnx.size)⟩, by simp [intOf]; omega⟩
    · have hkn : k = ys.length := by omega
      subst hkn
      go_wp2
      go_ret
      exact ⟨by rw [E2.out]; rfl, hb.trans (hnx.mono hb.size)⟩

theorem l3By_c (a : Option Addr) (n c : Nat) (gs : List GrI) (g off : Nat) (r : RuleI) (w : World) (hg : GrIn w a n gs) (hn : n ≤ 1048576) (hr : RuleAt w g off r) (hs : ∀ q, setB (ofG gs q)) (hk : okR r) (hk4 : 1 ≤ r.k ∧ r.k ≤ 4) :
    Calls Tryz.prog 158 #[.slice a n c, .pointer (some ⟨g, off, none⟩)] w fun e w' => e = .returned (.int .i64 (byF (ofG gs) r)) ∧ Below w.heap.size w w' := by
  have h4 : r.k = 1 ∨ r.k = 2 ∨ r.k = 3 ∨ r.k = 4 := by omega
  rcases h4 with e | e | e | e
  · exact l3By_1 a n c gs g off r w hg hn hr hs hk e
  · exact l3By_2 a n c gs g off r w hg hn hr hs hk e
  · exact l3By_3 a n c gs g off r w hg hn hr hs hk e
  · exact l3By_4 a n c gs g off r w hg hn hr hs hk e

end Go.Proofs.YtnfolmjdicfobaaGreatDoor
