/- Contracts. -/
import Derived.OpenShut
import Derived.ChangeSame
import Derived.Deep.Slices
import Derived.Test.YtfkajnenniapaaaGreatPs19
import Derived.Lib.BitFns
namespace Go.Proofs.YtfkajnenniapaaaGreat
set_option maxRecDepth 100000
set_option maxHeartbeats 8000000
open Go.RowKit
set_option linter.unusedVariables false
set_option linter.unusedSimpArgs false

section
open Go.RowKit Go.ChangeShapes Go.WideShapes
theorem Tryz.cells152 : Tryz.prog.cellsOf 152 = 2 := by kernel_rfl
theorem Tryz.cells2 : Tryz.prog.cellsOf 2 = 1 := by kernel_rfl
theorem list2 {α : Type} {l : List α} (h : l.length = 2) : ∃ a b, l = [a, b] := by
 match l, h with
 | [a, b], _ => exact ⟨a, b, rfl⟩
theorem list5 {α : Type} {l : List α} (h : l.length = 5) : ∃ a b c d e, l = [a, b, c, d, e] := by
 match l, h with
 | [a, b, c, d, e], _ => exact ⟨a, b, c, d, e, rfl⟩
theorem list8 {α : Type} {l : List α} (h : l.length = 8) : ∃ a b c d e f g i, l = [a, b, c, d, e, f, g, i] := by
 match l, h with
 | [a, b, c, d, e, f, g, i], _ => exact ⟨a, b, c, d, e, f, g, i, rfl⟩
theorem role_list {H : Type} {enc : TypeId × Value → H} {w : World} {base : Nat} {spare : Nat → Bool} {held : Bool} {fuel : Nat} {cs : List Value} {x : DataW H × List MemPlace} (h : DataW.trod enc Tryz.prog w base spare held fuel 152 cs = some x) :
  ∃ o n, cs = [.int .i64 o, .int .i64 n] := by
 obtain ⟨y0, y1, n, _, hl, h0, h1⟩ := trod_struct2 Tryz.underlying152 h
 rw [Tryz.cells152] at hl
 obtain ⟨c0, c1, rfl⟩ := list2 hl
 simp [Tryz.cells2] at h0 h1
 obtain ⟨a, e0, _, _⟩ := DataW.trod_int Tryz.underlying2 h0
 obtain ⟨b, e1, _, _⟩ := DataW.trod_int Tryz.underlying2 h1
 simp at e0 e1
 exact ⟨a, b, by rw [e0, e1]⟩
theorem Tryz.cells154 : Tryz.prog.cellsOf 154 = 8 := by kernel_rfl
theorem rule_list {H : Type} {enc : TypeId × Value → H} {w : World} {base : Nat} {spare : Nat → Bool} {held : Bool} {fuel : Nat} {cs : List Value} {x : DataW H × List MemPlace} (h : DataW.trod enc Tryz.prog w base spare held fuel 154 cs = some x) :
  ∃ r : RuleI, cs = [.int .i64 r.k, .int .i64 r.ho, .int .i64 r.hn, .int .i64 r.w, .int .i64 r.oo, .int .i64 r.on, .int .i64 r.to, .int .i64 r.tn] := by
 obtain ⟨xs, n, _, _, hl, hlen, hf⟩ := DataW.trod_struct Tryz.underlying154 h
 rw [Tryz.cells154] at hl
 obtain ⟨c0, c1, c2, c3, c4, c5, c6, c7, rfl⟩ := list8 hl
 obtain ⟨y0, y1, y2, y3, y4, rfl⟩ := list5 hlen
 have g0 := hf 0 _ rfl
 have g1 := hf 1 _ rfl
 have g2 := hf 2 _ rfl
 have g3 := hf 3 _ rfl
 have g4 := hf 4 _ rfl
 simp [Tryz.cells2, Tryz.cells152] at g0 g1 g2 g3 g4
 obtain ⟨k, e0, _, _⟩ := DataW.trod_int Tryz.underlying2 g0
 obtain ⟨wh, e3, _, _⟩ := DataW.trod_int Tryz.underlying2 g2
 obtain ⟨ho, hn, e1⟩ := role_list g1
 obtain ⟨oo, on, e4⟩ := role_list g3
 obtain ⟨tw, tn, e6⟩ := role_list g4
 simp at e0 e1 e3 e4 e6
 obtain ⟨rfl, rfl⟩ := e1
 obtain ⟨rfl, rfl⟩ := e4
 obtain ⟨rfl, rfl⟩ := e6
 subst e0 e3
 exact ⟨⟨k, ho, hn, wh, oo, on, tw, tn⟩, rfl⟩
theorem cells8 {w : World} {base : Nat} {a : Addr} {r : RuleI} (h : w.cells? base a 8 = some [.int .i64 r.k, .int .i64 r.ho, .int .i64 r.hn, .int .i64 r.w, .int .i64 r.oo, .int .i64 r.on, .int .i64 r.to, .int .i64 r.tn]) : a.spot = none ∧ RuleAt w a.block a.off r := by
 have e : List.range 8 = [0, 1, 2, 3, 4, 5, 6, 7] := rfl
 unfold World.cells? at h
 split at h
 ·rw [e] at h
  simp only [List.mapM_cons, List.mapM_nil, Option.bind_eq_bind, Option.bind_eq_some_iff, Option.pure_def, Option.some.injEq, List.cons.injEq] at h
  obtain ⟨x0, h0, y0, ⟨x1, h1, y1, ⟨x2, h2, y2, ⟨x3, h3, y3, ⟨x4, h4, y4, ⟨x5, h5, y5, ⟨x6, h6, y6, ⟨x7, h7, y7, rfl, e7⟩, e6⟩, e5⟩, e4⟩, e3⟩, e2⟩, e1⟩, e0, ee⟩ := h
  subst e0
  rw [← e1] at ee
  simp only [List.cons.injEq] at ee
  obtain ⟨rfl, ee⟩ := ee
  rw [← e2] at ee
  simp only [List.cons.injEq] at ee
  obtain ⟨rfl, ee⟩ := ee
  rw [← e3] at ee
  simp only [List.cons.injEq] at ee
  obtain ⟨rfl, ee⟩ := ee
  rw [← e4] at ee
  simp only [List.cons.injEq] at ee
  obtain ⟨rfl, ee⟩ := ee
  rw [← e5] at ee
  simp only [List.cons.injEq] at ee
  obtain ⟨rfl, ee⟩ := ee
  rw [← e6] at ee
  simp only [List.cons.injEq] at ee
  obtain ⟨rfl, ee⟩ := ee
  rw [← e7] at ee
  simp only [List.cons.injEq] at ee
  obtain ⟨rfl, _⟩ := ee
  obtain ⟨b, off, spot⟩ := a
  have hspot : spot = none := by simpa [Addr.add] using World.cell?_spot h0
  subst hspot
  simp only [Addr.add] at h0 h1 h2 h3 h4 h5 h6 h7
  exact ⟨rfl, by simpa using h0, by simpa using h1, by simpa using h2, by simpa using h3, by simpa using h4, by simpa using h5, by simpa using h6, by simpa using h7⟩
 ·cases h
instance : Inhabited RuleI := ⟨⟨0, 0, 0, 0, 0, 0, 0, 0⟩⟩
theorem rules_shape {H : Type} {enc : TypeId × Value → H} {w : World} {base : Nat} {spare : Nat → Bool} {held : Bool} {fuel : Nat} {a0 : Option Addr} {len cap : Nat} {x : DataW H × List MemPlace} (h : DataW.trod enc Tryz.prog w base spare held fuel 64 [.slice a0 len cap] = some x) :
  ∃ zs : List RuleI, RulesArg w a0 len zs := by
 rcases Go.Deep.open_slice Tryz.underlying64 h with ⟨hcs, _⟩ | ⟨a, l, c, m, n, D, Pl, hcs, hb, hl, hm, hmm, _, hel⟩
 ·simp at hcs
  obtain ⟨rfl, rfl, rfl⟩ := hcs
  exact ⟨[], ⟨rfl, fun h => by omega⟩, Nat.zero_le _⟩
 ·simp at hcs
  obtain ⟨rfl, rfl, rfl⟩ := hcs
  have hle : len ≤ m := by rw [hmm]; split <;> omega
  rw [Tryz.cells154] at hel
  have hk : ∀ i, i < len → ∃ r : RuleI, w.cells? base (a.add (i * 8)) 8 = some [.int .i64 r.k, .int .i64 r.ho, .int .i64 r.hn, .int .i64 r.w, .int .i64 r.oo, .int .i64 r.on, .int .i64 r.to, .int .i64 r.tn] := fun i hi => by
   obtain ⟨cs', hc, ht⟩ := hel i (by omega)
   obtain ⟨r, rfl⟩ := rule_list ht
   exact ⟨r, hc⟩
  obtain ⟨f, hf⟩ := Go.Deep.choose_lt hk
  refine ⟨(List.range len).map f, ⟨by simp, fun hp => ?_⟩, Nat.le_trans hl hm⟩
  obtain ⟨hsp, _⟩ := cells8 (hf 0 hp)
  obtain ⟨b, off, spot⟩ := a
  simp [Addr.add] at hsp
  subst hsp
  refine ⟨b, off, rfl, fun k r e => ?_⟩
  have hkl : k < len := by
   by_cases q : k < len
   ·exact q
   ·rw [List.getElem?_eq_none (by simp; omega)] at e; cases e
  rw [List.getElem?_map, List.getElem?_range hkl] at e
  simp at e
  subst e
  obtain ⟨_, hr⟩ := cells8 (hf k hkl)
  have : ((⟨b, off, none⟩ : Addr).add (k * 8)) = ⟨b, off + k * 8, none⟩ := Go.WideShapes.add_plain ..
  rw [this] at hr
  exact hr
end

section
open Go.RowKit Go.ChangeShapes Go.WideShapes
theorem cells64St : Tryz.prog.cellsOf 2 = 1 := by kernel_rfl
theorem Tryz.cells78 : Tryz.prog.cellsOf 78 = 5 := by kernel_rfl
theorem listSt {α : Type} {l : List α} (h : l.length = 5) : ∃ c0 c1 c2 c3 c4, l = [c0, c1, c2, c3, c4] := by
 match l, h with
 | [c0, c1, c2, c3, c4], _ => exact ⟨c0, c1, c2, c3, c4, rfl⟩
theorem statement_list {H : Type} {enc : TypeId × Value → H} {w : World} {base : Nat} {spare : Nat → Bool} {held : Bool} {fuel : Nat} {cs : List Value} {x : DataW H × List MemPlace} (h : DataW.trod enc Tryz.prog w base spare held fuel 78 cs = some x) :
  ∃ r : StI, cs = [.int .i64 r.k, .int .i64 r.e, .int .i64 r.f, .int .i64 r.s, .int .i64 r.n] := by
 obtain ⟨xs, n, _, _, hl, hlen, hf⟩ := DataW.trod_struct Tryz.underlying78 h
 rw [Tryz.cells78] at hl
 obtain ⟨c0, c1, c2, c3, c4, rfl⟩ := listSt hl
 obtain ⟨y0, y1, y2, y3, y4, rfl⟩ := listSt hlen
 have h0 := hf 0 _ rfl
 have h1 := hf 1 _ rfl
 have h2 := hf 2 _ rfl
 have h3 := hf 3 _ rfl
 have h4 := hf 4 _ rfl
 simp [cells64St] at h0 h1 h2 h3 h4
 obtain ⟨b0, e0, _, _⟩ := DataW.trod_int Tryz.underlying2 h0
 obtain ⟨b1, e1, _, _⟩ := DataW.trod_int Tryz.underlying2 h1
 obtain ⟨b2, e2, _, _⟩ := DataW.trod_int Tryz.underlying2 h2
 obtain ⟨b3, e3, _, _⟩ := DataW.trod_int Tryz.underlying2 h3
 obtain ⟨b4, e4, _, _⟩ := DataW.trod_int Tryz.underlying2 h4
 simp at e0 e1 e2 e3 e4
 subst e0 e1 e2 e3 e4
 exact ⟨⟨b0, b1, b2, b3, b4⟩, rfl⟩
end

section
open Go.RowKit Go.ChangeShapes Go.WideShapes
def ShArg (w : World) (a : Option Addr) (len : Nat) (zs : List ShI) : Prop := ShIn w a len zs ∧ len ≤ maxLen ∧ ∀ z ∈ zs, (Lit.int .i64 z.r).wf = true
theorem cells64Sh : Tryz.prog.cellsOf 2 = 1 := by kernel_rfl
theorem Tryz.cells80 : Tryz.prog.cellsOf 80 = 6 := by kernel_rfl
theorem listSh {α : Type} {l : List α} (h : l.length = 6) : ∃ c0 c1 c2 c3 c4 c5, l = [c0, c1, c2, c3, c4, c5] := by
 match l, h with
 | [c0, c1, c2, c3, c4, c5], _ => exact ⟨c0, c1, c2, c3, c4, c5, rfl⟩
theorem list2Sh {α : Type} {l : List α} (h : l.length = 2) : ∃ c0 c1, l = [c0, c1] := by
 match l, h with
 | [c0, c1], _ => exact ⟨c0, c1, rfl⟩
theorem share_list {H : Type} {enc : TypeId × Value → H} {w : World} {base : Nat} {spare : Nat → Bool} {held : Bool} {fuel : Nat} {cs : List Value} {x : DataW H × List MemPlace} (h : DataW.trod enc Tryz.prog w base spare held fuel 80 cs = some x) :
  ∃ r : ShI, cs = [.int .i64 r.r, .int .i64 r.k, .int .i64 r.e, .int .i64 r.f, .int .i64 r.s, .int .i64 r.n] ∧ (Lit.int .i64 r.r).wf = true := by
 obtain ⟨xs, n, _, _, hl, hlen, hf⟩ := DataW.trod_struct Tryz.underlying80 h
 rw [Tryz.cells80] at hl
 obtain ⟨c0, c1, c2, c3, c4, c5, rfl⟩ := listSh hl
 obtain ⟨y0, y1, rfl⟩ := list2Sh hlen
 have g0 := hf 0 _ rfl
 have g1 := hf 1 _ rfl
 simp [cells64Sh, Tryz.cells78] at g0 g1
 obtain ⟨b0, e0, _, hwf⟩ := DataW.trod_int Tryz.underlying2 g0
 obtain ⟨b1, e1⟩ := statement_list g1
 simp at e0 e1
 obtain ⟨rfl, rfl, rfl, rfl, rfl⟩ := e1
 subst e0
 exact ⟨⟨b0, b1.k, b1.e, b1.f, b1.s, b1.n⟩, rfl, hwf⟩
theorem cellsSh {w : World} {base : Nat} {a : Addr} {r : ShI} (h : w.cells? base a 6 = some [.int .i64 r.r, .int .i64 r.k, .int .i64 r.e, .int .i64 r.f, .int .i64 r.s, .int .i64 r.n]) : a.spot = none ∧ ShAt w a.block a.off r := by
 have e : List.range 6 = [0, 1, 2, 3, 4, 5] := rfl
 unfold World.cells? at h
 split at h
 ·rw [e] at h
  simp only [List.mapM_cons, List.mapM_nil, Option.bind_eq_bind, Option.bind_eq_some_iff, Option.pure_def, Option.some.injEq, List.cons.injEq] at h
  obtain ⟨x0, h0, y0, ⟨x1, h1, y1, ⟨x2, h2, y2, ⟨x3, h3, y3, ⟨x4, h4, y4, ⟨x5, h5, y5, rfl, e5⟩, e4⟩, e3⟩, e2⟩, e1⟩, e0, ee⟩ := h
  subst e0
  rw [← e1] at ee
  simp only [List.cons.injEq] at ee
  obtain ⟨rfl, ee⟩ := ee
  rw [← e2] at ee
  simp only [List.cons.injEq] at ee
  obtain ⟨rfl, ee⟩ := ee
  rw [← e3] at ee
  simp only [List.cons.injEq] at ee
  obtain ⟨rfl, ee⟩ := ee
  rw [← e4] at ee
  simp only [List.cons.injEq] at ee
  obtain ⟨rfl, ee⟩ := ee
  rw [← e5] at ee
  simp only [List.cons.injEq] at ee
  obtain ⟨rfl, _⟩ := ee
  obtain ⟨b, off, spot⟩ := a
  have hspot : spot = none := by simpa [Addr.add] using World.cell?_spot h0
  subst hspot
  simp only [Addr.add] at h0 h1 h2 h3 h4 h5
  exact ⟨rfl, by simpa using h0, by simpa using h1, by simpa using h2, by simpa using h3, by simpa using h4, by simpa using h5⟩
 ·cases h
theorem shares_shape {H : Type} {enc : TypeId × Value → H} {w : World} {base : Nat} {spare : Nat → Bool} {held : Bool} {fuel : Nat} {a0 : Option Addr} {len cap : Nat} {x : DataW H × List MemPlace} (h : DataW.trod enc Tryz.prog w base spare held fuel 23 [.slice a0 len cap] = some x) :
  ∃ zs : List ShI, ShArg w a0 len zs := by
 rcases Go.Deep.open_slice Tryz.underlying23 h with ⟨hcs, _⟩ | ⟨a, l, c, m, n, D, Pl, hcs, hb, hl, hm, hmm, _, hel⟩
 ·simp at hcs
  obtain ⟨rfl, rfl, rfl⟩ := hcs
  exact ⟨[], ⟨rfl, fun h => by omega⟩, Nat.zero_le _, fun z h => by cases h⟩
 ·simp at hcs
  obtain ⟨rfl, rfl, rfl⟩ := hcs
  have hle : len ≤ m := by rw [hmm]; split <;> omega
  rw [Tryz.cells80] at hel
  have hk : ∀ i, i < len → ∃ r : ShI, w.cells? base (a.add (i * 6)) 6 = some [.int .i64 r.r, .int .i64 r.k, .int .i64 r.e, .int .i64 r.f, .int .i64 r.s, .int .i64 r.n] ∧ (Lit.int .i64 r.r).wf = true := fun i hi => by
   obtain ⟨cs', hc, ht⟩ := hel i (by omega)
   obtain ⟨r, rfl, hwf⟩ := share_list ht
   exact ⟨r, hc, hwf⟩
  obtain ⟨f, hf⟩ := Go.Deep.choose_lt hk
  refine ⟨(List.range len).map f, ⟨by simp, fun hp => ?_⟩, Nat.le_trans hl hm, fun z hz => ?_⟩
  rotate_left 1
  ·obtain ⟨i, hi, rfl⟩ := List.mem_map.1 hz
   exact (hf i (List.mem_range.1 hi)).2
  obtain ⟨hsp, _⟩ := cellsSh (hf 0 hp).1
  obtain ⟨b, off, spot⟩ := a
  simp [Addr.add] at hsp
  subst hsp
  refine ⟨b, off, rfl, fun k r e => ?_⟩
  have hkl : k < len := by
   by_cases q : k < len
   ·exact q
   ·rw [List.getElem?_eq_none (by simp; omega)] at e; cases e
  rw [List.getElem?_map, List.getElem?_range hkl] at e
  simp at e
  subst e
  obtain ⟨_, hr⟩ := cellsSh (hf k hkl).1
  have : ((⟨b, off, none⟩ : Addr).add (k * 6)) = ⟨b, off + k * 6, none⟩ := Go.WideShapes.add_plain ..
  rw [this] at hr
  exact hr
end

def marks (k n : Nat) : List Int := (List.range n).map (fun i => ((k + i : Nat) : Int))
theorem marks_len (k n : Nat) : (marks k n).length = n := by simp [marks]
theorem marks_at (k n j : Nat) (h : j < n) : (marks k n)[j]?.getD 0 = ((k + j : Nat) : Int) := by simp [marks, h]
theorem owns_parts {w : World} {b : Nat} {t : TypeId} {a : Option Addr} {n cap : Nat} {xs : List Value} (h : w.ownsRow b t 1 (.slice a n cap) n xs) :
  xs.length = n ∧ (n = 0 ∨ ∃ g, a = some ⟨g, 0, none⟩) := by
 refine ⟨by simpa using h.1, ?_⟩
 rcases h.2 with ⟨h', h0⟩ | ⟨g, cap', cur, h', _⟩
 ·exact .inl h0
 ·simp at h'; exact .inr ⟨g, h'.1⟩
theorem mark_c (k b : Nat) (a : Option Addr) (n cap : Nat) (xs : List Value) (w : World) (hk : k ≤ 1048576) (hn : n ≤ 1048576) (hown : w.ownsRow b 2 1 (.slice a n cap) n xs) :
  Calls Tryz.prog 48 #[.slice a n cap, .int .i64 (k : Int)] w fun e w' => e = .returned (.int .i64 ((k + n : Nat) : Int)) ∧ w'.ownsRow b 2 1 (.slice a n cap) n ((marks k n).map (Value.int .i64)) ∧ w.grownBy w' (Value.slice a n cap).ownBlock := by
 obtain ⟨hxl, hcase⟩ := owns_parts hown
 have HO : Hid (w.ownsRow b 2 1 (.slice a n cap) n xs) := hown
 have HC : Hid (n = 0 ∨ ∃ g, a = some ⟨g, 0, none⟩) := hcase
 have HX : Hid (xs.length = n) := hxl
 clear hown hcase hxl
 have hn' : (n : Int) ≤ 1048576 := by omega
 have hk' : (k : Int) ≤ 1048576 := by omega
 go_enter Tryz.func48, Tryz.ntmps48
 go_wp2
 go_loopw [1, 5] (fun q i wr => ∃ (j : Nat) (ys : List Value), j ≤ n ∧ i = .int .i64 (j : Int) ∧ q = .int .i64 ((k + j : Nat) : Int) ∧ wr.ownsRow b 2 1 (.slice a n cap) n ys ∧ (∀ m, m < j → ys[m]? = some (.int .i64 ((k + m : Nat) : Int))) ∧ w.grownBy wr (Value.slice a n cap).ownBlock)
  (fun _ i _ => n - (intOf i).toNat)
 case atStart => exact ⟨0, xs, Nat.zero_le _, rfl, rfl, HO.out, fun m hm => by omega, ⟨rfl, rfl, rfl, Nat.le_refl _, fun _ _ _ => rfl⟩⟩
 case round =>
  obtain ⟨j, ys, hj, rfl, rfl, hown, hys, hgr⟩ := hrel
  by_cases hlt : j < n
  ·obtain ⟨g, ha⟩ : ∃ g, a = some ⟨g, 0, none⟩ := by
    rcases HC.out with h | h
    ·omega
    ·exact h
   subst ha
   have hyl := (owns_parts hown).1
   obtain ⟨v0, hco⟩ : ∃ v0, wr.cell? ⟨g, j, none⟩ = some v0 := ⟨_, (hown.cellAt j (by omega)).trans (List.getElem?_eq_getElem (show j < ys.length by omega))⟩
   have hfo := hown.frozenAt j
   have hst := hown.stored j (.int .i64 ((k + j : Nat) : Int))
   have R : Hid ((wr.setCell ⟨g, j, none⟩ (.int .i64 ((k + j : Nat) : Int))).ownsRow b 2 1 (.slice (some ⟨g, 0, none⟩) n cap) n (ys.set j (.int .i64 ((k + j : Nat) : Int))) ∧ (∀ m, m < j + 1 → (ys.set j (.int .i64 ((k + j : Nat) : Int)))[m]? = some (.int .i64 ((k + m : Nat) : Int))) ∧ w.grownBy (wr.setCell ⟨g, j, none⟩ (.int .i64 ((k + j : Nat) : Int))) (some g)) := by
    refine ⟨hst.1, fun m hm => ?_, ⟨hst.2.os.trans hgr.os, hst.2.tape.trans hgr.tape, hst.2.output.trans hgr.output, Nat.le_trans hgr.size hst.2.size, fun q hq hne => (hst.2.block q (Nat.lt_of_lt_of_le hq hgr.size) hne).trans (hgr.block q hq hne)⟩⟩
    by_cases e : m = j
    ·subst e; rw [List.getElem?_set_self (by omega)]
    ·rw [List.getElem?_set_ne (by omega)]; exact hys m (by omega)
   clear hst hown hys hgr hyl
   have hlt' : (j : Int) < (n : Int) := by omega
   go_wp2
   rw [show ((k : Int) + (j : Int)) = ((k + j : Nat) : Int) from by omega]
   exact ⟨⟨j + 1, _, by omega, by go_num, by go_num, R.out.1, R.out.2.1, R.out.2.2⟩, by simp [intOf]; omega⟩
  ·have hjn : j = n := by omega
   subst hjn
   have E : ys = (marks k j).map (Value.int .i64) := by
    apply List.ext_getElem?
    intro i
    have hyl := (owns_parts hown).1
    by_cases hi : i < j
    ·rw [hys i hi]; simp [marks, hi]
    ·rw [List.getElem?_eq_none (by omega), List.getElem?_eq_none (by simp [marks]; omega)]
   rw [E] at hown
   go_wp2
   go_ret
   exact ⟨rfl, hown, hgr⟩
theorem held_c (k : Nat) (a : Option Addr) (n cap : Nat) (w : World) (hk : k ≤ 1048576) (hn : n ≤ 1048576) (hr : RowIn w a n (marks k n)) :
  Calls Tryz.prog 49 #[.slice a n cap, .int .i64 (k : Int)] w fun e w' => e = .returned (.int .i64 ((k + n : Nat) : Int)) ∧ w = w' := by
 have HR : Hid (RowIn w a n (marks k n)) := hr
 clear hr
 have hn' : (n : Int) ≤ 1048576 := by omega
 have hk' : (k : Int) ≤ 1048576 := by omega
 go_enter Tryz.func49, Tryz.ntmps49
 go_wp2
 go_loop [1, 5] (fun q i => ∃ (j : Nat), j ≤ n ∧ i = .int .i64 (j : Int) ∧ q = .int .i64 ((k + j : Nat) : Int)) (fun _ i => n - (intOf i).toNat)
 case atStart => exact ⟨0, Nat.zero_le _, rfl, rfl⟩
 case round =>
  obtain ⟨j, hj, rfl, rfl⟩ := hrel
  by_cases hlt : j < n
  ·obtain ⟨g, off, ha, hc⟩ := HR.out.2 j hlt
   subst ha
   rw [marks_at k n j hlt, show ((k + j : Nat) : Int) = (k : Int) + (j : Int) from by omega] at hc
   have hlt' : (j : Int) < (n : Int) := by omega
   go_wp2
   exact ⟨⟨j + 1, by omega, by go_num, by go_num⟩, by simp [intOf]; omega⟩
  ·have hjn : j = n := by omega
   subst hjn
   go_wp2
   go_ret
   exact ⟨rfl, rfl⟩
theorem row_of_owns {w : World} {b : Nat} {a : Option Addr} {n cap : Nat} {zs : List Int} (h : w.ownsRow b 2 1 (.slice a n cap) n (zs.map (Value.int .i64))) : RowIn w a n zs := by
 obtain ⟨hl, hc⟩ := owns_parts h
 simp at hl
 refine ⟨by omega, fun k hk => ?_⟩
 rcases hc with h0 | ⟨g, rfl⟩
 ·omega
 ·refine ⟨g, 0, rfl, ?_⟩
  rw [Nat.zero_add, h.cellAt k (by omega)]
  simp [List.getElem?_eq_getElem (show k < zs.length by omega)]

end Go.Proofs.YtfkajnenniapaaaGreat
