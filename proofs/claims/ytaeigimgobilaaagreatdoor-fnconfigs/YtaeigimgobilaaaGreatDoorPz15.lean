/-
  CONTRACT: spec.l3Grants: some grants, at most 41.
  Conditions: each contract bears its own.
  CONTRACT: spec.DrawStepGrants.
  Conditions: each contract bears its own.
  CONTRACTS: LocksFault of both programs; how two locks lie (impl.compareLocks, spec.l5Ahead).
  Conditions: each contract bears its own.
  CONTRACTS: LocksFault of both programs.
  Conditions: each contract bears its own.
  CONTRACTS: slices.BinarySearchFunc over locks; FormOf of both programs.
  Conditions: each contract bears its own.
  CONTRACTS: FormOf of both programs.
  Conditions: each contract bears its own.
  CONTRACTS: the draws of forms: spec.l1Chance, spec.l4Draw, spec.l4Bent, spec.l4With.
  Conditions: each contract bears its own.
  CONTRACTS: spec.l4Bent, spec.l4With, spec.DrawSetsOf: some rules and some parts.
  Conditions: each contract bears its own.
  WHAT LIES IN BLOCKS OF ITS OWN, and stays while other blocks are turned: for the laws that hold two programs against each other.
  PLAIN: a row of one's own, read as numbers.
  PLAIN WORDS for the draw of a configuration: what hangs on some blocks alone, the state while it is drawn.
  Conditions: each theorem bears its own.
  CONTRACTS: spec.l6Draw: a configuration is drawn.
  Conditions: each contract bears its own.
-/
import Derived.Test.YtaeigimgobilaaaGreatDoorPz14
import Derived.Test.YtaeigimgobilaaaGreatDoorPz01
import Derived.Test.YtaeigimgobilaaaGreatDoorGr7
import Derived.Test.YtaeigimgobilaaaGreatDoorPz04
import Derived.Deep.RegionHeld3
import Derived.Test.YtaeigimgobilaaaGreatDoorRole1
import Derived.Deep.CutBlock
import Derived.Shelf.Abstract
import Derived.Test.YtaeigimgobilaaaGreatDoorPol0
import Derived.Test.YtaeigimgobilaaaGreatDoorSpec1
import Derived.Below
import Derived.Laws.AppendOwn
import Derived.Test.YtaeigimgobilaaaGreatDoorDc0
import Derived.Deep.DeepCutAuto

namespace Go.Proofs.YtaeigimgobilaaaGreatDoor
open Go.RowKit
set_option linter.unusedVariables false
set_option linter.unusedSimpArgs false

/-- What stands while grants are drawn. -/
structure LG (w wr : World) (B : Nat) (a : Option Addr) (len cap kk : Nat) (ys : List Int) (g n c : Nat) (gs : List GrI) : Prop where
  ow : Own3 wr w.heap.size (.slice (some ⟨g, 0, none⟩) n c) gs
  ln : gs.length = n
  ds : DS w wr B a len cap kk ys
  gw : w.heap.size ≤ g
  gl : g < wr.heap.size

theorem LG.draw {w wr wr' : World} {B : Nat} {a : Option Addr} {len cap kk k' : Nat} {ys : List Int} {g n c : Nat} {gs : List GrI} (h : LG w wr B a len cap kk ys g n c gs) (hB : B < w.heap.size) (hs : SrcAt wr' B a len cap k' ys) (hg : wr.grownBy wr' (some B)) : LG w wr' B a len cap k' ys g n c gs :=
  ⟨World.ownsRow.kept (row := some B) h.ow hg (.inr (by have := h.gw; simp [Value.ownBlock]; omega)), h.ln, h.ds.draw hs hg, h.gw, Nat.lt_of_lt_of_le h.gl hg.size⟩

theorem LG.below {w wr wr' : World} {B : Nat} {a : Option Addr} {len cap kk : Nat} {ys : List Int} {g n c : Nat} {gs : List GrI} (h : LG w wr B a len cap kk ys g n c gs) (hb : Below wr.heap.size wr wr') : LG w wr' B a len cap kk ys g n c gs :=
  ⟨h.ow.below hb, h.ln, ⟨h.ds.src.below hb, grown_trans h.ds.gr (grown_none ⟨hb.os, hb.tape, hb.output, hb.size, fun k hk _ => hb.block k hk⟩ _)⟩, h.gw, Nat.lt_of_lt_of_le h.gl hb.size⟩

theorem LG.size {w wr : World} {B : Nat} {a : Option Addr} {len cap kk : Nat} {ys : List Int} {g n c : Nat} {gs : List GrI} (h : LG w wr B a len cap kk ys g n c gs) : w.heap.size ≤ wr.heap.size := Nat.le_of_lt (Nat.lt_of_le_of_lt h.gw h.gl)

/-- Other grants, new, behind something that only adds memory. -/
theorem LG.turn {w wr wr' : World} {B : Nat} {a : Option Addr} {len cap kk : Nat} {ys : List Int} {g n c g' n' c' : Nat} {gs gs' : List GrI} (h : LG w wr B a len cap kk ys g n c gs) (hb : Below wr.heap.size wr wr') (ho : Own3 wr' w.heap.size (.slice (some ⟨g', 0, none⟩) n' c') gs') (hl : gs'.length = n') : LG w wr' B a len cap kk ys g' n' c' gs' :=
  ⟨ho, hl, (h.below hb).ds, (World.ownsRow.lt ho g' (by simp [Value.ownBlock])).1, (World.ownsRow.lt ho g' (by simp [Value.ownBlock])).2⟩

theorem rules_gr {w wx : World} {a : Option Addr} {m B : Nat} {zs : List RuleI} (h : RulesIn w a m zs) (hg : w.grownBy wx (some B)) (hne : ∀ b off, a = some ⟨b, off, none⟩ → m = 0 ∨ b ≠ B) : RulesIn wx a m zs := by
  refine ⟨h.1, fun hp => ?_⟩
  obtain ⟨b, off, e, hr⟩ := h.2 hp
  have hb : b ≠ B := by
    rcases hne b off e with q | q
    · omega
    · exact q
  refine ⟨b, off, e, fun k r hk => ?_⟩
  have hx : ∀ (o : Nat) (u : Value), w.cell? ⟨b, o, none⟩ = some u → wx.cell? ⟨b, o, none⟩ = some u := fun o u hu => hg.cell hu (by simpa using hb)
  obtain ⟨h0, h1, h2, h3, h4, h5, h6, h7⟩ := hr k r hk
  exact ⟨hx _ _ h0, hx _ _ h1, hx _ _ h2, hx _ _ h3, hx _ _ h4, hx _ _ h5, hx _ _ h6, hx _ _ h7⟩

theorem made41 : (madeCells (Value.cells (.agg #[.int .i64 0, .int .i64 0, .int .i64 0])) (41 * 3)).toList = flat3 (List.replicate 41 ((0, 0), 0)) := by kernel_rfl

/-- One more grant behind an append. -/
theorem LG.next {w wr w' : World} {B : Nat} {a : Option Addr} {len cap kk : Nat} {ys : List Int} {g n c : Nat} {gs : List GrI} {x : GrI} {o : Obj} {v' : Value} (h : LG w wr B a len cap kk ys g n c gs) (hcode : ∀ b off, a = some ⟨b, off, none⟩ → len = 0 ∨ b < w.heap.size) (hB : B < w.heap.size)
    (hown : w'.ownsRow w.heap.size 154 3 v' (n + 1) (flat3 gs ++ flat3 [x])) (hg : (wr.alloc o).grownBy w' (Value.ownBlock (.slice (some ⟨g, 0, none⟩) n c))) (hn : v' ≠ .slice none 0 0) :
    ∃ g' c', v' = .slice (some ⟨g', 0, none⟩) (n + 1) c' ∧ LG w w' B a len cap kk ys g' (n + 1) c' (gs ++ [x]) := by
  have hl : (gs ++ [x]).length = n + 1 := by rw [List.length_append, h.ln]; rfl
  have how : Own3 w' w.heap.size v' (gs ++ [x]) := by unfold Own3; rw [hl, flat3_append]; exact hown
  obtain ⟨g', c', e⟩ := how.shape hn
  rw [hl] at e
  subst e
  have hlt := hown.lt g' (by simp [Value.ownBlock])
  have hg' : (wr.alloc o).grownBy w' (some g) := hg
  have ds1 := h.ds.alloc o
  refine ⟨g', c', rfl, how, hl, ⟨ds1.src.kept hg' (by have := h.gw; simp; omega) (fun b off e => (hcode b off e).imp id (fun q => by have := h.gw; simp; omega)), ⟨hg'.os.trans ds1.gr.os, hg'.tape.trans ds1.gr.tape, hg'.output.trans ds1.gr.output, Nat.le_trans ds1.gr.size hg'.size, fun i hi hne => ?_⟩⟩, hlt.1, hlt.2⟩
  rw [hg'.block i (Nat.lt_of_lt_of_le hi ds1.gr.size) (by have := h.gw; simp; omega)]
  exact ds1.gr.block i hi hne

theorem pick_lg (w wx : World) (B : Nat) (a : Option Addr) (len cap kk : Nat) (ys : List Int) (g n c : Nat) (gs : List GrI) (h : LG w wx B a len cap kk ys g n c gs) (hB : B < w.heap.size) (hl : len ≤ 1048576) (hk : kk ≤ 900) (m : Nat) (xs : List Int) (hxs : xs.length = m) (hm : 1 ≤ m) (hm2 : m ≤ 100) (t : TypeId) :
    Calls Tryz.prog 18 #[.pointer (some ⟨B, 0, none⟩), .slice (some ⟨wx.heap.size, 0, none⟩) m m] (wx.alloc (.cells (xs.map (Value.int .i64)).toArray t)) fun e w' => ∃ v : Int, e = .returned (.int .i64 v) ∧ LG w w' B a len cap (kk + 1) ys g n c gs := by
  have hA := h.below ((Below.refl _ _).alloc (Nat.le_refl _) (.cells (xs.map (Value.int .i64)).toArray t))
  have hBl := h.ds.src.lt
  refine (pick_c _ B a len cap kk ys hA.ds.src hl (by omega) wx.heap.size m m xs hxs hm hm2 (by omega) (fun j hj => ?_)).mono ?_
  · have hb := heap_alloc_new wx (.cells (xs.map (Value.int .i64)).toArray t)
    rw [cell_of_row _ _ j _ t (0, 0) hb]
    simp [List.getElem?_eq_getElem (show j < xs.length by omega)]
  · rintro e w' ⟨j, hj, rfl, hS, hG⟩
    exact ⟨_, rfl, hA.draw hB hS hG⟩

end Go.Proofs.YtaeigimgobilaaaGreatDoor

namespace Go.Proofs.YtaeigimgobilaaaGreatDoor
open Go.RowKit
set_option linter.unusedVariables false
set_option linter.unusedSimpArgs false

theorem own8_cap {w : World} {B g n cap : Nat} {zs : List RuleI} (hn : zs.length = n) (h : Own8 w B (.slice (some ⟨g, 0, none⟩) n cap) zs) : n ≤ cap ∧ cap ≤ maxLen := by
  have h0 : w.ownsRow B 68 8 (.slice (some ⟨g, 0, none⟩) n cap) zs.length (flatR zs) := h
  rcases h0.2 with ⟨h', _⟩ | ⟨g', cap', cur, h', hb, hg, hc, hm, _⟩
  · simp at h'
  · simp at h'
    obtain ⟨_, _, rfl⟩ := h'
    exact ⟨by omega, hm⟩

end Go.Proofs.YtaeigimgobilaaaGreatDoor

namespace Go.Proofs.YtaeigimgobilaaaGreatDoor
open Go.RowKit
set_option linter.unusedVariables false
set_option linter.unusedSimpArgs false

theorem LkAt.new (w : World) (x : LkI) (t : TypeId) : LkAt (w.alloc (.cells #[.int .i64 x.e, .int .i64 x.c, .int .i64 x.p, .int .i64 x.f] t)) w.heap.size 0 x := ⟨by simp, by simp, by simp, by simp⟩

/-- Three cells of each of two locks stand. -/
def Six (w : World) (b : Nat) (x y : LkI) : Prop := (w.cell? ⟨b, 0, none⟩ = some (.int .i64 x.e) ∧ w.cell? ⟨b, 1, none⟩ = some (.int .i64 x.c) ∧ w.cell? ⟨b, 2, none⟩ = some (.int .i64 x.p)) ∧ (w.cell? ⟨b + 1, 0, none⟩ = some (.int .i64 y.e) ∧ w.cell? ⟨b + 1, 1, none⟩ = some (.int .i64 y.c) ∧ w.cell? ⟨b + 1, 2, none⟩ = some (.int .i64 y.p))

end Go.Proofs.YtaeigimgobilaaaGreatDoor

namespace Go.Proofs.YtaeigimgobilaaaGreatDoor
open Go.RowKit
set_option linter.unusedVariables false
set_option linter.unusedSimpArgs false

theorem prevL_of {gs : List LkI} {j : Nat} {x y : LkI} (h : gs[j]? = some y) : prevL gs (j + 1) x = ltL y x := by simp [prevL, h]

theorem lk_three {gs : List LkI} {k n : Nat} {x : LkI} {c : Int} (hc : lkTo gs n = c) (hn : lkTo gs (k + 1) = lkOne gs k x) (hk : k < n) (h : okL x = false) : c = 3 :=
  hc.symm.trans (lkTo_stay gs (k + 1) n 3 (by decide) (by rw [hn]; simp [lkOne, h]) (by omega))

end Go.Proofs.YtaeigimgobilaaaGreatDoor

namespace Go.Proofs.YtaeigimgobilaaaGreatDoor
open Go.RowKit
set_option linter.unusedVariables false
set_option linter.unusedSimpArgs false

theorem cut_lo {gs : List LkI} (hs : SL gs) {m : Nat} {x t : LkI} (hx : gs[m]? = some x) (h : ltL x t = true) : ∀ (k : Nat) (y : LkI), k < m + 1 → gs[k]? = some y → ltL y t = true := by
  intro k y hk hy
  by_cases e : k = m
  · subst e
    rw [hx] at hy
    cases hy
    exact h
  · have hm : m < gs.length := by
      by_cases q : m < gs.length
      · exact q
      · rw [List.getElem?_eq_none (by omega)] at hx; cases hx
    have h1 := List.pairwise_iff_getElem.1 hs k m (by omega) hm (by omega)
    rw [List.getElem?_eq_getElem hm] at hx
    rw [List.getElem?_eq_getElem (by omega)] at hy
    rw [Option.some.inj hx, Option.some.inj hy] at h1
    exact ltL_trans h1 h

theorem cut_hi {gs : List LkI} (hs : SL gs) {m : Nat} {x t : LkI} (hx : gs[m]? = some x) (h : ltL x t = false) : ∀ (k : Nat) (y : LkI), m ≤ k → gs[k]? = some y → ltL y t = false := by
  intro k y hk hy
  by_cases e : k = m
  · subst e
    rw [hx] at hy
    cases hy
    exact h
  · have hk2 : k < gs.length := by
      by_cases q : k < gs.length
      · exact q
      · rw [List.getElem?_eq_none (by omega)] at hy; cases hy
    have h1 := List.pairwise_iff_getElem.1 hs m k (by omega) hk2 (by omega)
    rw [List.getElem?_eq_getElem (by omega)] at hx
    rw [List.getElem?_eq_getElem hk2] at hy
    rw [Option.some.inj hx, Option.some.inj hy] at h1
    cases q : ltL y t
    · rfl
    · rw [ltL_trans h1 q] at h; cases h

def GivesF (f : Nat) (a : Option Addr) (n cap : Nat) (ep cl pr c v : Int) (w : World) : Prop := Calls Tryz.prog f #[.slice a n cap, .int .i64 ep, .int .i64 cl, .int .i64 pr] w fun e w' => e = .returned (.agg #[.int .i64 c, .int .i64 v]) ∧ Below w.heap.size w w'

/-- Where a lock would stand, and whether one stands there. -/
def Found (gs : List LkI) (t : LkI) (w : World) (e : Ending) (w' : World) : Prop := ∃ (i : Nat) (b : Bool), e = .returned (.tuple #[.int .i64 (i : Int), .bool b]) ∧ CutAt gs t i ∧ (b = true ↔ ∃ x, gs[i]? = some x ∧ cfL x t = 0) ∧ Below w.heap.size w w'

end Go.Proofs.YtaeigimgobilaaaGreatDoor

namespace Go.Proofs.YtaeigimgobilaaaGreatDoor
open Go.RowKit
set_option linter.unusedVariables false
set_option linter.unusedSimpArgs false

/-- A result's two cells. -/
def ResBox (w : World) (B : Nat) (u v : Value) : Prop := w.cell? ⟨B, 0, none⟩ = some u ∧ w.cell? ⟨B, 1, none⟩ = some v ∧ w.frozen? ⟨B, 0, none⟩ = false ∧ w.frozen? ⟨B, 1, none⟩ = false ∧ B < w.heap.size

theorem ResBox.below {w w' : World} {B : Nat} {u v : Value} (h : ResBox w B u v) (hb : Below w.heap.size w w') : ResBox w' B u v :=
  ⟨(hb.cell (p := ⟨B, 0, none⟩) h.2.2.2.2).trans h.1, (hb.cell (p := ⟨B, 1, none⟩) h.2.2.2.2).trans h.2.1, (hb.frozen (p := ⟨B, 0, none⟩) h.2.2.2.2).trans h.2.2.1, (hb.frozen (p := ⟨B, 1, none⟩) h.2.2.2.2).trans h.2.2.2.1, Nat.lt_of_lt_of_le h.2.2.2.2 hb.size⟩

theorem ResBox.new (w : World) (u v : Value) (t : TypeId) : ResBox (w.alloc (.cells #[u, v] t)) w.heap.size u v := ⟨by simp, by simp, by simp [go_sem], by simp [go_sem], by simp⟩

def fCode (gs : List LkI) (e c p : Int) : Int := if lkCode gs = 0 then (if formL gs e c p = 0 then 4 else 0) else lkCode gs
def fVal (gs : List LkI) (e c p : Int) : Int := if lkCode gs = 0 then formL gs e c p else 0

theorem found_form {gs : List LkI} (hk : lkCode gs = 0) {t : LkI} {i : Nat} {b : Bool} (h : CutAt gs t i) (hb : b = true ↔ ∃ x, gs[i]? = some x ∧ cfL x t = 0) : (b = false ∧ formL gs t.e t.c t.p = 0) ∨ (b = true ∧ ∃ x, gs[i]? = some x ∧ formL gs t.e t.c t.p = x.f ∧ x.f ≠ 0) := by
  have hf := parts_form (lk_ok hk).2.1 h
  cases b
  · refine .inl ⟨rfl, ?_⟩
    rw [hf]
    cases hi : gs[i]? with
    | none => rfl
    | some x =>
      show (if cfL x t = 0 then x.f else 0) = 0
      rw [if_neg]
      intro q
      have := hb.2 ⟨x, hi, q⟩
      cases this
  · obtain ⟨x, hx, q⟩ := hb.1 rfl
    refine .inr ⟨rfl, x, hx, ?_, ?_⟩
    · rw [hf, hx]
      show (if cfL x t = 0 then x.f else 0) = x.f
      rw [if_pos q]
    · have := (lk_ok hk).2.2 x (List.mem_of_getElem? hx)
      simp [okL, inR] at this
      omega

end Go.Proofs.YtaeigimgobilaaaGreatDoor

namespace Go.Proofs.YtaeigimgobilaaaGreatDoor
open Go.RowKit
set_option linter.unusedVariables false
set_option linter.unusedSimpArgs false

def rowP (p : PartI) : List Value := [.int .i64 p.k, .int .i64 p.ro, .int .i64 p.rn, .int .i64 p.l, .int .i64 p.r]

def flatP : List PartI → List Value
  | [] => []
  | p :: ps => .int .i64 p.k :: .int .i64 p.ro :: .int .i64 p.rn :: .int .i64 p.l :: .int .i64 p.r :: flatP ps

theorem flatP_append (a b : List PartI) : flatP (a ++ b) = flatP a ++ flatP b := by
  induction a with
  | nil => rfl
  | cons p ps ih => simp [flatP, ih]

theorem flatP_len (a : List PartI) : (flatP a).length = a.length * 5 := by
  induction a with
  | nil => rfl
  | cons p ps ih => simp [flatP, ih]; omega

theorem flatP_at : ∀ (a : List PartI) (k : Nat) (p : PartI), a[k]? = some p → ∀ j u, (rowP p)[j]? = some u → (flatP a)[k * 5 + j]? = some u
  | [], _, _, h => by simp at h
  | q :: qs, 0, p, h => by
    simp at h
    subst h
    intro j u hj
    rw [Nat.zero_mul, Nat.zero_add]
    have hl : j < 5 := by
      by_cases c : j < 5
      · exact c
      · rw [List.getElem?_eq_none (by simp [rowP]; omega)] at hj; cases hj
    have e : flatP (q :: qs) = rowP q ++ flatP qs := rfl
    rw [e, List.getElem?_append_left (by simpa [rowP] using hl)]
    exact hj
  | q :: qs, k + 1, p, h => by
    intro j u hj
    have := flatP_at qs k p (by simpa using h) j u hj
    have e : flatP (q :: qs) = rowP q ++ flatP qs := rfl
    have hl5 : (rowP q).length = 5 := rfl
    rw [e, List.getElem?_append_right (by rw [hl5]; omega), hl5, show (k + 1) * 5 + j - 5 = k * 5 + j by omega]
    exact this

theorem flatP_cells (a : List PartI) : ∀ u ∈ flatP a, u.oneCell' = true := by
  induction a with
  | nil => simp [flatP]
  | cons p ps ih =>
    intro u hu
    simp only [flatP, List.mem_cons] at hu
    rcases hu with rfl | rfl | rfl | rfl | rfl | hu
    all_goals first | rfl | exact ih _ hu

/-- A slice of parts that is new since B. -/
def OwnP (w : World) (B : Nat) (v : Value) (zs : List PartI) : Prop := w.ownsRow B 104 5 v zs.length (flatP zs)

theorem OwnP.shape {w : World} {B : Nat} {v : Value} {zs : List PartI} (h : OwnP w B v zs) (hv : v ≠ .slice none 0 0) : ∃ g cap, v = .slice (some ⟨g, 0, none⟩) zs.length cap := by
  have h0 : w.ownsRow B 104 5 v zs.length (flatP zs) := h
  rcases h0.2 with ⟨h', _⟩ | ⟨g, cap, cur, h', _⟩
  · exact absurd h' hv
  · exact ⟨g, cap, h'⟩

theorem OwnP.read {w : World} {B g n cap : Nat} {zs : List PartI} (hn : zs.length = n) (h : OwnP w B (.slice (some ⟨g, 0, none⟩) n cap) zs) : PartsIn w (some ⟨g, 0, none⟩) n zs := by
  subst hn
  have h0 : w.ownsRow B 104 5 (.slice (some ⟨g, 0, none⟩) zs.length cap) zs.length (flatP zs) := h
  have hc : ∀ j u, (flatP zs)[j]? = some u → w.cell? ⟨g, j, none⟩ = some u := by
    intro j u hj
    have hl : j < zs.length * 5 := by
      by_cases c : j < zs.length * 5
      · exact c
      · rw [List.getElem?_eq_none (by rw [flatP_len]; omega)] at hj; cases hj
    exact (h0.cellAt j hl).trans hj
  refine ⟨rfl, fun _ => ⟨g, 0, rfl, fun k x hx => ?_⟩⟩
  rw [Nat.zero_add]
  have f := flatP_at zs k x hx
  exact ⟨hc _ _ (f 0 _ rfl), hc _ _ (f 1 _ rfl), hc _ _ (f 2 _ rfl), hc _ _ (f 3 _ rfl), hc _ _ (f 4 _ rfl)⟩

theorem OwnP.below {w w' : World} {B : Nat} {v : Value} {zs : List PartI} (h : OwnP w B v zs) (hb : Below w.heap.size w w') : OwnP w' B v zs :=
  World.ownsRow.kept (row := none) h ⟨hb.os, hb.tape, hb.output, hb.size, fun k hk _ => hb.block k hk⟩ (by cases v.ownBlock <;> simp)

theorem ownP_cap {w : World} {B g n cap : Nat} {zs : List PartI} (hn : zs.length = n) (h : OwnP w B (.slice (some ⟨g, 0, none⟩) n cap) zs) : n ≤ cap ∧ cap ≤ maxLen := by
  have h0 : w.ownsRow B 104 5 (.slice (some ⟨g, 0, none⟩) n cap) zs.length (flatP zs) := h
  rcases h0.2 with ⟨h', _⟩ | ⟨g', cap', cur, h', hb, hg, hc, hm, _⟩
  · simp at h'
  · simp at h'
    obtain ⟨_, _, rfl⟩ := h'
    exact ⟨by omega, hm⟩

theorem cell_newP (W : World) (x : PartI) (T : TypeId) : ∀ j u, (rowP x)[j]? = some u → (W.alloc (.cells #[.int .i64 x.k, .int .i64 x.ro, .int .i64 x.rn, .int .i64 x.l, .int .i64 x.r] T)).cell? ((⟨W.heap.size, 0, none⟩ : Addr).add j) = some u := by
  intro j u hj
  match j, hj with
  | 0, hj => simp [rowP] at hj; subst hj; simp [Addr.add]
  | 1, hj => simp [rowP] at hj; subst hj; simp [Addr.add]
  | 2, hj => simp [rowP] at hj; subst hj; simp [Addr.add]
  | 3, hj => simp [rowP] at hj; subst hj; simp [Addr.add]
  | 4, hj => simp [rowP] at hj; subst hj; simp [Addr.add]

/-- What stands while parts are drawn. -/
structure LM (w wr : World) (B : Nat) (a : Option Addr) (len cap kk : Nat) (ys : List Int) (g n c : Nat) (ps : List PartI) : Prop where
  ow : OwnP wr w.heap.size (.slice (some ⟨g, 0, none⟩) n c) ps
  ln : ps.length = n
  ds : DS w wr B a len cap kk ys
  gw : w.heap.size ≤ g
  gl : g < wr.heap.size

theorem LM.draw {w wr wr' : World} {B : Nat} {a : Option Addr} {len cap kk k' : Nat} {ys : List Int} {g n c : Nat} {ps : List PartI} (h : LM w wr B a len cap kk ys g n c ps) (hB : B < w.heap.size) (hs : SrcAt wr' B a len cap k' ys) (hg : wr.grownBy wr' (some B)) : LM w wr' B a len cap k' ys g n c ps :=
  ⟨World.ownsRow.kept (row := some B) h.ow hg (.inr (by have := h.gw; simp [Value.ownBlock]; omega)), h.ln, h.ds.draw hs hg, h.gw, Nat.lt_of_lt_of_le h.gl hg.size⟩

theorem LM.below {w wr wr' : World} {B : Nat} {a : Option Addr} {len cap kk : Nat} {ys : List Int} {g n c : Nat} {ps : List PartI} (h : LM w wr B a len cap kk ys g n c ps) (hb : Below wr.heap.size wr wr') : LM w wr' B a len cap kk ys g n c ps :=
  ⟨h.ow.below hb, h.ln, ⟨h.ds.src.below hb, grown_trans h.ds.gr (grown_none ⟨hb.os, hb.tape, hb.output, hb.size, fun k hk _ => hb.block k hk⟩ _)⟩, h.gw, Nat.lt_of_lt_of_le h.gl hb.size⟩

theorem LM.size {w wr : World} {B : Nat} {a : Option Addr} {len cap kk : Nat} {ys : List Int} {g n c : Nat} {ps : List PartI} (h : LM w wr B a len cap kk ys g n c ps) : w.heap.size ≤ wr.heap.size := Nat.le_of_lt (Nat.lt_of_le_of_lt h.gw h.gl)

/-- Something behind a block of its own that is new and no one's. -/
theorem LM.other {w wr wr' : World} {B q : Nat} {a : Option Addr} {len cap kk : Nat} {ys : List Int} {g n c : Nat} {ps : List PartI} (h : LM w wr B a len cap kk ys g n c ps) (hcode : ∀ b off, a = some ⟨b, off, none⟩ → len = 0 ∨ b < w.heap.size) (hB : B < w.heap.size) (hg : wr.grownBy wr' (some q)) (hq : w.heap.size ≤ q) (hne : q ≠ g) : LM w wr' B a len cap kk ys g n c ps := by
  refine ⟨World.ownsRow.kept (row := some q) h.ow hg (.inr (by simp [Value.ownBlock]; omega)), h.ln, ⟨h.ds.src.kept hg (by simp; omega) (fun b off e => (hcode b off e).imp id (fun k => by simp; omega)), ⟨hg.os.trans h.ds.gr.os, hg.tape.trans h.ds.gr.tape, hg.output.trans h.ds.gr.output, Nat.le_trans h.ds.gr.size hg.size, fun i hi hne2 => ?_⟩⟩, h.gw, Nat.lt_of_lt_of_le h.gl hg.size⟩
  rw [hg.block i (Nat.lt_of_lt_of_le hi h.ds.gr.size) (by simp; omega)]
  exact h.ds.gr.block i hi hne2

/-- One more part behind an append. -/
theorem LM.next {w wr w' : World} {B : Nat} {a : Option Addr} {len cap kk : Nat} {ys : List Int} {g n c : Nat} {ps : List PartI} {x : PartI} {o : Obj} {v' : Value} (h : LM w wr B a len cap kk ys g n c ps) (hcode : ∀ b off, a = some ⟨b, off, none⟩ → len = 0 ∨ b < w.heap.size) (hB : B < w.heap.size)
    (hown : w'.ownsRow w.heap.size 104 5 v' (n + 1) (flatP ps ++ rowP x)) (hg : (wr.alloc o).grownBy w' (Value.ownBlock (.slice (some ⟨g, 0, none⟩) n c))) (hn : v' ≠ .slice none 0 0) :
    ∃ g' c', v' = .slice (some ⟨g', 0, none⟩) (n + 1) c' ∧ LM w w' B a len cap kk ys g' (n + 1) c' (ps ++ [x]) := by
  have hl : (ps ++ [x]).length = n + 1 := by rw [List.length_append, h.ln]; rfl
  have how : OwnP w' w.heap.size v' (ps ++ [x]) := by unfold OwnP; rw [hl, flatP_append]; exact hown
  obtain ⟨g', c', e⟩ := how.shape hn
  rw [hl] at e
  subst e
  have hlt := hown.lt g' (by simp [Value.ownBlock])
  have hg' : (wr.alloc o).grownBy w' (some g) := hg
  have ds1 := h.ds.alloc o
  refine ⟨g', c', rfl, how, hl, ⟨ds1.src.kept hg' (by have := h.gw; simp; omega) (fun b off e => (hcode b off e).imp id (fun q => by have := h.gw; simp; omega)), ⟨hg'.os.trans ds1.gr.os, hg'.tape.trans ds1.gr.tape, hg'.output.trans ds1.gr.output, Nat.le_trans ds1.gr.size hg'.size, fun i hi hne => ?_⟩⟩, hlt.1, hlt.2⟩
  rw [hg'.block i (Nat.lt_of_lt_of_le hi ds1.gr.size) (by have := h.gw; simp; omega)]
  exact ds1.gr.block i hi hne

theorem ResBox.grown {w w' : World} {B q : Nat} {u v : Value} (h : ResBox w B u v) (hg : w.grownBy w' (some q)) (hne : B ≠ q) : ResBox w' B u v := by
  have hb := hg.block B h.2.2.2.2 (by simp [hne])
  refine ⟨hg.cell h.1 (by simp [hne]), hg.cell h.2.1 (by simp [hne]), ?_, ?_, Nat.lt_of_lt_of_le h.2.2.2.2 hg.size⟩
  · have := h.2.2.1
    unfold World.frozen? at this ⊢
    simp only at this ⊢
    rw [hb]
    exact this
  · have := h.2.2.2.1
    unfold World.frozen? at this ⊢
    simp only at this ⊢
    rw [hb]
    exact this

theorem ResBox.put {w : World} {B : Nat} {u v : Value} (h : ResBox w B u v) (u' v' : Value) : ResBox ((w.setCell ⟨B, 0, none⟩ u').setCell ⟨B, 1, none⟩ v') B u' v' := by
  obtain ⟨c0, c1, f0, f1, hl⟩ := h
  exact ⟨by simp [go_sem, c0, c1], by simp [go_sem, c0, c1], by simpa only [World.frozen?_setCell] using f0, by simpa only [World.frozen?_setCell] using f1, by simpa only [World.size_setCell] using hl⟩

/-- What a chance gives. -/
def ChanceP (w : World) (B : Nat) (a : Option Addr) (len cap k : Nat) (ys : List Int) (e : Ending) (w' : World) : Prop := ∃ t : Bool, e = .returned (.bool t) ∧ SrcAt w' B a len cap (k + 1) ys ∧ w.grownBy w' (some B)

set_option maxHeartbeats 400000 in
theorem chance_c (w : World) (B : Nat) (a : Option Addr) (len cap k : Nat) (ys : List Int) (n : Int) (h : SrcAt w B a len cap k ys) (hl : len ≤ 1048576) (hk : k ≤ 1000) (n1 : 1 ≤ n) (n2 : n ≤ 1048576) :
    Calls Tryz.prog 20 #[.pointer (some ⟨B, 0, none⟩), .int .i64 n] w fun e w' => ChanceP w B a len cap k ys e w' := by
  have H : Hid (SrcAt w B a len cap k ys) := h
  clear h
  go_enter Tryz.func20, Tryz.ntmps20
  go_wp2_with fail
  refine (next_c _ B a len cap k ys n H.out hl hk n1 n2).mono ?_
  rintro e w1 ⟨v, v0, v1, rfl, hS, hG⟩
  go_wp2
  go_ret
  exact ⟨_, rfl, hS, hG⟩

theorem grownBy_setCell2 (W : World) (B o : Nat) (u : Value) : W.grownBy (W.setCell ⟨B, o, none⟩ u) (some B) := grown_set W B o u

set_option maxRecDepth 100000 in
set_option maxHeartbeats 4000000 in
theorem form_c (w : World) (B : Nat) (a : Option Addr) (len cap k0 : Nat) (ys : List Int) (a' : Option Addr) (m d : Nat) (zs : List RuleI) (h : SrcAt w B a len cap k0 ys) (hl : len ≤ 1048576) (hk0 : k0 ≤ 700) (hm : m ≤ 1000) (hr : RulesIn w a' m zs) (hne : ∀ b off, a' = some ⟨b, off, none⟩ → m = 0 ∨ b ≠ B) :
    Calls Tryz.prog 72 #[.pointer (some ⟨B, 0, none⟩), .slice a' m d] w fun e w' => ∃ (g n c kk : Nat) (ps : List PartI), e = .returned (.slice (some ⟨g, 0, none⟩) n c) ∧ n ≤ 6 ∧ kk ≤ k0 + 30 ∧ LM w w' B a len cap kk ys g n c ps := by
  have hB := h.lt
  have HCode : Hid (∀ b off, a = some ⟨b, off, none⟩ → len = 0 ∨ b < w.heap.size) := h.code_lt
  have HR : Hid (RulesIn w a' m zs) := hr
  have HNE : Hid (∀ b off, a' = some ⟨b, off, none⟩ → m = 0 ∨ b ≠ B) := hne
  have D0 : Hid (DS w (w.alloc (.cells #[] 104)) B a len cap k0 ys) := (DS.start h).alloc _
  have O0 : Hid (OwnP (w.alloc (.cells #[] 104)) w.heap.size (.slice (some ⟨w.heap.size, 0, none⟩) 0 0) []) := World.ownsRow_lit (base := w.heap.size) (e := 104) (size := 5) w #[] 0 (Nat.le_refl _) (Nat.zero_le _) rfl
  obtain ⟨i0, hi, hz0, hz1, hz2⟩ := info_parts Tryz.info104
  have hun : Tryz.prog.underlying 40 = some (.slice 104) := by kernel_rfl
  have hm' : (m : Int) ≤ 1000 := by omega
  clear h hr hne
  go_enter Tryz.func72, Tryz.ntmps72
  go_wp2_with fail
  refine (next_c _ B a len cap k0 ys 3 D0.out.src hl (by omega) (by omega) (by omega)).mono ?_
  rintro e w1 ⟨v1, x0, x1, rfl, hS1, hG1⟩
  have D1 : Hid (DS w w1 B a len cap (k0 + 1) ys) := D0.out.draw hS1 hG1
  have hz1' : w.heap.size < w1.heap.size := by have := hG1.size; simp at this; omega
  have O1 : Hid (OwnP w1 w.heap.size (.slice (some ⟨w.heap.size, 0, none⟩) 0 0) []) := World.ownsRow.kept (row := some B) O0.out hG1 (.inr (by simp [Value.ownBlock]; omega))
  obtain ⟨r1, rfl⟩ := Int.eq_ofNat_of_zero_le x0
  clear hS1 hG1 D0 O0
  go_wp2_with fail
  go_loopw [5, 6] (fun v i wr => ∃ (g n c kk r : Nat) (ps : List PartI), v = .slice (some ⟨g, 0, none⟩) n c ∧ i = .int .i64 (r : Int) ∧ n + r ≤ 3 ∧ kk + 4 * r ≤ k0 + 13 ∧ 1 ≤ n + r ∧ Hid (LM w wr B a len cap kk ys g n c ps)) (fun _ i _ => (intOf i).toNat)
  case atStart => exact ⟨_, 0, 0, k0 + 1, r1 + 1, [], rfl, by simp; omega, by omega, by omega, by omega, O1.out, rfl, D1.out, Nat.le_refl _, hz1'⟩
  case round =>
    obtain ⟨g, n, c, kk, r, ps, rfl, rfl, hnr, hkr, hn1, HL⟩ := hrel
    by_cases hr : 0 < r
    · have hr' : (0 : Int) < (r : Int) := by omega
      go_wp2_with fail
      refine (drawRole_c _ B a len cap kk ys HL.out.ds.src hl (by omega)).mono ?_
      rintro e w2 ⟨o, nm, _, rfl, hS2, hG2⟩
      have HL2 : Hid (LM w w2 B a len cap (kk + 2) ys g n c ps) := HL.out.draw hB hS2 hG2
      have hA2 : Below w2.heap.size w2 (w2.alloc (.cells #[.int .i64 o, .int .i64 nm] 66)) := (Below.refl _ _).alloc (Nat.le_refl _) _
      have HL3 : Hid (LM w (w2.alloc (.cells #[.int .i64 o, .int .i64 nm] 66)) B a len cap (kk + 2) ys g n c ps) := HL2.out.below hA2
      have HX3 : Hid (ResBox (w2.alloc (.cells #[.int .i64 o, .int .i64 nm] 66)) w2.heap.size (.int .i64 o) (.int .i64 nm)) := ResBox.new _ _ _ _
      have hq1 : w.heap.size ≤ w2.heap.size := HL2.out.size
      have hq2 : g < w2.heap.size := HL2.out.gl
      clear hS2 hG2 HL hA2 HL2
      go_upto_region 6 with fail
      generalize w2.alloc (.cells #[.int .i64 o, .int .i64 nm] 66) = w3 at HL3 HX3 ⊢
      by_cases hm0 : 0 < m
      · have hm0' : (0 : Int) < (m : Int) := by omega
        go_wp2_with fail
        refine (chance_c _ B a len cap (kk + 2) ys 4 HL3.out.ds.src hl (by omega) (by omega) (by omega)).mono ?_
        rintro e w4 ⟨t, rfl, hS4, hG4⟩
        have HL4 : Hid (LM w w4 B a len cap (kk + 2 + 1) ys g n c ps) := HL3.out.draw hB hS4 hG4
        have HX4 : Hid (ResBox w4 w2.heap.size (.int .i64 o) (.int .i64 nm)) := HX3.out.grown hG4 (by omega)
        clear hS4 hG4 HL3 HX3
        cases t
        · go_wp2_with fail
          refine (next_c _ B a len cap (kk + 2 + 1) ys (m : Int) HL4.out.ds.src hl (by omega) (by omega) (by omega)).mono ?_
          rintro e w5 ⟨v, v0, v1, rfl, hS5, hG5⟩
          have HL5 : Hid (LM w w5 B a len cap (kk + 2 + 1 + 1) ys g n c ps) := HL4.out.draw hB hS5 hG5
          have HX5 : Hid (ResBox w5 w2.heap.size (.int .i64 o) (.int .i64 nm)) := HX4.out.grown hG5 (by omega)
          obtain ⟨j, rfl⟩ := Int.eq_ofNat_of_zero_le v0
          have hjm : j < m := by omega
          obtain ⟨b, off, z, e1, hz, hzr⟩ := (rules_gr HR.out HL5.out.ds.gr HNE.out).at hjm
          obtain ⟨z0, z1, z2, _⟩ := hzr
          subst e1
          have hbw : b < w5.heap.size := World.block_lt_of_cell? w5 ⟨b, off + j * 8, none⟩ z0
          have HL6 : Hid (LM w ((w5.setCell ⟨w2.heap.size, 0, none⟩ (.int .i64 z.ho)).setCell ⟨w2.heap.size, 1, none⟩ (.int .i64 z.hn)) B a len cap (kk + 2 + 1 + 1) ys g n c ps) := (HL5.out.other HCode.out hB (grownBy_setCell2 w5 w2.heap.size 0 (.int .i64 z.ho)) hq1 (by omega)).other HCode.out hB (grownBy_setCell2 _ w2.heap.size 1 (.int .i64 z.hn)) hq1 (by omega)
          have HX6 : Hid (ResBox ((w5.setCell ⟨w2.heap.size, 0, none⟩ (.int .i64 z.ho)).setCell ⟨w2.heap.size, 1, none⟩ (.int .i64 z.hn)) w2.heap.size (.int .i64 z.ho) (.int .i64 z.hn)) := HX5.out.put _ _
          obtain ⟨y0, y1, yf0, yf1, _⟩ := HX5.out
          clear hS5 hG5 HL4 HX4 hz
          go_upto_region 8 with fail
          generalize (w5.setCell ⟨w2.heap.size, 0, none⟩ (.int .i64 z.ho)).setCell ⟨w2.heap.size, 1, none⟩ (.int .i64 z.hn) = w6 at HL6 HX6 ⊢
          clear y0 y1 yf0 yf1 z0 z1 z2 HL5 HX5
          obtain ⟨c0, c1, _⟩ := HX6.out
          go_wp2_with (first
            | (at_builtin; refine wpList_append_own _ rfl _ _ 40 rfl w.heap.size 104 i0 (.agg #[.int .i64 0, .int .i64 0, .int .i64 0, .int .i64 0, .int .i64 0]) 5 40 hun hi hz0 hz1 hz2 rfl (by decide) _ n (flatP ps) rfl (?c0) ⟨w6.heap.size, 0, none⟩ 1 1 (rowP (⟨1, z.ho, z.hn, 0, 0⟩ : PartI)) rfl rfl (cell_newP w6 (⟨1, z.ho, z.hn, 0, 0⟩ : PartI) _) (flatP_cells [(⟨1, z.ho, z.hn, 0, 0⟩ : PartI)]) ?c3 ?c4 ?c5 ?_)
            | fail)
          case c0 => have h0 : w6.ownsRow w.heap.size 104 5 (.slice (some ⟨g, 0, none⟩) n c) n (flatP ps) := by have := HL6.out.ow; unfold OwnP at this; rw [HL6.out.ln] at this; exact this
                     exact h0.alloc _
          case c3 => unfold maxLen; omega
          case c4 => omega
          case c5 => have := HL6.out.size; simp; omega
          intro v' w9 hown' hgrow hnil
          have HN : Hid (∃ g' c', v' = .slice (some ⟨g', 0, none⟩) (n + 1) c' ∧ LM w w9 B a len cap (kk + 2 + 1 + 1) ys g' (n + 1) c' (ps ++ [(⟨1, z.ho, z.hn, 0, 0⟩ : PartI)])) := LM.next HL6.out HCode.out hB hown' hgrow hnil
          clear hown' hgrow hnil
          obtain ⟨g', c', rfl, hl9⟩ := HN.out
          have HL9 : Hid (LM w w9 B a len cap (kk + 2 + 1 + 1) ys g' (n + 1) c' (ps ++ [(⟨1, z.ho, z.hn, 0, 0⟩ : PartI)])) := hl9
          clear hl9 HN
          clear HL6 HX6 c0 c1
          go_wp2
          exact ⟨⟨g', n + 1, c', _, r - 1, _, rfl, by simp; omega, by omega, by omega, by omega, HL9⟩, by simp [intOf]; omega⟩
        · go_upto_region 8 with fail
          obtain ⟨c0, c1, _⟩ := HX4.out
          go_wp2_with (first
            | (at_builtin; refine wpList_append_own _ rfl _ _ 40 rfl w.heap.size 104 i0 (.agg #[.int .i64 0, .int .i64 0, .int .i64 0, .int .i64 0, .int .i64 0]) 5 40 hun hi hz0 hz1 hz2 rfl (by decide) _ n (flatP ps) rfl (?c0) ⟨w4.heap.size, 0, none⟩ 1 1 (rowP (⟨1, o, nm, 0, 0⟩ : PartI)) rfl rfl (cell_newP w4 (⟨1, o, nm, 0, 0⟩ : PartI) _) (flatP_cells [(⟨1, o, nm, 0, 0⟩ : PartI)]) ?c3 ?c4 ?c5 ?_)
            | fail)
          case c0 => have h0 : w4.ownsRow w.heap.size 104 5 (.slice (some ⟨g, 0, none⟩) n c) n (flatP ps) := by have := HL4.out.ow; unfold OwnP at this; rw [HL4.out.ln] at this; exact this
                     exact h0.alloc _
          case c3 => unfold maxLen; omega
          case c4 => omega
          case c5 => have := HL4.out.size; simp; omega
          intro v' w9 hown' hgrow hnil
          have HN : Hid (∃ g' c', v' = .slice (some ⟨g', 0, none⟩) (n + 1) c' ∧ LM w w9 B a len cap (kk + 2 + 1) ys g' (n + 1) c' (ps ++ [(⟨1, o, nm, 0, 0⟩ : PartI)])) := LM.next HL4.out HCode.out hB hown' hgrow hnil
          clear hown' hgrow hnil
          obtain ⟨g', c', rfl, hl9⟩ := HN.out
          have HL9 : Hid (LM w w9 B a len cap (kk + 2 + 1) ys g' (n + 1) c' (ps ++ [(⟨1, o, nm, 0, 0⟩ : PartI)])) := hl9
          clear hl9 HN
          clear HL4 HX4 c0 c1
          go_wp2
          exact ⟨⟨g', n + 1, c', _, r - 1, _, rfl, by simp; omega, by omega, by omega, by omega, HL9⟩, by simp [intOf]; omega⟩
      · have hm0' : ¬ ((0 : Int) < (m : Int)) := by omega
        go_upto_region 8 with fail
        obtain ⟨c0, c1, _⟩ := HX3.out
        go_wp2_with (first
          | (at_builtin; refine wpList_append_own _ rfl _ _ 40 rfl w.heap.size 104 i0 (.agg #[.int .i64 0, .int .i64 0, .int .i64 0, .int .i64 0, .int .i64 0]) 5 40 hun hi hz0 hz1 hz2 rfl (by decide) _ n (flatP ps) rfl (?c0) ⟨w3.heap.size, 0, none⟩ 1 1 (rowP (⟨1, o, nm, 0, 0⟩ : PartI)) rfl rfl (cell_newP w3 (⟨1, o, nm, 0, 0⟩ : PartI) _) (flatP_cells [(⟨1, o, nm, 0, 0⟩ : PartI)]) ?c3 ?c4 ?c5 ?_)
          | fail)
        case c0 => have h0 : w3.ownsRow w.heap.size 104 5 (.slice (some ⟨g, 0, none⟩) n c) n (flatP ps) := by have := HL3.out.ow; unfold OwnP at this; rw [HL3.out.ln] at this; exact this
                   exact h0.alloc _
        case c3 => unfold maxLen; omega
        case c4 => omega
        case c5 => have := HL3.out.size; simp; omega
        intro v' w9 hown' hgrow hnil
        have HN : Hid (∃ g' c', v' = .slice (some ⟨g', 0, none⟩) (n + 1) c' ∧ LM w w9 B a len cap (kk + 2) ys g' (n + 1) c' (ps ++ [(⟨1, o, nm, 0, 0⟩ : PartI)])) := LM.next HL3.out HCode.out hB hown' hgrow hnil
        clear hown' hgrow hnil
        obtain ⟨g', c', rfl, hl9⟩ := HN.out
        have HL9 : Hid (LM w w9 B a len cap (kk + 2) ys g' (n + 1) c' (ps ++ [(⟨1, o, nm, 0, 0⟩ : PartI)])) := hl9
        clear hl9 HN
        clear HL3 HX3 c0 c1
        go_wp2
        exact ⟨⟨g', n + 1, c', _, r - 1, _, rfl, by simp; omega, by omega, by omega, by omega, HL9⟩, by simp [intOf]; omega⟩
    · have hr0 : r = 0 := by omega
      subst hr0
      have hn3 : 1 ≤ n ∧ n ≤ 3 := by omega
      go_wp2_with fail
      refine (next_c _ B a len cap kk ys 4 HL.out.ds.src hl (by omega) (by omega) (by omega)).mono ?_
      rintro e w2 ⟨v2, y0, y1, rfl, hS2, hG2⟩
      have HL2 : Hid (LM w w2 B a len cap (kk + 1) ys g n c ps) := HL.out.draw hB hS2 hG2
      obtain ⟨r2, rfl⟩ := Int.eq_ofNat_of_zero_le y0
      clear hS2 hG2 HL
      go_wp2_with fail
      go_loopw [5, 8] (fun v i wr => ∃ (g n c kk r : Nat) (ps : List PartI), v = .slice (some ⟨g, 0, none⟩) n c ∧ i = .int .i64 (r : Int) ∧ n + r ≤ 6 ∧ 1 ≤ n ∧ kk + 3 * r ≤ k0 + 23 ∧ Hid (LM w wr B a len cap kk ys g n c ps)) (fun _ i _ => (intOf i).toNat)
      case atStart => exact ⟨g, n, c, kk + 1, r2, ps, rfl, rfl, by omega, by omega, by omega, HL2.out⟩
      case round =>
        clear HL2 y1
        obtain ⟨g, n, c, kk, r, ps, rfl, rfl, hnr, hn1, hkr, HL⟩ := hrel
        by_cases hr : 0 < r
        · have hr' : (0 : Int) < (r : Int) := by omega
          have hn6' : (n : Int) ≤ 6 := by omega
          go_wp2_with fail
          refine (next_c _ B a len cap kk ys 2 HL.out.ds.src hl (by omega) (by omega) (by omega)).mono ?_
          rintro e w3 ⟨k3, z0, z1, rfl, hS3, hG3⟩
          have HL3 : Hid (LM w w3 B a len cap (kk + 1) ys g n c ps) := HL.out.draw hB hS3 hG3
          clear hS3 hG3 HL
          go_wp2_with fail
          refine (next_c _ B a len cap (kk + 1) ys (n : Int) HL3.out.ds.src hl (by omega) (by omega) (by omega)).mono ?_
          rintro e w4 ⟨l4, l0, l1, rfl, hS4, hG4⟩
          have HL4 : Hid (LM w w4 B a len cap (kk + 1 + 1) ys g n c ps) := HL3.out.draw hB hS4 hG4
          clear hS4 hG4 HL3
          go_wp2_with fail
          refine (next_c _ B a len cap (kk + 1 + 1) ys (n : Int) HL4.out.ds.src hl (by omega) (by omega) (by omega)).mono ?_
          rintro e w5 ⟨r4, q0, q1, rfl, hS5, hG5⟩
          have HL5 : Hid (LM w w5 B a len cap (kk + 1 + 1 + 1) ys g n c ps) := HL4.out.draw hB hS5 hG5
          clear hS5 hG5 HL4
          go_wp2_with (first
            | (at_builtin; refine wpList_append_own _ rfl _ _ 40 rfl w.heap.size 104 i0 (.agg #[.int .i64 0, .int .i64 0, .int .i64 0, .int .i64 0, .int .i64 0]) 5 40 hun hi hz0 hz1 hz2 rfl (by decide) _ n (flatP ps) rfl (?c0) ⟨w5.heap.size, 0, none⟩ 1 1 (rowP (⟨2 + k3, 0, 0, l4, r4⟩ : PartI)) rfl rfl (cell_newP w5 (⟨2 + k3, 0, 0, l4, r4⟩ : PartI) _) (flatP_cells [(⟨2 + k3, 0, 0, l4, r4⟩ : PartI)]) ?c3 ?c4 ?c5 ?_)
            | fail)
          case c0 => have h0 : w5.ownsRow w.heap.size 104 5 (.slice (some ⟨g, 0, none⟩) n c) n (flatP ps) := by have := HL5.out.ow; unfold OwnP at this; rw [HL5.out.ln] at this; exact this
                     exact h0.alloc _
          case c3 => unfold maxLen; omega
          case c4 => omega
          case c5 => have := HL5.out.size; simp; omega
          intro v' w9 hown' hgrow hnil
          have HN : Hid (∃ g' c', v' = .slice (some ⟨g', 0, none⟩) (n + 1) c' ∧ LM w w9 B a len cap (kk + 1 + 1 + 1) ys g' (n + 1) c' (ps ++ [(⟨2 + k3, 0, 0, l4, r4⟩ : PartI)])) := LM.next HL5.out HCode.out hB hown' hgrow hnil
          clear hown' hgrow hnil
          obtain ⟨g', c', rfl, hl9⟩ := HN.out
          have HL9 : Hid (LM w w9 B a len cap (kk + 1 + 1 + 1) ys g' (n + 1) c' (ps ++ [(⟨2 + k3, 0, 0, l4, r4⟩ : PartI)])) := hl9
          clear hl9 HN
          clear HL5
          go_wp2
          exact ⟨⟨g', n + 1, c', _, r - 1, _, rfl, by simp; omega, by omega, by omega, by omega, HL9⟩, by simp [intOf]; omega⟩
        · have hr0 : r = 0 := by omega
          subst hr0
          go_wp2_with fail
          go_ret
          exact ⟨g, n, c, kk, ps, rfl, by omega, by omega, HL.out⟩

end Go.Proofs.YtaeigimgobilaaaGreatDoor

namespace Go.Proofs.YtaeigimgobilaaaGreatDoor
open Go.RowKit
set_option linter.unusedVariables false
set_option linter.unusedSimpArgs false

def zeroPart : PartI := ⟨0, 0, 0, 0, 0⟩

theorem made9 : (madeCells (Value.cells (.agg #[.int .i64 0, .int .i64 0, .int .i64 0, .int .i64 0, .int .i64 0])) (9 * 5)).toList = flatP (List.replicate 9 zeroPart) := by kernel_rfl

theorem pick_lm (w wx : World) (B : Nat) (a : Option Addr) (len cap kk : Nat) (ys : List Int) (g n c : Nat) (ps : List PartI) (h : LM w wx B a len cap kk ys g n c ps) (hB : B < w.heap.size) (hl : len ≤ 1048576) (hk : kk ≤ 900) (m : Nat) (xs : List Int) (hxs : xs.length = m) (hm : 1 ≤ m) (hm2 : m ≤ 100) (t : TypeId) :
    Calls Tryz.prog 18 #[.pointer (some ⟨B, 0, none⟩), .slice (some ⟨wx.heap.size, 0, none⟩) m m] (wx.alloc (.cells (xs.map (Value.int .i64)).toArray t)) fun e w' => ∃ v : Int, e = .returned (.int .i64 v) ∧ LM w w' B a len cap (kk + 1) ys g n c ps := by
  have hA := h.below ((Below.refl _ _).alloc (Nat.le_refl _) (.cells (xs.map (Value.int .i64)).toArray t))
  have hBl := h.ds.src.lt
  refine (pick_c _ B a len cap kk ys hA.ds.src hl (by omega) wx.heap.size m m xs hxs hm hm2 (by omega) (fun j hj => ?_)).mono ?_
  · have hb := heap_alloc_new wx (.cells (xs.map (Value.int .i64)).toArray t)
    rw [cell_of_row _ _ j _ t (0, 0) hb]
    simp [List.getElem?_eq_getElem (show j < xs.length by omega)]
  · rintro e w' ⟨j, hj, rfl, hS, hG⟩
    exact ⟨_, rfl, hA.draw hB hS hG⟩

/-- Parts that were drawn. -/
def BentP (w : World) (B : Nat) (a : Option Addr) (len cap k0 : Nat) (ys : List Int) (e : Ending) (w' : World) : Prop := ∃ (b : Option Addr) (n c kk : Nat) (ps : List PartI), e = .returned (.slice b n c) ∧ (n ≤ 9 ∧ n ≤ c ∧ c ≤ maxLen) ∧ PartsIn w' b n ps ∧ DS w w' B a len cap kk ys

theorem LM.bent {w w' : World} {B : Nat} {a : Option Addr} {len cap kk k0 : Nat} {ys : List Int} {g n c : Nat} {ps : List PartI} (h : LM w w' B a len cap kk ys g n c ps) (hn : n ≤ 9) : BentP w B a len cap k0 ys (.returned (.slice (some ⟨g, 0, none⟩) n c)) w' :=
  ⟨some ⟨g, 0, none⟩, n, c, kk, ps, rfl, ⟨hn, ownP_cap h.ln h.ow⟩, h.ow.read h.ln, h.ds⟩

set_option maxRecDepth 100000 in
set_option maxHeartbeats 4000000 in
theorem bentForm_c (w : World) (B : Nat) (a : Option Addr) (len cap k0 : Nat) (ys : List Int) (a' : Option Addr) (m d : Nat) (zs : List RuleI) (h : SrcAt w B a len cap k0 ys) (hl : len ≤ 1048576) (hk0 : k0 ≤ 700) (hm : m ≤ 1000) (hr : RulesIn w a' m zs) (hne : ∀ b off, a' = some ⟨b, off, none⟩ → m = 0 ∨ b ≠ B) :
    Calls Tryz.prog 38 #[.pointer (some ⟨B, 0, none⟩), .slice a' m d] w fun e w' => BentP w B a len cap k0 ys e w' := by
  have hB := h.lt
  have HCode : Hid (∀ b off, a = some ⟨b, off, none⟩ → len = 0 ∨ b < w.heap.size) := h.code_lt
  have HR : Hid (RulesIn w a' m zs) := hr
  have HNE : Hid (∀ b off, a' = some ⟨b, off, none⟩ → m = 0 ∨ b ≠ B) := hne
  have HS : Hid (SrcAt w B a len cap k0 ys) := h
  obtain ⟨i0, hi, hz0, hz1, hz2⟩ := info_parts Tryz.info104
  have hun : Tryz.prog.underlying 40 = some (.slice 104) := by kernel_rfl
  clear h hr hne
  go_enter Tryz.func38, Tryz.ntmps38
  go_wp2_with fail
  refine (form_c w B a len cap k0 ys a' m d zs HS.out hl hk0 hm HR.out HNE.out).mono ?_
  rintro e w1 ⟨g, n, c, kk, ps, rfl, hn, hkk, hL⟩
  have HL1 : Hid (LM w w1 B a len cap kk ys g n c ps) := hL
  clear hL HS HR HNE
  go_wp2_with fail
  refine (next_c _ B a len cap kk ys 12 HL1.out.ds.src hl (by omega) (by omega) (by omega)).mono ?_
  rintro e w2 ⟨v, v0, v1, rfl, hS2, hG2⟩
  have HL2 : Hid (LM w w2 B a len cap (kk + 1) ys g n c ps) := HL1.out.draw hB hS2 hG2
  have hz2' : w.heap.size ≤ w2.heap.size := HL2.out.size
  clear hS2 hG2 HL1
  by_cases e0 : v = 0
  · subst e0
    go_wp2_with fail
    refine (pick_lm w _ B a len cap _ ys g n c ps HL2.out hB hl (by omega) 4 [0, 1, 2, 4] rfl (by omega) (by omega) _).mono ?_
    rintro e w3 ⟨p1, rfl, hL3⟩
    have HL3 : Hid (LM w w3 B a len cap (kk + 1 + 1) ys g n c ps) := hL3
    clear hL3 HL2
    go_wp2_with fail
    refine (pick_lm w _ B a len cap _ ys g n c ps HL3.out hB hl (by omega) 3 [0, 1, 9] rfl (by omega) (by omega) _).mono ?_
    rintro e w4 ⟨p2, rfl, hL4⟩
    have HL4 : Hid (LM w w4 B a len cap (kk + 1 + 1 + 1) ys g n c ps) := hL4
    clear hL4 HL3
    go_wp2_with fail
    refine (pick_lm w _ B a len cap _ ys g n c ps HL4.out hB hl (by omega) 2 [0, 1] rfl (by omega) (by omega) _).mono ?_
    rintro e w5 ⟨p3, rfl, hL5⟩
    have HL5 : Hid (LM w w5 B a len cap (kk + 1 + 1 + 1 + 1) ys g n c ps) := hL5
    clear hL5 HL4
    go_wp2_with fail
    refine (pick_lm w _ B a len cap _ ys g n c ps HL5.out hB hl (by omega) 3 [0, 9, -1] rfl (by omega) (by omega) _).mono ?_
    rintro e w6 ⟨p4, rfl, hL6⟩
    have HL6 : Hid (LM w w6 B a len cap (kk + 1 + 1 + 1 + 1 + 1) ys g n c ps) := hL6
    clear hL6 HL5
    go_wp2_with (first
      | (at_builtin; refine wpList_append_own _ rfl _ _ 40 rfl w.heap.size 104 i0 (.agg #[.int .i64 0, .int .i64 0, .int .i64 0, .int .i64 0, .int .i64 0]) 5 40 hun hi hz0 hz1 hz2 rfl (by decide) _ n (flatP ps) rfl (?c0) ⟨w6.heap.size, 0, none⟩ 1 1 (rowP (⟨p1, p2, p3, p4, 0⟩ : PartI)) rfl rfl (cell_newP w6 (⟨p1, p2, p3, p4, 0⟩ : PartI) _) (flatP_cells [(⟨p1, p2, p3, p4, 0⟩ : PartI)]) ?c3 ?c4 ?c5 ?_)
      | fail)
    case c0 => have h0 : w6.ownsRow w.heap.size 104 5 (.slice (some ⟨g, 0, none⟩) n c) n (flatP ps) := by have := HL6.out.ow; unfold OwnP at this; rw [HL6.out.ln] at this; exact this
               exact h0.alloc _
    case c3 => unfold maxLen; omega
    case c4 => omega
    case c5 => have := HL6.out.size; simp; omega
    intro v' w9 hown' hgrow hnil
    have HN : Hid (∃ g' c', v' = .slice (some ⟨g', 0, none⟩) (n + 1) c' ∧ LM w w9 B a len cap (kk + 1 + 1 + 1 + 1 + 1) ys g' (n + 1) c' (ps ++ [(⟨p1, p2, p3, p4, 0⟩ : PartI)])) := LM.next HL6.out HCode.out hB hown' hgrow hnil
    clear hown' hgrow hnil
    obtain ⟨g', c', rfl, hl9⟩ := HN.out
    have HL9 : Hid (LM w w9 B a len cap (kk + 1 + 1 + 1 + 1 + 1) ys g' (n + 1) c' (ps ++ [(⟨p1, p2, p3, p4, 0⟩ : PartI)])) := hl9
    clear hl9 HN
    clear HL6
    go_wp2_with fail
    go_ret
    exact HL9.out.bent (by omega)
  · have b0 : (v == 0) = false := by simpa using e0
    by_cases e1 : v = 1
    · subst e1
      obtain ⟨wm, hmk, hownm, hgrm⟩ := run_make_full (P := Tryz.prog) (w := w2) w.heap.size 40 104 i0 (.agg #[.int .i64 0, .int .i64 0, .int .i64 0, .int .i64 0, .int .i64 0]) 5 hun hi hz0 hz1 .i64 .i64 9 (by rw [hz2]; omega) (by unfold maxLen; omega) hz2'
      have HN : Hid (LM w wm B a len cap (kk + 1) ys w2.heap.size 9 9 (List.replicate 9 zeroPart)) := by
        rw [made9] at hownm
        exact ⟨hownm, rfl, ⟨HL2.out.ds.src.kept hgrm (by simp) (fun _ _ _ => .inr (by simp)), grown_trans HL2.out.ds.gr (grown_none hgrm _)⟩, hz2', (hownm.lt w2.heap.size (by simp [Value.ownBlock])).2⟩
      have hmk' : (Instr.makeSlice 40 (.int .i64 9) (.int .i64 9)).run Tryz.prog w2 = .ok (.slice (some ⟨w2.heap.size, 0, none⟩) 9 9) wm := hmk
      clear hownm hgrm HL2 e0 hmk
      go_wp2_with fail
      go_ret
      exact HN.out.bent (by omega)
    · have b1 : (v == 1) = false := by simpa using e1
      by_cases e2 : v = 2
      · subst e2
        clear b0 b1 e0 e1
        go_wp2_with fail
        go_ret
        exact ⟨none, 0, 0, kk + 1, [], rfl, ⟨by omega, by omega, Nat.zero_le _⟩, ⟨rfl, fun h => by omega⟩, HL2.out.ds⟩
      · have b2 : (v == 2) = false := by simpa using e2
        clear e0 e1 e2
        go_wp2_with fail
        go_ret
        exact HL2.out.bent (by omega)

/-- Rules and parts that were drawn. -/
def DrawnP (w : World) (e : Ending) (w' : World) : Prop := ∃ (g n c : Nat) (b : Option Addr) (m c' : Nat) (zs : List RuleI) (ps : List PartI), e = .returned (.tuple #[.slice (some ⟨g, 0, none⟩) n c, .slice b m c']) ∧ (n ≤ 17 ∧ n ≤ c ∧ c ≤ maxLen) ∧ (m ≤ 9 ∧ m ≤ c' ∧ c' ≤ maxLen) ∧ RulesIn w' (some ⟨g, 0, none⟩) n zs ∧ PartsIn w' b m ps ∧ Below w.heap.size w w'

end Go.Proofs.YtaeigimgobilaaaGreatDoor

namespace Go.Proofs.YtaeigimgobilaaaGreatDoor
open Go.RowKit
set_option linter.unusedVariables false

/-- P holds of W, and hangs on blocks lo to hi alone. -/
structure Hold (lo hi : Nat) (P : World → Prop) (W : World) : Prop where
  out : P W
  le : hi ≤ W.heap.size
  kept : ∀ X X' : World, P X → (∀ b, lo ≤ b → b < hi → X'.heap[b]? = X.heap[b]?) → P X'

theorem Hold.below {lo hi : Nat} {P : World → Prop} {W W' : World} (h : Hold lo hi P W) (hb : Below W.heap.size W W') : Hold lo hi P W' :=
  ⟨h.kept _ _ h.out (fun b _ h2 => hb.block b (Nat.lt_of_lt_of_le h2 h.le)), Nat.le_trans h.le hb.size, h.kept⟩

theorem Hold.alloc {lo hi : Nat} {P : World → Prop} {W : World} (h : Hold lo hi P W) (o : Obj) : Hold lo hi P (W.alloc o) := h.below ((Below.refl _ _).alloc (Nat.le_refl _) _)

theorem Hold.drew {lo hi : Nat} {P : World → Prop} {W : World} (h : Hold lo hi P W) : Hold lo hi P W.drew := h.below (Below.refl _ _).drew

/-- W' is W but for blocks lo to hi, and what is new. -/
structure Chg (lo hi : Nat) (W W' : World) : Prop where
  below : ∀ B, B ≤ lo → B ≤ W.heap.size → Below B W W'
  size : W.heap.size ≤ W'.heap.size
  block : ∀ b, b < W.heap.size → (b < lo ∨ hi ≤ b) → W'.heap[b]? = W.heap[b]?

theorem Chg.grown {lo hi : Nat} {W W' : World} {row : Option Nat} (hg : W.grownBy W' row) (h : ∀ q, row = some q → lo ≤ q ∧ q < hi) : Chg lo hi W W' :=
  ⟨fun B h1 h2 => (Below.refl _ _).grown hg h2 (fun q e => Nat.le_trans h1 (h q e).1), hg.size, fun b h1 h2 => hg.block b h1 (fun e => by have := h b e.symm; omega)⟩

theorem Chg.calls {lo hi : Nat} {W W' : World} (hb : Below W.heap.size W W') : Chg lo hi W W' :=
  ⟨fun B h1 h2 => hb.mono h2, hb.size, fun b h1 h2 => hb.block b h1⟩

theorem Chg.trans {lo hi : Nat} {A B C : World} (h : Chg lo hi A B) (k : Chg lo hi B C) : Chg lo hi A C :=
  ⟨fun b h1 h2 => (h.below b h1 h2).trans (k.below b h1 (Nat.le_trans h2 h.size)), Nat.le_trans h.size k.size, fun b h1 h2 => (k.block b (Nat.lt_of_lt_of_le h1 h.size) h2).trans (h.block b h1 h2)⟩

theorem Hold.chg {lo hi l r : Nat} {P : World → Prop} {W W' : World} (h : Hold lo hi P W) (c : Chg l r W W') (d : hi ≤ l ∨ r ≤ lo) : Hold lo hi P W' :=
  ⟨h.kept _ _ h.out (fun b h1 h2 => c.block b (Nat.lt_of_lt_of_le h2 h.le) (by omega)), Nat.le_trans h.le c.size, h.kept⟩

theorem below_chg {B l r : Nat} {w W W' : World} (h : Below B w W) (c : Chg l r W W') (h1 : B ≤ l) (h2 : B ≤ W.heap.size) : Below B w W' := h.trans (c.below B h1 h2)

theorem kpE_new {W w : World} (h : (∀ b o, b < W.heap.size → w.cell? ⟨b, o, none⟩ = W.cell? ⟨b, o, none⟩) ∧ Below W.heap.size W w) (o : Obj) : (∀ b i, b < W.heap.size → (w.alloc o).cell? ⟨b, i, none⟩ = W.cell? ⟨b, i, none⟩) ∧ Below W.heap.size W (w.alloc o) :=
  ⟨fun b i hb => (((Below.refl w.heap.size w).alloc (Nat.le_refl _) o).cell (p := ⟨b, i, none⟩) (Nat.lt_of_lt_of_le hb h.2.size)).trans (h.1 b i hb), h.2.alloc h.2.size _⟩

theorem kpE_set {W w : World} (h : (∀ b o, b < W.heap.size → w.cell? ⟨b, o, none⟩ = W.cell? ⟨b, o, none⟩) ∧ Below W.heap.size W w) {p : Addr} (hp : W.heap.size ≤ p.block) (v : Value) : (∀ b i, b < W.heap.size → (w.setCell p v).cell? ⟨b, i, none⟩ = W.cell? ⟨b, i, none⟩) ∧ Below W.heap.size W (w.setCell p v) :=
  ⟨fun b i hb => by
    have hne : p ≠ ⟨b, i, none⟩ := fun e => by rw [e] at hp; simp only at hp; omega
    rw [World.cell?_setCell_other (h := hne)]
    exact h.1 b i hb, h.2.setCell hp _⟩

theorem ownsE_set {w : World} {base : Nat} {e : TypeId} {size : Nat} {v : Value} {n : Nat} {xs : List Value} (h : w.ownsRow base e size v n xs) {a : Addr} (ha : a.block < base) (u : Value) : (w.setCell a u).ownsRow base e size v n xs := by
  refine ⟨h.1, ?_⟩
  rcases h.2 with q | ⟨g, cap, cur, e1, hg, hb, rest⟩
  · exact .inl q
  · exact .inr ⟨g, cap, cur, e1, hg, (Below.heap_setCell _ _ _ _ (by intro q; omega)).trans hb, rest⟩

/-- The cells of a box. -/
def BoxV (b : Nat) (vs : List Value) (X : World) : Prop := ∀ j v, vs[j]? = some v → X.cell? ⟨b, j, none⟩ = some v

theorem BoxV.hold {b : Nat} {vs : List Value} {W : World} (h : BoxV b vs W) (hb : b < W.heap.size) : Hold b (b + 1) (BoxV b vs) W :=
  ⟨h, hb, fun X X' hX hk j v e => (World.cell?_of_block (w := X) (w' := X') (a := ⟨b, j, none⟩) (hk b (Nat.le_refl _) (by omega))).trans (hX j v e)⟩

theorem boxV_new (W : World) (cs : Array Value) (t : TypeId) : Hold W.heap.size (W.heap.size + 1) (BoxV W.heap.size cs.toList) (W.alloc (.cells cs t)) := by
  refine BoxV.hold (fun j v e => ?_) (by simp)
  have h : (W.alloc (.cells cs t)).heap[W.heap.size]? = some (.cells cs t) := by show (W.heap.push _)[W.heap.size]? = _; simp
  unfold World.cell?
  simp only
  rw [h]
  simpa using e

/-- The cells of a box that may be written. -/
def BoxW (b : Nat) (vs : List Value) (X : World) : Prop := BoxV b vs X ∧ (∀ j, X.frozen? ⟨b, j, none⟩ = false)

theorem BoxW.hold {b : Nat} {vs : List Value} {W : World} (h : BoxW b vs W) (hb : b < W.heap.size) : Hold b (b + 1) (BoxW b vs) W :=
  ⟨h, hb, fun X X' hX hk => ⟨(BoxV.hold h.1 hb).kept X X' hX.1 hk, fun j => (World.frozen?_of_block (w := X) (w' := X') (a := ⟨b, j, none⟩) (hk b (Nat.le_refl _) (by omega))).trans (hX.2 j)⟩⟩

theorem BoxW.below {b : Nat} {vs : List Value} {W W' : World} (h : BoxW b vs W) (hb : b < W.heap.size) (hw : Below W.heap.size W W') : BoxW b vs W' := ((h.hold hb).below hw).out

theorem boxW_new (W : World) (cs : Array Value) (t : TypeId) : BoxW W.heap.size cs.toList (W.alloc (.cells cs t)) :=
  ⟨(boxV_new W cs t).out, fun j => by
    have h : (W.alloc (.cells cs t)).heap[W.heap.size]? = some (.cells cs t) := by show (W.heap.push _)[W.heap.size]? = _; simp
    unfold World.frozen?
    simp only
    rw [h]
    simp⟩

theorem BoxW.put {b : Nat} {vs : List Value} {X : World} (h : BoxW b vs X) (j : Nat) (hj : j < vs.length) (v : Value) : BoxW b (vs.set j v) (X.setCell ⟨b, j, none⟩ v) := by
  refine ⟨fun i u e => ?_, fun i => by rw [World.frozen?_setCell]; exact h.2 i⟩
  by_cases q : i = j
  · subst q
    rw [List.getElem?_set_self hj] at e
    have hc := h.1 i _ (List.getElem?_eq_getElem hj)
    cases e
    simp [go_sem, hc]
  · rw [List.getElem?_set_ne (Ne.symm q)] at e
    rw [World.cell?_setCell_other (h := fun e => q (by have := congrArg Addr.off e; simp at this; omega))]
    exact h.1 i u e

theorem BoxW.other {b : Nat} {vs : List Value} {X : World} (h : BoxW b vs X) {p : Addr} (hp : p.block ≠ b) (v : Value) : BoxW b vs (X.setCell p v) := by
  refine ⟨fun i u e => ?_, fun i => by rw [World.frozen?_setCell]; exact h.2 i⟩
  rw [World.cell?_setCell_other (h := fun e => hp (by rw [e]))]
  exact h.1 i u e

/-- Numbers that were copied, to be written into. -/
def IntCp (g n : Nat) (zs : List Int) (X : World) : Prop := (∀ k x, zs[k]? = some x → X.cell? ⟨g, k, none⟩ = some (.int .i64 x)) ∧ (∀ j, j < n → ∃ v, X.cell? ⟨g, j, none⟩ = some v) ∧ ∀ j, X.frozen? ⟨g, j, none⟩ = false

theorem IntCp.hold {g n : Nat} {zs : List Int} {W : World} (h : IntCp g n zs W) (hg : g < W.heap.size) : Hold g (g + 1) (IntCp g n zs) W :=
  ⟨h, hg, fun X X' hX hk => by
    have hb := hk g (Nat.le_refl _) (by omega)
    exact ⟨fun k x e => (World.cell?_of_block (a := ⟨g, k, none⟩) hb).trans (hX.1 k x e), fun j hj => by
      obtain ⟨v, e⟩ := hX.2.1 j hj
      exact ⟨v, (World.cell?_of_block (a := ⟨g, j, none⟩) hb).trans e⟩, fun j => (World.frozen?_of_block (a := ⟨g, j, none⟩) hb).trans (hX.2.2 j)⟩⟩

/-- A row of its own. -/
theorem owns_kept {X X' : World} {B : Nat} {t : TypeId} {sz : Nat} {v : Value} {n : Nat} {xs : List Value} (h : X.ownsRow B t sz v n xs) (hk : ∀ g, v.ownBlock = some g → X'.heap[g]? = X.heap[g]?) : X'.ownsRow B t sz v n xs := by
  refine ⟨h.1, ?_⟩
  rcases h.2 with q | ⟨g, cap, cur, e, hg, hb, rest⟩
  · exact .inl q
  · exact .inr ⟨g, cap, cur, e, hg, (hk g (by rw [e]; rfl)).trans hb, rest⟩

theorem owns_hold {W : World} {B : Nat} {t : TypeId} {sz : Nat} {v : Value} {n : Nat} {xs : List Value} (h : W.ownsRow B t sz v n xs) (hi : Nat) (h1 : ∀ g, v.ownBlock = some g → g < hi) (h2 : hi ≤ W.heap.size) : Hold B hi (fun X => X.ownsRow B t sz v n xs) W :=
  ⟨h, h2, fun X X' hX hk => owns_kept hX (fun g e => hk g (hX.lt g e).1 (h1 g e))⟩

theorem owns_hold0 {W : World} {B : Nat} {t : TypeId} {sz : Nat} {v : Value} {n : Nat} {xs : List Value} (h : W.ownsRow B t sz v n xs) : Hold B W.heap.size (fun X => X.ownsRow B t sz v n xs) W := owns_hold h _ (fun g e => (h.lt g e).2) (Nat.le_refl _)

/-- What 'x := F(..)' leaves, F's answer being a struct with one row: a box with the answer and the row. -/
def ResB (t : TypeId) (sz n : Nat) (xs : List Value) (vs : Value → List Value) (V : World) (s : Value) (wx : World) : Prop :=
  ∃ (B lo hi : Nat) (a : Option Addr) (cap : Nat), s = .pointer (some ⟨B, 0, none⟩) ∧ V.heap.size ≤ B ∧ V.heap.size ≤ lo ∧ Hold B (B + 1) (BoxV B (vs (.slice a n cap))) wx ∧ Hold lo hi (fun X => X.ownsRow lo t sz (.slice a n cap) n xs) wx ∧ Below V.heap.size V wx

end Go.Proofs.YtaeigimgobilaaaGreatDoor

namespace Go.Proofs.YtaeigimgobilaaaGreatDoor
open Go.RowKit
set_option linter.unusedVariables false

theorem owns_ints {w : World} {B : Nat} {a : Option Addr} {n cap : Nat} {zs : List Int} (hn : zs.length = n) (h : w.ownsRow B 2 1 (.slice a n cap) n (zs.map (Value.int .i64))) : IntIn w a n zs := by
  refine ⟨hn, fun hp => ?_⟩
  rcases h.2 with ⟨_, h0⟩ | ⟨g, cap', cur, e, _⟩
  · omega
  · simp at e
    obtain ⟨rfl, rfl⟩ := e
    refine ⟨g, 0, rfl, fun k x hx => ?_⟩
    have hk : k < n := by
      by_cases q : k < n
      · exact q
      · rw [List.getElem?_eq_none (by omega)] at hx; cases hx
    rw [Nat.zero_add, h.cellAt k (by omega), List.getElem?_map, hx]
    rfl

end Go.Proofs.YtaeigimgobilaaaGreatDoor

namespace Go.Proofs.YtaeigimgobilaaaGreatDoor
open Go.RowKit
set_option linter.unusedVariables false
set_option linter.unusedSimpArgs false

/-- Something that hangs on these blocks alone. -/
structure HoldS (A : Nat → Prop) (P : World → Prop) (W : World) : Prop where
  now : P W
  lt : ∀ b, A b → b < W.heap.size
  kp : ∀ X : World, (∀ b, A b → X.heap[b]? = W.heap[b]?) → P X

theorem HoldS.grown {A : Nat → Prop} {P : World → Prop} {W W' : World} {row : Option Nat} (h : HoldS A P W) (hg : W.grownBy W' row) (hne : ∀ b, A b → some b ≠ row) : HoldS A P W' :=
  ⟨h.kp _ fun b hb => hg.block b (h.lt b hb) (hne b hb), fun b hb => Nat.lt_of_lt_of_le (h.lt b hb) hg.size, fun X hX => h.kp X fun b hb => (hX b hb).trans (hg.block b (h.lt b hb) (hne b hb))⟩

theorem HoldS.imp {A : Nat → Prop} {P Q : World → Prop} {W : World} (h : HoldS A P W) (f : ∀ X, P X → Q X) : HoldS A Q W := ⟨f _ h.now, h.lt, fun X hX => f _ (h.kp X hX)⟩

theorem HoldS.and {A A' : Nat → Prop} {P P' : World → Prop} {W : World} (h : HoldS A P W) (h' : HoldS A' P' W) : HoldS (fun b => A b ∨ A' b) (fun X => P X ∧ P' X) W :=
  ⟨⟨h.now, h'.now⟩, fun b hb => hb.elim (h.lt b) (h'.lt b), fun X hX => ⟨h.kp X fun b hb => hX b (.inl hb), h'.kp X fun b hb => hX b (.inr hb)⟩⟩

theorem grown_belowK {W W' : World} (hb : Below W.heap.size W W') : W.grownBy W' none := ⟨hb.os, hb.tape, hb.output, hb.size, fun b hl _ => hb.block b hl⟩

theorem holdS_box {Q : Nat} {vs : List Value} {W : World} (h : BoxW Q vs W) (hl : Q < W.heap.size) : HoldS (· = Q) (BoxW Q vs) W :=
  ⟨h, fun b e => e ▸ hl, fun X hX => ⟨fun j v e => (World.cell?_of_block (w := W) (w' := X) (a := ⟨Q, j, none⟩) (hX Q rfl)).trans (h.1 j v e), fun j => (World.frozen?_of_block (w := W) (w' := X) (a := ⟨Q, j, none⟩) (hX Q rfl)).trans (h.2 j)⟩⟩

theorem holdS_rules {g n : Nat} {zs : List RuleI} {W : World} (h : RulesIn W (some ⟨g, 0, none⟩) n zs) (hl : g < W.heap.size) : HoldS (· = g) (fun X => RulesIn X (some ⟨g, 0, none⟩) n zs) W := by
  refine ⟨h, fun b e => e ▸ hl, fun X hX => ⟨h.1, fun hp => ?_⟩⟩
  obtain ⟨b, off, e, hr⟩ := h.2 hp
  cases e
  refine ⟨g, 0, rfl, fun k x hx => ?_⟩
  have key : ∀ (q : Nat) (y : Value), W.cell? ⟨g, q, none⟩ = some y → X.cell? ⟨g, q, none⟩ = some y := fun q y hy => (World.cell?_of_block (w := W) (w' := X) (a := ⟨g, q, none⟩) (hX g rfl)).trans hy
  obtain ⟨h0, h1, h2, h3, h4, h5, h6, h7⟩ := hr k x hx
  exact ⟨key _ _ h0, key _ _ h1, key _ _ h2, key _ _ h3, key _ _ h4, key _ _ h5, key _ _ h6, key _ _ h7⟩

theorem holdS_ints {g n : Nat} {zs : List Int} {W : World} (h : IntIn W (some ⟨g, 0, none⟩) n zs) (hl : g < W.heap.size) : HoldS (· = g) (fun X => IntIn X (some ⟨g, 0, none⟩) n zs) W := by
  refine ⟨h, fun b e => e ▸ hl, fun X hX => ⟨h.1, fun hp => ?_⟩⟩
  obtain ⟨b, off, e, hr⟩ := h.2 hp
  cases e
  exact ⟨g, 0, rfl, fun k x hx => (World.cell?_of_block (w := W) (w' := X) (a := ⟨g, 0 + k, none⟩) (hX g rfl)).trans (hr k x hx)⟩

theorem parts_keep {a : Option Addr} {n : Nat} {zs : List PartI} {W X : World} (h : PartsIn W a n zs) (hX : ∀ b off, a = some ⟨b, off, none⟩ → 0 < n → X.heap[b]? = W.heap[b]?) : PartsIn X a n zs := by
  refine ⟨h.1, fun hp => ?_⟩
  obtain ⟨b, off, e, hr⟩ := h.2 hp
  refine ⟨b, off, e, fun k x hx => ?_⟩
  have key : ∀ (q : Nat) (y : Value), W.cell? ⟨b, q, none⟩ = some y → X.cell? ⟨b, q, none⟩ = some y := fun q y hy => (World.cell?_of_block (w := W) (w' := X) (a := ⟨b, q, none⟩) (hX b off e hp)).trans hy
  obtain ⟨h0, h1, h2, h3, h4⟩ := hr k x hx
  exact ⟨key _ _ h0, key _ _ h1, key _ _ h2, key _ _ h3, key _ _ h4⟩

/-- A block that holds parts. -/
def TagP (X : World) (b : Nat) : Prop := ∃ cur fr, X.heap[b]? = some (.cells cur 104 fr)

/-- Some forms' parts, each in a block of parts. -/
def PsIn (A : Nat → Prop) (fs : List FormI) (X : World) : Prop := (∀ b, A b → TagP X b) ∧ ∀ (k : Nat) (x : FormI), fs[k]? = some x → PartsIn X x.a x.n x.ps

theorem psIn_nil (W : World) : HoldS (fun _ => False) (PsIn (fun _ => False) []) W := ⟨⟨fun _ h => h.elim, fun k x h => by simp at h⟩, fun _ h => h.elim, fun X _ => ⟨fun _ h => h.elim, fun k x h => by simp at h⟩⟩

theorem psIn_next {A : Nat → Prop} {fs : List FormI} {W : World} {g c : Nat} {ps : List PartI} {L : Nat} (h : HoldS A (PsIn A fs) W) (ho : OwnP W L (.slice (some ⟨g, 0, none⟩) ps.length c) ps) : HoldS (fun b => A b ∨ b = g) (PsIn (fun b => A b ∨ b = g) (fs ++ [⟨some ⟨g, 0, none⟩, ps.length, c, ps⟩])) W := by
  have hR := OwnP.read rfl ho
  have h0 : W.ownsRow L 104 5 (.slice (some ⟨g, 0, none⟩) ps.length c) ps.length (flatP ps) := ho
  have hT : TagP W g ∧ g < W.heap.size := by
    rcases h0.2 with ⟨e, _⟩ | ⟨g', c', cur, e, _, hh, _⟩
    · cases e
    · cases e
      exact ⟨⟨cur, _, hh⟩, (Array.getElem?_eq_some_iff.1 hh).1⟩
  have key : ∀ X : World, (∀ b, (A b ∨ b = g) → X.heap[b]? = W.heap[b]?) → PsIn (fun b => A b ∨ b = g) (fs ++ [⟨some ⟨g, 0, none⟩, ps.length, c, ps⟩]) X := fun X hX => by
    have hA := h.kp X fun b hb => hX b (.inl hb)
    refine ⟨fun b hb => ?_, fun k x hx => ?_⟩
    · rcases hb with hb | rfl
      · exact hA.1 b hb
      · obtain ⟨cur, fr, e⟩ := hT.1
        exact ⟨cur, fr, (hX b (.inr rfl)).trans e⟩
    · by_cases hk : k < fs.length
      · rw [List.getElem?_append_left hk] at hx
        exact hA.2 k x hx
      · rw [List.getElem?_append_right (by omega)] at hx
        have : k - fs.length = 0 := by
          by_cases e : k - fs.length = 0
          · exact e
          · rw [List.getElem?_eq_none (by simp; omega)] at hx; cases hx
        rw [this] at hx
        cases hx
        exact parts_keep hR (fun b' off e _ => by simp at e; rw [← e.1]; exact hX g (.inr rfl))
  exact ⟨key W fun _ _ => rfl, fun b hb => hb.elim (h.lt b) (fun e => e ▸ hT.2), key⟩

/-- A form as a value. -/
def fval (x : FormI) : Value := .slice x.a x.n x.cap

/-- What stands while a configuration is drawn: the source, the result's box, its own box, its rules. -/
structure KB (w : World) (R Q B : Nat) (a : Option Addr) (len cap kk : Nat) (ys : List Int) (e f : Int) (rg rn rc : Nat) (zs : List RuleI) (fv cv : Value) (wr : World) : Prop where
  ds : DS w wr B a len cap kk ys
  rb : HoldS (· = R) (BoxW R [.int .i64 0, .int .i64 0, .slice none 0 0, .slice none 0 0, .slice none 0 0]) wr
  qb : wr.heap[Q]? = some (.cells #[.int .i64 e, .int .i64 f, .slice (some ⟨rg, 0, none⟩) rn rc, fv, cv] 28 (0, 0))
  zb : HoldS (· = rg) (fun X => RulesIn X (some ⟨rg, 0, none⟩) rn zs) wr
  ne : w.heap.size ≤ R ∧ R < rg ∧ rg < Q

theorem box_of_heap {W : World} {Q : Nat} {cs : Array Value} {t : TypeId} (h : W.heap[Q]? = some (.cells cs t (0, 0))) : BoxW Q cs.toList W := by
  refine ⟨fun j v e => ?_, fun j => ?_⟩
  · unfold World.cell?
    simp only
    rw [h]
    simpa using e
  · unfold World.frozen?
    simp only
    rw [h]
    simp

theorem KB.lt {w : World} {R Q B : Nat} {a : Option Addr} {len cap kk : Nat} {ys : List Int} {e f : Int} {rg rn rc : Nat} {zs : List RuleI} {fv cv : Value} {wr : World} (h : KB w R Q B a len cap kk ys e f rg rn rc zs fv cv wr) : Q < wr.heap.size := (Array.getElem?_eq_some_iff.1 h.qb).1

theorem KB.draw {k' : Nat} {w : World} {R Q B : Nat} {a : Option Addr} {len cap kk : Nat} {ys : List Int} {e f : Int} {rg rn rc : Nat} {zs : List RuleI} {fv cv : Value} {wr wr' : World} (h : KB w R Q B a len cap kk ys e f rg rn rc zs fv cv wr) (hB : B < w.heap.size) (hs : SrcAt wr' B a len cap k' ys) (hg : wr.grownBy wr' (some B)) : KB w R Q B a len cap k' ys e f rg rn rc zs fv cv wr' := by
  have := h.ne
  exact ⟨h.ds.draw hs hg, h.rb.grown hg (fun b e q => by cases e; cases q; omega), (hg.block Q h.lt (fun q => by cases q; omega)).trans h.qb, h.zb.grown hg (fun b e q => by cases e; cases q; omega), h.ne⟩

theorem KB.row {row : Option Nat} {w : World} {R Q B : Nat} {a : Option Addr} {len cap kk : Nat} {ys : List Int} {e f : Int} {rg rn rc : Nat} {zs : List RuleI} {fv cv : Value} {wr wr' : World} (h : KB w R Q B a len cap kk ys e f rg rn rc zs fv cv wr) (hg : wr.grownBy wr' row) (hr : ∀ q, row = some q → w.heap.size ≤ q ∧ q ≠ R ∧ q ≠ Q ∧ q ≠ rg) (hB : B < w.heap.size) (ha : ∀ b off, a = some ⟨b, off, none⟩ → len = 0 ∨ b < w.heap.size) : KB w R Q B a len cap kk ys e f rg rn rc zs fv cv wr' :=
  ⟨h.ds.row hg (fun q e => (hr q e).1) hB ha, h.rb.grown hg (fun b e q => by cases e; exact (hr _ q.symm).2.1 rfl), (hg.block Q h.lt (fun q => (hr _ q.symm).2.2.1 rfl)).trans h.qb, h.zb.grown hg (fun b e q => by cases e; exact (hr _ q.symm).2.2.2 rfl), h.ne⟩

theorem KB.below {w : World} {R Q B : Nat} {a : Option Addr} {len cap kk : Nat} {ys : List Int} {e f : Int} {rg rn rc : Nat} {zs : List RuleI} {fv cv : Value} {wr wr' : World} (h : KB w R Q B a len cap kk ys e f rg rn rc zs fv cv wr) (hb : Below wr.heap.size wr wr') (hB : B < w.heap.size) (ha : ∀ b off, a = some ⟨b, off, none⟩ → len = 0 ∨ b < w.heap.size) : KB w R Q B a len cap kk ys e f rg rn rc zs fv cv wr' := h.row (grown_belowK hb) (fun q e => by cases e) hB ha

theorem KB.putC {w : World} {R Q B : Nat} {a : Option Addr} {len cap kk : Nat} {ys : List Int} {e f : Int} {rg rn rc : Nat} {zs : List RuleI} {fv cv : Value} {wr : World} (h : KB w R Q B a len cap kk ys e f rg rn rc zs fv cv wr) (v : Value) (hB : B < w.heap.size) (ha : ∀ b off, a = some ⟨b, off, none⟩ → len = 0 ∨ b < w.heap.size) : KB w R Q B a len cap kk ys e f rg rn rc zs fv v (wr.setCell ⟨Q, 4, none⟩ v) := by
  have hg := grown_set wr Q 4 v
  have := h.ne
  exact ⟨h.ds.set (by omega) hB ha 4 v, h.rb.grown hg (fun b e q => by cases e; cases q; omega), heap_setCell_same _ Q 4 _ _ v h.qb, h.zb.grown hg (fun b e q => by cases e; cases q; omega), h.ne⟩

theorem KB.putF {w : World} {R Q B : Nat} {a : Option Addr} {len cap kk : Nat} {ys : List Int} {e f : Int} {rg rn rc : Nat} {zs : List RuleI} {fv cv : Value} {wr : World} (h : KB w R Q B a len cap kk ys e f rg rn rc zs fv cv wr) (v : Value) (hB : B < w.heap.size) (ha : ∀ b off, a = some ⟨b, off, none⟩ → len = 0 ∨ b < w.heap.size) : KB w R Q B a len cap kk ys e f rg rn rc zs v cv (wr.setCell ⟨Q, 3, none⟩ v) := by
  have hg := grown_set wr Q 3 v
  have := h.ne
  exact ⟨h.ds.set (by omega) hB ha 3 v, h.rb.grown hg (fun b e q => by cases e; cases q; omega), heap_setCell_same _ Q 3 _ _ v h.qb, h.zb.grown hg (fun b e q => by cases e; cases q; omega), h.ne⟩

/-- With its classes. -/
structure KC (w : World) (R Q B : Nat) (a : Option Addr) (len cap kk : Nat) (ys : List Int) (e f : Int) (rg rn rc : Nat) (zs : List RuleI) (fv : Value) (cg cn cc : Nat) (cs : List Int) (wr : World) : Prop where
  kb : KB w R Q B a len cap kk ys e f rg rn rc zs fv (.slice (some ⟨cg, 0, none⟩) cn cc) wr
  ow : wr.ownsRow (rg + 1) 2 1 (.slice (some ⟨cg, 0, none⟩) cn cc) cn (cs.map (Value.int .i64))

theorem row_cell {W : World} {b : Nat} {t : TypeId} {sz n : Nat} {v : Value} {xs : List Value} (h : W.ownsRow b t sz v n xs) {g : Nat} (hg : v.ownBlock = some g) : ∃ cur, W.heap[g]? = some (.cells cur t (0, 0)) := by
  rcases h.2 with ⟨rfl, _⟩ | ⟨g', c', cur, rfl, _, hh, _⟩
  · simp [Value.ownBlock] at hg
  · simp [Value.ownBlock] at hg
    subst hg
    exact ⟨cur, hh⟩

theorem KC.neQ {w : World} {R Q B : Nat} {a : Option Addr} {len cap kk : Nat} {ys : List Int} {e f : Int} {rg rn rc : Nat} {zs : List RuleI} {fv : Value} {cg cn cc : Nat} {cs : List Int} {wr : World} (h : KC w R Q B a len cap kk ys e f rg rn rc zs fv cg cn cc cs wr) : cg ≠ Q ∧ rg < cg ∧ cg < wr.heap.size := by
  obtain ⟨cur, hc⟩ := row_cell h.ow rfl
  refine ⟨fun e => ?_, ?_, ?_⟩
  · subst e
    have := h.kb.qb
    rw [hc] at this
    simp at this
  · exact (h.ow.lt cg rfl).1
  · exact (h.ow.lt cg rfl).2

theorem KC.draw {k' : Nat} {w : World} {R Q B : Nat} {a : Option Addr} {len cap kk : Nat} {ys : List Int} {e f : Int} {rg rn rc : Nat} {zs : List RuleI} {fv : Value} {cg cn cc : Nat} {cs : List Int} {wr wr' : World} (h : KC w R Q B a len cap kk ys e f rg rn rc zs fv cg cn cc cs wr) (hB : B < w.heap.size) (hs : SrcAt wr' B a len cap k' ys) (hg : wr.grownBy wr' (some B)) : KC w R Q B a len cap k' ys e f rg rn rc zs fv cg cn cc cs wr' := by
  have := h.neQ
  have := h.kb.ne
  exact ⟨h.kb.draw hB hs hg, World.ownsRow.kept (row := some B) h.ow hg (.inr (by simp [Value.ownBlock]; omega))⟩

theorem KC.below {w : World} {R Q B : Nat} {a : Option Addr} {len cap kk : Nat} {ys : List Int} {e f : Int} {rg rn rc : Nat} {zs : List RuleI} {fv : Value} {cg cn cc : Nat} {cs : List Int} {wr wr' : World} (h : KC w R Q B a len cap kk ys e f rg rn rc zs fv cg cn cc cs wr) (hb : Below wr.heap.size wr wr') (hB : B < w.heap.size) (ha : ∀ b off, a = some ⟨b, off, none⟩ → len = 0 ∨ b < w.heap.size) : KC w R Q B a len cap kk ys e f rg rn rc zs fv cg cn cc cs wr' :=
  ⟨h.kb.below hb hB ha, World.ownsRow.kept (row := none) h.ow (grown_belowK hb) (.inr (by simp [Value.ownBlock]))⟩

/-- One class more, and its slice put back. -/
theorem KC.push {w : World} {R Q B : Nat} {a : Option Addr} {len cap kk : Nat} {ys : List Int} {e f : Int} {rg rn rc : Nat} {zs : List RuleI} {fv : Value} {cg cn cc : Nat} {cs : List Int} {wr wr' : World} {x : Int} {v' : Value} (h : KC w R Q B a len cap kk ys e f rg rn rc zs fv cg cn cc cs wr) (hB : B < w.heap.size) (ha : ∀ b off, a = some ⟨b, off, none⟩ → len = 0 ∨ b < w.heap.size) (ho : wr'.ownsRow (rg + 1) 2 1 v' (cn + 1) (cs.map (Value.int .i64) ++ [.int .i64 x])) (hg : wr.grownBy wr' (some cg)) :
    KB w R Q B a len cap kk ys e f rg rn rc zs fv (.slice (some ⟨cg, 0, none⟩) cn cc) wr' ∧ ∃ cg' cc', v' = .slice (some ⟨cg', 0, none⟩) (cn + 1) cc' ∧ KC w R Q B a len cap kk ys e f rg rn rc zs fv cg' (cn + 1) cc' (cs ++ [x]) (wr'.setCell ⟨Q, 4, none⟩ v') := by
  have hn := h.neQ
  have hr := h.kb.ne
  have hk := h.kb.row hg (fun q e => by cases e; omega) hB ha
  refine ⟨hk, ?_⟩
  rcases ho.2 with ⟨_, e⟩ | ⟨g', c', cur, rfl, hb, hh, _⟩
  · omega
  · refine ⟨g', c', rfl, hk.putC _ hB ha, ?_⟩
    have hne : g' ≠ Q := fun e => by
      subst e
      have := hk.qb
      rw [hh] at this
      simp at this
    rw [List.map_append]
    exact World.ownsRow.kept (row := some Q) ho (grown_set _ _ _ _) (.inr (by simp [Value.ownBlock]; omega))

/-- With its forms: all else lies below L, they from L on. -/
structure KF (w : World) (L R Q B : Nat) (a : Option Addr) (len cap kk : Nat) (ys : List Int) (e f : Int) (rg rn rc : Nat) (zs : List RuleI) (fv : Value) (cg cn cc : Nat) (cs : List Int) (fn : Nat) (fs : List FormI) (A : Nat → Prop) (wr : World) : Prop where
  kb : KB w R Q B a len cap kk ys e f rg rn rc zs fv (.slice (some ⟨cg, 0, none⟩) cn cc) wr
  ci : HoldS (· = cg) (fun X => IntIn X (some ⟨cg, 0, none⟩) cn cs) wr
  fo : wr.ownsRow L 42 1 fv fn (fs.map fval)
  fp : HoldS A (PsIn A fs) wr
  fa : ∀ b, A b → L ≤ b
  ne : Q < L ∧ cg < L ∧ rg < cg ∧ L ≤ wr.heap.size
  cq : cg ≠ Q
  le : FormsLe 9 fs

theorem KF.of {w : World} {R Q B : Nat} {a : Option Addr} {len cap kk : Nat} {ys : List Int} {e f : Int} {rg rn rc : Nat} {zs : List RuleI} {cg cn cc : Nat} {cs : List Int} {wr : World} (h : KC w R Q B a len cap kk ys e f rg rn rc zs (.slice none 0 0) cg cn cc cs wr) : KF w wr.heap.size R Q B a len cap kk ys e f rg rn rc zs (.slice none 0 0) cg cn cc cs 0 [] (fun _ => False) wr := by
  have hn := h.neQ
  refine ⟨h.kb, holdS_ints (owns_ints ?_ h.ow) hn.2.2, World.ownsRow_nil _ _ _ _, psIn_nil _, fun _ h => h.elim, ⟨h.kb.lt, hn.2.2, hn.2.1, Nat.le_refl _⟩, hn.1, fun k x h => by simp at h⟩
  have := h.ow.1
  simpa using this

theorem KF.draw {k' : Nat} {w : World} {R Q B : Nat} {a : Option Addr} {len cap kk : Nat} {ys : List Int} {e f : Int} {rg rn rc : Nat} {zs : List RuleI} {fv : Value} {cg cn cc : Nat} {cs : List Int} {fn : Nat} {fs : List FormI} {A : Nat → Prop} {L : Nat} {wr wr' : World} (h : KF w L R Q B a len cap kk ys e f rg rn rc zs fv cg cn cc cs fn fs A wr) (hB : B < w.heap.size) (hs : SrcAt wr' B a len cap k' ys) (hg : wr.grownBy wr' (some B)) : KF w L R Q B a len cap k' ys e f rg rn rc zs fv cg cn cc cs fn fs A wr' := by
  have hn := h.ne
  have hr := h.kb.ne
  refine ⟨h.kb.draw hB hs hg, h.ci.grown hg (fun b e q => by cases e; cases q; omega), World.ownsRow.kept (row := some B) h.fo hg ?_, h.fp.grown hg (fun b e q => by have := h.fa b e; cases q; omega), h.fa, ⟨hn.1, hn.2.1, hn.2.2.1, Nat.le_trans hn.2.2.2 hg.size⟩, h.cq, h.le⟩
  cases ho : fv.ownBlock with
  | none => exact .inl rfl
  | some q => exact .inr (fun e => by have := (h.fo.lt q ho).1; cases e; omega)

theorem KF.len {w : World} {R Q B : Nat} {a : Option Addr} {len cap kk : Nat} {ys : List Int} {e f : Int} {rg rn rc : Nat} {zs : List RuleI} {fv : Value} {cg cn cc : Nat} {cs : List Int} {fn : Nat} {fs : List FormI} {A : Nat → Prop} {L : Nat} {wr : World} (h : KF w L R Q B a len cap kk ys e f rg rn rc zs fv cg cn cc cs fn fs A wr) : fs.length = fn := by
  have := h.fo.1
  simpa using this

/-- One form more, and the slice put back. -/
theorem KF.push {k' p n c : Nat} {ps : List PartI} {w2 : World} {v' : Value} {o : Obj} {w : World} {R Q B : Nat} {a : Option Addr} {len cap kk : Nat} {ys : List Int} {e f : Int} {rg rn rc : Nat} {zs : List RuleI} {fv : Value} {cg cn cc : Nat} {cs : List Int} {fn : Nat} {fs : List FormI} {A : Nat → Prop} {L : Nat} {wr wr' : World} (h : KF w L R Q B a len cap kk ys e f rg rn rc zs fv cg cn cc cs fn fs A wr) (hB : B < w.heap.size) (ha : ∀ b off, a = some ⟨b, off, none⟩ → len = 0 ∨ b < w.heap.size) (hM : LM wr w2 B a len cap k' ys p n c ps) (hn9 : n ≤ 9) (ho : wr'.ownsRow L 42 1 v' (fn + 1) (fs.map fval ++ [.slice (some ⟨p, 0, none⟩) n c])) (hg : (w2.alloc o).grownBy wr' fv.ownBlock) :
    KB w R Q B a len cap k' ys e f rg rn rc zs fv (.slice (some ⟨cg, 0, none⟩) cn cc) wr' ∧ ∃ g' c', v' = .slice (some ⟨g', 0, none⟩) (fn + 1) c' ∧ KF w L R Q B a len cap k' ys e f rg rn rc zs v' cg cn cc cs (fn + 1) (fs ++ [⟨some ⟨p, 0, none⟩, n, c, ps⟩]) (fun b => A b ∨ b = p) (wr'.setCell ⟨Q, 3, none⟩ v') := by
  have h2 := h.draw hB hM.ds.src hM.ds.gr
  have hn := h2.ne
  have hr := h2.kb.ne
  have hpl := hM.ln
  subst hpl
  have hp2 := psIn_next h2.fp hM.ow
  have hL := h.ne.2.2.2
  have hgw := hM.gw
  have hal := grown_alloc w2 o
  have hk3 := h2.kb.row hal (fun q e => by cases e) hB ha
  have hc3 := h2.ci.grown hal (fun b e q => by cases q)
  have ho3 := h2.fo.alloc o
  have hp3 := hp2.grown hal (fun b e q => by cases q)
  have hown : ∀ q, fv.ownBlock = some q → L ≤ q := fun q e => (ho3.lt q e).1
  have hk9 := hk3.row hg (fun q e => by have := hown q e; omega) hB ha
  have hc9 := hc3.grown hg (fun b e q => by cases e; have := hown _ q.symm; omega)
  have hp9 := hp3.grown hg (fun b e q => by
    obtain ⟨cur, hc⟩ := row_cell ho3 q.symm
    obtain ⟨cur', fr, hc'⟩ := hp3.now.1 b e
    rw [hc] at hc'
    simp at hc')
  refine ⟨hk9, ?_⟩
  rcases ho.2 with ⟨_, e⟩ | ⟨g', c', cur, rfl, hb, hh, _⟩
  · omega
  · have hset := grown_set wr' Q 3 (.slice (some ⟨g', 0, none⟩) (fn + 1) c')
    refine ⟨g', c', rfl, hk9.putF _ hB ha, hc9.grown hset (fun b e q => by cases e; cases q; exact h.cq rfl), ?_, hp9.grown hset (fun b e q => by cases q; rcases e with e | e; have := h.fa _ e; omega; omega), fun b e => by rcases e with e | e; exact h.fa b e; omega, ⟨hn.1, hn.2.1, hn.2.2.1, ?_⟩, h.cq, ?_⟩
    · rw [List.map_append]
      exact World.ownsRow.kept (row := some Q) ho hset (.inr (by simp [Value.ownBlock]; omega))
    · simp only [World.size_setCell]
      exact Nat.le_trans (Nat.le_trans hn.2.2.2 (by simp)) hg.size
    · intro k x hx
      by_cases hk : k < fs.length
      · rw [List.getElem?_append_left hk] at hx
        exact h.le k x hx
      · rw [List.getElem?_append_right (by omega)] at hx
        have : k - fs.length = 0 := by
          by_cases e : k - fs.length = 0
          · exact e
          · rw [List.getElem?_eq_none (by simp; omega)] at hx; cases hx
        rw [this] at hx
        cases hx
        exact hn9

/-- A configuration that was drawn: its forms' row is its own, the rest hangs on blocks that are new. -/
structure KD (w : World) (B : Nat) (a : Option Addr) (len cap kk : Nat) (ys : List Int) (c : ConfI) (A : Nat → Prop) (g : Nat) (wr : World) : Prop where
  ds : DS w wr B a len cap kk ys
  fa : c.fa = some ⟨g, 0, none⟩
  fo : wr.ownsRow w.heap.size 42 1 (.slice c.fa c.fn c.fc) c.fn (c.fs.map fval)
  re : HoldS A (fun X => RulesIn X c.ra c.rn c.zs ∧ IntIn X c.ca c.cn c.cs ∧ ∀ (k : Nat) (x : FormI), c.fs[k]? = some x → PartsIn X x.a x.n x.ps) wr
  av : ∀ b, A b → w.heap.size ≤ b ∧ b ≠ g
  ra : ∀ b off, c.ra = some ⟨b, off, none⟩ → w.heap.size ≤ b
  rc : c.rn ≤ c.rc ∧ c.rc ≤ maxLen
  le : c.rn ≤ 17 ∧ c.fn ≤ 5 ∧ c.cn ≤ 5 ∧ FormsLe 9 c.fs

end Go.Proofs.YtaeigimgobilaaaGreatDoor

namespace Go.Proofs.YtaeigimgobilaaaGreatDoor
open Go.RowKit
set_option linter.unusedVariables false
set_option linter.unusedSimpArgs false

theorem hidQ {p : Prop} (h : p) : Hid p := h

theorem Tryz.infoFm : (Tryz.prog.info? 42).map (fun i => (i.zero, i.size, i.bytes)) = some (some (.agg #[.slice none 0 0]), 1, 24) := by kernel_rfl

theorem step_appendK {P : Program} {w : World} {ops : Array Oper} {o : Oper} {a : Act} {K : Act → World → Prop} {Q : Exit → Act → World → Prop} {E : Prop} (hgd : o.guard = none) (s x : Operand) (t : TypeId)
    (ho : o.op = .call { callee := .builtin .append, args := #[s, x], argTypes := #[t, t] })
    (base : Nat) (e : TypeId) (i : TypeInfo) (z : Value) (size bytes : Nat) (ht : P.underlying t = some (.slice e)) (hi : P.info? e = some i) (hz : i.zero = some z)
    (hsize : i.size = size) (hby : i.bytes = bytes) (hzs : z.cells.size = size) (hsz : 0 < size)
    (v : Value) (n : Nat) (xs : List Value) (hs : a.eval s = v) (hown : w.ownsRow base e size v n xs)
    (ad : Addr) (m c : Nat) (news : List Value) (hx : a.eval x = .slice (some ad) m c) (hl : news.length = m * size) (hnews : ∀ j u, news[j]? = some u → w.cell? (ad.add j) = some u) (h1 : ∀ u ∈ news, u.oneCell' = true)
    (h63 : n + m ≤ maxLen) (hbytes : (n + m) * bytes ≤ 140737488355328) (hbase : base ≤ w.heap.size)
    (h : ∀ v' w', w'.ownsRow base e size v' (n + m) (xs ++ news) → w.grownBy w' v.ownBlock → (v' = .slice none 0 0 ↔ v = .slice none 0 0 ∧ m = 0) → K (a.put o.dst v') w') :
    if Region.wanted o (yielded ops a.tmps) = true then Oper.wp P o a w K Q else E := by
  have hw : Region.wanted o (yielded ops a.tmps) = true := by simp [Region.wanted, hgd]
  rw [if_pos hw]
  exact wp_append_own w s x t ho base e i z size bytes ht hi hz hsize hby hzs hsz v n xs hs hown ad m c news hx hl hnews h1 h63 hbytes hbase h

theorem cell_oneV (W : World) (x : Value) (T : TypeId) : ∀ j u, [x][j]? = some u → (W.alloc (.cells #[x] T)).cell? ((⟨W.heap.size, 0, none⟩ : Addr).add j) = some u := by
  intro j u hj
  match j with
  | 0 => simp at hj; subst hj; simp [Addr.add]
  | k + 1 => simp at hj

theorem pickK (w W' : World) (B : Nat) (a : Option Addr) (len cap at' : Nat) (ys : List Int) (h : SrcAt w B a len cap at' ys) (hl : len ≤ 1048576) (hat : at' ≤ 1000) (xs : List Int) (hn : 1 ≤ xs.length) (hn2 : xs.length ≤ 100) (g : Nat) (hgB : g ≠ B) (hb : Below w.heap.size w W') (hc : BoxV g (xs.map (Value.int .i64)) W') :
    Calls Tryz.prog 18 #[.pointer (some ⟨B, 0, none⟩), .slice (some ⟨g, 0, none⟩) xs.length xs.length] W' fun e w' => ∃ v : Int, e = .returned (.int .i64 v) ∧ SrcAt w' B a len cap (at' + 1) ys ∧ w.grownBy w' (some B) := by
  refine (pick_c _ B a len cap at' ys (h.below hb) hl hat g xs.length xs.length xs rfl hn hn2 hgB (fun j hj => ?_)).mono ?_
  · exact hc j (.int .i64 (xs[j]?.getD 0)) (by simp [List.getElem?_eq_getElem hj])
  · rintro e w' ⟨j, hj, rfl, hS, hG⟩
    exact ⟨_, rfl, hS, grown_trans (grown_none (grown_belowK hb) _) hG⟩

theorem lm_drew {w wr : World} {B : Nat} {a : Option Addr} {len cap kk : Nat} {ys : List Int} {g n c : Nat} {ps : List PartI} (h : LM w.drew wr B a len cap kk ys g n c ps) : LM w wr B a len cap kk ys g n c ps :=
  ⟨h.ow, h.ln, ⟨h.ds.src, h.ds.gr.os, h.ds.gr.tape, h.ds.gr.output, h.ds.gr.size, h.ds.gr.block⟩, h.gw, h.gl⟩

/-- Its box and its first class are made. -/
theorem KC.new {w w3 : World} {R B : Nat} {a : Option Addr} {len cap kk : Nat} {ys : List Int} {rg rn rc : Nat} {zs : List RuleI} (e f x : Int) (ds : DS w w3 B a len cap kk ys) (rb : HoldS (· = R) (BoxW R [.int .i64 0, .int .i64 0, .slice none 0 0, .slice none 0 0, .slice none 0 0]) w3) (zb : HoldS (· = rg) (fun X => RulesIn X (some ⟨rg, 0, none⟩) rn zs) w3) (hR : w.heap.size ≤ R ∧ R < rg) :
    KC w R (w3.heap.size + 1) B a len cap kk ys e f rg rn rc zs (.slice none 0 0) w3.heap.size 1 1 [x] ((w3.alloc (.cells #[.int .i64 x] 2)).alloc (.cells #[.int .i64 e, .int .i64 f, .slice (some ⟨rg, 0, none⟩) rn rc, .slice none 0 0, .slice (some ⟨w3.heap.size, 0, none⟩) 1 1] 28)) := by
  have hl := zb.lt rg rfl
  refine ⟨⟨(ds.alloc _).alloc _, (rb.grown (grown_alloc _ _) (fun b e q => by cases q)).grown (grown_alloc _ _) (fun b e q => by cases q), ?_, (zb.grown (grown_alloc _ _) (fun b e q => by cases q)).grown (grown_alloc _ _) (fun b e q => by cases q), hR.1, hR.2, by omega⟩, ?_⟩
  · have := heap_alloc_new (w3.alloc (.cells #[.int .i64 x] 2)) (.cells #[.int .i64 e, .int .i64 f, .slice (some ⟨rg, 0, none⟩) rn rc, .slice none 0 0, .slice (some ⟨w3.heap.size, 0, none⟩) 1 1] 28)
    simp only [World.size_alloc] at this
    exact this
  · exact (World.ownsRow_lit (base := rg + 1) (e := 2) (size := 1) w3 #[.int .i64 x] 1 (by omega) (by unfold maxLen; omega) rfl).alloc _

theorem grown5 (W : World) (R : Nat) (v0 v1 v2 v3 v4 : Value) : W.grownBy (((((W.setCell ⟨R, 0, none⟩ v0).setCell ⟨R, 1, none⟩ v1).setCell ⟨R, 2, none⟩ v2).setCell ⟨R, 3, none⟩ v3).setCell ⟨R, 4, none⟩ v4) (some R) :=
  grown_trans (grown_trans (grown_trans (grown_trans (grown_set _ _ _ _) (grown_set _ _ _ _)) (grown_set _ _ _ _)) (grown_set _ _ _ _)) (grown_set _ _ _ _)

/-- Its draw is done. -/
theorem KF.done {w : World} {L R Q B : Nat} {a : Option Addr} {len cap kk : Nat} {ys : List Int} {e f : Int} {rg rn rc : Nat} {zs : List RuleI} {g fc cg cn cc : Nat} {cs : List Int} {fn : Nat} {fs : List FormI} {A : Nat → Prop} {wr W5 : World} (h : KF w L R Q B a len cap kk ys e f rg rn rc zs (.slice (some ⟨g, 0, none⟩) fn fc) cg cn cc cs fn fs A wr) (hB : B < w.heap.size) (ha : ∀ b off, a = some ⟨b, off, none⟩ → len = 0 ∨ b < w.heap.size) (hrc : rn ≤ rc ∧ rc ≤ maxLen) (hrn : rn ≤ 17) (hfn : fn ≤ 5) (hcn : cn ≤ 5) (hg : wr.grownBy W5 (some R)) :
    KD w B a len cap kk ys ⟨e, f, some ⟨rg, 0, none⟩, rn, rc, zs, some ⟨g, 0, none⟩, fn, fc, fs, some ⟨cg, 0, none⟩, cn, cc, cs⟩ (fun b => A b ∨ b = rg ∨ b = cg) g W5 := by
  have hn := h.ne
  have hr := h.kb.ne
  have hgl := (h.fo.lt g rfl).1
  have fo5 : W5.ownsRow L 42 1 (.slice (some ⟨g, 0, none⟩) fn fc) fn (fs.map fval) := World.ownsRow.kept (row := some R) h.fo hg (.inr (by simp [Value.ownBlock]; omega))
  refine ⟨h.kb.ds.row hg (fun q e => by cases e; omega) hB ha, rfl, ⟨fo5.1, ?_⟩, ?_, ?_, fun b off e => by simp at e; omega, hrc, hrn, hfn, hcn, h.le⟩
  · rcases fo5.2 with q | ⟨g', c', cur, q1, q2, q3⟩
    · exact .inl q
    · exact .inr ⟨g', c', cur, q1, by omega, q3⟩
  · have hp := h.fp.grown hg (fun b e q => by cases q; have := h.fa _ e; omega)
    have hz := h.kb.zb.grown hg (fun b e q => by cases e; cases q; omega)
    have hc := h.ci.grown hg (fun b e q => by cases e; cases q; omega)
    have h3 := hp.and (hz.and hc)
    exact h3.imp fun X hX => ⟨hX.2.1, hX.2.2, hX.1.2⟩
  · rintro b (e | rfl | rfl)
    · refine ⟨by have := h.fa b e; omega, fun q => ?_⟩
      subst q
      obtain ⟨cur, hc⟩ := row_cell h.fo rfl
      obtain ⟨cur', fr, hc'⟩ := h.fp.now.1 _ e
      rw [hc] at hc'
      simp at hc'
    · exact ⟨by omega, by omega⟩
    · exact ⟨by omega, by omega⟩

set_option maxRecDepth 100000 in
set_option maxHeartbeats 8000000 in
theorem draw6_c (w : World) (B : Nat) (a : Option Addr) (len cap k0 : Nat) (ys : List Int) (e f : Int) (h : SrcAt w B a len cap k0 ys) (hl : len ≤ 1048576) (hk0 : k0 ≤ 300) :
    Calls Tryz.prog 36 #[.pointer (some ⟨B, 0, none⟩), .int .i64 e, .int .i64 f] w fun d w' => ∃ (c : ConfI) (A : Nat → Prop) (g kk : Nat), d = .returned (.agg #[.int .i64 c.e, .int .i64 c.f, .slice c.ra c.rn c.rc, .slice c.fa c.fn c.fc, .slice c.ca c.cn c.cc]) ∧ 2 ≤ c.fn ∧ kk ≤ k0 + 200 ∧ KD w B a len cap kk ys c A g w' := by
  have hB := h.lt
  have HCode : Hid (∀ b off, a = some ⟨b, off, none⟩ → len = 0 ∨ b < w.heap.size) := h.code_lt
  obtain ⟨W0, hW0⟩ : ∃ W0, W0 = w.alloc (.cells #[.int .i64 0, .int .i64 0, .slice none 0 0, .slice none 0 0, .slice none 0 0] 28) := ⟨_, rfl⟩
  have D0 : Hid (DS w W0 B a len cap k0 ys) := by rw [hW0]; exact (DS.start h).alloc _
  have R0 : Hid (HoldS (· = w.heap.size) (BoxW w.heap.size [.int .i64 0, .int .i64 0, .slice none 0 0, .slice none 0 0, .slice none 0 0]) W0) := by rw [hW0]; exact holdS_box (boxW_new w _ _) (by simp)
  have hs0 : W0.heap.size = w.heap.size + 1 := by rw [hW0]; simp
  obtain ⟨i0, hi, hz0, hz1, hz2⟩ := info_parts Tryz.infoI
  obtain ⟨j0, hj, hy0, hy1, hy2⟩ := info_parts Tryz.infoFm
  have hun : Tryz.prog.underlying 26 = some (.slice 2) := by kernel_rfl
  have hfun : Tryz.prog.underlying 25 = some (.slice 42) := by kernel_rfl
  clear h
  go_enter Tryz.func36, Tryz.ntmps36
  go_upto_region 1 with fail
  rw [← hW0]
  clear hW0
  go_wp2_with fail
  refine (policy_c _ B a len cap k0 ys D0.out.src hl (by omega)).mono ?_
  rintro d w1 ⟨rg, rn, rc, kk1, zs, rfl, hrn, hkk1, hLP⟩
  have D1 : Hid (DS w w1 B a len cap kk1 ys) := ⟨hLP.ds.src, grown_trans D0.out.gr hLP.ds.gr⟩
  have R1 := hidQ (R0.out.grown hLP.ds.gr (fun b e q => by cases e; cases q; omega))
  have Z1 : Hid (HoldS (· = rg) (fun X => RulesIn X (some ⟨rg, 0, none⟩) rn zs) w1) := holdS_rules (hLP.ow.read hLP.ln) hLP.gl
  have hrg : w.heap.size < rg := by have := hLP.gw; omega
  have HRC := hidQ (own8_cap hLP.ln hLP.ow)
  clear hLP D0 R0 hs0
  go_wp2_with fail
  refine (pickK w1 _ B a len cap kk1 ys D1.out.src hl (by omega) [3, 7, 6] (by simp) (by simp) w1.heap.size (by have := D1.out.src.lt; omega) ((Below.refl _ _).alloc (Nat.le_refl _) _) (boxV_new w1 _ _).out).mono ?_
  rintro d w3 ⟨x, rfl, hS3, hG3⟩
  have D3 := hidQ (D1.out.draw hS3 hG3)
  have R3 := hidQ (R1.out.grown hG3 (fun b e q => by cases e; cases q; omega))
  have Z3 := hidQ (Z1.out.grown hG3 (fun b e q => by cases e; cases q; omega))
  clear hS3 hG3 D1 R1 Z1
  have K5 := hidQ (KC.new (rc := rc) e f x D3.out R3.out Z3.out ⟨Nat.le_refl _, hrg⟩)
  clear D3 R3 Z3
  go_upto_region 2 with fail
  generalize (w3.alloc (.cells #[.int .i64 x] 2)).alloc (.cells #[.int .i64 e, .int .i64 f, .slice (some ⟨rg, 0, none⟩) rn rc, .slice none 0 0, .slice (some ⟨w3.heap.size, 0, none⟩) 1 1] 28) = W5 at K5 ⊢
  generalize w3.heap.size + 1 = Q at K5 ⊢
  obtain ⟨cg, cn, cc, cs, hcn, hK5⟩ : ∃ (cg cn cc : Nat) (cs : List Int), cn ≤ 1 ∧ Hid (KC w w.heap.size Q B a len cap (kk1 + 1) ys e f rg rn rc zs (.slice none 0 0) cg cn cc cs W5) := ⟨_, _, _, _, by omega, K5⟩
  clear K5
  go_wp2_with fail
  refine (chance_c _ B a len cap (kk1 + 1) ys 2 hK5.out.kb.ds.src hl (by omega) (by omega) (by omega)).mono ?_
  rintro d w6 ⟨t, rfl, hS6, hG6⟩
  have K6 := hidQ (hK5.out.draw hB hS6 hG6)
  clear hS6 hG6 hK5
  have qB6 := box_of_heap K6.out.kb.qb
  have d6 := qB6.1 4 _ rfl
  have hQ6 := K6.out.kb.lt
  clear qB6
  go_upto_if 19 with fail
  go_cut [19] (fun s19 wx => ∃ (cg cn cc : Nat) (cs : List Int) (kk : Nat), cn ≤ 2 ∧ kk ≤ kk1 + 3 ∧ KC w w.heap.size Q B a len cap kk ys e f rg rn rc zs (.slice none 0 0) cg cn cc cs wx)
  case first =>
    cases t
    · go_wp2_with fail
      go_meet
      case rel => exact ⟨cg, cn, cc, cs, _, by omega, by omega, K6.out⟩
    · go_upto_region 3 with fail
      refine wp_region_held_drew (S := fun _ => True) (by kernel_rfl) (trivial) (fun hHeld => ?_)
      refine wpAnyH_take (i := 0) (v := ?_) rfl (by kernel_rfl) (by kernel_rfl) (by kernel_rfl) (fun _ _ _ h => h) (Or.inl ⟨by kernel_rfl, ?_⟩) (by assumption) ?_
      rotate_left 1
      · intro w hSw; (try dsimp only at hSw); go_simp; try (with_reducible rfl)
      try simp only [Act.put, List.getElem_toArray, List.getElem_cons_succ, List.getElem_cons_zero, List.setIfInBounds_toArray, List.set_cons_zero, List.set_cons_succ]
      refine wpAnyH_take (i := 2) (v := ?_) rfl (by kernel_rfl) (by kernel_rfl) (by kernel_rfl) (fun _ _ _ h => h) (Or.inl ⟨by kernel_rfl, ?_⟩) (by assumption) ?_
      rotate_left 1
      · intro w hSw; (try dsimp only at hSw); go_simp; try (with_reducible rfl)
      try simp only [Act.put, List.getElem_toArray, List.getElem_cons_succ, List.getElem_cons_zero, List.setIfInBounds_toArray, List.set_cons_zero, List.set_cons_succ]
      refine wpAnyH_ready (rs := [1, 3]) (by kernel_rfl) (by simp) ?_
      refine AllReadyH.cons rfl (fun K hK => ?_) (AllReadyH.cons rfl (fun K hK => ?_) AllReadyH.nil)
      · go_simp
        have hS : True := trivial
        refine hK.out _ _ hS (fun hHeld => ?_)
        clear hK K
        try simp only [Act.put, List.getElem_toArray, List.getElem_cons_succ, List.getElem_cons_zero, List.setIfInBounds_toArray, List.set_cons_zero, List.set_cons_succ]
        refine wpAnyH_ready (rs := [3]) (by kernel_rfl) (by simp) ?_
        refine AllReadyH.cons rfl (fun K hK => ?_) AllReadyH.nil
        go_simp
        have hS : True := trivial
        refine hK.out _ _ hS (fun hHeld => ?_)
        clear hK K
        try simp only [Act.put, List.getElem_toArray, List.getElem_cons_succ, List.getElem_cons_zero, List.setIfInBounds_toArray, List.set_cons_zero, List.set_cons_succ]
        refine wpAnyH_ready (rs := [4]) (by kernel_rfl) (by simp) ?_
        refine AllReadyH.cons rfl (fun K hK => ?_) AllReadyH.nil
        go_simp
        refine (pickK w6 _ B a len cap (kk1 + 1 + 1) ys K6.out.kb.ds.src hl (by omega) [5, 12, 1] (by simp) (by simp) w6.heap.size (by have := K6.out.kb.ds.src.lt; omega) ((Below.refl _ _).alloc (Nat.le_refl _) _).drew ((boxV_new w6 _ _).drew).out).mono ?_
        rintro d w8 ⟨y, rfl, hS8, hG8⟩
        have K8 := hidQ (K6.out.draw hB hS8 hG8)
        have qB8 := box_of_heap K8.out.kb.qb
        have d8 := qB8.1 4 _ rfl
        have hQ8 := K8.out.kb.lt
        clear hS8 hG8 qB8
        have hS : True := trivial
        refine hK.out _ _ hS (fun hHeld => ?_)
        clear hK K
        try simp only [Act.put, List.getElem_toArray, List.getElem_cons_succ, List.getElem_cons_zero, List.setIfInBounds_toArray, List.set_cons_zero, List.set_cons_succ]
        refine wpAnyH_ready (rs := [5]) (by kernel_rfl) (by simp) ?_
        refine AllReadyH.cons rfl (fun K hK => ?_) AllReadyH.nil
        go_simp
        have hS : True := trivial
        refine hK.out _ _ hS (fun hHeld => ?_)
        clear hK K
        try simp only [Act.put, List.getElem_toArray, List.getElem_cons_succ, List.getElem_cons_zero, List.setIfInBounds_toArray, List.set_cons_zero, List.set_cons_succ]
        refine wpAnyH_ready (rs := [6]) (by kernel_rfl) (by simp) ?_
        refine AllReadyH.cons rfl (fun K hK => ?_) AllReadyH.nil
        refine step_appendK rfl (.tmp 21) (.tmp 25) 26 rfl (rg + 1) 2 i0 (.int .i64 0) 1 8 hun hi hz0 hz1 hz2 rfl (by decide) _ cn (cs.map (Value.int .i64)) (by rfl) (K8.out.ow.alloc _) ⟨w8.heap.size, 0, none⟩ 1 1 [.int .i64 y] (by rfl) (by rfl) (cell_one w8 y _) (by simp [Value.oneCell']) (by unfold maxLen; omega) (by omega) (by have := K8.out.neQ; simp; omega) ?_
        intro v9 w9 hown9 hgrow9 hnil9
        have HP := hidQ (KC.push (K8.out.below ((Below.refl _ _).alloc (Nat.le_refl _) _) hB HCode.out) hB HCode.out hown9 hgrow9)
        clear hown9 hgrow9 hnil9
        obtain ⟨kb9, cg', cc', rfl, hK10⟩ := HP.out
        have K10 := hidQ hK10
        have qB9 := box_of_heap kb9.qb
        have d9 := qB9.1 4 _ rfl
        have e9 := qB9.2 4
        have hQ9 := kb9.lt
        clear HP hK10 kb9 qB9
        have hS : True := trivial
        refine hK.out _ _ hS (fun hHeld => ?_)
        clear hK K
        try simp only [Act.put, List.getElem_toArray, List.getElem_cons_succ, List.getElem_cons_zero, List.setIfInBounds_toArray, List.set_cons_zero, List.set_cons_succ]
        refine wpAnyH_take (i := 7) (v := ?_) rfl (by kernel_rfl) (by kernel_rfl) (by kernel_rfl) (fun _ _ _ h => h) (Or.inl ⟨by kernel_rfl, ?_⟩) (by assumption) ?_
        rotate_left 1
        · intro w hSw; (try dsimp only at hSw); go_simp; try (with_reducible rfl)
        try simp only [Act.put, List.getElem_toArray, List.getElem_cons_succ, List.getElem_cons_zero, List.setIfInBounds_toArray, List.set_cons_zero, List.set_cons_succ]
        refine wpAnyH_ready (rs := [8]) (by kernel_rfl) (by simp) ?_
        refine AllReadyH.cons rfl (fun K hK => ?_) AllReadyH.nil
        go_simp
        have hS : True := trivial
        refine hK.out _ _ hS (fun hHeld => ?_)
        clear hK K
        try simp only [Act.put, List.getElem_toArray, List.getElem_cons_succ, List.getElem_cons_zero, List.setIfInBounds_toArray, List.set_cons_zero, List.set_cons_succ]
        refine wpAnyH_done (by kernel_rfl) ?_ _
        clear hHeld d8 hQ8 d9 e9 hQ9 K8 K6 d6 hQ6
        go_wp2_with fail
        go_meet
        case rel => exact ⟨cg', cn + 1, cc', cs ++ [y], _, by omega, by omega, K10.out⟩
      · go_simp
        have hS : True := trivial
        refine hK.out _ _ hS (fun hHeld => ?_)
        clear hK K
        try simp only [Act.put, List.getElem_toArray, List.getElem_cons_succ, List.getElem_cons_zero, List.setIfInBounds_toArray, List.set_cons_zero, List.set_cons_succ]
        refine wpAnyH_ready (rs := [1, 4]) (by kernel_rfl) (by simp) ?_
        refine AllReadyH.cons rfl (fun K hK => ?_) (AllReadyH.cons rfl (fun K hK => ?_) AllReadyH.nil)
        · go_simp
          have hS : True := trivial
          refine hK.out _ _ hS (fun hHeld => ?_)
          clear hK K
          try simp only [Act.put, List.getElem_toArray, List.getElem_cons_succ, List.getElem_cons_zero, List.setIfInBounds_toArray, List.set_cons_zero, List.set_cons_succ]
          refine wpAnyH_ready (rs := [4]) (by kernel_rfl) (by simp) ?_
          refine AllReadyH.cons rfl (fun K hK => ?_) AllReadyH.nil
          go_simp
          refine (pickK w6 _ B a len cap (kk1 + 1 + 1) ys K6.out.kb.ds.src hl (by omega) [5, 12, 1] (by simp) (by simp) w6.heap.size (by have := K6.out.kb.ds.src.lt; omega) ((Below.refl _ _).alloc (Nat.le_refl _) _).drew ((boxV_new w6 _ _).drew).out).mono ?_
          rintro d w8 ⟨y, rfl, hS8, hG8⟩
          have K8 := hidQ (K6.out.draw hB hS8 hG8)
          have qB8 := box_of_heap K8.out.kb.qb
          have d8 := qB8.1 4 _ rfl
          have hQ8 := K8.out.kb.lt
          clear hS8 hG8 qB8
          have hS : True := trivial
          refine hK.out _ _ hS (fun hHeld => ?_)
          clear hK K
          try simp only [Act.put, List.getElem_toArray, List.getElem_cons_succ, List.getElem_cons_zero, List.setIfInBounds_toArray, List.set_cons_zero, List.set_cons_succ]
          refine wpAnyH_ready (rs := [5]) (by kernel_rfl) (by simp) ?_
          refine AllReadyH.cons rfl (fun K hK => ?_) AllReadyH.nil
          go_simp
          have hS : True := trivial
          refine hK.out _ _ hS (fun hHeld => ?_)
          clear hK K
          try simp only [Act.put, List.getElem_toArray, List.getElem_cons_succ, List.getElem_cons_zero, List.setIfInBounds_toArray, List.set_cons_zero, List.set_cons_succ]
          refine wpAnyH_ready (rs := [6]) (by kernel_rfl) (by simp) ?_
          refine AllReadyH.cons rfl (fun K hK => ?_) AllReadyH.nil
          refine step_appendK rfl (.tmp 21) (.tmp 25) 26 rfl (rg + 1) 2 i0 (.int .i64 0) 1 8 hun hi hz0 hz1 hz2 rfl (by decide) _ cn (cs.map (Value.int .i64)) (by rfl) (K8.out.ow.alloc _) ⟨w8.heap.size, 0, none⟩ 1 1 [.int .i64 y] (by rfl) (by rfl) (cell_one w8 y _) (by simp [Value.oneCell']) (by unfold maxLen; omega) (by omega) (by have := K8.out.neQ; simp; omega) ?_
          intro v9 w9 hown9 hgrow9 hnil9
          have HP := hidQ (KC.push (K8.out.below ((Below.refl _ _).alloc (Nat.le_refl _) _) hB HCode.out) hB HCode.out hown9 hgrow9)
          clear hown9 hgrow9 hnil9
          obtain ⟨kb9, cg', cc', rfl, hK10⟩ := HP.out
          have K10 := hidQ hK10
          have qB9 := box_of_heap kb9.qb
          have d9 := qB9.1 4 _ rfl
          have e9 := qB9.2 4
          have hQ9 := kb9.lt
          clear HP hK10 kb9 qB9
          have hS : True := trivial
          refine hK.out _ _ hS (fun hHeld => ?_)
          clear hK K
          try simp only [Act.put, List.getElem_toArray, List.getElem_cons_succ, List.getElem_cons_zero, List.setIfInBounds_toArray, List.set_cons_zero, List.set_cons_succ]
          refine wpAnyH_take (i := 7) (v := ?_) rfl (by kernel_rfl) (by kernel_rfl) (by kernel_rfl) (fun _ _ _ h => h) (Or.inl ⟨by kernel_rfl, ?_⟩) (by assumption) ?_
          rotate_left 1
          · intro w hSw; (try dsimp only at hSw); go_simp; try (with_reducible rfl)
          try simp only [Act.put, List.getElem_toArray, List.getElem_cons_succ, List.getElem_cons_zero, List.setIfInBounds_toArray, List.set_cons_zero, List.set_cons_succ]
          refine wpAnyH_ready (rs := [8]) (by kernel_rfl) (by simp) ?_
          refine AllReadyH.cons rfl (fun K hK => ?_) AllReadyH.nil
          go_simp
          have hS : True := trivial
          refine hK.out _ _ hS (fun hHeld => ?_)
          clear hK K
          try simp only [Act.put, List.getElem_toArray, List.getElem_cons_succ, List.getElem_cons_zero, List.setIfInBounds_toArray, List.set_cons_zero, List.set_cons_succ]
          refine wpAnyH_done (by kernel_rfl) ?_ _
          clear hHeld d8 hQ8 d9 e9 hQ9 K8 K6 d6 hQ6
          go_wp2_with fail
          go_meet
          case rel => exact ⟨cg', cn + 1, cc', cs ++ [y], _, by omega, by omega, K10.out⟩
        · go_simp
          refine (pickK w6 _ B a len cap (kk1 + 1 + 1) ys K6.out.kb.ds.src hl (by omega) [5, 12, 1] (by simp) (by simp) w6.heap.size (by have := K6.out.kb.ds.src.lt; omega) ((Below.refl _ _).alloc (Nat.le_refl _) _).drew ((boxV_new w6 _ _).drew).out).mono ?_
          rintro d w8 ⟨y, rfl, hS8, hG8⟩
          have K8 := hidQ (K6.out.draw hB hS8 hG8)
          have qB8 := box_of_heap K8.out.kb.qb
          have d8 := qB8.1 4 _ rfl
          have hQ8 := K8.out.kb.lt
          clear hS8 hG8 qB8
          have hS : True := trivial
          refine hK.out _ _ hS (fun hHeld => ?_)
          clear hK K
          try simp only [Act.put, List.getElem_toArray, List.getElem_cons_succ, List.getElem_cons_zero, List.setIfInBounds_toArray, List.set_cons_zero, List.set_cons_succ]
          refine wpAnyH_ready (rs := [1, 5]) (by kernel_rfl) (by simp) ?_
          refine AllReadyH.cons rfl (fun K hK => ?_) (AllReadyH.cons rfl (fun K hK => ?_) AllReadyH.nil)
          · go_simp
            have hS : True := trivial
            refine hK.out _ _ hS (fun hHeld => ?_)
            clear hK K
            try simp only [Act.put, List.getElem_toArray, List.getElem_cons_succ, List.getElem_cons_zero, List.setIfInBounds_toArray, List.set_cons_zero, List.set_cons_succ]
            refine wpAnyH_ready (rs := [5]) (by kernel_rfl) (by simp) ?_
            refine AllReadyH.cons rfl (fun K hK => ?_) AllReadyH.nil
            go_simp
            have hS : True := trivial
            refine hK.out _ _ hS (fun hHeld => ?_)
            clear hK K
            try simp only [Act.put, List.getElem_toArray, List.getElem_cons_succ, List.getElem_cons_zero, List.setIfInBounds_toArray, List.set_cons_zero, List.set_cons_succ]
            refine wpAnyH_ready (rs := [6]) (by kernel_rfl) (by simp) ?_
            refine AllReadyH.cons rfl (fun K hK => ?_) AllReadyH.nil
            refine step_appendK rfl (.tmp 21) (.tmp 25) 26 rfl (rg + 1) 2 i0 (.int .i64 0) 1 8 hun hi hz0 hz1 hz2 rfl (by decide) _ cn (cs.map (Value.int .i64)) (by rfl) (K8.out.ow.alloc _) ⟨w8.heap.size, 0, none⟩ 1 1 [.int .i64 y] (by rfl) (by rfl) (cell_one w8 y _) (by simp [Value.oneCell']) (by unfold maxLen; omega) (by omega) (by have := K8.out.neQ; simp; omega) ?_
            intro v9 w9 hown9 hgrow9 hnil9
            have HP := hidQ (KC.push (K8.out.below ((Below.refl _ _).alloc (Nat.le_refl _) _) hB HCode.out) hB HCode.out hown9 hgrow9)
            clear hown9 hgrow9 hnil9
            obtain ⟨kb9, cg', cc', rfl, hK10⟩ := HP.out
            have K10 := hidQ hK10
            have qB9 := box_of_heap kb9.qb
            have d9 := qB9.1 4 _ rfl
            have e9 := qB9.2 4
            have hQ9 := kb9.lt
            clear HP hK10 kb9 qB9
            have hS : True := trivial
            refine hK.out _ _ hS (fun hHeld => ?_)
            clear hK K
            try simp only [Act.put, List.getElem_toArray, List.getElem_cons_succ, List.getElem_cons_zero, List.setIfInBounds_toArray, List.set_cons_zero, List.set_cons_succ]
            refine wpAnyH_take (i := 7) (v := ?_) rfl (by kernel_rfl) (by kernel_rfl) (by kernel_rfl) (fun _ _ _ h => h) (Or.inl ⟨by kernel_rfl, ?_⟩) (by assumption) ?_
            rotate_left 1
            · intro w hSw; (try dsimp only at hSw); go_simp; try (with_reducible rfl)
            try simp only [Act.put, List.getElem_toArray, List.getElem_cons_succ, List.getElem_cons_zero, List.setIfInBounds_toArray, List.set_cons_zero, List.set_cons_succ]
            refine wpAnyH_ready (rs := [8]) (by kernel_rfl) (by simp) ?_
            refine AllReadyH.cons rfl (fun K hK => ?_) AllReadyH.nil
            go_simp
            have hS : True := trivial
            refine hK.out _ _ hS (fun hHeld => ?_)
            clear hK K
            try simp only [Act.put, List.getElem_toArray, List.getElem_cons_succ, List.getElem_cons_zero, List.setIfInBounds_toArray, List.set_cons_zero, List.set_cons_succ]
            refine wpAnyH_done (by kernel_rfl) ?_ _
            clear hHeld d8 hQ8 d9 e9 hQ9 K8 K6 d6 hQ6
            go_wp2_with fail
            go_meet
            case rel => exact ⟨cg', cn + 1, cc', cs ++ [y], _, by omega, by omega, K10.out⟩
          · go_simp
            have hS : True := trivial
            refine hK.out _ _ hS (fun hHeld => ?_)
            clear hK K
            try simp only [Act.put, List.getElem_toArray, List.getElem_cons_succ, List.getElem_cons_zero, List.setIfInBounds_toArray, List.set_cons_zero, List.set_cons_succ]
            refine wpAnyH_ready (rs := [1]) (by kernel_rfl) (by simp) ?_
            refine AllReadyH.cons rfl (fun K hK => ?_) AllReadyH.nil
            go_simp
            have hS : True := trivial
            refine hK.out _ _ hS (fun hHeld => ?_)
            clear hK K
            try simp only [Act.put, List.getElem_toArray, List.getElem_cons_succ, List.getElem_cons_zero, List.setIfInBounds_toArray, List.set_cons_zero, List.set_cons_succ]
            refine wpAnyH_ready (rs := [6]) (by kernel_rfl) (by simp) ?_
            refine AllReadyH.cons rfl (fun K hK => ?_) AllReadyH.nil
            refine step_appendK rfl (.tmp 21) (.tmp 25) 26 rfl (rg + 1) 2 i0 (.int .i64 0) 1 8 hun hi hz0 hz1 hz2 rfl (by decide) _ cn (cs.map (Value.int .i64)) (by rfl) (K8.out.ow.alloc _) ⟨w8.heap.size, 0, none⟩ 1 1 [.int .i64 y] (by rfl) (by rfl) (cell_one w8 y _) (by simp [Value.oneCell']) (by unfold maxLen; omega) (by omega) (by have := K8.out.neQ; simp; omega) ?_
            intro v9 w9 hown9 hgrow9 hnil9
            have HP := hidQ (KC.push (K8.out.below ((Below.refl _ _).alloc (Nat.le_refl _) _) hB HCode.out) hB HCode.out hown9 hgrow9)
            clear hown9 hgrow9 hnil9
            obtain ⟨kb9, cg', cc', rfl, hK10⟩ := HP.out
            have K10 := hidQ hK10
            have qB9 := box_of_heap kb9.qb
            have d9 := qB9.1 4 _ rfl
            have e9 := qB9.2 4
            have hQ9 := kb9.lt
            clear HP hK10 kb9 qB9
            have hS : True := trivial
            refine hK.out _ _ hS (fun hHeld => ?_)
            clear hK K
            try simp only [Act.put, List.getElem_toArray, List.getElem_cons_succ, List.getElem_cons_zero, List.setIfInBounds_toArray, List.set_cons_zero, List.set_cons_succ]
            refine wpAnyH_take (i := 7) (v := ?_) rfl (by kernel_rfl) (by kernel_rfl) (by kernel_rfl) (fun _ _ _ h => h) (Or.inl ⟨by kernel_rfl, ?_⟩) (by assumption) ?_
            rotate_left 1
            · intro w hSw; (try dsimp only at hSw); go_simp; try (with_reducible rfl)
            try simp only [Act.put, List.getElem_toArray, List.getElem_cons_succ, List.getElem_cons_zero, List.setIfInBounds_toArray, List.set_cons_zero, List.set_cons_succ]
            refine wpAnyH_ready (rs := [8]) (by kernel_rfl) (by simp) ?_
            refine AllReadyH.cons rfl (fun K hK => ?_) AllReadyH.nil
            go_simp
            have hS : True := trivial
            refine hK.out _ _ hS (fun hHeld => ?_)
            clear hK K
            try simp only [Act.put, List.getElem_toArray, List.getElem_cons_succ, List.getElem_cons_zero, List.setIfInBounds_toArray, List.set_cons_zero, List.set_cons_succ]
            refine wpAnyH_done (by kernel_rfl) ?_ _
            clear hHeld d8 hQ8 d9 e9 hQ9 K8 K6 d6 hQ6
            go_wp2_with fail
            go_meet
            case rel => exact ⟨cg', cn + 1, cc', cs ++ [y], _, by omega, by omega, K10.out⟩
  case rest =>
    clear K6 d6 hQ6 hcn
    clear cg cn cc cs
    obtain ⟨cg, cn, cc, cs, kk2, hcn, hkk2, hK⟩ := hcut
    have F0 := hidQ (KF.of hK)
    clear hK
    generalize wc.heap.size = L at F0
    go_wp2_with fail
    refine (next_c _ B a len cap kk2 ys 2 F0.out.kb.ds.src hl (by omega) (by omega) (by omega)).mono ?_
    rintro d w10 ⟨v1, x0, x1, rfl, hS10, hG10⟩
    have F1 := hidQ (F0.out.draw hB hS10 hG10)
    clear hS10 hG10 F0
    obtain ⟨r1, rfl⟩ := Int.eq_ofNat_of_zero_le x0
    go_wp2_with fail
    go_loopw [8] (fun i wr => ∃ (fn r kk : Nat) (fv : Value) (fs : List FormI) (A : Nat → Prop), i = .int .i64 (r : Int) ∧ fn + r ≤ 3 ∧ 2 ≤ fn + r ∧ kk + 30 * r ≤ kk2 + 91 ∧ Hid (KF w L w.heap.size Q B a len cap kk ys e f rg rn rc zs fv cg cn cc cs fn fs A wr)) (fun i _ => (intOf i).toNat)
    case atStart => exact ⟨0, r1 + 2, kk2 + 1, _, _, _, by simp; omega, by omega, by omega, by omega, F1⟩
    case round =>
      clear F1 x1 x0
      obtain ⟨fn, r, kk, fv, fs, A, rfl, hfr, hfr2, hkr, HF⟩ := hrel
      have qB7 := box_of_heap HF.out.kb.qb
      have d7 := qB7.1 3 _ rfl
      have d72 := qB7.1 2 _ rfl
      have hQ7 := HF.out.kb.lt
      by_cases hr : 0 < r
      · have hr' : (0 : Int) < (r : Int) := by omega
        clear qB7
        go_upto_region 7 with fail
        refine wp_region_held_drew (S := fun _ => True) (by kernel_rfl) (trivial) (fun hHeld => ?_)
        refine wpAnyH_take (i := 0) (v := ?_) rfl (by kernel_rfl) (by kernel_rfl) (by kernel_rfl) (fun _ _ _ h => h) (Or.inl ⟨by kernel_rfl, ?_⟩) (by assumption) ?_
        rotate_left 1
        · intro w hSw; (try dsimp only at hSw); go_simp; try (with_reducible rfl)
        try simp only [Act.put, List.getElem_toArray, List.getElem_cons_succ, List.getElem_cons_zero, List.setIfInBounds_toArray, List.set_cons_zero, List.set_cons_succ]
        refine wpAnyH_take (i := 2) (v := ?_) rfl (by kernel_rfl) (by kernel_rfl) (by kernel_rfl) (fun _ _ _ h => h) (Or.inl ⟨by kernel_rfl, ?_⟩) (by assumption) ?_
        rotate_left 1
        · intro w hSw; (try dsimp only at hSw); go_simp; try (with_reducible rfl)
        try simp only [Act.put, List.getElem_toArray, List.getElem_cons_succ, List.getElem_cons_zero, List.setIfInBounds_toArray, List.set_cons_zero, List.set_cons_succ]
        refine wpAnyH_take (i := 3) (v := ?_) rfl (by kernel_rfl) (by kernel_rfl) (by kernel_rfl) (fun _ _ _ h => h) (Or.inl ⟨by kernel_rfl, ?_⟩) (by assumption) ?_
        rotate_left 1
        · intro w hSw; (try dsimp only at hSw); go_simp; try (with_reducible rfl)
        try simp only [Act.put, List.getElem_toArray, List.getElem_cons_succ, List.getElem_cons_zero, List.setIfInBounds_toArray, List.set_cons_zero, List.set_cons_succ]
        refine wpAnyH_ready (rs := [1, 4]) (by kernel_rfl) (by simp) ?_
        refine AllReadyH.cons rfl (fun K hK => ?_) (AllReadyH.cons rfl (fun K hK => ?_) AllReadyH.nil)
        · go_simp
          have hS : True := trivial
          refine hK.out _ _ hS (fun hHeld => ?_)
          clear hK K
          try simp only [Act.put, List.getElem_toArray, List.getElem_cons_succ, List.getElem_cons_zero, List.setIfInBounds_toArray, List.set_cons_zero, List.set_cons_succ]
          refine wpAnyH_ready (rs := [4]) (by kernel_rfl) (by simp) ?_
          refine AllReadyH.cons rfl (fun K hK => ?_) AllReadyH.nil
          go_simp
          have hS : True := trivial
          refine hK.out _ _ hS (fun hHeld => ?_)
          clear hK K
          try simp only [Act.put, List.getElem_toArray, List.getElem_cons_succ, List.getElem_cons_zero, List.setIfInBounds_toArray, List.set_cons_zero, List.set_cons_succ]
          refine wpAnyH_ready (rs := [5]) (by kernel_rfl) (by simp) ?_
          refine AllReadyH.cons rfl (fun K hK => ?_) AllReadyH.nil
          go_simp
          refine (form_c _ B a len cap kk ys (some ⟨rg, 0, none⟩) rn rc zs (HF.out.kb.ds.src.below (Below.refl _ _).drew) hl (by omega) (by omega) (HF.out.kb.zb.now.below (Below.refl _ _).drew) (fun b off e => .inr (by cases e; have := HF.out.kb.ne; omega))).mono ?_
          rintro d w8 ⟨p, pn, pc, kk8, ps, rfl, hpn, hkk8, hLM8⟩
          have M8 := hidQ (lm_drew hLM8)
          have F8 := hidQ (HF.out.draw hB M8.out.ds.src M8.out.ds.gr)
          have qB8 := box_of_heap F8.out.kb.qb
          have d8 := qB8.1 3 _ rfl
          have hQ8 := F8.out.kb.lt
          clear hLM8 qB8
          have hS : True := trivial
          refine hK.out _ _ hS (fun hHeld => ?_)
          clear hK K
          try simp only [Act.put, List.getElem_toArray, List.getElem_cons_succ, List.getElem_cons_zero, List.setIfInBounds_toArray, List.set_cons_zero, List.set_cons_succ]
          refine wpAnyH_take (i := 6) (v := ?_) rfl (by kernel_rfl) (by kernel_rfl) (by kernel_rfl) (fun _ _ _ h => h) (Or.inl ⟨by kernel_rfl, ?_⟩) (by assumption) ?_
          rotate_left 1
          · intro w hSw; (try dsimp only at hSw); go_simp; try (with_reducible rfl)
          try simp only [Act.put, List.getElem_toArray, List.getElem_cons_succ, List.getElem_cons_zero, List.setIfInBounds_toArray, List.set_cons_zero, List.set_cons_succ]
          refine wpAnyH_ready (rs := [7]) (by kernel_rfl) (by simp) ?_
          refine AllReadyH.cons rfl (fun K hK => ?_) AllReadyH.nil
          go_simp
          have hS : True := trivial
          refine hK.out _ _ hS (fun hHeld => ?_)
          clear hK K
          try simp only [Act.put, List.getElem_toArray, List.getElem_cons_succ, List.getElem_cons_zero, List.setIfInBounds_toArray, List.set_cons_zero, List.set_cons_succ]
          refine wpAnyH_ready (rs := [8]) (by kernel_rfl) (by simp) ?_
          refine AllReadyH.cons rfl (fun K hK => ?_) AllReadyH.nil
          refine step_appendK rfl (.tmp 36) (.tmp 42) 25 rfl L 42 j0 (.agg #[.slice none 0 0]) 1 24 hfun hj hy0 hy1 hy2 rfl (by decide) _ fn (fs.map fval) (by rfl) (F8.out.fo.alloc _) ⟨w8.heap.size, 0, none⟩ 1 1 [.slice (some ⟨p, 0, none⟩) pn pc] (by rfl) (by rfl) (cell_oneV w8 (.slice (some ⟨p, 0, none⟩) pn pc) _) (by simp [Value.oneCell']) (by unfold maxLen; omega) (by omega) (by have := F8.out.ne; simp; omega) ?_
          intro v9 w9 hown9 hgrow9 hnil9
          have HP := hidQ (KF.push HF.out hB HCode.out M8.out (by omega) hown9 hgrow9)
          clear hown9 hgrow9 hnil9
          obtain ⟨kb9, g', c', rfl, hF10⟩ := HP.out
          have F10 := hidQ hF10
          have qB9 := box_of_heap kb9.qb
          have d9 := qB9.1 3 _ rfl
          have e9 := qB9.2 3
          have hQ9 := kb9.lt
          clear HP hF10 kb9 qB9
          have hS : True := trivial
          refine hK.out _ _ hS (fun hHeld => ?_)
          clear hK K
          try simp only [Act.put, List.getElem_toArray, List.getElem_cons_succ, List.getElem_cons_zero, List.setIfInBounds_toArray, List.set_cons_zero, List.set_cons_succ]
          refine wpAnyH_take (i := 9) (v := ?_) rfl (by kernel_rfl) (by kernel_rfl) (by kernel_rfl) (fun _ _ _ h => h) (Or.inl ⟨by kernel_rfl, ?_⟩) (by assumption) ?_
          rotate_left 1
          · intro w hSw; (try dsimp only at hSw); go_simp; try (with_reducible rfl)
          try simp only [Act.put, List.getElem_toArray, List.getElem_cons_succ, List.getElem_cons_zero, List.setIfInBounds_toArray, List.set_cons_zero, List.set_cons_succ]
          refine wpAnyH_ready (rs := [10]) (by kernel_rfl) (by simp) ?_
          refine AllReadyH.cons rfl (fun K hK => ?_) AllReadyH.nil
          go_simp
          have hS : True := trivial
          refine hK.out _ _ hS (fun hHeld => ?_)
          clear hK K
          try simp only [Act.put, List.getElem_toArray, List.getElem_cons_succ, List.getElem_cons_zero, List.setIfInBounds_toArray, List.set_cons_zero, List.set_cons_succ]
          refine wpAnyH_done (by kernel_rfl) ?_ _
          clear hHeld d8 hQ8 d9 e9 hQ9 F8 M8 HF d7 d72 hQ7
          go_wp2_with fail
          exact ⟨⟨fn + 1, r - 1, _, _, _, _, by simp; omega, by omega, by omega, by omega, F10⟩, by simp [intOf]; omega⟩
        · go_simp
          have hS : True := trivial
          refine hK.out _ _ hS (fun hHeld => ?_)
          clear hK K
          try simp only [Act.put, List.getElem_toArray, List.getElem_cons_succ, List.getElem_cons_zero, List.setIfInBounds_toArray, List.set_cons_zero, List.set_cons_succ]
          refine wpAnyH_ready (rs := [1, 5]) (by kernel_rfl) (by simp) ?_
          refine AllReadyH.cons rfl (fun K hK => ?_) (AllReadyH.cons rfl (fun K hK => ?_) AllReadyH.nil)
          · go_simp
            have hS : True := trivial
            refine hK.out _ _ hS (fun hHeld => ?_)
            clear hK K
            try simp only [Act.put, List.getElem_toArray, List.getElem_cons_succ, List.getElem_cons_zero, List.setIfInBounds_toArray, List.set_cons_zero, List.set_cons_succ]
            refine wpAnyH_ready (rs := [5]) (by kernel_rfl) (by simp) ?_
            refine AllReadyH.cons rfl (fun K hK => ?_) AllReadyH.nil
            go_simp
            refine (form_c _ B a len cap kk ys (some ⟨rg, 0, none⟩) rn rc zs (HF.out.kb.ds.src.below (Below.refl _ _).drew) hl (by omega) (by omega) (HF.out.kb.zb.now.below (Below.refl _ _).drew) (fun b off e => .inr (by cases e; have := HF.out.kb.ne; omega))).mono ?_
            rintro d w8 ⟨p, pn, pc, kk8, ps, rfl, hpn, hkk8, hLM8⟩
            have M8 := hidQ (lm_drew hLM8)
            have F8 := hidQ (HF.out.draw hB M8.out.ds.src M8.out.ds.gr)
            have qB8 := box_of_heap F8.out.kb.qb
            have d8 := qB8.1 3 _ rfl
            have hQ8 := F8.out.kb.lt
            clear hLM8 qB8
            have hS : True := trivial
            refine hK.out _ _ hS (fun hHeld => ?_)
            clear hK K
            try simp only [Act.put, List.getElem_toArray, List.getElem_cons_succ, List.getElem_cons_zero, List.setIfInBounds_toArray, List.set_cons_zero, List.set_cons_succ]
            refine wpAnyH_take (i := 6) (v := ?_) rfl (by kernel_rfl) (by kernel_rfl) (by kernel_rfl) (fun _ _ _ h => h) (Or.inl ⟨by kernel_rfl, ?_⟩) (by assumption) ?_
            rotate_left 1
            · intro w hSw; (try dsimp only at hSw); go_simp; try (with_reducible rfl)
            try simp only [Act.put, List.getElem_toArray, List.getElem_cons_succ, List.getElem_cons_zero, List.setIfInBounds_toArray, List.set_cons_zero, List.set_cons_succ]
            refine wpAnyH_ready (rs := [7]) (by kernel_rfl) (by simp) ?_
            refine AllReadyH.cons rfl (fun K hK => ?_) AllReadyH.nil
            go_simp
            have hS : True := trivial
            refine hK.out _ _ hS (fun hHeld => ?_)
            clear hK K
            try simp only [Act.put, List.getElem_toArray, List.getElem_cons_succ, List.getElem_cons_zero, List.setIfInBounds_toArray, List.set_cons_zero, List.set_cons_succ]
            refine wpAnyH_ready (rs := [8]) (by kernel_rfl) (by simp) ?_
            refine AllReadyH.cons rfl (fun K hK => ?_) AllReadyH.nil
            refine step_appendK rfl (.tmp 36) (.tmp 42) 25 rfl L 42 j0 (.agg #[.slice none 0 0]) 1 24 hfun hj hy0 hy1 hy2 rfl (by decide) _ fn (fs.map fval) (by rfl) (F8.out.fo.alloc _) ⟨w8.heap.size, 0, none⟩ 1 1 [.slice (some ⟨p, 0, none⟩) pn pc] (by rfl) (by rfl) (cell_oneV w8 (.slice (some ⟨p, 0, none⟩) pn pc) _) (by simp [Value.oneCell']) (by unfold maxLen; omega) (by omega) (by have := F8.out.ne; simp; omega) ?_
            intro v9 w9 hown9 hgrow9 hnil9
            have HP := hidQ (KF.push HF.out hB HCode.out M8.out (by omega) hown9 hgrow9)
            clear hown9 hgrow9 hnil9
            obtain ⟨kb9, g', c', rfl, hF10⟩ := HP.out
            have F10 := hidQ hF10
            have qB9 := box_of_heap kb9.qb
            have d9 := qB9.1 3 _ rfl
            have e9 := qB9.2 3
            have hQ9 := kb9.lt
            clear HP hF10 kb9 qB9
            have hS : True := trivial
            refine hK.out _ _ hS (fun hHeld => ?_)
            clear hK K
            try simp only [Act.put, List.getElem_toArray, List.getElem_cons_succ, List.getElem_cons_zero, List.setIfInBounds_toArray, List.set_cons_zero, List.set_cons_succ]
            refine wpAnyH_take (i := 9) (v := ?_) rfl (by kernel_rfl) (by kernel_rfl) (by kernel_rfl) (fun _ _ _ h => h) (Or.inl ⟨by kernel_rfl, ?_⟩) (by assumption) ?_
            rotate_left 1
            · intro w hSw; (try dsimp only at hSw); go_simp; try (with_reducible rfl)
            try simp only [Act.put, List.getElem_toArray, List.getElem_cons_succ, List.getElem_cons_zero, List.setIfInBounds_toArray, List.set_cons_zero, List.set_cons_succ]
            refine wpAnyH_ready (rs := [10]) (by kernel_rfl) (by simp) ?_
            refine AllReadyH.cons rfl (fun K hK => ?_) AllReadyH.nil
            go_simp
            have hS : True := trivial
            refine hK.out _ _ hS (fun hHeld => ?_)
            clear hK K
            try simp only [Act.put, List.getElem_toArray, List.getElem_cons_succ, List.getElem_cons_zero, List.setIfInBounds_toArray, List.set_cons_zero, List.set_cons_succ]
            refine wpAnyH_done (by kernel_rfl) ?_ _
            clear hHeld d8 hQ8 d9 e9 hQ9 F8 M8 HF d7 d72 hQ7
            go_wp2_with fail
            exact ⟨⟨fn + 1, r - 1, _, _, _, _, by simp; omega, by omega, by omega, by omega, F10⟩, by simp [intOf]; omega⟩
          · go_simp
            refine (form_c _ B a len cap kk ys (some ⟨rg, 0, none⟩) rn rc zs (HF.out.kb.ds.src.below (Below.refl _ _).drew) hl (by omega) (by omega) (HF.out.kb.zb.now.below (Below.refl _ _).drew) (fun b off e => .inr (by cases e; have := HF.out.kb.ne; omega))).mono ?_
            rintro d w8 ⟨p, pn, pc, kk8, ps, rfl, hpn, hkk8, hLM8⟩
            have M8 := hidQ (lm_drew hLM8)
            have F8 := hidQ (HF.out.draw hB M8.out.ds.src M8.out.ds.gr)
            have qB8 := box_of_heap F8.out.kb.qb
            have d8 := qB8.1 3 _ rfl
            have hQ8 := F8.out.kb.lt
            clear hLM8 qB8
            have hS : True := trivial
            refine hK.out _ _ hS (fun hHeld => ?_)
            clear hK K
            try simp only [Act.put, List.getElem_toArray, List.getElem_cons_succ, List.getElem_cons_zero, List.setIfInBounds_toArray, List.set_cons_zero, List.set_cons_succ]
            refine wpAnyH_take (i := 6) (v := ?_) rfl (by kernel_rfl) (by kernel_rfl) (by kernel_rfl) (fun _ _ _ h => h) (Or.inl ⟨by kernel_rfl, ?_⟩) (by assumption) ?_
            rotate_left 1
            · intro w hSw; (try dsimp only at hSw); go_simp; try (with_reducible rfl)
            try simp only [Act.put, List.getElem_toArray, List.getElem_cons_succ, List.getElem_cons_zero, List.setIfInBounds_toArray, List.set_cons_zero, List.set_cons_succ]
            refine wpAnyH_ready (rs := [1, 7]) (by kernel_rfl) (by simp) ?_
            refine AllReadyH.cons rfl (fun K hK => ?_) (AllReadyH.cons rfl (fun K hK => ?_) AllReadyH.nil)
            · go_simp
              have hS : True := trivial
              refine hK.out _ _ hS (fun hHeld => ?_)
              clear hK K
              try simp only [Act.put, List.getElem_toArray, List.getElem_cons_succ, List.getElem_cons_zero, List.setIfInBounds_toArray, List.set_cons_zero, List.set_cons_succ]
              refine wpAnyH_ready (rs := [7]) (by kernel_rfl) (by simp) ?_
              refine AllReadyH.cons rfl (fun K hK => ?_) AllReadyH.nil
              go_simp
              have hS : True := trivial
              refine hK.out _ _ hS (fun hHeld => ?_)
              clear hK K
              try simp only [Act.put, List.getElem_toArray, List.getElem_cons_succ, List.getElem_cons_zero, List.setIfInBounds_toArray, List.set_cons_zero, List.set_cons_succ]
              refine wpAnyH_ready (rs := [8]) (by kernel_rfl) (by simp) ?_
              refine AllReadyH.cons rfl (fun K hK => ?_) AllReadyH.nil
              refine step_appendK rfl (.tmp 36) (.tmp 42) 25 rfl L 42 j0 (.agg #[.slice none 0 0]) 1 24 hfun hj hy0 hy1 hy2 rfl (by decide) _ fn (fs.map fval) (by rfl) (F8.out.fo.alloc _) ⟨w8.heap.size, 0, none⟩ 1 1 [.slice (some ⟨p, 0, none⟩) pn pc] (by rfl) (by rfl) (cell_oneV w8 (.slice (some ⟨p, 0, none⟩) pn pc) _) (by simp [Value.oneCell']) (by unfold maxLen; omega) (by omega) (by have := F8.out.ne; simp; omega) ?_
              intro v9 w9 hown9 hgrow9 hnil9
              have HP := hidQ (KF.push HF.out hB HCode.out M8.out (by omega) hown9 hgrow9)
              clear hown9 hgrow9 hnil9
              obtain ⟨kb9, g', c', rfl, hF10⟩ := HP.out
              have F10 := hidQ hF10
              have qB9 := box_of_heap kb9.qb
              have d9 := qB9.1 3 _ rfl
              have e9 := qB9.2 3
              have hQ9 := kb9.lt
              clear HP hF10 kb9 qB9
              have hS : True := trivial
              refine hK.out _ _ hS (fun hHeld => ?_)
              clear hK K
              try simp only [Act.put, List.getElem_toArray, List.getElem_cons_succ, List.getElem_cons_zero, List.setIfInBounds_toArray, List.set_cons_zero, List.set_cons_succ]
              refine wpAnyH_take (i := 9) (v := ?_) rfl (by kernel_rfl) (by kernel_rfl) (by kernel_rfl) (fun _ _ _ h => h) (Or.inl ⟨by kernel_rfl, ?_⟩) (by assumption) ?_
              rotate_left 1
              · intro w hSw; (try dsimp only at hSw); go_simp; try (with_reducible rfl)
              try simp only [Act.put, List.getElem_toArray, List.getElem_cons_succ, List.getElem_cons_zero, List.setIfInBounds_toArray, List.set_cons_zero, List.set_cons_succ]
              refine wpAnyH_ready (rs := [10]) (by kernel_rfl) (by simp) ?_
              refine AllReadyH.cons rfl (fun K hK => ?_) AllReadyH.nil
              go_simp
              have hS : True := trivial
              refine hK.out _ _ hS (fun hHeld => ?_)
              clear hK K
              try simp only [Act.put, List.getElem_toArray, List.getElem_cons_succ, List.getElem_cons_zero, List.setIfInBounds_toArray, List.set_cons_zero, List.set_cons_succ]
              refine wpAnyH_done (by kernel_rfl) ?_ _
              clear hHeld d8 hQ8 d9 e9 hQ9 F8 M8 HF d7 d72 hQ7
              go_wp2_with fail
              exact ⟨⟨fn + 1, r - 1, _, _, _, _, by simp; omega, by omega, by omega, by omega, F10⟩, by simp [intOf]; omega⟩
            · go_simp
              have hS : True := trivial
              refine hK.out _ _ hS (fun hHeld => ?_)
              clear hK K
              try simp only [Act.put, List.getElem_toArray, List.getElem_cons_succ, List.getElem_cons_zero, List.setIfInBounds_toArray, List.set_cons_zero, List.set_cons_succ]
              refine wpAnyH_ready (rs := [1]) (by kernel_rfl) (by simp) ?_
              refine AllReadyH.cons rfl (fun K hK => ?_) AllReadyH.nil
              go_simp
              have hS : True := trivial
              refine hK.out _ _ hS (fun hHeld => ?_)
              clear hK K
              try simp only [Act.put, List.getElem_toArray, List.getElem_cons_succ, List.getElem_cons_zero, List.setIfInBounds_toArray, List.set_cons_zero, List.set_cons_succ]
              refine wpAnyH_ready (rs := [8]) (by kernel_rfl) (by simp) ?_
              refine AllReadyH.cons rfl (fun K hK => ?_) AllReadyH.nil
              refine step_appendK rfl (.tmp 36) (.tmp 42) 25 rfl L 42 j0 (.agg #[.slice none 0 0]) 1 24 hfun hj hy0 hy1 hy2 rfl (by decide) _ fn (fs.map fval) (by rfl) (F8.out.fo.alloc _) ⟨w8.heap.size, 0, none⟩ 1 1 [.slice (some ⟨p, 0, none⟩) pn pc] (by rfl) (by rfl) (cell_oneV w8 (.slice (some ⟨p, 0, none⟩) pn pc) _) (by simp [Value.oneCell']) (by unfold maxLen; omega) (by omega) (by have := F8.out.ne; simp; omega) ?_
              intro v9 w9 hown9 hgrow9 hnil9
              have HP := hidQ (KF.push HF.out hB HCode.out M8.out (by omega) hown9 hgrow9)
              clear hown9 hgrow9 hnil9
              obtain ⟨kb9, g', c', rfl, hF10⟩ := HP.out
              have F10 := hidQ hF10
              have qB9 := box_of_heap kb9.qb
              have d9 := qB9.1 3 _ rfl
              have e9 := qB9.2 3
              have hQ9 := kb9.lt
              clear HP hF10 kb9 qB9
              have hS : True := trivial
              refine hK.out _ _ hS (fun hHeld => ?_)
              clear hK K
              try simp only [Act.put, List.getElem_toArray, List.getElem_cons_succ, List.getElem_cons_zero, List.setIfInBounds_toArray, List.set_cons_zero, List.set_cons_succ]
              refine wpAnyH_take (i := 9) (v := ?_) rfl (by kernel_rfl) (by kernel_rfl) (by kernel_rfl) (fun _ _ _ h => h) (Or.inl ⟨by kernel_rfl, ?_⟩) (by assumption) ?_
              rotate_left 1
              · intro w hSw; (try dsimp only at hSw); go_simp; try (with_reducible rfl)
              try simp only [Act.put, List.getElem_toArray, List.getElem_cons_succ, List.getElem_cons_zero, List.setIfInBounds_toArray, List.set_cons_zero, List.set_cons_succ]
              refine wpAnyH_ready (rs := [10]) (by kernel_rfl) (by simp) ?_
              refine AllReadyH.cons rfl (fun K hK => ?_) AllReadyH.nil
              go_simp
              have hS : True := trivial
              refine hK.out _ _ hS (fun hHeld => ?_)
              clear hK K
              try simp only [Act.put, List.getElem_toArray, List.getElem_cons_succ, List.getElem_cons_zero, List.setIfInBounds_toArray, List.set_cons_zero, List.set_cons_succ]
              refine wpAnyH_done (by kernel_rfl) ?_ _
              clear hHeld d8 hQ8 d9 e9 hQ9 F8 M8 HF d7 d72 hQ7
              go_wp2_with fail
              exact ⟨⟨fn + 1, r - 1, _, _, _, _, by simp; omega, by omega, by omega, by omega, F10⟩, by simp [intOf]; omega⟩
      · have hr0 : r = 0 := by omega
        subst hr0
        obtain ⟨g, fc, rfl⟩ : ∃ g fc, fv = .slice (some ⟨g, 0, none⟩) fn fc := by
          rcases HF.out.fo.2 with ⟨_, q⟩ | ⟨g, c, cur, q, _⟩
          · omega
          · exact ⟨g, c, q⟩
        have d70 := qB7.1 0 _ rfl
        have d71 := qB7.1 1 _ rfl
        have d74 := qB7.1 4 _ rfl
        clear qB7
        have rB := HF.out.kb.rb.now
        have rz0 := rB.1 0 _ rfl
        have rz1 := rB.1 1 _ rfl
        have rz2 := rB.1 2 _ rfl
        have rz3 := rB.1 3 _ rfl
        have rz4 := rB.1 4 _ rfl
        have m0 := rB.2 0
        have m1 := rB.2 1
        have m2 := rB.2 2
        have m3 := rB.2 3
        have m4 := rB.2 4
        have hRl := HF.out.kb.rb.lt _ rfl
        clear rB
        go_wp2_with fail
        refine bodyPost_ret (v := .agg #[.int .i64 e, .int .i64 f, .slice (some ⟨rg, 0, none⟩) rn rc, .slice (some ⟨g, 0, none⟩) fn fc, .slice (some ⟨cg, 0, none⟩) cn cc]) (by simp [results, Tryz.results36, go_sem, rz0, rz1, rz2, rz3, rz4, hRl]) rfl ?_
        exact ⟨⟨e, f, some ⟨rg, 0, none⟩, rn, rc, zs, some ⟨g, 0, none⟩, fn, fc, fs, some ⟨cg, 0, none⟩, cn, cc, cs⟩, _, g, kk, rfl, by show 2 ≤ fn; omega, by omega, HF.out.done hB HCode.out HRC.out (by omega) (by omega) (by omega) (grown5 _ _ _ _ _ _ _)⟩

end Go.Proofs.YtaeigimgobilaaaGreatDoor
