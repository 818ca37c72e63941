/-
  CONTRACTS: LocksFault of both programs.
  Conditions: each contract bears its own.
  CONTRACTS: slices.BinarySearchFunc over locks; FormOf of both programs.
  Conditions: each contract bears its own.
  CONTRACTS: FormOf of both programs.
  Conditions: each contract bears its own.
  CONTRACTS: the draws of forms: spec.l1Chance, spec.l4Draw, spec.l4Bent, spec.l4With.
  Conditions: each contract bears its own.
-/
import Derived.Test.YtnfolmjdicfobaaGreatDoorPl10
import Derived.Test.YtnfolmjdicfobaaGreatDoorPl01
import Derived.Deep.CutBlock
import Derived.Shelf.Abstract
import Derived.Test.YtnfolmjdicfobaaGreatDoorPl09
namespace Go.Proofs.YtnfolmjdicfobaaGreatDoor
open Go.RowKit
set_option linter.unusedVariables false
set_option linter.unusedSimpArgs false

theorem prevL_of {gs : List LkI} {j : Nat} {x y : LkI} (h : gs[j]? = some y) : prevL gs (j + 1) x = ltL y x := by simp [prevL, h]

theorem lk_three {gs : List LkI} {k n : Nat} {x : LkI} {c : Int} (hc : lkTo gs n = c) (hn : lkTo gs (k + 1) = lkOne gs k x) (hk : k < n) (h : okL x = false) : c = 3 :=
  hc.symm.trans (lkTo_stay gs (k + 1) n 3 (by decide) (by rw [hn]; simp [lkOne, h]) (by omega))

end Go.Proofs.YtnfolmjdicfobaaGreatDoor

namespace Go.Proofs.YtnfolmjdicfobaaGreatDoor
open Go.RowKit
set_option linter.unusedVariables false
set_option linter.unusedSimpArgs false

theorem cut_lo {gs : List LkI} (hs : SL gs) {m : Nat} {x t : LkI} (hx : gs[m]? = some x) (h : ltL x t = true) : ∀ (k : Nat) (y : LkI), k < m + 1 → gs[k]? = some y → ltL y t = true := by
  intro k y hk hy
  by_cases e : k = m
  · subst e
    rw [hx] at hy
    cases hy
    exact h
  · have hm : m < gs.length := by
      by_cases q : m < gs.length
      · exact q
      · rw [List.getElem?_eq_none (by omega)] at hx; cases hx
    have h1 := List.pairwise_iff_getElem.1 hs k m (by omega) hm (by omega)
    rw [List.getElem?_eq_getElem hm] at hx
    rw [List.getElem?_eq_getElem (by omega)] at hy
    rw [Option.some.inj hx, Option.some.inj hy] at h1
    exact ltL_trans h1 h

theorem cut_hi {gs : List LkI} (hs : SL gs) {m : Nat} {x t : LkI} (hx : gs[m]? = some x) (h : ltL x t = false) : ∀ (k : Nat) (y : LkI), m ≤ k → gs[k]? = some y → ltL y t = false := by
  intro k y hk hy
  by_cases e : k = m
  · subst e
    rw [hx] at hy
    cases hy
    exact h
  · have hk2 : k < gs.length := by
      by_cases q : k < gs.length
      · exact q
      · rw [List.getElem?_eq_none (by omega)] at hy; cases hy
    have h1 := List.pairwise_iff_getElem.1 hs m k (by omega) hk2 (by omega)
    rw [List.getElem?_eq_getElem (by omega)] at hx
    rw [List.getElem?_eq_getElem hk2] at hy
    rw [Option.some.inj hx, Option.some.inj hy] at h1
    cases q : ltL y t
    · rfl
    · rw [ltL_trans h1 q] at h; cases h

def GivesF (f : Nat) (a : Option Addr) (n cap : Nat) (ep cl pr c v : Int) (w : World) : Prop := Calls Tryz.prog f #[.slice a n cap, .int .i64 ep, .int .i64 cl, .int .i64 pr] w fun e w' => e = .returned (.agg #[.int .i64 c, .int .i64 v]) ∧ Below w.heap.size w w'

/-- Where a lock would stand, and whether one stands there. -/
def Found (gs : List LkI) (t : LkI) (w : World) (e : Ending) (w' : World) : Prop := ∃ (i : Nat) (b : Bool), e = .returned (.tuple #[.int .i64 (i : Int), .bool b]) ∧ CutAt gs t i ∧ (b = true ↔ ∃ x, gs[i]? = some x ∧ cfL x t = 0) ∧ Below w.heap.size w w'

end Go.Proofs.YtnfolmjdicfobaaGreatDoor

namespace Go.Proofs.YtnfolmjdicfobaaGreatDoor
open Go.RowKit
set_option linter.unusedVariables false
set_option linter.unusedSimpArgs false

/-- A result's two cells. -/
def ResBox (w : World) (B : Nat) (u v : Value) : Prop := w.cell? ⟨B, 0, none⟩ = some u ∧ w.cell? ⟨B, 1, none⟩ = some v ∧ w.frozen? ⟨B, 0, none⟩ = false ∧ w.frozen? ⟨B, 1, none⟩ = false ∧ B < w.heap.size

theorem ResBox.below {w w' : World} {B : Nat} {u v : Value} (h : ResBox w B u v) (hb : Below w.heap.size w w') : ResBox w' B u v :=
  ⟨(hb.cell (p := ⟨B, 0, none⟩) h.2.2.2.2).trans h.1, (hb.cell (p := ⟨B, 1, none⟩) h.2.2.2.2).trans h.2.1, (hb.frozen (p := ⟨B, 0, none⟩) h.2.2.2.2).trans h.2.2.1, (hb.frozen (p := ⟨B, 1, none⟩) h.2.2.2.2).trans h.2.2.2.1, Nat.lt_of_lt_of_le h.2.2.2.2 hb.size⟩

theorem ResBox.new (w : World) (u v : Value) (t : TypeId) : ResBox (w.alloc (.cells #[u, v] t)) w.heap.size u v := ⟨by simp, by simp, by simp [go_sem], by simp [go_sem], by simp⟩

def fCode (gs : List LkI) (e c p : Int) : Int := if lkCode gs = 0 then (if formL gs e c p = 0 then 4 else 0) else lkCode gs
def fVal (gs : List LkI) (e c p : Int) : Int := if lkCode gs = 0 then formL gs e c p else 0

theorem found_form {gs : List LkI} (hk : lkCode gs = 0) {t : LkI} {i : Nat} {b : Bool} (h : CutAt gs t i) (hb : b = true ↔ ∃ x, gs[i]? = some x ∧ cfL x t = 0) : (b = false ∧ formL gs t.e t.c t.p = 0) ∨ (b = true ∧ ∃ x, gs[i]? = some x ∧ formL gs t.e t.c t.p = x.f ∧ x.f ≠ 0) := by
  have hf := parts_form (lk_ok hk).2.1 h
  cases b
  · refine .inl ⟨rfl, ?_⟩
    rw [hf]
    cases hi : gs[i]? with
    | none => rfl
    | some x =>
      show (if cfL x t = 0 then x.f else 0) = 0
      rw [if_neg]
      intro q
      have := hb.2 ⟨x, hi, q⟩
      cases this
  · obtain ⟨x, hx, q⟩ := hb.1 rfl
    refine .inr ⟨rfl, x, hx, ?_, ?_⟩
    · rw [hf, hx]
      show (if cfL x t = 0 then x.f else 0) = x.f
      rw [if_pos q]
    · have := (lk_ok hk).2.2 x (List.mem_of_getElem? hx)
      simp [okL, inR] at this
      omega

end Go.Proofs.YtnfolmjdicfobaaGreatDoor

namespace Go.Proofs.YtnfolmjdicfobaaGreatDoor
open Go.RowKit
set_option linter.unusedVariables false
set_option linter.unusedSimpArgs false

def rowP (p : PartI) : List Value := [.int .i64 p.k, .int .i64 p.ro, .int .i64 p.rn, .int .i64 p.l, .int .i64 p.r]

def flatP : List PartI → List Value
  | [] => []
  | p :: ps => .int .i64 p.k :: .int .i64 p.ro :: .int .i64 p.rn :: .int .i64 p.l :: .int .i64 p.r :: flatP ps

theorem flatP_append (a b : List PartI) : flatP (a ++ b) = flatP a ++ flatP b := by
  induction a with
  | nil => rfl
  | cons p ps ih => simp [flatP, ih]

theorem flatP_len (a : List PartI) : (flatP a).length = a.length * 5 := by
  induction a with
  | nil => rfl
  | cons p ps ih => simp [flatP, ih]; omega

theorem flatP_at : ∀ (a : List PartI) (k : Nat) (p : PartI), a[k]? = some p → ∀ j u, (rowP p)[j]? = some u → (flatP a)[k * 5 + j]? = some u
  | [], _, _, h => by simp at h
  | q :: qs, 0, p, h => by
    simp at h
    subst h
    intro j u hj
    rw [Nat.zero_mul, Nat.zero_add]
    have hl : j < 5 := by
      by_cases c : j < 5
      · exact c
      · rw [List.getElem?_eq_none (by simp [rowP]; omega)] at hj; cases hj
    have e : flatP (q :: qs) = rowP q ++ flatP qs := rfl
    rw [e, List.getElem?_append_left (by simpa [rowP] using hl)]
    exact hj
  | q :: qs, k + 1, p, h => by
    intro j u hj
    have := flatP_at qs k p (by simpa using h) j u hj
    have e : flatP (q :: qs) = rowP q ++ flatP qs := rfl
    have hl5 : (rowP q).length = 5 := rfl
    rw [e, List.getElem?_append_right (by rw [hl5]; omega), hl5, show (k + 1) * 5 + j - 5 = k * 5 + j by omega]
    exact this

theorem flatP_cells (a : List PartI) : ∀ u ∈ flatP a, u.oneCell' = true := by
  induction a with
  | nil => simp [flatP]
  | cons p ps ih =>
    intro u hu
    simp only [flatP, List.mem_cons] at hu
    rcases hu with rfl | rfl | rfl | rfl | rfl | hu
    all_goals first | rfl | exact ih _ hu

/-- A slice of parts that is new since B. -/
def OwnP (w : World) (B : Nat) (v : Value) (zs : List PartI) : Prop := w.ownsRow B 105 5 v zs.length (flatP zs)

theorem OwnP.shape {w : World} {B : Nat} {v : Value} {zs : List PartI} (h : OwnP w B v zs) (hv : v ≠ .slice none 0 0) : ∃ g cap, v = .slice (some ⟨g, 0, none⟩) zs.length cap := by
  have h0 : w.ownsRow B 105 5 v zs.length (flatP zs) := h
  rcases h0.2 with ⟨h', _⟩ | ⟨g, cap, cur, h', _⟩
  · exact absurd h' hv
  · exact ⟨g, cap, h'⟩

theorem OwnP.read {w : World} {B g n cap : Nat} {zs : List PartI} (hn : zs.length = n) (h : OwnP w B (.slice (some ⟨g, 0, none⟩) n cap) zs) : PartsIn w (some ⟨g, 0, none⟩) n zs := by
  subst hn
  have h0 : w.ownsRow B 105 5 (.slice (some ⟨g, 0, none⟩) zs.length cap) zs.length (flatP zs) := h
  have hc : ∀ j u, (flatP zs)[j]? = some u → w.cell? ⟨g, j, none⟩ = some u := by
    intro j u hj
    have hl : j < zs.length * 5 := by
      by_cases c : j < zs.length * 5
      · exact c
      · rw [List.getElem?_eq_none (by rw [flatP_len]; omega)] at hj; cases hj
    exact (h0.cellAt j hl).trans hj
  refine ⟨rfl, fun _ => ⟨g, 0, rfl, fun k x hx => ?_⟩⟩
  rw [Nat.zero_add]
  have f := flatP_at zs k x hx
  exact ⟨hc _ _ (f 0 _ rfl), hc _ _ (f 1 _ rfl), hc _ _ (f 2 _ rfl), hc _ _ (f 3 _ rfl), hc _ _ (f 4 _ rfl)⟩

theorem OwnP.below {w w' : World} {B : Nat} {v : Value} {zs : List PartI} (h : OwnP w B v zs) (hb : Below w.heap.size w w') : OwnP w' B v zs :=
  World.ownsRow.kept (row := none) h ⟨hb.os, hb.tape, hb.output, hb.size, fun k hk _ => hb.block k hk⟩ (by cases v.ownBlock <;> simp)

theorem ownP_cap {w : World} {B g n cap : Nat} {zs : List PartI} (hn : zs.length = n) (h : OwnP w B (.slice (some ⟨g, 0, none⟩) n cap) zs) : n ≤ cap ∧ cap ≤ maxLen := by
  have h0 : w.ownsRow B 105 5 (.slice (some ⟨g, 0, none⟩) n cap) zs.length (flatP zs) := h
  rcases h0.2 with ⟨h', _⟩ | ⟨g', cap', cur, h', hb, hg, hc, hm, _⟩
  · simp at h'
  · simp at h'
    obtain ⟨_, _, rfl⟩ := h'
    exact ⟨by omega, hm⟩

theorem cell_newP (W : World) (x : PartI) (T : TypeId) : ∀ j u, (rowP x)[j]? = some u → (W.alloc (.cells #[.int .i64 x.k, .int .i64 x.ro, .int .i64 x.rn, .int .i64 x.l, .int .i64 x.r] T)).cell? ((⟨W.heap.size, 0, none⟩ : Addr).add j) = some u := by
  intro j u hj
  match j, hj with
  | 0, hj => simp [rowP] at hj; subst hj; simp [Addr.add]
  | 1, hj => simp [rowP] at hj; subst hj; simp [Addr.add]
  | 2, hj => simp [rowP] at hj; subst hj; simp [Addr.add]
  | 3, hj => simp [rowP] at hj; subst hj; simp [Addr.add]
  | 4, hj => simp [rowP] at hj; subst hj; simp [Addr.add]

/-- What stands while parts are drawn. -/
structure LM (w wr : World) (B : Nat) (a : Option Addr) (len cap kk : Nat) (ys : List Int) (g n c : Nat) (ps : List PartI) : Prop where
  ow : OwnP wr w.heap.size (.slice (some ⟨g, 0, none⟩) n c) ps
  ln : ps.length = n
  ds : DS w wr B a len cap kk ys
  gw : w.heap.size ≤ g
  gl : g < wr.heap.size

theorem LM.draw {w wr wr' : World} {B : Nat} {a : Option Addr} {len cap kk k' : Nat} {ys : List Int} {g n c : Nat} {ps : List PartI} (h : LM w wr B a len cap kk ys g n c ps) (hB : B < w.heap.size) (hs : SrcAt wr' B a len cap k' ys) (hg : wr.grownBy wr' (some B)) : LM w wr' B a len cap k' ys g n c ps :=
  ⟨World.ownsRow.kept (row := some B) h.ow hg (.inr (by have := h.gw; simp [Value.ownBlock]; omega)), h.ln, h.ds.draw hs hg, h.gw, Nat.lt_of_lt_of_le h.gl hg.size⟩

theorem LM.below {w wr wr' : World} {B : Nat} {a : Option Addr} {len cap kk : Nat} {ys : List Int} {g n c : Nat} {ps : List PartI} (h : LM w wr B a len cap kk ys g n c ps) (hb : Below wr.heap.size wr wr') : LM w wr' B a len cap kk ys g n c ps :=
  ⟨h.ow.below hb, h.ln, ⟨h.ds.src.below hb, grown_trans h.ds.gr (grown_none ⟨hb.os, hb.tape, hb.output, hb.size, fun k hk _ => hb.block k hk⟩ _)⟩, h.gw, Nat.lt_of_lt_of_le h.gl hb.size⟩

theorem LM.size {w wr : World} {B : Nat} {a : Option Addr} {len cap kk : Nat} {ys : List Int} {g n c : Nat} {ps : List PartI} (h : LM w wr B a len cap kk ys g n c ps) : w.heap.size ≤ wr.heap.size := Nat.le_of_lt (Nat.lt_of_le_of_lt h.gw h.gl)

/-- Something behind a block of its own that is new and no one's. -/
theorem LM.other {w wr wr' : World} {B q : Nat} {a : Option Addr} {len cap kk : Nat} {ys : List Int} {g n c : Nat} {ps : List PartI} (h : LM w wr B a len cap kk ys g n c ps) (hcode : ∀ b off, a = some ⟨b, off, none⟩ → len = 0 ∨ b < w.heap.size) (hB : B < w.heap.size) (hg : wr.grownBy wr' (some q)) (hq : w.heap.size ≤ q) (hne : q ≠ g) : LM w wr' B a len cap kk ys g n c ps := by
  refine ⟨World.ownsRow.kept (row := some q) h.ow hg (.inr (by simp [Value.ownBlock]; omega)), h.ln, ⟨h.ds.src.kept hg (by simp; omega) (fun b off e => (hcode b off e).imp id (fun k => by simp; omega)), ⟨hg.os.trans h.ds.gr.os, hg.tape.trans h.ds.gr.tape, hg.output.trans h.ds.gr.output, Nat.le_trans h.ds.gr.size hg.size, fun i hi hne2 => ?_⟩⟩, h.gw, Nat.lt_of_lt_of_le h.gl hg.size⟩
  rw [hg.block i (Nat.lt_of_lt_of_le hi h.ds.gr.size) (by simp; omega)]
  exact h.ds.gr.block i hi hne2

/-- One more part behind an append. -/
theorem LM.next {w wr w' : World} {B : Nat} {a : Option Addr} {len cap kk : Nat} {ys : List Int} {g n c : Nat} {ps : List PartI} {x : PartI} {o : Obj} {v' : Value} (h : LM w wr B a len cap kk ys g n c ps) (hcode : ∀ b off, a = some ⟨b, off, none⟩ → len = 0 ∨ b < w.heap.size) (hB : B < w.heap.size)
    (hown : w'.ownsRow w.heap.size 105 5 v' (n + 1) (flatP ps ++ rowP x)) (hg : (wr.alloc o).grownBy w' (Value.ownBlock (.slice (some ⟨g, 0, none⟩) n c))) (hn : v' ≠ .slice none 0 0) :
    ∃ g' c', v' = .slice (some ⟨g', 0, none⟩) (n + 1) c' ∧ LM w w' B a len cap kk ys g' (n + 1) c' (ps ++ [x]) := by
  have hl : (ps ++ [x]).length = n + 1 := by rw [List.length_append, h.ln]; rfl
  have how : OwnP w' w.heap.size v' (ps ++ [x]) := by unfold OwnP; rw [hl, flatP_append]; exact hown
  obtain ⟨g', c', e⟩ := how.shape hn
  rw [hl] at e
  subst e
  have hlt := hown.lt g' (by simp [Value.ownBlock])
  have hg' : (wr.alloc o).grownBy w' (some g) := hg
  have ds1 := h.ds.alloc o
  refine ⟨g', c', rfl, how, hl, ⟨ds1.src.kept hg' (by have := h.gw; simp; omega) (fun b off e => (hcode b off e).imp id (fun q => by have := h.gw; simp; omega)), ⟨hg'.os.trans ds1.gr.os, hg'.tape.trans ds1.gr.tape, hg'.output.trans ds1.gr.output, Nat.le_trans ds1.gr.size hg'.size, fun i hi hne => ?_⟩⟩, hlt.1, hlt.2⟩
  rw [hg'.block i (Nat.lt_of_lt_of_le hi ds1.gr.size) (by have := h.gw; simp; omega)]
  exact ds1.gr.block i hi hne

theorem ResBox.grown {w w' : World} {B q : Nat} {u v : Value} (h : ResBox w B u v) (hg : w.grownBy w' (some q)) (hne : B ≠ q) : ResBox w' B u v := by
  have hb := hg.block B h.2.2.2.2 (by simp [hne])
  refine ⟨hg.cell h.1 (by simp [hne]), hg.cell h.2.1 (by simp [hne]), ?_, ?_, Nat.lt_of_lt_of_le h.2.2.2.2 hg.size⟩
  · have := h.2.2.1
    unfold World.frozen? at this ⊢
    simp only at this ⊢
    rw [hb]
    exact this
  · have := h.2.2.2.1
    unfold World.frozen? at this ⊢
    simp only at this ⊢
    rw [hb]
    exact this

theorem ResBox.put {w : World} {B : Nat} {u v : Value} (h : ResBox w B u v) (u' v' : Value) : ResBox ((w.setCell ⟨B, 0, none⟩ u').setCell ⟨B, 1, none⟩ v') B u' v' := by
  obtain ⟨c0, c1, f0, f1, hl⟩ := h
  exact ⟨by simp [go_sem, c0, c1], by simp [go_sem, c0, c1], by simpa only [World.frozen?_setCell] using f0, by simpa only [World.frozen?_setCell] using f1, by simpa only [World.size_setCell] using hl⟩

/-- What a chance gives. -/
def ChanceP (w : World) (B : Nat) (a : Option Addr) (len cap k : Nat) (ys : List Int) (e : Ending) (w' : World) : Prop := ∃ t : Bool, e = .returned (.bool t) ∧ SrcAt w' B a len cap (k + 1) ys ∧ w.grownBy w' (some B)

set_option maxHeartbeats 400000 in
theorem chance_c (w : World) (B : Nat) (a : Option Addr) (len cap k : Nat) (ys : List Int) (n : Int) (h : SrcAt w B a len cap k ys) (hl : len ≤ 1048576) (hk : k ≤ 1000) (n1 : 1 ≤ n) (n2 : n ≤ 1048576) :
    Calls Tryz.prog 33 #[.pointer (some ⟨B, 0, none⟩), .int .i64 n] w fun e w' => ChanceP w B a len cap k ys e w' := by
  have H : Hid (SrcAt w B a len cap k ys) := h
  clear h
  go_enter Tryz.func33, Tryz.ntmps33
  go_wp2_with fail
  refine (next_c _ B a len cap k ys n H.out hl hk n1 n2).mono ?_
  rintro e w1 ⟨v, v0, v1, rfl, hS, hG⟩
  go_wp2
  go_ret
  exact ⟨_, rfl, hS, hG⟩

theorem grownBy_setCell2 (W : World) (B o : Nat) (u : Value) : W.grownBy (W.setCell ⟨B, o, none⟩ u) (some B) := grown_set W B o u

set_option maxRecDepth 100000 in
set_option maxHeartbeats 4000000 in
theorem form_c (w : World) (B : Nat) (a : Option Addr) (len cap k0 : Nat) (ys : List Int) (a' : Option Addr) (m d : Nat) (zs : List RuleI) (h : SrcAt w B a len cap k0 ys) (hl : len ≤ 1048576) (hk0 : k0 ≤ 700) (hm : m ≤ 1000) (hr : RulesIn w a' m zs) (hne : ∀ b off, a' = some ⟨b, off, none⟩ → m = 0 ∨ b ≠ B) :
    Calls Tryz.prog 109 #[.pointer (some ⟨B, 0, none⟩), .slice a' m d] w fun e w' => ∃ (g n c kk : Nat) (ps : List PartI), e = .returned (.slice (some ⟨g, 0, none⟩) n c) ∧ n ≤ 6 ∧ kk ≤ k0 + 30 ∧ LM w w' B a len cap kk ys g n c ps := by
  have hB := h.lt
  have HCode : Hid (∀ b off, a = some ⟨b, off, none⟩ → len = 0 ∨ b < w.heap.size) := h.code_lt
  have HR : Hid (RulesIn w a' m zs) := hr
  have HNE : Hid (∀ b off, a' = some ⟨b, off, none⟩ → m = 0 ∨ b ≠ B) := hne
  have D0 : Hid (DS w (w.alloc (.cells #[] 105)) B a len cap k0 ys) := (DS.start h).alloc _
  have O0 : Hid (OwnP (w.alloc (.cells #[] 105)) w.heap.size (.slice (some ⟨w.heap.size, 0, none⟩) 0 0) []) := World.ownsRow_lit (base := w.heap.size) (e := 105) (size := 5) w #[] 0 (Nat.le_refl _) (Nat.zero_le _) rfl
  obtain ⟨i0, hi, hz0, hz1, hz2⟩ := info_parts Tryz.info105
  have hun : Tryz.prog.underlying 40 = some (.slice 105) := by kernel_rfl
  have hm' : (m : Int) ≤ 1000 := by omega
  clear h hr hne
  go_enter Tryz.func109, Tryz.ntmps109
  go_wp2_with fail
  refine (next_c _ B a len cap k0 ys 3 D0.out.src hl (by omega) (by omega) (by omega)).mono ?_
  rintro e w1 ⟨v1, x0, x1, rfl, hS1, hG1⟩
  have D1 : Hid (DS w w1 B a len cap (k0 + 1) ys) := D0.out.draw hS1 hG1
  have hz1' : w.heap.size < w1.heap.size := by have := hG1.size; simp at this; omega
  have O1 : Hid (OwnP w1 w.heap.size (.slice (some ⟨w.heap.size, 0, none⟩) 0 0) []) := World.ownsRow.kept (row := some B) O0.out hG1 (.inr (by simp [Value.ownBlock]; omega))
  obtain ⟨r1, rfl⟩ := Int.eq_ofNat_of_zero_le x0
  clear hS1 hG1 D0 O0
  go_wp2_with fail
  go_loopw [5, 6] (fun v i wr => ∃ (g n c kk r : Nat) (ps : List PartI), v = .slice (some ⟨g, 0, none⟩) n c ∧ i = .int .i64 (r : Int) ∧ n + r ≤ 3 ∧ kk + 4 * r ≤ k0 + 13 ∧ 1 ≤ n + r ∧ Hid (LM w wr B a len cap kk ys g n c ps)) (fun _ i _ => (intOf i).toNat)
  case atStart => exact ⟨_, 0, 0, k0 + 1, r1 + 1, [], rfl, by simp; omega, by omega, by omega, by omega, O1.out, rfl, D1.out, Nat.le_refl _, hz1'⟩
  case round =>
    obtain ⟨g, n, c, kk, r, ps, rfl, rfl, hnr, hkr, hn1, HL⟩ := hrel
    by_cases hr : 0 < r
    · have hr' : (0 : Int) < (r : Int) := by omega
      go_wp2_with fail
      refine (drawRole_c _ B a len cap kk ys HL.out.ds.src hl (by omega)).mono ?_
      rintro e w2 ⟨o, nm, _, rfl, hS2, hG2⟩
      have HL2 : Hid (LM w w2 B a len cap (kk + 2) ys g n c ps) := HL.out.draw hB hS2 hG2
      have hA2 : Below w2.heap.size w2 (w2.alloc (.cells #[.int .i64 o, .int .i64 nm] 79)) := (Below.refl _ _).alloc (Nat.le_refl _) _
      have HL3 : Hid (LM w (w2.alloc (.cells #[.int .i64 o, .int .i64 nm] 79)) B a len cap (kk + 2) ys g n c ps) := HL2.out.below hA2
      have HX3 : Hid (ResBox (w2.alloc (.cells #[.int .i64 o, .int .i64 nm] 79)) w2.heap.size (.int .i64 o) (.int .i64 nm)) := ResBox.new _ _ _ _
      have hq1 : w.heap.size ≤ w2.heap.size := HL2.out.size
      have hq2 : g < w2.heap.size := HL2.out.gl
      clear hS2 hG2 HL hA2 HL2
      go_upto_region 6 with fail
      generalize w2.alloc (.cells #[.int .i64 o, .int .i64 nm] 79) = w3 at HL3 HX3 ⊢
      by_cases hm0 : 0 < m
      · have hm0' : (0 : Int) < (m : Int) := by omega
        go_wp2_with fail
        refine (chance_c _ B a len cap (kk + 2) ys 4 HL3.out.ds.src hl (by omega) (by omega) (by omega)).mono ?_
        rintro e w4 ⟨t, rfl, hS4, hG4⟩
        have HL4 : Hid (LM w w4 B a len cap (kk + 2 + 1) ys g n c ps) := HL3.out.draw hB hS4 hG4
        have HX4 : Hid (ResBox w4 w2.heap.size (.int .i64 o) (.int .i64 nm)) := HX3.out.grown hG4 (by omega)
        clear hS4 hG4 HL3 HX3
        cases t
        · go_wp2_with fail
          refine (next_c _ B a len cap (kk + 2 + 1) ys (m : Int) HL4.out.ds.src hl (by omega) (by omega) (by omega)).mono ?_
          rintro e w5 ⟨v, v0, v1, rfl, hS5, hG5⟩
          have HL5 : Hid (LM w w5 B a len cap (kk + 2 + 1 + 1) ys g n c ps) := HL4.out.draw hB hS5 hG5
          have HX5 : Hid (ResBox w5 w2.heap.size (.int .i64 o) (.int .i64 nm)) := HX4.out.grown hG5 (by omega)
          obtain ⟨j, rfl⟩ := Int.eq_ofNat_of_zero_le v0
          have hjm : j < m := by omega
          obtain ⟨b, off, z, e1, hz, hzr⟩ := (rules_gr HR.out HL5.out.ds.gr HNE.out).at hjm
          obtain ⟨z0, z1, z2, _⟩ := hzr
          subst e1
          have hbw : b < w5.heap.size := World.block_lt_of_cell? w5 ⟨b, off + j * 8, none⟩ z0
          have HL6 : Hid (LM w ((w5.setCell ⟨w2.heap.size, 0, none⟩ (.int .i64 z.ho)).setCell ⟨w2.heap.size, 1, none⟩ (.int .i64 z.hn)) B a len cap (kk + 2 + 1 + 1) ys g n c ps) := (HL5.out.other HCode.out hB (grownBy_setCell2 w5 w2.heap.size 0 (.int .i64 z.ho)) hq1 (by omega)).other HCode.out hB (grownBy_setCell2 _ w2.heap.size 1 (.int .i64 z.hn)) hq1 (by omega)
          have HX6 : Hid (ResBox ((w5.setCell ⟨w2.heap.size, 0, none⟩ (.int .i64 z.ho)).setCell ⟨w2.heap.size, 1, none⟩ (.int .i64 z.hn)) w2.heap.size (.int .i64 z.ho) (.int .i64 z.hn)) := HX5.out.put _ _
          obtain ⟨y0, y1, yf0, yf1, _⟩ := HX5.out
          clear hS5 hG5 HL4 HX4 hz
          go_upto_region 8 with fail
          generalize (w5.setCell ⟨w2.heap.size, 0, none⟩ (.int .i64 z.ho)).setCell ⟨w2.heap.size, 1, none⟩ (.int .i64 z.hn) = w6 at HL6 HX6 ⊢
          clear y0 y1 yf0 yf1 z0 z1 z2 HL5 HX5
          obtain ⟨c0, c1, _⟩ := HX6.out
          go_wp2_with (first
            | (at_builtin; refine wpList_append_own _ rfl _ _ 40 rfl w.heap.size 105 i0 (.agg #[.int .i64 0, .int .i64 0, .int .i64 0, .int .i64 0, .int .i64 0]) 5 40 hun hi hz0 hz1 hz2 rfl (by decide) _ n (flatP ps) rfl (?c0) ⟨w6.heap.size, 0, none⟩ 1 1 (rowP (⟨1, z.ho, z.hn, 0, 0⟩ : PartI)) rfl rfl (cell_newP w6 (⟨1, z.ho, z.hn, 0, 0⟩ : PartI) _) (flatP_cells [(⟨1, z.ho, z.hn, 0, 0⟩ : PartI)]) ?c3 ?c4 ?c5 ?_)
            | fail)
          case c0 => have h0 : w6.ownsRow w.heap.size 105 5 (.slice (some ⟨g, 0, none⟩) n c) n (flatP ps) := by have := HL6.out.ow; unfold OwnP at this; rw [HL6.out.ln] at this; exact this
                     exact h0.alloc _
          case c3 => unfold maxLen; omega
          case c4 => omega
          case c5 => have := HL6.out.size; simp; omega
          intro v' w9 hown' hgrow hnil
          have HN : Hid (∃ g' c', v' = .slice (some ⟨g', 0, none⟩) (n + 1) c' ∧ LM w w9 B a len cap (kk + 2 + 1 + 1) ys g' (n + 1) c' (ps ++ [(⟨1, z.ho, z.hn, 0, 0⟩ : PartI)])) := LM.next HL6.out HCode.out hB hown' hgrow hnil
          clear hown' hgrow hnil
          obtain ⟨g', c', rfl, hl9⟩ := HN.out
          have HL9 : Hid (LM w w9 B a len cap (kk + 2 + 1 + 1) ys g' (n + 1) c' (ps ++ [(⟨1, z.ho, z.hn, 0, 0⟩ : PartI)])) := hl9
          clear hl9 HN
          clear HL6 HX6 c0 c1
          go_wp2
          exact ⟨⟨g', n + 1, c', _, r - 1, _, rfl, by simp; omega, by omega, by omega, by omega, HL9⟩, by simp [intOf]; omega⟩
        · go_upto_region 8 with fail
          obtain ⟨c0, c1, _⟩ := HX4.out
          go_wp2_with (first
            | (at_builtin; refine wpList_append_own _ rfl _ _ 40 rfl w.heap.size 105 i0 (.agg #[.int .i64 0, .int .i64 0, .int .i64 0, .int .i64 0, .int .i64 0]) 5 40 hun hi hz0 hz1 hz2 rfl (by decide) _ n (flatP ps) rfl (?c0) ⟨w4.heap.size, 0, none⟩ 1 1 (rowP (⟨1, o, nm, 0, 0⟩ : PartI)) rfl rfl (cell_newP w4 (⟨1, o, nm, 0, 0⟩ : PartI) _) (flatP_cells [(⟨1, o, nm, 0, 0⟩ : PartI)]) ?c3 ?c4 ?c5 ?_)
            | fail)
          case c0 => have h0 : w4.ownsRow w.heap.size 105 5 (.slice (some ⟨g, 0, none⟩) n c) n (flatP ps) := by have := HL4.out.ow; unfold OwnP at this; rw [HL4.out.ln] at this; exact this
                     exact h0.alloc _
          case c3 => unfold maxLen; omega
          case c4 => omega
          case c5 => have := HL4.out.size; simp; omega
          intro v' w9 hown' hgrow hnil
          have HN : Hid (∃ g' c', v' = .slice (some ⟨g', 0, none⟩) (n + 1) c' ∧ LM w w9 B a len cap (kk + 2 + 1) ys g' (n + 1) c' (ps ++ [(⟨1, o, nm, 0, 0⟩ : PartI)])) := LM.next HL4.out HCode.out hB hown' hgrow hnil
          clear hown' hgrow hnil
          obtain ⟨g', c', rfl, hl9⟩ := HN.out
          have HL9 : Hid (LM w w9 B a len cap (kk + 2 + 1) ys g' (n + 1) c' (ps ++ [(⟨1, o, nm, 0, 0⟩ : PartI)])) := hl9
          clear hl9 HN
          clear HL4 HX4 c0 c1
          go_wp2
          exact ⟨⟨g', n + 1, c', _, r - 1, _, rfl, by simp; omega, by omega, by omega, by omega, HL9⟩, by simp [intOf]; omega⟩
      · have hm0' : ¬ ((0 : Int) < (m : Int)) := by omega
        go_upto_region 8 with fail
        obtain ⟨c0, c1, _⟩ := HX3.out
        go_wp2_with (first
          | (at_builtin; refine wpList_append_own _ rfl _ _ 40 rfl w.heap.size 105 i0 (.agg #[.int .i64 0, .int .i64 0, .int .i64 0, .int .i64 0, .int .i64 0]) 5 40 hun hi hz0 hz1 hz2 rfl (by decide) _ n (flatP ps) rfl (?c0) ⟨w3.heap.size, 0, none⟩ 1 1 (rowP (⟨1, o, nm, 0, 0⟩ : PartI)) rfl rfl (cell_newP w3 (⟨1, o, nm, 0, 0⟩ : PartI) _) (flatP_cells [(⟨1, o, nm, 0, 0⟩ : PartI)]) ?c3 ?c4 ?c5 ?_)
          | fail)
        case c0 => have h0 : w3.ownsRow w.heap.size 105 5 (.slice (some ⟨g, 0, none⟩) n c) n (flatP ps) := by have := HL3.out.ow; unfold OwnP at this; rw [HL3.out.ln] at this; exact this
                   exact h0.alloc _
        case c3 => unfold maxLen; omega
        case c4 => omega
        case c5 => have := HL3.out.size; simp; omega
        intro v' w9 hown' hgrow hnil
        have HN : Hid (∃ g' c', v' = .slice (some ⟨g', 0, none⟩) (n + 1) c' ∧ LM w w9 B a len cap (kk + 2) ys g' (n + 1) c' (ps ++ [(⟨1, o, nm, 0, 0⟩ : PartI)])) := LM.next HL3.out HCode.out hB hown' hgrow hnil
        clear hown' hgrow hnil
        obtain ⟨g', c', rfl, hl9⟩ := HN.out
        have HL9 : Hid (LM w w9 B a len cap (kk + 2) ys g' (n + 1) c' (ps ++ [(⟨1, o, nm, 0, 0⟩ : PartI)])) := hl9
        clear hl9 HN
        clear HL3 HX3 c0 c1
        go_wp2
        exact ⟨⟨g', n + 1, c', _, r - 1, _, rfl, by simp; omega, by omega, by omega, by omega, HL9⟩, by simp [intOf]; omega⟩
    · have hr0 : r = 0 := by omega
      subst hr0
      have hn3 : 1 ≤ n ∧ n ≤ 3 := by omega
      go_wp2_with fail
      refine (next_c _ B a len cap kk ys 4 HL.out.ds.src hl (by omega) (by omega) (by omega)).mono ?_
      rintro e w2 ⟨v2, y0, y1, rfl, hS2, hG2⟩
      have HL2 : Hid (LM w w2 B a len cap (kk + 1) ys g n c ps) := HL.out.draw hB hS2 hG2
      obtain ⟨r2, rfl⟩ := Int.eq_ofNat_of_zero_le y0
      clear hS2 hG2 HL
      go_wp2_with fail
      go_loopw [5, 8] (fun v i wr => ∃ (g n c kk r : Nat) (ps : List PartI), v = .slice (some ⟨g, 0, none⟩) n c ∧ i = .int .i64 (r : Int) ∧ n + r ≤ 6 ∧ 1 ≤ n ∧ kk + 3 * r ≤ k0 + 23 ∧ Hid (LM w wr B a len cap kk ys g n c ps)) (fun _ i _ => (intOf i).toNat)
      case atStart => exact ⟨g, n, c, kk + 1, r2, ps, rfl, rfl, by omega, by omega, by omega, HL2.out⟩
      case round =>
        clear HL2 y1
        obtain ⟨g, n, c, kk, r, ps, rfl, rfl, hnr, hn1, hkr, HL⟩ := hrel
        by_cases hr : 0 < r
        · have hr' : (0 : Int) < (r : Int) := by omega
          have hn6' : (n : Int) ≤ 6 := by omega
          go_wp2_with fail
          refine (next_c _ B a len cap kk ys 2 HL.out.ds.src hl (by omega) (by omega) (by omega)).mono ?_
          rintro e w3 ⟨k3, z0, z1, rfl, hS3, hG3⟩
          have HL3 : Hid (LM w w3 B a len cap (kk + 1) ys g n c ps) := HL.out.draw hB hS3 hG3
          clear hS3 hG3 HL
          go_wp2_with fail
          refine (next_c _ B a len cap (kk + 1) ys (n : Int) HL3.out.ds.src hl (by omega) (by omega) (by omega)).mono ?_
          rintro e w4 ⟨l4, l0, l1, rfl, hS4, hG4⟩
          have HL4 : Hid (LM w w4 B a len cap (kk + 1 + 1) ys g n c ps) := HL3.out.draw hB hS4 hG4
          clear hS4 hG4 HL3
          go_wp2_with fail
          refine (next_c _ B a len cap (kk + 1 + 1) ys (n : Int) HL4.out.ds.src hl (by omega) (by omega) (by omega)).mono ?_
          rintro e w5 ⟨r4, q0, q1, rfl, hS5, hG5⟩
          have HL5 : Hid (LM w w5 B a len cap (kk + 1 + 1 + 1) ys g n c ps) := HL4.out.draw hB hS5 hG5
          clear hS5 hG5 HL4
          go_wp2_with (first
            | (at_builtin; refine wpList_append_own _ rfl _ _ 40 rfl w.heap.size 105 i0 (.agg #[.int .i64 0, .int .i64 0, .int .i64 0, .int .i64 0, .int .i64 0]) 5 40 hun hi hz0 hz1 hz2 rfl (by decide) _ n (flatP ps) rfl (?c0) ⟨w5.heap.size, 0, none⟩ 1 1 (rowP (⟨2 + k3, 0, 0, l4, r4⟩ : PartI)) rfl rfl (cell_newP w5 (⟨2 + k3, 0, 0, l4, r4⟩ : PartI) _) (flatP_cells [(⟨2 + k3, 0, 0, l4, r4⟩ : PartI)]) ?c3 ?c4 ?c5 ?_)
            | fail)
          case c0 => have h0 : w5.ownsRow w.heap.size 105 5 (.slice (some ⟨g, 0, none⟩) n c) n (flatP ps) := by have := HL5.out.ow; unfold OwnP at this; rw [HL5.out.ln] at this; exact this
                     exact h0.alloc _
          case c3 => unfold maxLen; omega
          case c4 => omega
          case c5 => have := HL5.out.size; simp; omega
          intro v' w9 hown' hgrow hnil
          have HN : Hid (∃ g' c', v' = .slice (some ⟨g', 0, none⟩) (n + 1) c' ∧ LM w w9 B a len cap (kk + 1 + 1 + 1) ys g' (n + 1) c' (ps ++ [(⟨2 + k3, 0, 0, l4, r4⟩ : PartI)])) := LM.next HL5.out HCode.out hB hown' hgrow hnil
          clear hown' hgrow hnil
          obtain ⟨g', c', rfl, hl9⟩ := HN.out
          have HL9 : Hid (LM w w9 B a len cap (kk + 1 + 1 + 1) ys g' (n + 1) c' (ps ++ [(⟨2 + k3, 0, 0, l4, r4⟩ : PartI)])) := hl9
          clear hl9 HN
          clear HL5
          go_wp2
          exact ⟨⟨g', n + 1, c', _, r - 1, _, rfl, by simp; omega, by omega, by omega, by omega, HL9⟩, by simp [intOf]; omega⟩
        · have hr0 : r = 0 := by omega
          subst hr0
          go_wp2_with fail
          go_ret
          exact ⟨g, n, c, kk, ps, rfl, by omega, by omega, HL.out⟩

end Go.Proofs.YtnfolmjdicfobaaGreatDoor
