/-
  CONTRACTS: slices.AppendSeq, slices.Collect, slices.SortedFunc over the keys of the map of grants: the roles that somebody has, rising.
  Conditions: each contract bears its own.
  CONTRACTS: slices.SortedFunc over the keys of the map of grants; (impl.grantMap).list: the grants, rising.
  Conditions: each contract bears its own.
  CONTRACTS: GrantsOf of both programs, at every slice of rules.
  Conditions: each contract bears its own.
  PLAIN WORDS on forms: their parts as numbers, the fault of parts, parts in memory; copies and comparisons of them.
  Conditions: each fact bears its own.
  CONTRACTS of laws.toInt64S (a copy of a slice) and of laws.eqInt64S (two that are alike).
  Conditions: each contract bears its own.
  CONTRACTS: slices of numbers in memory: copied, compared, marked.
  Conditions: each contract bears its own.
  CONTRACTS: forms and configurations in memory: measured, copied (laws.toFormS, laws.toConfig), compared (two that are alike).
  Conditions: each contract bears its own.
  CONTRACTS: configurations in memory: measured, copied (laws.toConfig), compared (two that are alike).
  Conditions: each contract bears its own.
  CONTRACTS: Lock in memory; laws.toLockS (a copy of a slice) and laws.eqLockS (two that are alike).
  Conditions: each contract bears its own.
  PLAIN WORDS on locks: which has no fault, which stands ahead, which form was chosen. No Go text is walked here.
  Conditions: each fact bears its own.
  CONTRACTS: ClassesFault and ClashForms of both programs.
  Conditions: each contract bears its own.
  CONTRACTS: NeedOf and ReplicasOf of both programs.
  Conditions: each contract bears its own.
-/
import Derived.Test.YtaeigimgobilaaaGreatDoorPz03
import Derived.Deep.AppendLies
import Derived.Test.YtaeigimgobilaaaGreatDoorGr4
import Derived.Shelf.SlSortCmp.NoneTotal
import Derived.Deep.RegionLaw
import Derived.Test.YtaeigimgobilaaaGreatDoorPz01
import Derived.Test.YtaeigimgobilaaaGreatDoorPz02
import Derived.Test.YtaeigimgobilaaaGreatDoorRole0
import Derived.Test.YtaeigimgobilaaaGreatDoorSpec1
import Derived.WalkSmall
import Derived.BigQuiet
import Derived.Deep.QuietTactic
import Derived.Test.YtaeigimgobilaaaGreatDoorPol0
import Derived.Handy
import Derived.Deep.RegionHeld3
import Derived.Test.YtaeigimgobilaaaGreatDoorPlain

namespace Go.Proofs.YtaeigimgobilaaaGreatDoor
open Go.RowKit Go.Shelf Go.Maps
attribute [local go_sem] Oper.semAt_some
attribute [local go_sem] wide_fn
attribute [local simp] wide_fn
set_option linter.unusedVariables false
set_option linter.unusedSimpArgs false

theorem flat2_snoc (a : List RoI) (x : RoI) : flat2 (a ++ [x]) = flat2 a ++ [.int .i64 x.1, .int .i64 x.2] := by rw [flat2_append]; rfl

/-- A block of cells is kept while others are turned that hold no cells. -/
theorem block_own (B : Nat) (cs : Array Value) (t : TypeId) : Own (fun (_ : Unit) W => W.heap[B]? = some (.cells cs t (0, 0))) := fun s X Y row hs hg hrow => by
  refine (hg.block B (Array.getElem?_eq_some_iff.1 hs).1 (fun e => ?_)).trans hs
  obtain ⟨o, ho, hc⟩ := hrow B e.symm
  rw [hs] at ho
  cases ho
  cases hc

end Go.Proofs.YtaeigimgobilaaaGreatDoor

namespace Go.Proofs.YtaeigimgobilaaaGreatDoor
open Go.RowKit Go.Maps Go.Proofs
set_option linter.unusedVariables false
set_option linter.unusedSimpArgs false

theorem ss_of_sorted {xs ys : List RoI} (hl : ys.length = xs.length) (hm : ∀ x, x ∈ ys ↔ x ∈ xs) (hs : ys.Pairwise (fun a b => ltR b a = false)) (hn : xs.Nodup) : SS ys := by
  refine List.pairwise_iff_getElem.2 (fun i j hi hj hij => ?_)
  cases e : ltR ys[i] ys[j]
  · have h2 := List.pairwise_iff_getElem.1 hs i j hi hj hij
    have eq : ys[i] = ys[j] := Classical.byContradiction fun q => by
      have := ltR_total e q
      rw [h2] at this; cases this
    have := nodup_len xs (ys.eraseIdx j) hn (fun x hx => by
      obtain ⟨k, hk, ek⟩ := List.mem_iff_getElem.1 ((hm x).2 hx)
      refine List.mem_eraseIdx_iff_getElem.2 ?_
      by_cases q : k = j
      · subst q
        exact ⟨i, hi, by omega, by rw [eq, ek]⟩
      · exact ⟨k, hk, q, ek⟩)
    rw [List.length_eraseIdx] at this
    split at this <;> omega
  · rfl

theorem owns_at2 {w : World} {B : Nat} {v : Value} {ys : List RoI} (h : Owns2 w B v ys) : ∃ a cap, v = .slice a ys.length cap ∧ ∀ k r, ys[k]? = some r → ∃ g, a = some ⟨g, 0, none⟩ ∧ B ≤ g ∧ w.cell? ⟨g, k * 2, none⟩ = some (.int .i64 r.1) ∧ w.cell? ⟨g, k * 2 + 1, none⟩ = some (.int .i64 r.2) := by
  rcases h.2 with ⟨rfl, h0⟩ | ⟨g, cap, cur, rfl, hg, _⟩
  · have hy : ys = [] := List.eq_nil_of_length_eq_zero h0
    subst hy
    exact ⟨none, 0, rfl, fun k r e => by simp at e⟩
  · refine ⟨_, cap, rfl, fun k r e => ⟨g, rfl, hg, ?_, ?_⟩⟩
    · have hk : k < ys.length := by
        by_cases q : k < ys.length
        · exact q
        · rw [List.getElem?_eq_none (by omega)] at e; cases e
      exact (World.ownsRow.cellAt h (k * 2) (by omega)).trans (flat2_fst ys k r e)
    · have hk : k < ys.length := by
        by_cases q : k < ys.length
        · exact q
        · rw [List.getElem?_eq_none (by omega)] at e; cases e
      exact (World.ownsRow.cellAt h (k * 2 + 1) (by omega)).trans (flat2_snd ys k r e)

theorem flat3_snoc (a : List GrI) (x : GrI) : flat3 (a ++ [x]) = flat3 a ++ [.int .i64 x.1.1, .int .i64 x.1.2, .int .i64 x.2] := by rw [flat3_append]; rfl

theorem owns_lower3 {w : World} {B B' : Nat} {v : Value} {gs : List GrI} (h : Own3 w B v gs) (hB : B' ≤ B) : Own3 w B' v gs := by
  refine ⟨h.1, ?_⟩
  rcases h.2 with q | ⟨g, cap, cur, e, hg, rest⟩
  · exact .inl q
  · exact .inr ⟨g, cap, cur, e, Nat.le_trans hB hg, rest⟩

end Go.Proofs.YtaeigimgobilaaaGreatDoor

namespace Go.Proofs.YtaeigimgobilaaaGreatDoor
open Go.RowKit
set_option linter.unusedVariables false
set_option linter.unusedSimpArgs false

def GivesG (f : Nat) (a : Option Addr) (n cap : Nat) (c : Int) (ys : List GrI) (w : World) : Prop := Calls Tryz.prog f #[.slice a n cap] w fun e w' => ∃ (a' : Option Addr) (cap' : Nat), e = .returned (.agg #[.int .i64 c, .slice a' ys.length cap']) ∧ Own3 w' w.heap.size (.slice a' ys.length cap') ys ∧ Below w.heap.size w w'

theorem all_some (zs : List RuleI) (hc : polCode zs = 0) : ∃ gs, AllG zs gs := by
  have hz : ∀ z ∈ zs, okR z := fun z h => ((pol_ok hc).2 z h).1
  obtain ⟨n, _, h⟩ := it_ends hz
  exact ⟨_, allG_it hz h⟩

theorem pol_n16 {zs : List RuleI} {n : Nat} (h : zs.length = n) (hc : polCode zs = 0) : n ≤ 16 := by
  unfold polCode at hc
  split at hc
  · simp at hc
  · omega

theorem Own3.box {w : World} {B b0 : Nat} {v x y : Value} {gs : List GrI} (h : Own3 w B v gs) (hB : b0 < B) : Own3 ((w.setCell ⟨b0, 0, none⟩ x).setCell ⟨b0, 1, none⟩ y) b0 v gs := by
  have h6 : Own3 w (b0 + 1) v gs := owns_lower3 h (by omega)
  have h7 := ownsRow_setCell_below (ownsRow_setCell_below h6 (a := ⟨b0, 0, none⟩) (by simp) x) (a := ⟨b0, 1, none⟩) (by simp) y
  exact owns_lower3 h7 (by omega)

end Go.Proofs.YtaeigimgobilaaaGreatDoor

namespace Go.Proofs.YtaeigimgobilaaaGreatDoor
open Go.RowKit
set_option linter.unusedVariables false
set_option linter.unusedSimpArgs false

/-- A part, as five numbers. -/
structure PartI where
  k : Int
  ro : Int
  rn : Int
  l : Int
  r : Int
deriving DecidableEq, Inhabited

/-- The code of one part at its place. -/
def ptOne (k : Nat) (p : PartI) : Int :=
  if ¬ (1 ≤ p.k ∧ p.k ≤ 3) then 1
  else if p.k = 1 then (if roleB p.ro p.rn = false then 3 else if ¬ (p.l = 0 ∧ p.r = 0) then 1 else 0)
  else if ¬ (p.ro = 0 ∧ p.rn = 0) then 1 else if ¬ (0 ≤ p.l ∧ p.l < k) then 3 else if ¬ (0 ≤ p.r ∧ p.r < k) then 3 else 0

def ptTo (zs : List PartI) : Nat → Int
  | 0 => 0
  | k + 1 => if ptTo zs k ≠ 0 then ptTo zs k else match zs[k]? with
    | none => 0
    | some x => ptOne k x

def ptCode (zs : List PartI) : Int := if zs.length < 1 then 2 else if 8 < zs.length then 2 else ptTo zs zs.length

theorem ptTo_stay (zs : List PartI) (k m : Nat) (c : Int) (hc : c ≠ 0) (h : ptTo zs k = c) (hm : k ≤ m) : ptTo zs m = c := by
  induction m with
  | zero => obtain rfl : k = 0 := by omega
            exact h
  | succ m ih =>
    by_cases e : k = m + 1
    · subst e; exact h
    · have := ih (by omega)
      simp only [ptTo, this]
      rw [if_pos hc]

theorem ptTo_next {zs : List PartI} {k : Nat} {x : PartI} (hk : zs[k]? = some x) (h0 : ptTo zs k = 0) : ptTo zs (k + 1) = ptOne k x := by
  simp [ptTo, h0, hk]

theorem ptTo_low {zs : List PartI} {m : Nat} (h : ptTo zs m = 0) : ∀ k, k ≤ m → ptTo zs k = 0 := by
  intro k hk
  by_cases q : ptTo zs k = 0
  · exact q
  · have := ptTo_stay zs k m _ q rfl hk
    rw [this] at h
    exact absurd h q

theorem pt_all {zs : List PartI} (h : ptCode zs = 0) : 1 ≤ zs.length ∧ zs.length ≤ 8 ∧ ∀ k x, zs[k]? = some x → ptOne k x = 0 := by
  unfold ptCode at h
  split at h
  · cases h
  · split at h
    · cases h
    · refine ⟨by omega, by omega, fun k x e => ?_⟩
      have hk : k < zs.length := by
        by_cases q : k < zs.length
        · exact q
        · rw [List.getElem?_eq_none (by omega)] at e; cases e
      have h0 := ptTo_low h k (by omega)
      have h1 := ptTo_low h (k + 1) (by omega)
      rw [ptTo_next e h0] at h1
      exact h1

/-- A part in memory, in five cells. -/
def PartAt (w : World) (g off : Nat) (x : PartI) : Prop := w.cell? ⟨g, off, none⟩ = some (.int .i64 x.k) ∧ w.cell? ⟨g, off + 1, none⟩ = some (.int .i64 x.ro) ∧ w.cell? ⟨g, off + 2, none⟩ = some (.int .i64 x.rn) ∧ w.cell? ⟨g, off + 3, none⟩ = some (.int .i64 x.l) ∧ w.cell? ⟨g, off + 4, none⟩ = some (.int .i64 x.r)

theorem PartAt.below {w w' : World} {g off : Nat} {x : PartI} (h : PartAt w g off x) (hb : Below w.heap.size w w') : PartAt w' g off x := by
  have key : ∀ (o : Nat) (v : Value), w.cell? ⟨g, o, none⟩ = some v → w'.cell? ⟨g, o, none⟩ = some v := fun o v e => (hb.cell (p := ⟨g, o, none⟩) (World.block_lt_of_cell? w ⟨g, o, none⟩ e)).trans e
  obtain ⟨h0, h1, h2, h3, h4⟩ := h
  exact ⟨key _ _ h0, key _ _ h1, key _ _ h2, key _ _ h3, key _ _ h4⟩

theorem PartAt.lt {w : World} {g off : Nat} {x : PartI} (h : PartAt w g off x) : g < w.heap.size := World.block_lt_of_cell? w ⟨g, off, none⟩ h.1

def PartsAt (w : World) (g off : Nat) (zs : List PartI) : Prop := ∀ k x, zs[k]? = some x → PartAt w g (off + k * 5) x

theorem PartsAt.below {w w' : World} {g off : Nat} {zs : List PartI} (h : PartsAt w g off zs) (hb : Below w.heap.size w w') : PartsAt w' g off zs := fun k x e => (h k x e).below hb

/-- A slice of parts. -/
def PartsIn (w : World) (a : Option Addr) (len : Nat) (zs : List PartI) : Prop := zs.length = len ∧ (0 < len → ∃ b off, a = some ⟨b, off, none⟩ ∧ PartsAt w b off zs)

theorem PartsIn.below {w w' : World} {a : Option Addr} {len : Nat} {zs : List PartI} (h : PartsIn w a len zs) (hb : Below w.heap.size w w') : PartsIn w' a len zs := by
  refine ⟨h.1, fun hl => ?_⟩
  obtain ⟨b, off, e, hr⟩ := h.2 hl
  exact ⟨b, off, e, hr.below hb⟩

theorem PartsIn.at {w : World} {a : Option Addr} {len : Nat} {zs : List PartI} (h : PartsIn w a len zs) {k : Nat} (hk : k < len) :
    ∃ b off x, a = some ⟨b, off, none⟩ ∧ zs[k]? = some x ∧ PartAt w b (off + k * 5) x := by
  obtain ⟨b, off, e, hr⟩ := h.2 (by omega)
  have hl := h.1
  exact ⟨b, off, zs[k]'(by omega), e, List.getElem?_eq_getElem (by omega), hr k _ (List.getElem?_eq_getElem (by omega))⟩

theorem PartsIn.of {w : World} {g len : Nat} {zs : List PartI} (hl : zs.length = len) (h : PartsAt w g 0 zs) : PartsIn w (some ⟨g, 0, none⟩) len zs :=
  ⟨hl, fun _ => ⟨g, 0, rfl, h⟩⟩

def PartsArg (w : World) (a : Option Addr) (len : Nat) (zs : List PartI) : Prop := PartsIn w a len zs ∧ len ≤ maxLen

theorem parts_lt {w : World} {a : Option Addr} {n : Nat} {zs : List PartI} (h : PartsIn w a n zs) : ∀ b off, a = some ⟨b, off, none⟩ → n = 0 ∨ b < w.heap.size := by
  intro b off e
  by_cases h0 : n = 0
  · exact .inl h0
  · obtain ⟨b', off', r, e', _, hr⟩ := h.at (show 0 < n by omega)
    rw [e] at e'
    cases e'
    exact .inr hr.lt

theorem partsIn_kept {w w' : World} {a : Option Addr} {n L : Nat} {zs : List PartI} {row : Option Nat} (h : PartsIn w a n zs) (hg : w.grownBy w' row) (hL : ∀ b off, a = some ⟨b, off, none⟩ → n = 0 ∨ b < L) (hne : ∀ q, row = some q → L ≤ q) : PartsIn w' a n zs := by
  refine ⟨h.1, fun hp => ?_⟩
  obtain ⟨b, off, e, hr⟩ := h.2 hp
  have hb : b < L := by
    rcases hL b off e with h0 | h0
    · omega
    · exact h0
  refine ⟨b, off, e, fun k r hk => ?_⟩
  have hx : ∀ (o : Nat) (u : Value), w.cell? ⟨b, o, none⟩ = some u → w'.cell? ⟨b, o, none⟩ = some u := fun o u hu => hg.cell hu (fun q => by have := hne b q.symm; omega)
  obtain ⟨h0, h1, h2, h3, h4⟩ := hr k r hk
  exact ⟨hx _ _ h0, hx _ _ h1, hx _ _ h2, hx _ _ h3, hx _ _ h4⟩

/-- A block of n parts that may be written. -/
def Room5 (w : World) (g n : Nat) : Prop := (∀ j, j < n * 5 → ∃ v, w.cell? ⟨g, j, none⟩ = some v) ∧ ∀ j, w.frozen? ⟨g, j, none⟩ = false

theorem Room5.below {w w' : World} {g n : Nat} (h : Room5 w g n) (hg : g < w.heap.size) (hb : Below w.heap.size w w') : Room5 w' g n :=
  ⟨fun j hj => by obtain ⟨v, e⟩ := h.1 j hj; exact ⟨v, (hb.cell (p := ⟨g, j, none⟩) hg).trans e⟩, fun j => (hb.frozen (p := ⟨g, j, none⟩) hg).trans (h.2 j)⟩

theorem Room5.grown {w w' : World} {g n : Nat} {row : Option Nat} (h : Room5 w g n) (hg : g < w.heap.size) (hr : w.grownBy w' row) (hne : some g ≠ row) : Room5 w' g n :=
  ⟨fun j hj => by obtain ⟨v, e⟩ := h.1 j hj; exact ⟨v, hr.cell e hne⟩, fun j => by
    have := h.2 j
    unfold World.frozen? at this ⊢
    simp only at this ⊢
    rw [hr.block g hg hne]
    exact this⟩

abbrev put5 (w : World) (g o : Nat) (s : PartI) : World := (((((w.setCell ⟨g, o, none⟩ (.int .i64 s.k)).setCell ⟨g, o + 1, none⟩ (.int .i64 s.ro)).setCell ⟨g, o + 2, none⟩ (.int .i64 s.rn)).setCell ⟨g, o + 3, none⟩ (.int .i64 s.l)).setCell ⟨g, o + 4, none⟩ (.int .i64 s.r))

theorem put5_other (w : World) (g o : Nat) (s : PartI) (a : Addr) (h : ∀ j, j < 5 → a ≠ ⟨g, o + j, none⟩) : (put5 w g o s).cell? a = w.cell? a := by
  rw [World.cell?_setCell_other (h := Ne.symm (h 4 (by omega))), World.cell?_setCell_other (h := Ne.symm (h 3 (by omega))), World.cell?_setCell_other (h := Ne.symm (h 2 (by omega))), World.cell?_setCell_other (h := Ne.symm (h 1 (by omega))), World.cell?_setCell_other (h := Ne.symm (a := a) (b := ⟨g, o, none⟩) (by simpa using h 0 (by omega)))]

theorem put5_at (w : World) (g o : Nat) (s : PartI) (h : ∀ j, j < 5 → ∃ v, w.cell? ⟨g, o + j, none⟩ = some v) : PartAt (put5 w g o s) g o s := by
  obtain ⟨v0, h0⟩ := h 0 (by omega)
  obtain ⟨v1, h1⟩ := h 1 (by omega)
  obtain ⟨v2, h2⟩ := h 2 (by omega)
  obtain ⟨v3, h3⟩ := h 3 (by omega)
  obtain ⟨v4, h4⟩ := h 4 (by omega)
  rw [Nat.add_zero] at h0
  refine ⟨?_, ?_, ?_, ?_, ?_⟩ <;> simp [go_sem, h0, h1, h2, h3, h4]

theorem put5_room {w : World} {g n k : Nat} {zs : List PartI} {s : PartI} (hroom : Room5 w g n) (hd : PartsAt w g 0 (zs.take k)) (hs : zs[k]? = some s) (hk : k < n) :
    Room5 (put5 w g (k * 5) s) g n ∧ PartsAt (put5 w g (k * 5) s) g 0 (zs.take (k + 1)) := by
  have hr := put5_at w g (k * 5) s (fun j hj => hroom.1 (k * 5 + j) (by omega))
  refine ⟨⟨fun j hj => ?_, fun j => ?_⟩, fun i r e => ?_⟩
  · by_cases h : k * 5 ≤ j ∧ j < k * 5 + 5
    · have hj' : j = k * 5 ∨ j = k * 5 + 1 ∨ j = k * 5 + 2 ∨ j = k * 5 + 3 ∨ j = k * 5 + 4 := by omega
      obtain ⟨h0, h1, h2, h3, h4⟩ := hr
      rcases hj' with rfl | rfl | rfl | rfl | rfl
      · exact ⟨_, h0⟩
      · exact ⟨_, h1⟩
      · exact ⟨_, h2⟩
      · exact ⟨_, h3⟩
      · exact ⟨_, h4⟩
    · rw [put5_other w g (k * 5) s ⟨g, j, none⟩ (fun i hi e => by have e2 := congrArg Addr.off e; simp only at e2; omega)]
      exact hroom.1 j hj
  · simp only [World.frozen?_setCell]
    exact hroom.2 j
  · rw [List.getElem?_take] at e
    split at e
    · by_cases hik : i = k
      · subst hik
        rw [hs] at e
        cases e
        rw [Nat.zero_add]
        exact hr
      · have hi : i < k := by omega
        have h1 := hd i r (by rw [List.getElem?_take, if_pos hi]; exact e)
        have key : ∀ (o : Nat) (v : Value), o < k * 5 → w.cell? ⟨g, o, none⟩ = some v → (put5 w g (k * 5) s).cell? ⟨g, o, none⟩ = some v := fun o v ho hv => by
          rw [put5_other w g (k * 5) s ⟨g, o, none⟩ (fun j hj e => by have e2 := congrArg Addr.off e; simp only at e2; omega)]; exact hv
        obtain ⟨h0, h1, h2, h3, h4⟩ := h1
        exact ⟨key _ _ (by omega) h0, key _ _ (by omega) h1, key _ _ (by omega) h2, key _ _ (by omega) h3, key _ _ (by omega) h4⟩
    · cases e

theorem put5_below {w0 w : World} {B g o : Nat} (h : Below B w0 w) (hg : B ≤ g) (s : PartI) : Below B w0 (put5 w g o s) :=
  h.setCell hg _ |>.setCell hg _ |>.setCell hg _ |>.setCell hg _ |>.setCell hg _

theorem Tryz.info104 : (Tryz.prog.info? 104).map (fun i => (i.zero, i.size, i.bytes)) = some (some (.agg #[.int .i64 0, .int .i64 0, .int .i64 0, .int .i64 0, .int .i64 0]), 5, 40) := by kernel_rfl

end Go.Proofs.YtaeigimgobilaaaGreatDoor

namespace Go.Proofs.YtaeigimgobilaaaGreatDoor
open Go.RowKit
set_option linter.unusedVariables false

/-- What laws.toInt64S needs of the slice that it copies. -/
def RowIn (w : World) (a : Option Addr) (len : Nat) (zs : List Int) : Prop :=
  len ≤ zs.length ∧ ∀ k, k < len → ∃ b off, a = some ⟨b, off, none⟩ ∧ w.cell? ⟨b, off + k, none⟩ = some (.int .i64 (zs[k]?.getD 0))

theorem made_len (n : Nat) : ((madeCells (Value.int .i64 0).cells (n * 1)).toList).length = n := by simp [madeCells, Value.cells]

theorem rows_done {n : Nat} {ys : List Value} {zs : List Int} (hz : n ≤ zs.length) (hl : ys.length = n) (h : ∀ j, j < n → ys[j]? = some (.int .i64 (zs[j]?.getD 0))) : ys = (zs.take n).map (Value.int .i64) := by
  apply List.ext_getElem?
  intro i
  by_cases hi : i < n
  · rw [h i hi]; simp [hi, List.getElem?_eq_getElem (show i < zs.length by omega)]
  · rw [List.getElem?_eq_none (by omega), List.getElem?_eq_none (by simp; omega)]

theorem RowIn.below {w w' : World} {a : Option Addr} {len : Nat} {zs : List Int} (h : RowIn w a len zs) (hb : Below w.heap.size w w') : RowIn w' a len zs := by
  refine ⟨h.1, fun k hk => ?_⟩
  obtain ⟨b, off, e, hc⟩ := h.2 k hk
  exact ⟨b, off, e, (hb.cell (p := ⟨b, off + k, none⟩) (World.block_lt_of_cell? w ⟨b, off + k, none⟩ hc)).trans hc⟩

theorem owned_cells {w : World} {base g len cap : Nat} {zs : List Int} (h : w.ownsRow base 2 1 (.slice (some ⟨g, 0, none⟩) len cap) len ((zs.take len).map (Value.int .i64))) (hz : len ≤ zs.length) :
    ∀ k, k < len → w.cell? ⟨g, k, none⟩ = some (.int .i64 (zs[k]?.getD 0)) := by
  intro k hk
  rw [h.cellAt k (by omega)]
  simp [hk, List.getElem?_eq_getElem (show k < zs.length by omega)]

theorem owned_lt {w : World} {base g len cap : Nat} {xs : List Value} (h : w.ownsRow base 2 1 (.slice (some ⟨g, 0, none⟩) len cap) len xs) : g < w.heap.size := (h.lt g rfl).2

end Go.Proofs.YtaeigimgobilaaaGreatDoor

namespace Go.Proofs.YtaeigimgobilaaaGreatDoor
open Go.RowKit
set_option linter.unusedVariables false
set_option linter.unusedSimpArgs false

/-- Numbers in memory. -/
def IntIn (w : World) (a : Option Addr) (n : Nat) (zs : List Int) : Prop := zs.length = n ∧ (0 < n → ∃ b off, a = some ⟨b, off, none⟩ ∧ ∀ k x, zs[k]? = some x → w.cell? ⟨b, off + k, none⟩ = some (.int .i64 x))

theorem IntIn.below {w w' : World} {a : Option Addr} {n : Nat} {zs : List Int} (h : IntIn w a n zs) (hb : Below w.heap.size w w') : IntIn w' a n zs := by
  refine ⟨h.1, fun hn => ?_⟩
  obtain ⟨b, off, e, k⟩ := h.2 hn
  exact ⟨b, off, e, fun j x hx => (hb.cell (p := ⟨b, off + j, none⟩) (World.block_lt_of_cell? w ⟨b, off + j, none⟩ (k j x hx))).trans (k j x hx)⟩

theorem IntIn.at {w : World} {a : Option Addr} {n : Nat} {zs : List Int} (h : IntIn w a n zs) {k : Nat} (hk : k < n) : ∃ b off x, a = some ⟨b, off, none⟩ ∧ zs[k]? = some x ∧ w.cell? ⟨b, off + k, none⟩ = some (.int .i64 x) ∧ b < w.heap.size := by
  obtain ⟨b, off, e, q⟩ := h.2 (by omega)
  have hx := List.getElem?_eq_getElem (l := zs) (i := k) (by rw [h.1]; exact hk)
  exact ⟨b, off, _, e, hx, q k _ hx, World.block_lt_of_cell? w ⟨b, off + k, none⟩ (q k _ hx)⟩

theorem IntIn.row {w : World} {a : Option Addr} {n : Nat} {zs : List Int} (h : IntIn w a n zs) : RowIn w a n zs := by
  refine ⟨by rw [h.1]; exact Nat.le_refl _, fun k hk => ?_⟩
  obtain ⟨b, off, x, e, hx, hc, _⟩ := h.at hk
  exact ⟨b, off, e, by rw [hx]; exact hc⟩

theorem RowIn.ints {w : World} {a : Option Addr} {n : Nat} {zs : List Int} (h : RowIn w a n zs) : IntIn w a n (zs.take n) := by
  have hl := h.1
  refine ⟨by simp; omega, fun hp => ?_⟩
  obtain ⟨b, off, e, _⟩ := h.2 0 hp
  refine ⟨b, off, e, fun k x hx => ?_⟩
  have hk : k < n := by
    by_cases q : k < n
    · exact q
    · rw [List.getElem?_eq_none (by simp; omega)] at hx; cases hx
  obtain ⟨b', off', e', hc⟩ := h.2 k hk
  rw [e] at e'
  cases e'
  rw [List.getElem?_take, if_pos hk] at hx
  rw [hx] at hc
  exact hc

/-- Numbers in a block, from its beginning. -/
def IntsAt (w : World) (g : Nat) (zs : List Int) : Prop := ∀ k x, zs[k]? = some x → w.cell? ⟨g, k, none⟩ = some (.int .i64 x)

theorem IntsAt.below {w w' : World} {g : Nat} {zs : List Int} (h : IntsAt w g zs) (hb : Below w.heap.size w w') : IntsAt w' g zs := fun k x e =>
  (hb.cell (p := ⟨g, k, none⟩) (World.block_lt_of_cell? w ⟨g, k, none⟩ (h k x e))).trans (h k x e)

theorem IntIn.of {w : World} {g n : Nat} {zs : List Int} (hl : zs.length = n) (h : IntsAt w g zs) : IntIn w (some ⟨g, 0, none⟩) n zs :=
  ⟨hl, fun _ => ⟨g, 0, rfl, fun k x e => by rw [Nat.zero_add]; exact h k x e⟩⟩

/-- A block of n numbers that may be written. -/
def IntRoom (w : World) (g n : Nat) : Prop := (∀ j, j < n → ∃ v, w.cell? ⟨g, j, none⟩ = some v) ∧ ∀ j, w.frozen? ⟨g, j, none⟩ = false

theorem IntRoom.below {w w' : World} {g n : Nat} (h : IntRoom w g n) (hg : g < w.heap.size) (hb : Below w.heap.size w w') : IntRoom w' g n :=
  ⟨fun j hj => by obtain ⟨v, e⟩ := h.1 j hj; exact ⟨v, (hb.cell (p := ⟨g, j, none⟩) hg).trans e⟩, fun j => (hb.frozen (p := ⟨g, j, none⟩) hg).trans (h.2 j)⟩

theorem IntRoom.grown {w w' : World} {g n : Nat} {row : Option Nat} (h : IntRoom w g n) (hg : g < w.heap.size) (hr : w.grownBy w' row) (hne : some g ≠ row) : IntRoom w' g n :=
  ⟨fun j hj => by obtain ⟨v, e⟩ := h.1 j hj; exact ⟨v, hr.cell e hne⟩, fun j => by
    have := h.2 j
    unfold World.frozen? at this ⊢
    simp only at this ⊢
    rw [hr.block g hg hne]
    exact this⟩

theorem IntRoom.set {w : World} {g n : Nat} (h : IntRoom w g n) (o : Nat) (v : Value) : IntRoom (w.setCell ⟨g, o, none⟩ v) g n := by
  refine ⟨fun j hj => ?_, fun j => by simp only [World.frozen?_setCell]; exact h.2 j⟩
  obtain ⟨u, e⟩ := h.1 j hj
  by_cases q : j = o
  · subst q
    exact ⟨v, by simp [go_sem, e]⟩
  · exact ⟨u, by rw [World.cell?_setCell_other (h := fun e => q (by have := congrArg Addr.off e; simp at this; omega))]; exact e⟩

theorem intIn_kept {w w' : World} {a : Option Addr} {n L : Nat} {zs : List Int} {row : Option Nat} (h : IntIn w a n zs) (hg : w.grownBy w' row) (hL : ∀ b off, a = some ⟨b, off, none⟩ → n = 0 ∨ b < L) (hne : ∀ q, row = some q → L ≤ q) : IntIn w' a n zs := by
  refine ⟨h.1, fun hp => ?_⟩
  obtain ⟨b, off, e, hr⟩ := h.2 hp
  have hb : b < L := by
    rcases hL b off e with h0 | h0
    · omega
    · exact h0
  exact ⟨b, off, e, fun k r hk => hg.cell (hr k r hk) (fun q => by have := hne b q.symm; omega)⟩

theorem int_lt {w : World} {a : Option Addr} {n : Nat} {zs : List Int} (h : IntIn w a n zs) : ∀ b off, a = some ⟨b, off, none⟩ → n = 0 ∨ b < w.heap.size := by
  intro b off e
  by_cases h0 : n = 0
  · exact .inl h0
  · obtain ⟨b', off', r, e', _, _, hb⟩ := h.at (show 0 < n by omega)
    rw [e] at e'
    cases e'
    exact .inr hb

end Go.Proofs.YtaeigimgobilaaaGreatDoor

namespace Go.Proofs.YtaeigimgobilaaaGreatDoor
open Go.RowKit
set_option linter.unusedVariables false
set_option linter.unusedSimpArgs false

/-- A form: where its parts lie, and what they are. -/
structure FormI where
  a : Option Addr
  n : Nat
  cap : Nat
  ps : List PartI
deriving Inhabited

/-- A form in memory. -/
def FormAt (w : World) (g off : Nat) (x : FormI) : Prop := w.cell? ⟨g, off, none⟩ = some (.slice x.a x.n x.cap) ∧ PartsIn w x.a x.n x.ps

theorem FormAt.below {w w' : World} {g off : Nat} {x : FormI} (h : FormAt w g off x) (hb : Below w.heap.size w w') : FormAt w' g off x :=
  ⟨(hb.cell (p := ⟨g, off, none⟩) (World.block_lt_of_cell? w ⟨g, off, none⟩ h.1)).trans h.1, h.2.below hb⟩

theorem FormAt.lt {w : World} {g off : Nat} {x : FormI} (h : FormAt w g off x) : g < w.heap.size := World.block_lt_of_cell? w ⟨g, off, none⟩ h.1

def FormsAt (w : World) (g off : Nat) (fs : List FormI) : Prop := ∀ (k : Nat) (x : FormI), fs[k]? = some x → FormAt w g (off + k) x

theorem FormsAt.below {w w' : World} {g off : Nat} {fs : List FormI} (h : FormsAt w g off fs) (hb : Below w.heap.size w w') : FormsAt w' g off fs := fun k x e => (h k x e).below hb

/-- A slice of forms. -/
def FormsIn (w : World) (a : Option Addr) (n : Nat) (fs : List FormI) : Prop := fs.length = n ∧ (0 < n → ∃ b off, a = some ⟨b, off, none⟩ ∧ FormsAt w b off fs)

theorem FormsIn.below {w w' : World} {a : Option Addr} {n : Nat} {fs : List FormI} (h : FormsIn w a n fs) (hb : Below w.heap.size w w') : FormsIn w' a n fs := by
  refine ⟨h.1, fun hl => ?_⟩
  obtain ⟨b, off, e, hr⟩ := h.2 hl
  exact ⟨b, off, e, hr.below hb⟩

theorem FormsIn.at {w : World} {a : Option Addr} {n : Nat} {fs : List FormI} (h : FormsIn w a n fs) {k : Nat} (hk : k < n) :
    ∃ b off x, a = some ⟨b, off, none⟩ ∧ fs[k]? = some x ∧ FormAt w b (off + k) x := by
  obtain ⟨b, off, e, hr⟩ := h.2 (by omega)
  have hl := h.1
  exact ⟨b, off, fs[k]'(by omega), e, List.getElem?_eq_getElem (by omega), hr k _ (List.getElem?_eq_getElem (by omega))⟩

theorem FormsIn.of {w : World} {g n : Nat} {fs : List FormI} (hl : fs.length = n) (h : FormsAt w g 0 fs) : FormsIn w (some ⟨g, 0, none⟩) n fs :=
  ⟨hl, fun _ => ⟨g, 0, rfl, h⟩⟩

/-- What the forms are, wherever they lie. -/
def partsL (fs : List FormI) : List (List PartI) := fs.map FormI.ps

/-- Every form is of at most so many parts. -/
def FormsLe (m : Nat) (fs : List FormI) : Prop := ∀ (k : Nat) (x : FormI), fs[k]? = some x → x.n ≤ m

/-- A form whose parts lie in a block of their own that may be written. -/
def FormNew (w : World) (L : Nat) (x : FormI) : Prop := x.cap = x.n ∧ ∃ g, x.a = some ⟨g, 0, none⟩ ∧ L ≤ g ∧ g < w.heap.size ∧ Room5 w g x.n

theorem FormNew.below {w w' : World} {L : Nat} {x : FormI} (h : FormNew w L x) (hb : Below w.heap.size w w') : FormNew w' L x := by
  obtain ⟨h0, g, h1, h2, h3, h4⟩ := h
  exact ⟨h0, g, h1, h2, by have := hb.size; omega, h4.below h3 hb⟩

def FormsNew (w : World) (L : Nat) (fs : List FormI) : Prop := ∀ (k : Nat) (x : FormI), fs[k]? = some x → FormNew w L x

theorem FormsNew.below {w w' : World} {L : Nat} {fs : List FormI} (h : FormsNew w L fs) (hb : Below w.heap.size w w') : FormsNew w' L fs := fun k x e => (h k x e).below hb

theorem Tryz.info42 : (Tryz.prog.info? 42).map (fun i => (i.zero, i.size, i.bytes)) = some (some (.agg #[.slice none 0 0]), 1, 24) := by kernel_rfl

theorem PartsIn.set {w : World} {a : Option Addr} {n g o : Nat} {v : Value} {zs : List PartI} (h : PartsIn w a n zs) (hne : ∀ b off, a = some ⟨b, off, none⟩ → b ≠ g) : PartsIn (w.setCell ⟨g, o, none⟩ v) a n zs := by
  refine ⟨h.1, fun hp => ?_⟩
  obtain ⟨b, off, e, hr⟩ := h.2 hp
  refine ⟨b, off, e, fun k x hx => ?_⟩
  have key : ∀ (q : Nat) (u : Value), w.cell? ⟨b, q, none⟩ = some u → (w.setCell ⟨g, o, none⟩ v).cell? ⟨b, q, none⟩ = some u := fun q u hu => by
    rw [World.cell?_setCell_other (h := fun e2 => hne b off e (by have := congrArg Addr.block e2; simp at this; omega))]; exact hu
  obtain ⟨h0, h1, h2, h3, h4⟩ := hr k x hx
  exact ⟨key _ _ h0, key _ _ h1, key _ _ h2, key _ _ h3, key _ _ h4⟩

theorem Room5.setAny {w : World} {g n : Nat} (h : Room5 w g n) (b o : Nat) (v : Value) : Room5 (w.setCell ⟨b, o, none⟩ v) g n := by
  refine ⟨fun j hj => ?_, fun j => by simp only [World.frozen?_setCell]; exact h.2 j⟩
  obtain ⟨u, e⟩ := h.1 j hj
  by_cases q : (⟨b, o, none⟩ : Addr) = ⟨g, j, none⟩
  · cases q
    exact ⟨v, by simp [go_sem, e]⟩
  · exact ⟨u, by rw [World.cell?_setCell_other (h := q)]; exact e⟩

/-- One more form is stored in the table. -/
theorem forms_put {w : World} {B k n : Nat} {ys : List FormI} {y : FormI} (hroom : IntRoom w B n) (hk : k < n) (hl : ys.length = k) (hat : FormsAt w B 0 ys) (hnew : FormsNew w (B + 1) ys) (hp : PartsIn w y.a y.n y.ps) (hy : FormNew w (B + 1) y) :
    IntRoom (w.setCell ⟨B, k, none⟩ (.slice y.a y.n y.cap)) B n ∧ FormsAt (w.setCell ⟨B, k, none⟩ (.slice y.a y.n y.cap)) B 0 (ys ++ [y]) ∧ FormsNew (w.setCell ⟨B, k, none⟩ (.slice y.a y.n y.cap)) (B + 1) (ys ++ [y]) := by
  have hne : ∀ z : FormI, FormNew w (B + 1) z → ∀ b off, z.a = some ⟨b, off, none⟩ → b ≠ B := fun z hz b off e => by
    obtain ⟨_, g, e', hg, _⟩ := hz
    rw [e] at e'
    cases e'
    omega
  have hns : ∀ z : FormI, FormNew w (B + 1) z → FormNew (w.setCell ⟨B, k, none⟩ (.slice y.a y.n y.cap)) (B + 1) z := fun z hz => by
    obtain ⟨h0, g, e', hg, hlt, hr⟩ := hz
    exact ⟨h0, g, e', hg, by simp only [World.size_setCell]; exact hlt, hr.setAny _ _ _⟩
  obtain ⟨u, hu⟩ := hroom.1 k hk
  refine ⟨hroom.set _ _, fun j x e => ?_, fun j x e => ?_⟩
  · by_cases hj : j < k
    · rw [List.getElem?_append_left (by omega)] at e
      obtain ⟨h1, h2⟩ := hat j x e
      refine ⟨?_, h2.set (hne x (hnew j x e))⟩
      rw [World.cell?_setCell_other (h := fun q => by have := congrArg Addr.off q; simp at this; omega)]
      exact h1
    · have hjk : j = k := by
        by_cases q : j < (ys ++ [y]).length
        · simp at q; omega
        · rw [List.getElem?_eq_none (by omega)] at e; cases e
      subst hjk
      rw [← hl, List.getElem?_append_right (Nat.le_refl _), Nat.sub_self] at e
      simp at e
      subst e
      refine ⟨?_, hp.set (hne y hy)⟩
      rw [Nat.zero_add]
      simp [go_sem, hu]
  · rcases List.mem_append.1 (List.mem_of_getElem? e) with h | h
    · obtain ⟨i, hi⟩ := List.mem_iff_getElem?.1 h
      exact hns x (hnew i x hi)
    · rw [List.mem_singleton.1 h]
      exact hns y hy

/-- What a copy of forms is: as many, of the same parts, in a table of its own. -/
structure FormsTo (w0 w : World) (n : Nat) (fs ys : List FormI) : Prop where
  ln : ys.length = n
  ps : partsL ys = partsL fs
  at' : FormsAt w w0.heap.size 0 ys
  nw : FormsNew w (w0.heap.size + 1) ys
  rm : IntRoom w w0.heap.size n
  lt : w0.heap.size < w.heap.size
  bl : Below w0.heap.size w0 w

theorem parts_at {fs ys : List FormI} (hp : partsL ys = partsL fs) {k : Nat} {x y : FormI} (hx : fs[k]? = some x) (hy : ys[k]? = some y) : y.ps = x.ps := by
  have h1 : (partsL ys)[k]? = some y.ps := by unfold partsL; rw [List.getElem?_map, hy]; rfl
  have h2 : (partsL fs)[k]? = some x.ps := by unfold partsL; rw [List.getElem?_map, hx]; rfl
  rw [hp, h2] at h1
  exact (Option.some.inj h1).symm

end Go.Proofs.YtaeigimgobilaaaGreatDoor

namespace Go.Proofs.YtaeigimgobilaaaGreatDoor
open Go.RowKit
set_option linter.unusedVariables false
set_option linter.unusedSimpArgs false

/-- A configuration: its numbers, where its lists lie and what they are. -/
structure ConfI where
  e : Int
  f : Int
  ra : Option Addr
  rn : Nat
  rc : Nat
  zs : List RuleI
  fa : Option Addr
  fn : Nat
  fc : Nat
  fs : List FormI
  ca : Option Addr
  cn : Nat
  cc : Nat
  cs : List Int
deriving Inhabited

/-- What a configuration reads in memory. -/
structure ConfIn (w : World) (c : ConfI) : Prop where
  rules : RulesIn w c.ra c.rn c.zs
  forms : FormsIn w c.fa c.fn c.fs
  classes : IntIn w c.ca c.cn c.cs

theorem ConfIn.below {w w' : World} {c : ConfI} (h : ConfIn w c) (hb : Below w.heap.size w w') : ConfIn w' c := ⟨h.rules.below hb, h.forms.below hb, h.classes.below hb⟩

/-- Its lists are at most so long. -/
structure ConfLe (m : Nat) (c : ConfI) : Prop where
  rules : c.rn ≤ m
  forms : c.fn ≤ m
  parts : FormsLe m c.fs
  classes : c.cn ≤ m

/-- Two that are of the same numbers, rules, parts and classes. -/
structure ConfSame (c d : ConfI) : Prop where
  e : d.e = c.e
  f : d.f = c.f
  rn : d.rn = c.rn
  zs : d.zs = c.zs
  fn : d.fn = c.fn
  ps : partsL d.fs = partsL c.fs
  cn : d.cn = c.cn
  cs : d.cs = c.cs

theorem FormsNew.le {w : World} {L m n : Nat} {a : Option Addr} {ys fs : List FormI} (hy : FormsIn w a n ys) (hf : ∀ (k : Nat) (x : FormI), fs[k]? = some x → x.ps.length = x.n) (hp : partsL ys = partsL fs) (h : FormsLe m fs) : FormsLe m ys := by
  intro k y e
  have hk : k < n := by
    by_cases q : k < n
    · exact q
    · rw [List.getElem?_eq_none (by rw [hy.1]; omega)] at e; cases e
  obtain ⟨b, off, y', _, e', hat⟩ := hy.at hk
  rw [e] at e'
  cases e'
  have h1 : (partsL ys)[k]? = some y.ps := by unfold partsL; rw [List.getElem?_map, e]; rfl
  rw [hp] at h1
  unfold partsL at h1
  rw [List.getElem?_map] at h1
  cases q : fs[k]? with
  | none => rw [q] at h1; cases h1
  | some x =>
    rw [q] at h1
    simp at h1
    have h2 := h k x q
    have h3 := hf k x q
    have h4 := hat.2.1
    rw [← h1] at h4
    omega

/-- A configuration in a box of its own. -/
def ConfAt (w : World) (g : Nat) (c : ConfI) : Prop := w.cell? ⟨g, 0, none⟩ = some (.int .i64 c.e) ∧ w.cell? ⟨g, 1, none⟩ = some (.int .i64 c.f) ∧ w.cell? ⟨g, 2, none⟩ = some (.slice c.ra c.rn c.rc) ∧ w.cell? ⟨g, 3, none⟩ = some (.slice c.fa c.fn c.fc) ∧ w.cell? ⟨g, 4, none⟩ = some (.slice c.ca c.cn c.cc)

theorem ConfAt.lt {w : World} {g : Nat} {c : ConfI} (h : ConfAt w g c) : g < w.heap.size := World.block_lt_of_cell? w ⟨g, 0, none⟩ h.1

theorem ConfAt.below {w w' : World} {g : Nat} {c : ConfI} (h : ConfAt w g c) (hb : Below w.heap.size w w') : ConfAt w' g c := by
  have key : ∀ (o : Nat) (v : Value), w.cell? ⟨g, o, none⟩ = some v → w'.cell? ⟨g, o, none⟩ = some v := fun o v e => (hb.cell (p := ⟨g, o, none⟩) h.lt).trans e
  exact ⟨key _ _ h.1, key _ _ h.2.1, key _ _ h.2.2.1, key _ _ h.2.2.2.1, key _ _ h.2.2.2.2⟩

theorem ConfAt.new (w : World) (c : ConfI) (t : TypeId) : ConfAt (w.alloc (.cells #[.int .i64 c.e, .int .i64 c.f, .slice c.ra c.rn c.rc, .slice c.fa c.fn c.fc, .slice c.ca c.cn c.cc] t)) w.heap.size c := ⟨by simp, by simp, by simp, by simp, by simp⟩

/-- A configuration whose lists are new. -/
structure ConfNew (w : World) (L : Nat) (d : ConfI) : Prop where
  rules : d.rc = d.rn ∧ ∃ g, d.ra = some ⟨g, 0, none⟩ ∧ L ≤ g ∧ g < w.heap.size ∧ RoomAt w g d.rn
  forms : d.fc = d.fn ∧ ∃ g, d.fa = some ⟨g, 0, none⟩ ∧ L ≤ g ∧ g < w.heap.size ∧ IntRoom w g d.fn
  parts : FormsNew w L d.fs
  classes : d.cc = d.cn ∧ ∃ g, d.ca = some ⟨g, 0, none⟩ ∧ L ≤ g ∧ g < w.heap.size ∧ IntRoom w g d.cn

/-- A box of five cells that may be written. -/
structure Box5 (w : World) (g : Nat) (v0 v1 v2 v3 v4 : Value) : Prop where
  c0 : w.cell? ⟨g, 0, none⟩ = some v0
  c1 : w.cell? ⟨g, 1, none⟩ = some v1
  c2 : w.cell? ⟨g, 2, none⟩ = some v2
  c3 : w.cell? ⟨g, 3, none⟩ = some v3
  c4 : w.cell? ⟨g, 4, none⟩ = some v4
  fz : ∀ j, w.frozen? ⟨g, j, none⟩ = false

theorem Box5.lt {w : World} {g : Nat} {v0 v1 v2 v3 v4 : Value} (h : Box5 w g v0 v1 v2 v3 v4) : g < w.heap.size := World.block_lt_of_cell? w ⟨g, 0, none⟩ h.c0

theorem Box5.below {w w' : World} {g : Nat} {v0 v1 v2 v3 v4 : Value} (h : Box5 w g v0 v1 v2 v3 v4) (hb : Below w.heap.size w w') : Box5 w' g v0 v1 v2 v3 v4 := by
  have key : ∀ (o : Nat) (v : Value), w.cell? ⟨g, o, none⟩ = some v → w'.cell? ⟨g, o, none⟩ = some v := fun o v e => (hb.cell (p := ⟨g, o, none⟩) h.lt).trans e
  exact ⟨key _ _ h.c0, key _ _ h.c1, key _ _ h.c2, key _ _ h.c3, key _ _ h.c4, fun j => (hb.frozen (p := ⟨g, j, none⟩) h.lt).trans (h.fz j)⟩

theorem Box5.other {w : World} {g b o : Nat} {v v0 v1 v2 v3 v4 : Value} (h : Box5 w g v0 v1 v2 v3 v4) (hne : b ≠ g) : Box5 (w.setCell ⟨b, o, none⟩ v) g v0 v1 v2 v3 v4 := by
  have key : ∀ (q : Nat) (u : Value), w.cell? ⟨g, q, none⟩ = some u → (w.setCell ⟨b, o, none⟩ v).cell? ⟨g, q, none⟩ = some u := fun q u e => by
    rw [World.cell?_setCell_other (h := fun e2 => hne (by have := congrArg Addr.block e2; simpa using this))]; exact e
  exact ⟨key _ _ h.c0, key _ _ h.c1, key _ _ h.c2, key _ _ h.c3, key _ _ h.c4, fun j => by simp only [World.frozen?_setCell]; exact h.fz j⟩

theorem Box5.new (w : World) (v0 v1 v2 v3 v4 : Value) (t : TypeId) : Box5 (w.alloc (.cells #[v0, v1, v2, v3, v4] t)) w.heap.size v0 v1 v2 v3 v4 := ⟨by simp, by simp, by simp, by simp, by simp, fun j => by simp [go_sem]⟩

theorem Box5.set0 {w : World} {g : Nat} {v v0 v1 v2 v3 v4 : Value} (h : Box5 w g v0 v1 v2 v3 v4) : Box5 (w.setCell ⟨g, 0, none⟩ v) g v v1 v2 v3 v4 := ⟨by simp [go_sem, h.c0], by simp [go_sem, h.c1], by simp [go_sem, h.c2], by simp [go_sem, h.c3], by simp [go_sem, h.c4], fun j => by simp only [World.frozen?_setCell]; exact h.fz j⟩
theorem Box5.set1 {w : World} {g : Nat} {v v0 v1 v2 v3 v4 : Value} (h : Box5 w g v0 v1 v2 v3 v4) : Box5 (w.setCell ⟨g, 1, none⟩ v) g v0 v v2 v3 v4 := ⟨by simp [go_sem, h.c0], by simp [go_sem, h.c1], by simp [go_sem, h.c2], by simp [go_sem, h.c3], by simp [go_sem, h.c4], fun j => by simp only [World.frozen?_setCell]; exact h.fz j⟩
theorem Box5.set2 {w : World} {g : Nat} {v v0 v1 v2 v3 v4 : Value} (h : Box5 w g v0 v1 v2 v3 v4) : Box5 (w.setCell ⟨g, 2, none⟩ v) g v0 v1 v v3 v4 := ⟨by simp [go_sem, h.c0], by simp [go_sem, h.c1], by simp [go_sem, h.c2], by simp [go_sem, h.c3], by simp [go_sem, h.c4], fun j => by simp only [World.frozen?_setCell]; exact h.fz j⟩
theorem Box5.set3 {w : World} {g : Nat} {v v0 v1 v2 v3 v4 : Value} (h : Box5 w g v0 v1 v2 v3 v4) : Box5 (w.setCell ⟨g, 3, none⟩ v) g v0 v1 v2 v v4 := ⟨by simp [go_sem, h.c0], by simp [go_sem, h.c1], by simp [go_sem, h.c2], by simp [go_sem, h.c3], by simp [go_sem, h.c4], fun j => by simp only [World.frozen?_setCell]; exact h.fz j⟩
theorem Box5.set4 {w : World} {g : Nat} {v v0 v1 v2 v3 v4 : Value} (h : Box5 w g v0 v1 v2 v3 v4) : Box5 (w.setCell ⟨g, 4, none⟩ v) g v0 v1 v2 v3 v := ⟨by simp [go_sem, h.c0], by simp [go_sem, h.c1], by simp [go_sem, h.c2], by simp [go_sem, h.c3], by simp [go_sem, h.c4], fun j => by simp only [World.frozen?_setCell]; exact h.fz j⟩

/-- What stands while a configuration is copied: its box, the answer's box and the copy's box. -/
structure CfW (w : World) (c : ConfI) (v0 v1 v2 v3 v4 : Value) (V : World) : Prop where
  bl : Below w.heap.size w V
  ar : ConfAt V w.heap.size c
  re : Box5 V (w.heap.size + 1) (.int .i64 0) (.int .i64 0) (.slice none 0 0) (.slice none 0 0) (.slice none 0 0)
  ou : Box5 V (w.heap.size + 2) v0 v1 v2 v3 v4

theorem CfW.below {w : World} {c : ConfI} {v0 v1 v2 v3 v4 : Value} {V V' : World} (h : CfW w c v0 v1 v2 v3 v4 V) (hb : Below V.heap.size V V') : CfW w c v0 v1 v2 v3 v4 V' :=
  ⟨h.bl.trans (hb.mono h.bl.size), h.ar.below hb, h.re.below hb, h.ou.below hb⟩

theorem ConfAt.other {w : World} {g b o : Nat} {v : Value} {c : ConfI} (h : ConfAt w g c) (hne : b ≠ g) : ConfAt (w.setCell ⟨b, o, none⟩ v) g c := by
  have key : ∀ (q : Nat) (u : Value), w.cell? ⟨g, q, none⟩ = some u → (w.setCell ⟨b, o, none⟩ v).cell? ⟨g, q, none⟩ = some u := fun q u e => by
    rw [World.cell?_setCell_other (h := fun e2 => hne (by have := congrArg Addr.block e2; simpa using this))]; exact e
  exact ⟨key _ _ h.1, key _ _ h.2.1, key _ _ h.2.2.1, key _ _ h.2.2.2.1, key _ _ h.2.2.2.2⟩

theorem CfW.set2 {w : World} {c : ConfI} {v v0 v1 v2 v3 v4 : Value} {V : World} (h : CfW w c v0 v1 v2 v3 v4 V) : CfW w c v0 v1 v v3 v4 (V.setCell ⟨w.heap.size + 2, 2, none⟩ v) := ⟨h.bl.setCell (by simp) _, h.ar.other (by omega), h.re.other (by omega), h.ou.set2⟩
theorem CfW.set3 {w : World} {c : ConfI} {v v0 v1 v2 v3 v4 : Value} {V : World} (h : CfW w c v0 v1 v2 v3 v4 V) : CfW w c v0 v1 v2 v v4 (V.setCell ⟨w.heap.size + 2, 3, none⟩ v) := ⟨h.bl.setCell (by simp) _, h.ar.other (by omega), h.re.other (by omega), h.ou.set3⟩
theorem CfW.set4 {w : World} {c : ConfI} {v v0 v1 v2 v3 v4 : Value} {V : World} (h : CfW w c v0 v1 v2 v3 v4 V) : CfW w c v0 v1 v2 v3 v (V.setCell ⟨w.heap.size + 2, 4, none⟩ v) := ⟨h.bl.setCell (by simp) _, h.ar.other (by omega), h.re.other (by omega), h.ou.set4⟩

/-- A write into a block that lies ahead of all that is new. -/
theorem RulesIn.set {w : World} {a : Option Addr} {n g o : Nat} {v : Value} {zs : List RuleI} (h : RulesIn w a n zs) (hne : ∀ b off, a = some ⟨b, off, none⟩ → b ≠ g) : RulesIn (w.setCell ⟨g, o, none⟩ v) a n zs := by
  refine ⟨h.1, fun hp => ?_⟩
  obtain ⟨b, off, e, hr⟩ := h.2 hp
  refine ⟨b, off, e, fun k x hx => ?_⟩
  have key : ∀ (q : Nat) (u : Value), w.cell? ⟨b, q, none⟩ = some u → (w.setCell ⟨g, o, none⟩ v).cell? ⟨b, q, none⟩ = some u := fun q u hu => by
    rw [World.cell?_setCell_other (h := fun e2 => hne b off e (by have := congrArg Addr.block e2; simp at this; omega))]; exact hu
  obtain ⟨h0, h1, h2, h3, h4, h5, h6, h7⟩ := hr k x hx
  exact ⟨key _ _ h0, key _ _ h1, key _ _ h2, key _ _ h3, key _ _ h4, key _ _ h5, key _ _ h6, key _ _ h7⟩

theorem IntIn.set {w : World} {a : Option Addr} {n g o : Nat} {v : Value} {zs : List Int} (h : IntIn w a n zs) (hne : ∀ b off, a = some ⟨b, off, none⟩ → b ≠ g) : IntIn (w.setCell ⟨g, o, none⟩ v) a n zs := by
  refine ⟨h.1, fun hp => ?_⟩
  obtain ⟨b, off, e, hr⟩ := h.2 hp
  refine ⟨b, off, e, fun k x hx => ?_⟩
  rw [World.cell?_setCell_other (h := fun e2 => hne b off e (by have := congrArg Addr.block e2; simp at this; omega))]; exact hr k x hx

theorem FormsIn.set {w : World} {a : Option Addr} {n g o : Nat} {v : Value} {fs : List FormI} (h : FormsIn w a n fs) (hne : ∀ b off, a = some ⟨b, off, none⟩ → b ≠ g) (hnp : ∀ (k : Nat) (x : FormI), fs[k]? = some x → ∀ b off, x.a = some ⟨b, off, none⟩ → b ≠ g) : FormsIn (w.setCell ⟨g, o, none⟩ v) a n fs := by
  refine ⟨h.1, fun hp => ?_⟩
  obtain ⟨b, off, e, hr⟩ := h.2 hp
  refine ⟨b, off, e, fun k x hx => ⟨?_, (hr k x hx).2.set (hnp k x hx)⟩⟩
  rw [World.cell?_setCell_other (h := fun e2 => hne b off e (by have := congrArg Addr.block e2; simp at this; omega))]; exact (hr k x hx).1

theorem IntRoom.setAny {w : World} {g n : Nat} (h : IntRoom w g n) (b o : Nat) (v : Value) : IntRoom (w.setCell ⟨b, o, none⟩ v) g n := by
  refine ⟨fun j hj => ?_, fun j => by simp only [World.frozen?_setCell]; exact h.2 j⟩
  obtain ⟨u, e⟩ := h.1 j hj
  by_cases q : (⟨b, o, none⟩ : Addr) = ⟨g, j, none⟩
  · cases q
    exact ⟨v, by simp [go_sem, e]⟩
  · exact ⟨u, by rw [World.cell?_setCell_other (h := q)]; exact e⟩

theorem RoomAt.setAny {w : World} {g n : Nat} (h : RoomAt w g n) (b o : Nat) (v : Value) : RoomAt (w.setCell ⟨b, o, none⟩ v) g n := by
  refine ⟨fun j hj => ?_, fun j => by simp only [World.frozen?_setCell]; exact h.2 j⟩
  obtain ⟨u, e⟩ := h.1 j hj
  by_cases q : (⟨b, o, none⟩ : Addr) = ⟨g, j, none⟩
  · cases q
    exact ⟨v, by simp [go_sem, e]⟩
  · exact ⟨u, by rw [World.cell?_setCell_other (h := q)]; exact e⟩

theorem roomC_below {w w' : World} {g n : Nat} (h : RoomAt w g n) (hg : g < w.heap.size) (hb : Below w.heap.size w w') : RoomAt w' g n :=
  ⟨fun j hj => by obtain ⟨v, e⟩ := h.1 j hj; exact ⟨v, (hb.cell (p := ⟨g, j, none⟩) hg).trans e⟩, fun j => (hb.frozen (p := ⟨g, j, none⟩) hg).trans (h.2 j)⟩

theorem FormNew.setAny {w : World} {L : Nat} {x : FormI} (h : FormNew w L x) (b o : Nat) (v : Value) : FormNew (w.setCell ⟨b, o, none⟩ v) L x := by
  obtain ⟨h0, g, h1, h2, h3, h4⟩ := h
  exact ⟨h0, g, h1, h2, by simp only [World.size_setCell]; exact h3, h4.setAny _ _ _⟩

theorem ConfNew.setAny {w : World} {L : Nat} {d : ConfI} (h : ConfNew w L d) (b o : Nat) (v : Value) : ConfNew (w.setCell ⟨b, o, none⟩ v) L d := by
  obtain ⟨⟨r0, rg, r1, r2, r3, r4⟩, ⟨f0, fg, f1, f2, f3, f4⟩, hp, ⟨k0, kg, k1, k2, k3, k4⟩⟩ := h
  exact ⟨⟨r0, rg, r1, r2, by simp only [World.size_setCell]; exact r3, r4.setAny _ _ _⟩, ⟨f0, fg, f1, f2, by simp only [World.size_setCell]; exact f3, f4.setAny _ _ _⟩, fun k x e => (hp k x e).setAny _ _ _, ⟨k0, kg, k1, k2, by simp only [World.size_setCell]; exact k3, k4.setAny _ _ _⟩⟩

/-- A write ahead of what is new leaves it as it reads. -/
theorem ConfIn.set {w : World} {L g o : Nat} {v : Value} {d : ConfI} (h : ConfIn w d) (hn : ConfNew w L d) (hg : g < L) : ConfIn (w.setCell ⟨g, o, none⟩ v) d := by
  obtain ⟨⟨r0, rg, r1, r2, r3, r4⟩, ⟨f0, fg, f1, f2, f3, f4⟩, hp, ⟨k0, kg, k1, k2, k3, k4⟩⟩ := hn
  refine ⟨h.rules.set (fun b off e => by rw [r1] at e; cases e; omega), h.forms.set (fun b off e => by rw [f1] at e; cases e; omega) (fun k x hx b off e => ?_), h.classes.set (fun b off e => by rw [k1] at e; cases e; omega)⟩
  obtain ⟨_, q, q1, q2, _⟩ := hp k x hx
  rw [q1] at e
  cases e
  omega

theorem ConfNew.low {w : World} {L M : Nat} {d : ConfI} (h : ConfNew w L d) (hM : M ≤ L) : ConfNew w M d := by
  obtain ⟨⟨r0, rg, r1, r2, r3, r4⟩, ⟨f0, fg, f1, f2, f3, f4⟩, hp, ⟨k0, kg, k1, k2, k3, k4⟩⟩ := h
  refine ⟨⟨r0, rg, r1, by omega, r3, r4⟩, ⟨f0, fg, f1, by omega, f3, f4⟩, fun k x e => ?_, ⟨k0, kg, k1, by omega, k3, k4⟩⟩
  obtain ⟨q0, g, q1, q2, q3⟩ := hp k x e
  exact ⟨q0, g, q1, by omega, q3⟩

theorem ConfNew.below {w w' : World} {L : Nat} {d : ConfI} (h : ConfNew w L d) (hb : Below w.heap.size w w') : ConfNew w' L d := by
  have hz := hb.size
  obtain ⟨⟨r0, rg, r1, r2, r3, r4⟩, ⟨f0, fg, f1, f2, f3, f4⟩, hp, ⟨k0, kg, k1, k2, k3, k4⟩⟩ := h
  exact ⟨⟨r0, rg, r1, r2, by omega, roomC_below r4 r3 hb⟩, ⟨f0, fg, f1, f2, by omega, f4.below f3 hb⟩, fun k x e => (hp k x e).below hb, ⟨k0, kg, k1, k2, by omega, k4.below k3 hb⟩⟩

/-- A configuration that reads so, in lists that are new. -/
structure CfN (w : World) (L : Nat) (d : ConfI) : Prop where
  rd : ConfIn w d
  nw : ConfNew w L d

theorem CfN.set {w : World} {L g o : Nat} {v : Value} {d : ConfI} (h : CfN w L d) (hg : g < L) : CfN (w.setCell ⟨g, o, none⟩ v) L d := ⟨h.rd.set h.nw hg, h.nw.setAny _ _ _⟩

theorem ConfSame.le {w w' : World} {c d : ConfI} {m : Nat} (h : ConfSame c d) (hc : ConfIn w c) (hd : ConfIn w' d) (hle : ConfLe m c) : ConfLe m d := by
  refine ⟨by rw [h.rn]; exact hle.rules, by rw [h.fn]; exact hle.forms, FormsNew.le (L := 0) hd.forms (fun k x e => ?_) h.ps hle.parts, by rw [h.cn]; exact hle.classes⟩
  have hk : k < c.fn := by
    by_cases q : k < c.fn
    · exact q
    · rw [List.getElem?_eq_none (by rw [hc.forms.1]; omega)] at e; cases e
  obtain ⟨b, off, y, _, e', hat⟩ := hc.forms.at hk
  rw [e] at e'
  cases e'
  exact hat.2.1

theorem ConfSame.trans {c d f : ConfI} (h : ConfSame c d) (g : ConfSame c f) : ConfSame d f :=
  ⟨g.e.trans h.e.symm, g.f.trans h.f.symm, g.rn.trans h.rn.symm, g.zs.trans h.zs.symm, g.fn.trans h.fn.symm, g.ps.trans h.ps.symm, g.cn.trans h.cn.symm, g.cs.trans h.cs.symm⟩

theorem ConfNew.cap {w : World} {L : Nat} {d : ConfI} (h : ConfNew w L d) : d.rn ≤ d.rc := by rw [h.rules.1]; exact Nat.le_refl _

/-- A copy of a configuration. -/
def CopyOf (c : ConfI) (w : World) (d : ConfI) (w' : World) : Prop := ConfSame c d ∧ ConfIn w' d ∧ ConfNew w' w.heap.size d ∧ Below w.heap.size w w'

end Go.Proofs.YtaeigimgobilaaaGreatDoor

namespace Go.Proofs.YtaeigimgobilaaaGreatDoor
open Go.RowKit
set_option linter.unusedVariables false
set_option linter.unusedSimpArgs false

/-- Lock, as numbers. -/
structure LkI where
  e : Int
  c : Int
  p : Int
  f : Int
deriving DecidableEq, Inhabited

/-- One of them in memory. -/
def LkAt (w : World) (b o : Nat) (x : LkI) : Prop := w.cell? ⟨b, o, none⟩ = some (.int .i64 x.e) ∧ w.cell? ⟨b, o + 1, none⟩ = some (.int .i64 x.c) ∧ w.cell? ⟨b, o + 2, none⟩ = some (.int .i64 x.p) ∧ w.cell? ⟨b, o + 3, none⟩ = some (.int .i64 x.f)

theorem LkAt.below {w w' : World} {B b o : Nat} {x : LkI} (h : LkAt w b o x) (hb : Below B w w') (hB : b < B) : LkAt w' b o x :=
  ⟨(hb.cell (p := ⟨b, o, none⟩) hB).trans h.1, (hb.cell (p := ⟨b, o + 1, none⟩) hB).trans h.2.1, (hb.cell (p := ⟨b, o + 2, none⟩) hB).trans h.2.2.1, (hb.cell (p := ⟨b, o + 3, none⟩) hB).trans h.2.2.2⟩

/-- Several in memory. -/
def LkIn (w : World) (a : Option Addr) (n : Nat) (gs : List LkI) : Prop := gs.length = n ∧ (0 < n → ∃ b off, a = some ⟨b, off, none⟩ ∧ ∀ k x, gs[k]? = some x → LkAt w b (off + k * 4) x)

theorem LkIn.below {w w' : World} {a : Option Addr} {n : Nat} {gs : List LkI} (h : LkIn w a n gs) (hb : Below w.heap.size w w') : LkIn w' a n gs := by
  refine ⟨h.1, fun hn => ?_⟩
  obtain ⟨b, off, e, k⟩ := h.2 hn
  exact ⟨b, off, e, fun j x hx => (k j x hx).below hb (World.block_lt_of_cell? w ⟨b, off + j * 4, none⟩ (k j x hx).1)⟩

theorem LkIn.at {w : World} {a : Option Addr} {n : Nat} {gs : List LkI} (h : LkIn w a n gs) {k : Nat} (hk : k < n) : ∃ b off x, a = some ⟨b, off, none⟩ ∧ gs[k]? = some x ∧ LkAt w b (off + k * 4) x ∧ b < w.heap.size := by
  obtain ⟨b, off, e, q⟩ := h.2 (by omega)
  have hx := List.getElem?_eq_getElem (l := gs) (i := k) (by rw [h.1]; exact hk)
  exact ⟨b, off, _, e, hx, q k _ hx, World.block_lt_of_cell? w ⟨b, off + k * 4, none⟩ (q k _ hx).1⟩

/-- In a block, from its beginning. -/
def LksAt (w : World) (g : Nat) (gs : List LkI) : Prop := ∀ k x, gs[k]? = some x → LkAt w g (k * 4) x

theorem LksAt.below {w w' : World} {g : Nat} {gs : List LkI} (h : LksAt w g gs) (hb : Below w.heap.size w w') : LksAt w' g gs := fun k x e =>
  (h k x e).below hb (World.block_lt_of_cell? w ⟨g, k * 4, none⟩ (h k x e).1)

theorem LkIn.of {w : World} {g n : Nat} {gs : List LkI} (hl : gs.length = n) (h : LksAt w g gs) : LkIn w (some ⟨g, 0, none⟩) n gs :=
  ⟨hl, fun _ => ⟨g, 0, rfl, fun k x e => by rw [Nat.zero_add]; exact h k x e⟩⟩

/-- A block of n of them that may be written. -/
def LkRoom (w : World) (g n : Nat) : Prop := (∀ j, j < n * 4 → ∃ v, w.cell? ⟨g, j, none⟩ = some v) ∧ ∀ j, w.frozen? ⟨g, j, none⟩ = false

abbrev LkPut (w : World) (g o : Nat) (s : LkI) : World := ((((w.setCell ⟨g, o, none⟩ (.int .i64 s.e)).setCell ⟨g, o + 1, none⟩ (.int .i64 s.c)).setCell ⟨g, o + 2, none⟩ (.int .i64 s.p)).setCell ⟨g, o + 3, none⟩ (.int .i64 s.f))

theorem LkPut_other (w : World) (g o : Nat) (s : LkI) (a : Addr) (h : ∀ j, j < 4 → a ≠ ⟨g, o + j, none⟩) : (LkPut w g o s).cell? a = w.cell? a := by
  rw [World.cell?_setCell_other (h := Ne.symm (h 3 (by omega))), World.cell?_setCell_other (h := Ne.symm (h 2 (by omega))), World.cell?_setCell_other (h := Ne.symm (h 1 (by omega))), World.cell?_setCell_other (h := Ne.symm (a := a) (b := ⟨g, o, none⟩) (by simpa using h 0 (by omega)))]

theorem LkPut_at (w : World) (g o : Nat) (s : LkI) (h : ∀ j, j < 4 → ∃ v, w.cell? ⟨g, o + j, none⟩ = some v) : LkAt (LkPut w g o s) g o s := by
  obtain ⟨v0, h0⟩ := h 0 (by omega)
  obtain ⟨v1, h1⟩ := h 1 (by omega)
  obtain ⟨v2, h2⟩ := h 2 (by omega)
  obtain ⟨v3, h3⟩ := h 3 (by omega)
  rw [Nat.add_zero] at h0
  refine ⟨?_, ?_, ?_, ?_⟩ <;> simp [go_sem, h0, h1, h2, h3]

theorem LkPut_room {w : World} {g n k : Nat} {zs : List LkI} {s : LkI} (hroom : LkRoom w g n) (hd : LksAt w g (zs.take k)) (hs : zs[k]? = some s) (hk : k < n) :
    LkRoom (LkPut w g (k * 4) s) g n ∧ LksAt (LkPut w g (k * 4) s) g (zs.take (k + 1)) := by
  have hr := LkPut_at w g (k * 4) s (fun j hj => hroom.1 (k * 4 + j) (by omega))
  refine ⟨⟨fun j hj => ?_, fun j => ?_⟩, fun i r e => ?_⟩
  · by_cases h : k * 4 ≤ j ∧ j < k * 4 + 4
    · have hj' : j = k * 4 ∨ j = k * 4 + 1 ∨ j = k * 4 + 2 ∨ j = k * 4 + 3 := by omega
      obtain ⟨h0, h1, h2, h3⟩ := hr
      rcases hj' with rfl | rfl | rfl | rfl
      · exact ⟨_, h0⟩
      · exact ⟨_, h1⟩
      · exact ⟨_, h2⟩
      · exact ⟨_, h3⟩
    · rw [LkPut_other w g (k * 4) s ⟨g, j, none⟩ (fun i hi e => by have e2 := congrArg Addr.off e; simp only at e2; omega)]
      exact hroom.1 j hj
  · simp only [World.frozen?_setCell]
    exact hroom.2 j
  · rw [List.getElem?_take] at e
    split at e
    · by_cases hik : i = k
      · subst hik
        rw [hs] at e
        cases e
        exact hr
      · have hi : i < k := by omega
        have h1 := hd i r (by rw [List.getElem?_take, if_pos hi]; exact e)
        obtain ⟨h0, h1, h2, h3⟩ := h1
        refine ⟨?_, ?_, ?_, ?_⟩
        · rw [LkPut_other w g (k * 4) s ⟨g, i * 4, none⟩ (fun j hj e => by have e2 := congrArg Addr.off e; simp only at e2; omega)]; exact h0
        · rw [LkPut_other w g (k * 4) s ⟨g, i * 4 + 1, none⟩ (fun j hj e => by have e2 := congrArg Addr.off e; simp only at e2; omega)]; exact h1
        · rw [LkPut_other w g (k * 4) s ⟨g, i * 4 + 2, none⟩ (fun j hj e => by have e2 := congrArg Addr.off e; simp only at e2; omega)]; exact h2
        · rw [LkPut_other w g (k * 4) s ⟨g, i * 4 + 3, none⟩ (fun j hj e => by have e2 := congrArg Addr.off e; simp only at e2; omega)]; exact h3
    · cases e

theorem LkPut_below {w0 w : World} {B g o : Nat} (h : Below B w0 w) (hg : B ≤ g) (s : LkI) : Below B w0 (LkPut w g o s) :=
  h.setCell hg _ |>.setCell hg _ |>.setCell hg _ |>.setCell hg _

end Go.Proofs.YtaeigimgobilaaaGreatDoor

namespace Go.Proofs.YtaeigimgobilaaaGreatDoor
open Go.RowKit
set_option linter.unusedVariables false
set_option linter.unusedSimpArgs false

/-- One lock stands ahead of another. -/
def ltL (x y : LkI) : Bool := decide (x.e < y.e ∨ (x.e = y.e ∧ (x.c < y.c ∨ (x.c = y.c ∧ x.p < y.p))))

def inR (v lo hi : Int) : Bool := decide (lo ≤ v) && decide (v ≤ hi)

def okL (x : LkI) : Bool := inR x.e 1 9 && inR x.c 0 3 && inR x.p 1 8 && inR x.f 1 4

/-- The lock ahead stands ahead. -/
def prevL (gs : List LkI) (k : Nat) (x : LkI) : Bool := match k with
  | 0 => true
  | j + 1 => match gs[j]? with | some y => ltL y x | none => true

def lkOne (gs : List LkI) (k : Nat) (x : LkI) : Int := if okL x = false then 3 else if prevL gs k x = false then 1 else 0

def lkTo (gs : List LkI) : Nat → Int
  | 0 => 0
  | k + 1 => if lkTo gs k ≠ 0 then lkTo gs k else match gs[k]? with
    | none => 0
    | some x => lkOne gs k x

def lkCode (gs : List LkI) : Int := if 200 < gs.length then 2 else lkTo gs gs.length

theorem lkTo_stay (gs : List LkI) (k m : Nat) (c : Int) (hc : c ≠ 0) (h : lkTo gs k = c) (hm : k ≤ m) : lkTo gs m = c := by
  induction m with
  | zero => obtain rfl : k = 0 := by omega
            exact h
  | succ m ih =>
    by_cases e : k = m + 1
    · subst e; exact h
    · have := ih (by omega)
      simp only [lkTo, this]
      rw [if_pos hc]

theorem lkTo_next {gs : List LkI} {k : Nat} {x : LkI} (hk : gs[k]? = some x) (h0 : lkTo gs k = 0) : lkTo gs (k + 1) = lkOne gs k x := by
  simp [lkTo, h0, hk]

theorem lkOne_zero {gs : List LkI} {k : Nat} {x : LkI} : lkOne gs k x = 0 ↔ okL x = true ∧ prevL gs k x = true := by
  unfold lkOne
  cases okL x <;> cases prevL gs k x <;> simp

/-- Locks that rise. -/
def SL (gs : List LkI) : Prop := gs.Pairwise (fun a b => ltL a b = true)

theorem ltL_trans {a b c : LkI} (h1 : ltL a b = true) (h2 : ltL b c = true) : ltL a c = true := by
  simp only [ltL, decide_eq_true_eq] at *
  omega

theorem ltL_irrefl (a : LkI) : ltL a a = false := by simp [ltL]

theorem lk_take {gs : List LkI} : ∀ k, k ≤ gs.length → lkTo gs k = 0 → SL (gs.take k) ∧ ∀ x ∈ gs.take k, okL x = true
  | 0, _, _ => by simp [SL]
  | k + 1, hk, h => by
    have h0 : lkTo gs k = 0 := by
      by_cases q : lkTo gs k = 0
      · exact q
      · exact absurd (lkTo_stay gs k (k + 1) _ q rfl (by omega)) (by rw [h]; exact fun e => q e.symm)
    have hx : gs[k]? = some gs[k] := List.getElem?_eq_getElem (by omega)
    rw [lkTo_next hx h0] at h
    obtain ⟨h1, h3⟩ := lkOne_zero.1 h
    obtain ⟨i1, i2⟩ := lk_take k (by omega) h0
    rw [List.take_succ_eq_append_getElem (by omega)]
    refine ⟨List.pairwise_append.2 ⟨i1, by simp, fun a ha b hb => ?_⟩, fun x hx => ?_⟩
    · simp at hb
      rw [hb]
      obtain ⟨j, hj⟩ := List.mem_iff_getElem?.1 ha
      have hjk : j < k := by
        by_cases q : j < k
        · exact q
        · rw [List.getElem?_eq_none (by simp; omega)] at hj; cases hj
      match k, hk, hx, h3, i1, ha, hj, hjk with
      | m + 1, hk, hx, h3, i1, ha, hj, hjk =>
        have hy : gs[m]? = some gs[m] := List.getElem?_eq_getElem (by omega)
        simp only [prevL, hy] at h3
        by_cases e : j = m
        · subst e
          rw [List.getElem?_take, if_pos (by omega), hy] at hj
          cases hj
          exact h3
        · have hm2 : (gs.take (m + 1))[m]? = some gs[m] := by rw [List.getElem?_take, if_pos (by omega)]; exact hy
          have := List.pairwise_iff_getElem.1 i1 j m (by simp; omega) (by simp; omega) (by omega)
          rw [List.getElem?_eq_getElem (by simp; omega)] at hj hm2
          rw [Option.some.inj hj, Option.some.inj hm2] at this
          exact ltL_trans this h3
    · rcases List.mem_append.1 hx with q | q
      · exact i2 x q
      · simp at q; rw [q]; exact h1

theorem lk_ok {gs : List LkI} (h : lkCode gs = 0) : gs.length ≤ 200 ∧ SL gs ∧ ∀ x ∈ gs, okL x = true := by
  unfold lkCode at h
  split at h
  · cases h
  · have := lk_take gs.length (Nat.le_refl _) h
    rw [List.take_length] at this
    exact ⟨by omega, this⟩

/-- The form that was chosen; 0: none. -/
def formL (gs : List LkI) (e c p : Int) : Int := match gs with
  | [] => 0
  | x :: xs => if x.e = e ∧ x.c = c ∧ x.p = p then x.f else formL xs e c p

theorem formL_drop {gs : List LkI} {k : Nat} {x : LkI} (h : gs[k]? = some x) (e c p : Int) : formL (gs.drop k) e c p = if x.e = e ∧ x.c = c ∧ x.p = p then x.f else formL (gs.drop (k + 1)) e c p := by
  have hk : k < gs.length := by
    by_cases q : k < gs.length
    · exact q
    · rw [List.getElem?_eq_none (by omega)] at h; cases h
  have e1 : gs[k] = x := by rw [List.getElem?_eq_getElem hk] at h; exact Option.some.inj h
  rw [List.drop_eq_getElem_cons hk, e1]
  rfl

theorem formL_none {gs : List LkI} {e c p : Int} (h : ∀ x ∈ gs, ¬ (x.e = e ∧ x.c = c ∧ x.p = p)) : formL gs e c p = 0 := by
  induction gs with
  | nil => rfl
  | cons x xs ih =>
    unfold formL
    rw [if_neg (h x (by simp))]
    exact ih (fun y hy => h y (by simp [hy]))

theorem formL_mem {gs : List LkI} (hs : SL gs) {x : LkI} (hx : x ∈ gs) : formL gs x.e x.c x.p = x.f := by
  induction gs with
  | nil => cases hx
  | cons y ys ih =>
    have hp := List.pairwise_cons.1 hs
    unfold formL
    rcases List.mem_cons.1 hx with rfl | q
    · simp
    · have := hp.1 x q
      rw [if_neg (by simp only [ltL, decide_eq_true_eq] at this; omega)]
      exact ih hp.2 q

/-- How a lock lies against a place. -/
def cmpJ (x y : Int) : Int := if x < y then -1 else if y < x then 1 else 0
def orJ (c d : Int) : Int := if c = 0 then d else c
def cfL (x y : LkI) : Int := orJ (cmpJ x.e y.e) (orJ (cmpJ x.c y.c) (cmpJ x.p y.p))

theorem cfL_neg (x y : LkI) : cfL x y < 0 ↔ ltL x y = true := by
  unfold cfL orJ ltL cmpJ
  simp only [decide_eq_true_eq]
  split <;> (repeat' split) <;> first | omega | (simp_all; try omega)

theorem cfL_zero (x y : LkI) : cfL x y = 0 ↔ (x.e = y.e ∧ x.c = y.c ∧ x.p = y.p) := by
  unfold cfL orJ cmpJ
  split <;> (repeat' split) <;> first | omega | (simp_all; try omega)

/-- A place parts rising locks: those ahead stand ahead of t, the others do not. -/
def CutAt (gs : List LkI) (t : LkI) (i : Nat) : Prop := i ≤ gs.length ∧ (∀ k x, k < i → gs[k]? = some x → ltL x t = true) ∧ (∀ k x, i ≤ k → gs[k]? = some x → ltL x t = false)

theorem parts_form {gs : List LkI} (hs : SL gs) {t : LkI} {i : Nat} (h : CutAt gs t i) : formL gs t.e t.c t.p = match gs[i]? with | some x => if cfL x t = 0 then x.f else 0 | none => 0 := by
  cases hi : gs[i]? with
  | none =>
    refine formL_none (fun x hx e => ?_)
    obtain ⟨k, hk⟩ := List.mem_iff_getElem?.1 hx
    have hkl : k < gs.length := by
      by_cases q : k < gs.length
      · exact q
      · rw [List.getElem?_eq_none (by omega)] at hk; cases hk
    have hil : gs.length ≤ i := List.getElem?_eq_none_iff.1 hi
    have := h.2.1 k x (by omega) hk
    simp only [ltL, decide_eq_true_eq] at this
    omega
  | some y =>
    show _ = if cfL y t = 0 then y.f else 0
    by_cases q : cfL y t = 0
    · rw [if_pos q]
      obtain ⟨e1, e2, e3⟩ := (cfL_zero y t).1 q
      rw [← e1, ← e2, ← e3]
      exact formL_mem hs (List.mem_of_getElem? hi)
    · rw [if_neg q]
      refine formL_none (fun x hx e => ?_)
      obtain ⟨k, hk⟩ := List.mem_iff_getElem?.1 hx
      rcases Nat.lt_trichotomy k i with hki | hki | hki
      · have := h.2.1 k x hki hk
        simp only [ltL, decide_eq_true_eq] at this
        omega
      · subst hki
        rw [hi] at hk
        cases hk
        exact q ((cfL_zero _ _).2 e)
      · have hkl : k < gs.length := by
          by_cases q : k < gs.length
          · exact q
          · rw [List.getElem?_eq_none (by omega)] at hk; cases hk
        have hil : i < gs.length := by omega
        have h1 := List.pairwise_iff_getElem.1 hs i k hil hkl hki
        rw [List.getElem?_eq_getElem hkl] at hk
        rw [List.getElem?_eq_getElem hil] at hi
        rw [Option.some.inj hk, Option.some.inj hi] at h1
        have h2 := h.2.2 i y (Nat.le_refl _) (by rw [List.getElem?_eq_getElem hil, Option.some.inj hi])
        simp only [ltL, decide_eq_true_eq, decide_eq_false_iff_not] at h1 h2
        omega

end Go.Proofs.YtaeigimgobilaaaGreatDoor

namespace Go.Proofs.YtaeigimgobilaaaGreatDoor
open Go.RowKit
set_option linter.unusedVariables false
set_option linter.unusedSimpArgs false

def clCode (zs : List Int) : Int := if 4 < zs.length then 2 else if zs.all (fun c => inR c 0 15) = true then 0 else 3

theorem clCode_bad {zs : List Int} {k : Nat} {x : Int} (hl : zs.length ≤ 4) (hx : zs[k]? = some x) (hb : inR x 0 15 = false) : clCode zs = 3 := by
  unfold clCode
  rw [if_neg (by omega), if_neg]
  intro h
  have := List.all_eq_true.1 h x (List.mem_of_getElem? hx)
  rw [hb] at this
  cases this

theorem clCode_ok {zs : List Int} (hl : zs.length ≤ 4) (h : ∀ (k : Nat) (x : Int), k < zs.length → zs[k]? = some x → inR x 0 15 = true) : clCode zs = 0 := by
  unfold clCode
  rw [if_neg (by omega), if_pos]
  refine List.all_eq_true.2 (fun x hx => ?_)
  obtain ⟨k, hk⟩ := List.mem_iff_getElem?.1 hx
  exact h k x (by
    by_cases q : k < zs.length
    · exact q
    · rw [List.getElem?_eq_none (by omega)] at hk; cases hk) hk

theorem cl_ok {zs : List Int} (h : clCode zs = 0) : zs.length ≤ 4 ∧ ∀ x ∈ zs, inR x 0 15 = true := by
  unfold clCode at h
  split at h
  · cases h
  · split at h
    · rename_i q1 q2
      exact ⟨by omega, List.all_eq_true.1 q2⟩
    · cases h

theorem inR_iff (v lo hi : Int) : inR v lo hi = true ↔ lo ≤ v ∧ v ≤ hi := by simp [inR]

set_option maxHeartbeats 400000 in
theorem cin_c (v lo hi : Int) (w : World) : Calls Tryz.prog 53 #[.int .i64 v, .int .i64 lo, .int .i64 hi] w fun e w' => e = .returned (.bool (inR v lo hi)) ∧ w = w' := by
  unfold inR
  cases h0 : decide (lo ≤ v)
  · go_enter Tryz.func53, Tryz.ntmps53
    go_wp2
    go_ret
    exact ⟨by simp, rfl⟩
  · cases h1 : decide (v ≤ hi)
    all_goals
      go_enter Tryz.func53, Tryz.ntmps53
      go_wp2
      go_ret
      exact ⟨by simp, rfl⟩

set_option maxHeartbeats 400000 in
theorem sEpoch_c (v : Int) (w : World) : Calls Tryz.prog 40 #[.int .i64 v] w fun e w' => e = .returned (.bool (inR v 1 9)) ∧ w = w' := by
  go_enter Tryz.func40, Tryz.ntmps40
  go_wp2_with (go_at_call 53; refine (cin_c _ _ _ _).mono ?_; rintro e w' ⟨rfl, rfl⟩)
  go_ret
  exact ⟨rfl, rfl⟩

set_option maxHeartbeats 400000 in
theorem sPrin_c (v : Int) (w : World) : Calls Tryz.prog 103 #[.int .i64 v] w fun e w' => e = .returned (.bool (inR v 1 8)) ∧ w = w' := by
  go_enter Tryz.func103, Tryz.ntmps103
  go_wp2_with (go_at_call 53; refine (cin_c _ _ _ _).mono ?_; rintro e w' ⟨rfl, rfl⟩)
  go_ret
  exact ⟨rfl, rfl⟩

set_option maxHeartbeats 400000 in
theorem sSet_c (v : Int) (w : World) : Calls Tryz.prog 54 #[.int .i64 v] w fun e w' => e = .returned (.bool (inR v 0 255)) ∧ w = w' := by
  go_enter Tryz.func54, Tryz.ntmps54
  go_wp2_with (go_at_call 53; refine (cin_c _ _ _ _).mono ?_; rintro e w' ⟨rfl, rfl⟩)
  go_ret
  exact ⟨rfl, rfl⟩

set_option maxHeartbeats 400000 in
theorem iEpoch_c (v : Int) (w : World) : Calls Tryz.prog 57 #[.int .i64 v] w fun e w' => e = .returned (.bool (inR v 1 9)) ∧ w = w' := by
  unfold inR
  cases h0 : decide (1 ≤ v)
  · go_enter Tryz.func57, Tryz.ntmps57
    go_wp2
    go_ret
    exact ⟨by simp, rfl⟩
  · cases h1 : decide (v ≤ 9)
    all_goals
      go_enter Tryz.func57, Tryz.ntmps57
      go_wp2
      go_ret
      exact ⟨by simp, rfl⟩

set_option maxHeartbeats 400000 in
theorem iPrin_c (v : Int) (w : World) : Calls Tryz.prog 125 #[.int .i64 v] w fun e w' => e = .returned (.bool (inR v 1 8)) ∧ w = w' := by
  unfold inR
  cases h0 : decide (1 ≤ v)
  · go_enter Tryz.func125, Tryz.ntmps125
    go_wp2
    go_ret
    exact ⟨by simp, rfl⟩
  · cases h1 : decide (v ≤ 8)
    all_goals
      go_enter Tryz.func125, Tryz.ntmps125
      go_wp2
      go_ret
      exact ⟨by simp, rfl⟩

set_option maxHeartbeats 400000 in
theorem implClassesFault_c (a : Option Addr) (n cap : Nat) (zs : List Int) (w : World) (h : IntIn w a n zs) :
    Calls Tryz.prog 90 #[.slice a n cap] w fun e w' => e = .returned (.int .i64 (clCode zs)) ∧ w = w' := by
  have HZ : Hid (zs.length = n) := h.1
  have HI : Hid (IntIn w a n zs) := h
  clear h
  by_cases h4 : 4 < n
  · have hc : clCode zs = 2 := by unfold clCode; rw [if_pos (by rw [HZ.out]; exact h4)]
    rw [hc]
    clear hc
    have h4' : (4 : Int) < (n : Int) := by omega
    go_enter Tryz.func90, Tryz.ntmps90
    go_wp2
    go_ret
    exact ⟨rfl, rfl⟩
  · have h4' : (n : Int) ≤ 4 := by omega
    go_enter Tryz.func90, Tryz.ntmps90
    go_wp2
    go_loop [10] (fun i => ∃ k : Nat, k ≤ n ∧ i = .int .i64 (k : Int) ∧ ∀ (j : Nat) (x : Int), j < k → zs[j]? = some x → inR x 0 15 = true) (fun i => n - (intOf i).toNat)
    case atStart => exact ⟨0, Nat.zero_le _, rfl, fun j x hj => by omega⟩
    case round =>
      obtain ⟨k, hk, rfl, hok⟩ := hrel
      have HOK : Hid (∀ (j : Nat) (x : Int), j < k → zs[j]? = some x → inR x 0 15 = true) := hok
      clear hok
      by_cases hlt : k < n
      · obtain ⟨b, off, x, e, hx, hc, hb⟩ := HI.out.at hlt
        subst e
        have HX : Hid (zs[k]? = some x) := hx
        clear hx
        have hlt' : (k : Int) < (n : Int) := by omega
        by_cases q0 : x < 0
        · have HB : Hid (clCode zs = 3) := clCode_bad (by rw [HZ.out]; omega) HX.out (by simp [inR]; omega)
          go_wp2
          go_ret
          exact ⟨by rw [HB.out]; rfl, rfl⟩
        · by_cases q1 : 16 ≤ x
          · have HB : Hid (clCode zs = 3) := clCode_bad (by rw [HZ.out]; omega) HX.out (by simp [inR]; omega)
            go_wp2
            go_ret
            exact ⟨by rw [HB.out]; rfl, rfl⟩
          · have HN : Hid (∀ (j : Nat) (y : Int), j < k + 1 → zs[j]? = some y → inR y 0 15 = true) := fun j y hj hy => by
              by_cases e : j = k
              · subst e
                rw [HX.out] at hy
                cases hy
                simp [inR]; omega
              · exact HOK.out j y (by omega) hy
            go_wp2
            go_round
            case rel => exact ⟨k + 1, by omega, by go_num, HN.out⟩
            case measure => simp [intOf]; omega
      · have hkn : k = n := by omega
        subst hkn
        have HB : Hid (clCode zs = 0) := clCode_ok (by rw [HZ.out]; omega) (fun j x hj hx => HOK.out j x (by rw [HZ.out] at hj; exact hj) hx)
        go_wp2
        go_ret
        exact ⟨by rw [HB.out]; rfl, rfl⟩

set_option maxHeartbeats 400000 in
theorem l5Classes_c (a : Option Addr) (n cap : Nat) (zs : List Int) (w : World) (h : IntIn w a n zs) :
    Calls Tryz.prog 44 #[.slice a n cap] w fun e w' => e = .returned (.int .i64 (clCode zs)) ∧ w = w' := by
  have HZ : Hid (zs.length = n) := h.1
  have HI : Hid (IntIn w a n zs) := h
  clear h
  by_cases h4 : 4 < n
  · have hc : clCode zs = 2 := by unfold clCode; rw [if_pos (by rw [HZ.out]; exact h4)]
    rw [hc]
    clear hc
    have h4' : (4 : Int) < (n : Int) := by omega
    go_enter Tryz.func44, Tryz.ntmps44
    go_wp2
    go_ret
    exact ⟨rfl, rfl⟩
  · have h4' : (n : Int) ≤ 4 := by omega
    go_enter Tryz.func44, Tryz.ntmps44
    go_wp2
    go_loop [3] (fun i => ∃ k : Nat, k ≤ n ∧ i = .int .i64 (k : Int) ∧ ∀ (j : Nat) (x : Int), j < k → zs[j]? = some x → inR x 0 15 = true) (fun i => n - (intOf i).toNat)
    case atStart => exact ⟨0, Nat.zero_le _, rfl, fun j x hj => by omega⟩
    case round =>
      obtain ⟨k, hk, rfl, hok⟩ := hrel
      have HOK : Hid (∀ (j : Nat) (x : Int), j < k → zs[j]? = some x → inR x 0 15 = true) := hok
      clear hok
      by_cases hlt : k < n
      · obtain ⟨b, off, x, e, hx, hc, hb⟩ := HI.out.at hlt
        subst e
        have HX : Hid (zs[k]? = some x) := hx
        clear hx
        have hlt' : (k : Int) < (n : Int) := by omega
        by_cases q0 : inR x 0 15 = true
        · have HN : Hid (∀ (j : Nat) (y : Int), j < k + 1 → zs[j]? = some y → inR y 0 15 = true) := fun j y hj hy => by
            by_cases e : j = k
            · subst e
              rw [HX.out] at hy
              cases hy
              exact q0
            · exact HOK.out j y (by omega) hy
          have HQ : Hid (inR x 0 15 = true) := q0
          clear q0
          go_wp2_with (go_at_call 53; refine (cin_c _ _ _ _).mono ?_; rintro e w' ⟨rfl, rfl⟩; rw [HQ.out])
          go_round
          case rel => exact ⟨k + 1, by omega, by go_num, HN.out⟩
          case measure => simp [intOf]; omega
        · have HQ : Hid (inR x 0 15 = false) := by show inR x 0 15 = false; simpa using q0
          clear q0
          have HB : Hid (clCode zs = 3) := clCode_bad (by rw [HZ.out]; omega) HX.out HQ.out
          go_wp2_with (go_at_call 53; refine (cin_c _ _ _ _).mono ?_; rintro e w' ⟨rfl, rfl⟩; rw [HQ.out])
          go_ret
          exact ⟨by rw [HB.out]; rfl, rfl⟩
      · have hkn : k = n := by omega
        subst hkn
        have HB : Hid (clCode zs = 0) := clCode_ok (by rw [HZ.out]; omega) (fun j x hj hx => HOK.out j x (by rw [HZ.out] at hj; exact hj) hx)
        go_wp2
        go_ret
        exact ⟨by rw [HB.out]; rfl, rfl⟩

end Go.Proofs.YtaeigimgobilaaaGreatDoor

namespace Go.Proofs.YtaeigimgobilaaaGreatDoor
open Go.RowKit
set_option linter.unusedVariables false
set_option linter.unusedSimpArgs false

set_option maxHeartbeats 400000 in
theorem iBad_c (v : Int) (w : World) : Calls Tryz.prog 58 #[.int .i64 v] w fun e w' => e = .returned (.bool (inR v 1 2)) ∧ w = w' := by
  unfold inR
  cases h0 : decide (1 ≤ v)
  · go_enter Tryz.func58, Tryz.ntmps58
    go_wp2
    go_ret
    exact ⟨by simp, rfl⟩
  · cases h1 : decide (v ≤ 2)
    all_goals
      go_enter Tryz.func58, Tryz.ntmps58
      go_wp2
      go_ret
      exact ⟨by simp, rfl⟩

set_option maxHeartbeats 400000 in
theorem l6F_c (v : Int) (w : World) : Calls Tryz.prog 41 #[.int .i64 v] w fun e w' => e = .returned (.bool (inR v 1 2)) ∧ w = w' := by
  go_enter Tryz.func41, Tryz.ntmps41
  go_wp2_with (go_at_call 53; refine (cin_c _ _ _ _).mono ?_; rintro e w' ⟨rfl, rfl⟩)
  go_ret
  exact ⟨rfl, rfl⟩

def GivesNF (fn : Nat) (f c v : Int) (w : World) : Prop := Calls Tryz.prog fn #[.int .i64 f] w fun e w' => e = .returned (.agg #[.int .i64 c, .int .i64 v]) ∧ Below w.heap.size w w'

def nfCode (f : Int) : Int := if inR f 1 2 = true then 0 else 3
def nfVal (k f : Int) : Int := if inR f 1 2 = true then k * f + 1 else 0

set_option maxHeartbeats 400000 in
theorem implNeedOf_c (f : Int) (w : World) : GivesNF 13 f (nfCode f) (nfVal 2 f) w := by
  unfold GivesNF nfCode nfVal
  cases h : inR f 1 2
  · have H : Hid (inR f 1 2 = false) := h
    clear h
    simp only [Bool.false_eq_true, if_false]
    go_enter Tryz.func13, Tryz.ntmps13
    go_wp2_with (first | (go_at_call 58; refine (iBad_c _ _).mono ?_; rintro e w' ⟨rfl, rfl⟩; rw [H.out]) | go_in)
    go_returns
    exact ⟨rfl, by go_grown⟩
  · have H : Hid (inR f 1 2 = true) := h
    obtain ⟨h1, h2⟩ := (inR_iff f 1 2).1 h
    clear h
    simp only [if_true]
    go_enter Tryz.func13, Tryz.ntmps13
    go_wp2_with (first | (go_at_call 58; refine (iBad_c _ _).mono ?_; rintro e w' ⟨rfl, rfl⟩; rw [H.out]) | go_in)
    go_returns
    exact ⟨rfl, by go_grown⟩

set_option maxHeartbeats 400000 in
theorem implReplicasOf_c (f : Int) (w : World) : GivesNF 12 f (nfCode f) (nfVal 3 f) w := by
  unfold GivesNF nfCode nfVal
  cases h : inR f 1 2
  · have H : Hid (inR f 1 2 = false) := h
    clear h
    simp only [Bool.false_eq_true, if_false]
    go_enter Tryz.func12, Tryz.ntmps12
    go_wp2_with (first | (go_at_call 58; refine (iBad_c _ _).mono ?_; rintro e w' ⟨rfl, rfl⟩; rw [H.out]) | go_in)
    go_returns
    exact ⟨rfl, by go_grown⟩
  · have H : Hid (inR f 1 2 = true) := h
    obtain ⟨h1, h2⟩ := (inR_iff f 1 2).1 h
    clear h
    simp only [if_true]
    go_enter Tryz.func12, Tryz.ntmps12
    go_wp2_with (first | (go_at_call 58; refine (iBad_c _ _).mono ?_; rintro e w' ⟨rfl, rfl⟩; rw [H.out]) | go_in)
    go_returns
    exact ⟨rfl, by go_grown⟩

end Go.Proofs.YtaeigimgobilaaaGreatDoor
