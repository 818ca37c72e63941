/-
  CONTRACTS: Lock in memory; laws.toLockS (a copy of a slice) and laws.eqLockS (two that are alike).
  Conditions: each contract bears its own.
  PLAIN WORDS on locks: which has no fault, which stands ahead, which form was chosen. No Go text is walked here.
  Conditions: each fact bears its own.
  CONTRACTS: ClassesFault and ClashForms of both programs.
  Conditions: each contract bears its own.
  CONTRACTS: LocksFault of both programs; how two locks lie (impl.compareLocks, spec.l5Ahead).
  Conditions: each contract bears its own.
-/
import Derived.Test.YtnfolmjdicfobaaGreatDoorPl01
import Derived.Test.YtnfolmjdicfobaaGreatDoorPl02
import Derived.Handy
import Derived.WalkSmall
import Derived.BigQuiet
import Derived.Deep.QuietTactic
import Derived.Deep.RegionHeld3
import Derived.Test.YtnfolmjdicfobaaGreatDoorPl09
import Derived.Test.YtnfolmjdicfobaaGreatDoorPl05
namespace Go.Proofs.YtnfolmjdicfobaaGreatDoor
open Go.RowKit
set_option linter.unusedVariables false
set_option linter.unusedSimpArgs false

/-- Lock, as numbers. -/
structure LkI where
  e : Int
  c : Int
  p : Int
  f : Int
deriving DecidableEq, Inhabited

/-- One of them in memory. -/
def LkAt (w : World) (b o : Nat) (x : LkI) : Prop := w.cell? ⟨b, o, none⟩ = some (.int .i64 x.e) ∧ w.cell? ⟨b, o + 1, none⟩ = some (.int .i64 x.c) ∧ w.cell? ⟨b, o + 2, none⟩ = some (.int .i64 x.p) ∧ w.cell? ⟨b, o + 3, none⟩ = some (.int .i64 x.f)

theorem LkAt.below {w w' : World} {B b o : Nat} {x : LkI} (h : LkAt w b o x) (hb : Below B w w') (hB : b < B) : LkAt w' b o x :=
  ⟨(hb.cell (p := ⟨b, o, none⟩) hB).trans h.1, (hb.cell (p := ⟨b, o + 1, none⟩) hB).trans h.2.1, (hb.cell (p := ⟨b, o + 2, none⟩) hB).trans h.2.2.1, (hb.cell (p := ⟨b, o + 3, none⟩) hB).trans h.2.2.2⟩

/-- Several in memory. -/
def LkIn (w : World) (a : Option Addr) (n : Nat) (gs : List LkI) : Prop := gs.length = n ∧ (0 < n → ∃ b off, a = some ⟨b, off, none⟩ ∧ ∀ k x, gs[k]? = some x → LkAt w b (off + k * 4) x)

theorem LkIn.below {w w' : World} {a : Option Addr} {n : Nat} {gs : List LkI} (h : LkIn w a n gs) (hb : Below w.heap.size w w') : LkIn w' a n gs := by
  refine ⟨h.1, fun hn => ?_⟩
  obtain ⟨b, off, e, k⟩ := h.2 hn
  exact ⟨b, off, e, fun j x hx => (k j x hx).below hb (World.block_lt_of_cell? w ⟨b, off + j * 4, none⟩ (k j x hx).1)⟩

theorem LkIn.at {w : World} {a : Option Addr} {n : Nat} {gs : List LkI} (h : LkIn w a n gs) {k : Nat} (hk : k < n) : ∃ b off x, a = some ⟨b, off, none⟩ ∧ gs[k]? = some x ∧ LkAt w b (off + k * 4) x ∧ b < w.heap.size := by
  obtain ⟨b, off, e, q⟩ := h.2 (by omega)
  have hx := List.getElem?_eq_getElem (l := gs) (i := k) (by rw [h.1]; exact hk)
  exact ⟨b, off, _, e, hx, q k _ hx, World.block_lt_of_cell? w ⟨b, off + k * 4, none⟩ (q k _ hx).1⟩

/-- In a block, from its beginning. -/
def LksAt (w : World) (g : Nat) (gs : List LkI) : Prop := ∀ k x, gs[k]? = some x → LkAt w g (k * 4) x

theorem LksAt.below {w w' : World} {g : Nat} {gs : List LkI} (h : LksAt w g gs) (hb : Below w.heap.size w w') : LksAt w' g gs := fun k x e =>
  (h k x e).below hb (World.block_lt_of_cell? w ⟨g, k * 4, none⟩ (h k x e).1)

theorem LkIn.of {w : World} {g n : Nat} {gs : List LkI} (hl : gs.length = n) (h : LksAt w g gs) : LkIn w (some ⟨g, 0, none⟩) n gs :=
  ⟨hl, fun _ => ⟨g, 0, rfl, fun k x e => by rw [Nat.zero_add]; exact h k x e⟩⟩

/-- A block of n of them that may be written. -/
def LkRoom (w : World) (g n : Nat) : Prop := (∀ j, j < n * 4 → ∃ v, w.cell? ⟨g, j, none⟩ = some v) ∧ ∀ j, w.frozen? ⟨g, j, none⟩ = false

abbrev LkPut (w : World) (g o : Nat) (s : LkI) : World := ((((w.setCell ⟨g, o, none⟩ (.int .i64 s.e)).setCell ⟨g, o + 1, none⟩ (.int .i64 s.c)).setCell ⟨g, o + 2, none⟩ (.int .i64 s.p)).setCell ⟨g, o + 3, none⟩ (.int .i64 s.f))

theorem LkPut_other (w : World) (g o : Nat) (s : LkI) (a : Addr) (h : ∀ j, j < 4 → a ≠ ⟨g, o + j, none⟩) : (LkPut w g o s).cell? a = w.cell? a := by
  rw [World.cell?_setCell_other (h := Ne.symm (h 3 (by omega))), World.cell?_setCell_other (h := Ne.symm (h 2 (by omega))), World.cell?_setCell_other (h := Ne.symm (h 1 (by omega))), World.cell?_setCell_other (h := Ne.symm (a := a) (b := ⟨g, o, none⟩) (by simpa using h 0 (by omega)))]

theorem LkPut_at (w : World) (g o : Nat) (s : LkI) (h : ∀ j, j < 4 → ∃ v, w.cell? ⟨g, o + j, none⟩ = some v) : LkAt (LkPut w g o s) g o s := by
  obtain ⟨v0, h0⟩ := h 0 (by omega)
  obtain ⟨v1, h1⟩ := h 1 (by omega)
  obtain ⟨v2, h2⟩ := h 2 (by omega)
  obtain ⟨v3, h3⟩ := h 3 (by omega)
  rw [Nat.add_zero] at h0
  refine ⟨?_, ?_, ?_, ?_⟩ <;> simp [go_sem, h0, h1, h2, h3]

theorem LkPut_room {w : World} {g n k : Nat} {zs : List LkI} {s : LkI} (hroom : LkRoom w g n) (hd : LksAt w g (zs.take k)) (hs : zs[k]? = some s) (hk : k < n) :
    LkRoom (LkPut w g (k * 4) s) g n ∧ LksAt (LkPut w g (k * 4) s) g (zs.take (k + 1)) := by
  have hr := LkPut_at w g (k * 4) s (fun j hj => hroom.1 (k * 4 + j) (by omega))
  refine ⟨⟨fun j hj => ?_, fun j => ?_⟩, fun i r e => ?_⟩
  · by_cases h : k * 4 ≤ j ∧ j < k * 4 + 4
    · have hj' : j = k * 4 ∨ j = k * 4 + 1 ∨ j = k * 4 + 2 ∨ j = k * 4 + 3 := by omega
      obtain ⟨h0, h1, h2, h3⟩ := hr
      rcases hj' with rfl | rfl | rfl | rfl
      · exact ⟨_, h0⟩
      · exact ⟨_, h1⟩
      · exact ⟨_, h2⟩
      · exact ⟨_, h3⟩
    · rw [LkPut_other w g (k * 4) s ⟨g, j, none⟩ (fun i hi e => by have e2 := congrArg Addr.off e; simp only at e2; omega)]
      exact hroom.1 j hj
  · simp only [World.frozen?_setCell]
    exact hroom.2 j
  · rw [List.getElem?_take] at e
    split at e
    · by_cases hik : i = k
      · subst hik
        rw [hs] at e
        cases e
        exact hr
      · have hi : i < k := by omega
        have h1 := hd i r (by rw [List.getElem?_take, if_pos hi]; exact e)
        obtain ⟨h0, h1, h2, h3⟩ := h1
        refine ⟨?_, ?_, ?_, ?_⟩
        · rw [LkPut_other w g (k * 4) s ⟨g, i * 4, none⟩ (fun j hj e => by have e2 := congrArg Addr.off e; simp only at e2; omega)]; exact h0
        · rw [LkPut_other w g (k * 4) s ⟨g, i * 4 + 1, none⟩ (fun j hj e => by have e2 := congrArg Addr.off e; simp only at e2; omega)]; exact h1
        · rw [LkPut_other w g (k * 4) s ⟨g, i * 4 + 2, none⟩ (fun j hj e => by have e2 := congrArg Addr.off e; simp only at e2; omega)]; exact h2
        · rw [LkPut_other w g (k * 4) s ⟨g, i * 4 + 3, none⟩ (fun j hj e => by have e2 := congrArg Addr.off e; simp only at e2; omega)]; exact h3
    · cases e

theorem LkPut_below {w0 w : World} {B g o : Nat} (h : Below B w0 w) (hg : B ≤ g) (s : LkI) : Below B w0 (LkPut w g o s) :=
  h.setCell hg _ |>.setCell hg _ |>.setCell hg _ |>.setCell hg _

end Go.Proofs.YtnfolmjdicfobaaGreatDoor

namespace Go.Proofs.YtnfolmjdicfobaaGreatDoor
open Go.RowKit
set_option linter.unusedVariables false
set_option linter.unusedSimpArgs false

/-- One lock stands ahead of another. -/
def ltL (x y : LkI) : Bool := decide (x.e < y.e ∨ (x.e = y.e ∧ (x.c < y.c ∨ (x.c = y.c ∧ x.p < y.p))))

def inR (v lo hi : Int) : Bool := decide (lo ≤ v) && decide (v ≤ hi)

def okL (x : LkI) : Bool := inR x.e 1 9 && inR x.c 0 3 && inR x.p 1 8 && inR x.f 1 4

/-- The lock ahead stands ahead. -/
def prevL (gs : List LkI) (k : Nat) (x : LkI) : Bool := match k with
  | 0 => true
  | j + 1 => match gs[j]? with | some y => ltL y x | none => true

def lkOne (gs : List LkI) (k : Nat) (x : LkI) : Int := if okL x = false then 3 else if prevL gs k x = false then 1 else 0

def lkTo (gs : List LkI) : Nat → Int
  | 0 => 0
  | k + 1 => if lkTo gs k ≠ 0 then lkTo gs k else match gs[k]? with
    | none => 0
    | some x => lkOne gs k x

def lkCode (gs : List LkI) : Int := if 200 < gs.length then 2 else lkTo gs gs.length

theorem lkTo_stay (gs : List LkI) (k m : Nat) (c : Int) (hc : c ≠ 0) (h : lkTo gs k = c) (hm : k ≤ m) : lkTo gs m = c := by
  induction m with
  | zero => obtain rfl : k = 0 := by omega
            exact h
  | succ m ih =>
    by_cases e : k = m + 1
    · subst e; exact h
    · have := ih (by omega)
      simp only [lkTo, this]
      rw [if_pos hc]

theorem lkTo_next {gs : List LkI} {k : Nat} {x : LkI} (hk : gs[k]? = some x) (h0 : lkTo gs k = 0) : lkTo gs (k + 1) = lkOne gs k x := by
  simp [lkTo, h0, hk]

theorem lkOne_zero {gs : List LkI} {k : Nat} {x : LkI} : lkOne gs k x = 0 ↔ okL x = true ∧ prevL gs k x = true := by
  unfold lkOne
  cases okL x <;> cases prevL gs k x <;> simp

/-- Locks that rise. -/
def SL (gs : List LkI) : Prop := gs.Pairwise (fun a b => ltL a b = true)

theorem ltL_trans {a b c : LkI} (h1 : ltL a b = true) (h2 : ltL b c = true) : ltL a c = true := by
  simp only [ltL, decide_eq_true_eq] at *
  omega

theorem ltL_irrefl (a : LkI) : ltL a a = false := by simp [ltL]

theorem lk_take {gs : List LkI} : ∀ k, k ≤ gs.length → lkTo gs k = 0 → SL (gs.take k) ∧ ∀ x ∈ gs.take k, okL x = true
  | 0, _, _ => by simp [SL]
  | k + 1, hk, h => by
    have h0 : lkTo gs k = 0 := by
      by_cases q : lkTo gs k = 0
      · exact q
      · exact absurd (lkTo_stay gs k (k + 1) _ q rfl (by omega)) (by rw [h]; exact fun e => q e.symm)
    have hx : gs[k]? = some gs[k] := List.getElem?_eq_getElem (by omega)
    rw [lkTo_next hx h0] at h
    obtain ⟨h1, h3⟩ := lkOne_zero.1 h
    obtain ⟨i1, i2⟩ := lk_take k (by omega) h0
    rw [List.take_succ_eq_append_getElem (by omega)]
    refine ⟨List.pairwise_append.2 ⟨i1, by simp, fun a ha b hb => ?_⟩, fun x hx => ?_⟩
    · simp at hb
      rw [hb]
      obtain ⟨j, hj⟩ := List.mem_iff_getElem?.1 ha
      have hjk : j < k := by
        by_cases q : j < k
        · exact q
        · rw [List.getElem?_eq_none (by simp; omega)] at hj; cases hj
      match k, hk, hx, h3, i1, ha, hj, hjk with
      | m + 1, hk, hx, h3, i1, ha, hj, hjk =>
        have hy : gs[m]? = some gs[m] := List.getElem?_eq_getElem (by omega)
        simp only [prevL, hy] at h3
        by_cases e : j = m
        · subst e
          rw [List.getElem?_take, if_pos (by omega), hy] at hj
          cases hj
          exact h3
        · have hm2 : (gs.take (m + 1))[m]? = some gs[m] := by rw [List.getElem?_take, if_pos (by omega)]; exact hy
          have := List.pairwise_iff_getElem.1 i1 j m (by simp; omega) (by simp; omega) (by omega)
          rw [List.getElem?_eq_getElem (by simp; omega)] at hj hm2
          rw [Option.some.inj hj, Option.some.inj hm2] at this
          exact ltL_trans this h3
    · rcases List.mem_append.1 hx with q | q
      · exact i2 x q
      · simp at q; rw [q]; exact h1

theorem lk_ok {gs : List LkI} (h : lkCode gs = 0) : gs.length ≤ 200 ∧ SL gs ∧ ∀ x ∈ gs, okL x = true := by
  unfold lkCode at h
  split at h
  · cases h
  · have := lk_take gs.length (Nat.le_refl _) h
    rw [List.take_length] at this
    exact ⟨by omega, this⟩

/-- The form that was chosen; 0: none. -/
def formL (gs : List LkI) (e c p : Int) : Int := match gs with
  | [] => 0
  | x :: xs => if x.e = e ∧ x.c = c ∧ x.p = p then x.f else formL xs e c p

theorem formL_drop {gs : List LkI} {k : Nat} {x : LkI} (h : gs[k]? = some x) (e c p : Int) : formL (gs.drop k) e c p = if x.e = e ∧ x.c = c ∧ x.p = p then x.f else formL (gs.drop (k + 1)) e c p := by
  have hk : k < gs.length := by
    by_cases q : k < gs.length
    · exact q
    · rw [List.getElem?_eq_none (by omega)] at h; cases h
  have e1 : gs[k] = x := by rw [List.getElem?_eq_getElem hk] at h; exact Option.some.inj h
  rw [List.drop_eq_getElem_cons hk, e1]
  rfl

theorem formL_none {gs : List LkI} {e c p : Int} (h : ∀ x ∈ gs, ¬ (x.e = e ∧ x.c = c ∧ x.p = p)) : formL gs e c p = 0 := by
  induction gs with
  | nil => rfl
  | cons x xs ih =>
    unfold formL
    rw [if_neg (h x (by simp))]
    exact ih (fun y hy => h y (by simp [hy]))

theorem formL_mem {gs : List LkI} (hs : SL gs) {x : LkI} (hx : x ∈ gs) : formL gs x.e x.c x.p = x.f := by
  induction gs with
  | nil => cases hx
  | cons y ys ih =>
    have hp := List.pairwise_cons.1 hs
    unfold formL
    rcases List.mem_cons.1 hx with rfl | q
    · simp
    · have := hp.1 x q
      rw [if_neg (by simp only [ltL, decide_eq_true_eq] at this; omega)]
      exact ih hp.2 q

/-- How a lock lies against a place. -/
def cmpJ (x y : Int) : Int := if x < y then -1 else if y < x then 1 else 0
def orJ (c d : Int) : Int := if c = 0 then d else c
def cfL (x y : LkI) : Int := orJ (cmpJ x.e y.e) (orJ (cmpJ x.c y.c) (cmpJ x.p y.p))

theorem cfL_neg (x y : LkI) : cfL x y < 0 ↔ ltL x y = true := by
  unfold cfL orJ ltL cmpJ
  simp only [decide_eq_true_eq]
  split <;> (repeat' split) <;> first | omega | (simp_all; try omega)

theorem cfL_zero (x y : LkI) : cfL x y = 0 ↔ (x.e = y.e ∧ x.c = y.c ∧ x.p = y.p) := by
  unfold cfL orJ cmpJ
  split <;> (repeat' split) <;> first | omega | (simp_all; try omega)

/-- A place parts rising locks: those ahead stand ahead of t, the others do not. -/
def CutAt (gs : List LkI) (t : LkI) (i : Nat) : Prop := i ≤ gs.length ∧ (∀ k x, k < i → gs[k]? = some x → ltL x t = true) ∧ (∀ k x, i ≤ k → gs[k]? = some x → ltL x t = false)

theorem parts_form {gs : List LkI} (hs : SL gs) {t : LkI} {i : Nat} (h : CutAt gs t i) : formL gs t.e t.c t.p = match gs[i]? with | some x => if cfL x t = 0 then x.f else 0 | none => 0 := by
  cases hi : gs[i]? with
  | none =>
    refine formL_none (fun x hx e => ?_)
    obtain ⟨k, hk⟩ := List.mem_iff_getElem?.1 hx
    have hkl : k < gs.length := by
      by_cases q : k < gs.length
      · exact q
      · rw [List.getElem?_eq_none (by omega)] at hk; cases hk
    have hil : gs.length ≤ i := List.getElem?_eq_none_iff.1 hi
    have := h.2.1 k x (by omega) hk
    simp only [ltL, decide_eq_true_eq] at this
    omega
  | some y =>
    show _ = if cfL y t = 0 then y.f else 0
    by_cases q : cfL y t = 0
    · rw [if_pos q]
      obtain ⟨e1, e2, e3⟩ := (cfL_zero y t).1 q
      rw [← e1, ← e2, ← e3]
      exact formL_mem hs (List.mem_of_getElem? hi)
    · rw [if_neg q]
      refine formL_none (fun x hx e => ?_)
      obtain ⟨k, hk⟩ := List.mem_iff_getElem?.1 hx
      rcases Nat.lt_trichotomy k i with hki | hki | hki
      · have := h.2.1 k x hki hk
        simp only [ltL, decide_eq_true_eq] at this
        omega
      · subst hki
        rw [hi] at hk
        cases hk
        exact q ((cfL_zero _ _).2 e)
      · have hkl : k < gs.length := by
          by_cases q : k < gs.length
          · exact q
          · rw [List.getElem?_eq_none (by omega)] at hk; cases hk
        have hil : i < gs.length := by omega
        have h1 := List.pairwise_iff_getElem.1 hs i k hil hkl hki
        rw [List.getElem?_eq_getElem hkl] at hk
        rw [List.getElem?_eq_getElem hil] at hi
        rw [Option.some.inj hk, Option.some.inj hi] at h1
        have h2 := h.2.2 i y (Nat.le_refl _) (by rw [List.getElem?_eq_getElem hil, Option.some.inj hi])
        simp only [ltL, decide_eq_true_eq, decide_eq_false_iff_not] at h1 h2
        omega

end Go.Proofs.YtnfolmjdicfobaaGreatDoor

namespace Go.Proofs.YtnfolmjdicfobaaGreatDoor
open Go.RowKit
set_option linter.unusedVariables false
set_option linter.unusedSimpArgs false

def clCode (zs : List Int) : Int := if 4 < zs.length then 2 else if zs.all (fun c => inR c 0 15) = true then 0 else 3

theorem clCode_bad {zs : List Int} {k : Nat} {x : Int} (hl : zs.length ≤ 4) (hx : zs[k]? = some x) (hb : inR x 0 15 = false) : clCode zs = 3 := by
  unfold clCode
  rw [if_neg (by omega), if_neg]
  intro h
  have := List.all_eq_true.1 h x (List.mem_of_getElem? hx)
  rw [hb] at this
  cases this

theorem clCode_ok {zs : List Int} (hl : zs.length ≤ 4) (h : ∀ (k : Nat) (x : Int), k < zs.length → zs[k]? = some x → inR x 0 15 = true) : clCode zs = 0 := by
  unfold clCode
  rw [if_neg (by omega), if_pos]
  refine List.all_eq_true.2 (fun x hx => ?_)
  obtain ⟨k, hk⟩ := List.mem_iff_getElem?.1 hx
  exact h k x (by
    by_cases q : k < zs.length
    · exact q
    · rw [List.getElem?_eq_none (by omega)] at hk; cases hk) hk

theorem cl_ok {zs : List Int} (h : clCode zs = 0) : zs.length ≤ 4 ∧ ∀ x ∈ zs, inR x 0 15 = true := by
  unfold clCode at h
  split at h
  · cases h
  · split at h
    · rename_i q1 q2
      exact ⟨by omega, List.all_eq_true.1 q2⟩
    · cases h

theorem inR_iff (v lo hi : Int) : inR v lo hi = true ↔ lo ≤ v ∧ v ≤ hi := by simp [inR]

set_option maxHeartbeats 400000 in
theorem cin_c (v lo hi : Int) (w : World) : Calls Tryz.prog 80 #[.int .i64 v, .int .i64 lo, .int .i64 hi] w fun e w' => e = .returned (.bool (inR v lo hi)) ∧ w = w' := by
  unfold inR
  cases h0 : decide (lo ≤ v)
  · go_enter Tryz.func80, Tryz.ntmps80
    go_wp2
    go_ret
    exact ⟨by simp, rfl⟩
  · cases h1 : decide (v ≤ hi)
    all_goals
      go_enter Tryz.func80, Tryz.ntmps80
      go_wp2
      go_ret
      exact ⟨by simp, rfl⟩

set_option maxHeartbeats 400000 in
theorem sEpoch_c (v : Int) (w : World) : Calls Tryz.prog 69 #[.int .i64 v] w fun e w' => e = .returned (.bool (inR v 1 9)) ∧ w = w' := by
  go_enter Tryz.func69, Tryz.ntmps69
  go_wp2_with (go_at_call 80; refine (cin_c _ _ _ _).mono ?_; rintro e w' ⟨rfl, rfl⟩)
  go_ret
  exact ⟨rfl, rfl⟩

set_option maxHeartbeats 400000 in
theorem sPrin_c (v : Int) (w : World) : Calls Tryz.prog 139 #[.int .i64 v] w fun e w' => e = .returned (.bool (inR v 1 8)) ∧ w = w' := by
  go_enter Tryz.func139, Tryz.ntmps139
  go_wp2_with (go_at_call 80; refine (cin_c _ _ _ _).mono ?_; rintro e w' ⟨rfl, rfl⟩)
  go_ret
  exact ⟨rfl, rfl⟩

set_option maxHeartbeats 400000 in
theorem sSet_c (v : Int) (w : World) : Calls Tryz.prog 81 #[.int .i64 v] w fun e w' => e = .returned (.bool (inR v 0 255)) ∧ w = w' := by
  go_enter Tryz.func81, Tryz.ntmps81
  go_wp2_with (go_at_call 80; refine (cin_c _ _ _ _).mono ?_; rintro e w' ⟨rfl, rfl⟩)
  go_ret
  exact ⟨rfl, rfl⟩

set_option maxHeartbeats 400000 in
theorem iEpoch_c (v : Int) (w : World) : Calls Tryz.prog 83 #[.int .i64 v] w fun e w' => e = .returned (.bool (inR v 1 9)) ∧ w = w' := by
  unfold inR
  cases h0 : decide (1 ≤ v)
  · go_enter Tryz.func83, Tryz.ntmps83
    go_wp2
    go_ret
    exact ⟨by simp, rfl⟩
  · cases h1 : decide (v ≤ 9)
    all_goals
      go_enter Tryz.func83, Tryz.ntmps83
      go_wp2
      go_ret
      exact ⟨by simp, rfl⟩

set_option maxHeartbeats 400000 in
theorem iPrin_c (v : Int) (w : World) : Calls Tryz.prog 137 #[.int .i64 v] w fun e w' => e = .returned (.bool (inR v 1 8)) ∧ w = w' := by
  unfold inR
  cases h0 : decide (1 ≤ v)
  · go_enter Tryz.func137, Tryz.ntmps137
    go_wp2
    go_ret
    exact ⟨by simp, rfl⟩
  · cases h1 : decide (v ≤ 8)
    all_goals
      go_enter Tryz.func137, Tryz.ntmps137
      go_wp2
      go_ret
      exact ⟨by simp, rfl⟩

set_option maxHeartbeats 400000 in
theorem implClassesFault_c (a : Option Addr) (n cap : Nat) (zs : List Int) (w : World) (h : IntIn w a n zs) :
    Calls Tryz.prog 123 #[.slice a n cap] w fun e w' => e = .returned (.int .i64 (clCode zs)) ∧ w = w' := by
  have HZ : Hid (zs.length = n) := h.1
  have HI : Hid (IntIn w a n zs) := h
  clear h
  by_cases h4 : 4 < n
  · have hc : clCode zs = 2 := by unfold clCode; rw [if_pos (by rw [HZ.out]; exact h4)]
    rw [hc]
    clear hc
    have h4' : (4 : Int) < (n : Int) := by omega
    go_enter Tryz.func123, Tryz.ntmps123
    go_wp2
    go_ret
    exact ⟨rfl, rfl⟩
  · have h4' : (n : Int) ≤ 4 := by omega
    go_enter Tryz.func123, Tryz.ntmps123
    go_wp2
    go_loop [10] (fun i => ∃ k : Nat, k ≤ n ∧ i = .int .i64 (k : Int) ∧ ∀ (j : Nat) (x : Int), j < k → zs[j]? = some x → inR x 0 15 = true) (fun i => n - (intOf i).toNat)
    case atStart => exact ⟨0, Nat.zero_le _, rfl, fun j x hj => by omega⟩
    case round =>
      obtain ⟨k, hk, rfl, hok⟩ := hrel
      have HOK : Hid (∀ (j : Nat) (x : Int), j < k → zs[j]? = some x → inR x 0 15 = true) := hok
      clear hok
      by_cases hlt : k < n
      · obtain ⟨b, off, x, e, hx, hc, hb⟩ := HI.out.at hlt
        subst e
        have HX : Hid (zs[k]? = some x) := hx
        clear hx
        have hlt' : (k : Int) < (n : Int) := by omega
        by_cases q0 : x < 0
        · have HB : Hid (clCode zs = 3) := clCode_bad (by rw [HZ.out]; omega) HX.out (by simp [inR]; omega)
          go_wp2
          go_ret
          exact ⟨by rw [HB.out]; rfl, rfl⟩
        · by_cases q1 : 16 ≤ x
          · have HB : Hid (clCode zs = 3) := clCode_bad (by rw [HZ.out]; omega) HX.out (by simp [inR]; omega)
            go_wp2
            go_ret
            exact ⟨by rw [HB.out]; rfl, rfl⟩
          · have HN : Hid (∀ (j : Nat) (y : Int), j < k + 1 → zs[j]? = some y → inR y 0 15 = true) := fun j y hj hy => by
              by_cases e : j = k
              · subst e
                rw [HX.out] at hy
                cases hy
                simp [inR]; omega
              · exact HOK.out j y (by omega) hy
            go_wp2
            go_round
            case rel => exact ⟨k + 1, by omega, by go_num, HN.out⟩
            case measure => simp [intOf]; omega
      · have hkn : k = n := by omega
        subst hkn
        have HB : Hid (clCode zs = 0) := clCode_ok (by rw [HZ.out]; omega) (fun j x hj hx => HOK.out j x (by rw [HZ.out] at hj; exact hj) hx)
        go_wp2
        go_ret
        exact ⟨by rw [HB.out]; rfl, rfl⟩

set_option maxHeartbeats 400000 in
theorem l5Classes_c (a : Option Addr) (n cap : Nat) (zs : List Int) (w : World) (h : IntIn w a n zs) :
    Calls Tryz.prog 72 #[.slice a n cap] w fun e w' => e = .returned (.int .i64 (clCode zs)) ∧ w = w' := by
  have HZ : Hid (zs.length = n) := h.1
  have HI : Hid (IntIn w a n zs) := h
  clear h
  by_cases h4 : 4 < n
  · have hc : clCode zs = 2 := by unfold clCode; rw [if_pos (by rw [HZ.out]; exact h4)]
    rw [hc]
    clear hc
    have h4' : (4 : Int) < (n : Int) := by omega
    go_enter Tryz.func72, Tryz.ntmps72
    go_wp2
    go_ret
    exact ⟨rfl, rfl⟩
  · have h4' : (n : Int) ≤ 4 := by omega
    go_enter Tryz.func72, Tryz.ntmps72
    go_wp2
    go_loop [3] (fun i => ∃ k : Nat, k ≤ n ∧ i = .int .i64 (k : Int) ∧ ∀ (j : Nat) (x : Int), j < k → zs[j]? = some x → inR x 0 15 = true) (fun i => n - (intOf i).toNat)
    case atStart => exact ⟨0, Nat.zero_le _, rfl, fun j x hj => by omega⟩
    case round =>
      obtain ⟨k, hk, rfl, hok⟩ := hrel
      have HOK : Hid (∀ (j : Nat) (x : Int), j < k → zs[j]? = some x → inR x 0 15 = true) := hok
      clear hok
      by_cases hlt : k < n
      · obtain ⟨b, off, x, e, hx, hc, hb⟩ := HI.out.at hlt
        subst e
        have HX : Hid (zs[k]? = some x) := hx
        clear hx
        have hlt' : (k : Int) < (n : Int) := by omega
        by_cases q0 : inR x 0 15 = true
        · have HN : Hid (∀ (j : Nat) (y : Int), j < k + 1 → zs[j]? = some y → inR y 0 15 = true) := fun j y hj hy => by
            by_cases e : j = k
            · subst e
              rw [HX.out] at hy
              cases hy
              exact q0
            · exact HOK.out j y (by omega) hy
          have HQ : Hid (inR x 0 15 = true) := q0
          clear q0
          go_wp2_with (go_at_call 80; refine (cin_c _ _ _ _).mono ?_; rintro e w' ⟨rfl, rfl⟩; rw [HQ.out])
          go_round
          case rel => exact ⟨k + 1, by omega, by go_num, HN.out⟩
          case measure => simp [intOf]; omega
        · have HQ : Hid (inR x 0 15 = false) := by show inR x 0 15 = false; simpa using q0
          clear q0
          have HB : Hid (clCode zs = 3) := clCode_bad (by rw [HZ.out]; omega) HX.out HQ.out
          go_wp2_with (go_at_call 80; refine (cin_c _ _ _ _).mono ?_; rintro e w' ⟨rfl, rfl⟩; rw [HQ.out])
          go_ret
          exact ⟨by rw [HB.out]; rfl, rfl⟩
      · have hkn : k = n := by omega
        subst hkn
        have HB : Hid (clCode zs = 0) := clCode_ok (by rw [HZ.out]; omega) (fun j x hj hx => HOK.out j x (by rw [HZ.out] at hj; exact hj) hx)
        go_wp2
        go_ret
        exact ⟨by rw [HB.out]; rfl, rfl⟩

end Go.Proofs.YtnfolmjdicfobaaGreatDoor

namespace Go.Proofs.YtnfolmjdicfobaaGreatDoor
open Go.RowKit
set_option linter.unusedVariables false
set_option linter.unusedSimpArgs false

theorem LkAt.new (w : World) (x : LkI) (t : TypeId) : LkAt (w.alloc (.cells #[.int .i64 x.e, .int .i64 x.c, .int .i64 x.p, .int .i64 x.f] t)) w.heap.size 0 x := ⟨by simp, by simp, by simp, by simp⟩

/-- Three cells of each of two locks stand. -/
def Six (w : World) (b : Nat) (x y : LkI) : Prop := (w.cell? ⟨b, 0, none⟩ = some (.int .i64 x.e) ∧ w.cell? ⟨b, 1, none⟩ = some (.int .i64 x.c) ∧ w.cell? ⟨b, 2, none⟩ = some (.int .i64 x.p)) ∧ (w.cell? ⟨b + 1, 0, none⟩ = some (.int .i64 y.e) ∧ w.cell? ⟨b + 1, 1, none⟩ = some (.int .i64 y.c) ∧ w.cell? ⟨b + 1, 2, none⟩ = some (.int .i64 y.p))

end Go.Proofs.YtnfolmjdicfobaaGreatDoor
