/-
  PLAIN WORDS on forms: their parts as numbers, the fault of parts, parts in memory; copies and comparisons of them.
  Conditions: each fact bears its own.
  PLAIN WORDS on which sets the parts of a form tell, and on the least of them. No Go text is walked here.
  Conditions: each fact bears its own.
  CONTRACT: impl.together.
  Conditions: each contract bears its own.
-/
import Derived.Test.YtocdclgolhhckaaPk01
import Derived.Test.YtocdclgolhhckaaPk06
import Derived.Test.YtocdclgolhhckaaPk08
import Derived.Test.YtocdclgolhhckaaPk04
import Derived.Deep.WholeRow
namespace Go.Proofs.Ytocdclgolhhckaa
open Go.RowKit
set_option linter.unusedVariables false
set_option linter.unusedSimpArgs false

/-- A part, as five numbers. -/
structure PartI where
  k : Int
  ro : Int
  rn : Int
  l : Int
  r : Int
deriving DecidableEq, Inhabited

/-- The code of one part at its place. -/
def ptOne (k : Nat) (p : PartI) : Int :=
  if ¬ (1 ≤ p.k ∧ p.k ≤ 3) then 1
  else if p.k = 1 then (if roleB p.ro p.rn = false then 3 else if ¬ (p.l = 0 ∧ p.r = 0) then 1 else 0)
  else if ¬ (p.ro = 0 ∧ p.rn = 0) then 1 else if ¬ (0 ≤ p.l ∧ p.l < k) then 3 else if ¬ (0 ≤ p.r ∧ p.r < k) then 3 else 0

def ptTo (zs : List PartI) : Nat → Int
  | 0 => 0
  | k + 1 => if ptTo zs k ≠ 0 then ptTo zs k else match zs[k]? with
    | none => 0
    | some x => ptOne k x

def ptCode (zs : List PartI) : Int := if zs.length < 1 then 2 else if 8 < zs.length then 2 else ptTo zs zs.length

theorem ptTo_stay (zs : List PartI) (k m : Nat) (c : Int) (hc : c ≠ 0) (h : ptTo zs k = c) (hm : k ≤ m) : ptTo zs m = c := by
  induction m with
  | zero => obtain rfl : k = 0 := by omega
            exact h
  | succ m ih =>
    by_cases e : k = m + 1
    · subst e; exact h
    · have := ih (by omega)
      simp only [ptTo, this]
      rw [if_pos hc]

theorem ptTo_next {zs : List PartI} {k : Nat} {x : PartI} (hk : zs[k]? = some x) (h0 : ptTo zs k = 0) : ptTo zs (k + 1) = ptOne k x := by
  simp [ptTo, h0, hk]

theorem ptTo_low {zs : List PartI} {m : Nat} (h : ptTo zs m = 0) : ∀ k, k ≤ m → ptTo zs k = 0 := by
  intro k hk
  by_cases q : ptTo zs k = 0
  · exact q
  · have := ptTo_stay zs k m _ q rfl hk
    rw [this] at h
    exact absurd h q

theorem pt_all {zs : List PartI} (h : ptCode zs = 0) : 1 ≤ zs.length ∧ zs.length ≤ 8 ∧ ∀ k x, zs[k]? = some x → ptOne k x = 0 := by
  unfold ptCode at h
  split at h
  · cases h
  · split at h
    · cases h
    · refine ⟨by omega, by omega, fun k x e => ?_⟩
      have hk : k < zs.length := by
        by_cases q : k < zs.length
        · exact q
        · rw [List.getElem?_eq_none (by omega)] at e; cases e
      have h0 := ptTo_low h k (by omega)
      have h1 := ptTo_low h (k + 1) (by omega)
      rw [ptTo_next e h0] at h1
      exact h1

/-- A part in memory, in five cells. -/
def PartAt (w : World) (g off : Nat) (x : PartI) : Prop := w.cell? ⟨g, off, none⟩ = some (.int .i64 x.k) ∧ w.cell? ⟨g, off + 1, none⟩ = some (.int .i64 x.ro) ∧ w.cell? ⟨g, off + 2, none⟩ = some (.int .i64 x.rn) ∧ w.cell? ⟨g, off + 3, none⟩ = some (.int .i64 x.l) ∧ w.cell? ⟨g, off + 4, none⟩ = some (.int .i64 x.r)

theorem PartAt.below {w w' : World} {g off : Nat} {x : PartI} (h : PartAt w g off x) (hb : Below w.heap.size w w') : PartAt w' g off x := by
  have key : ∀ (o : Nat) (v : Value), w.cell? ⟨g, o, none⟩ = some v → w'.cell? ⟨g, o, none⟩ = some v := fun o v e => (hb.cell (p := ⟨g, o, none⟩) (World.block_lt_of_cell? w ⟨g, o, none⟩ e)).trans e
  obtain ⟨h0, h1, h2, h3, h4⟩ := h
  exact ⟨key _ _ h0, key _ _ h1, key _ _ h2, key _ _ h3, key _ _ h4⟩

theorem PartAt.lt {w : World} {g off : Nat} {x : PartI} (h : PartAt w g off x) : g < w.heap.size := World.block_lt_of_cell? w ⟨g, off, none⟩ h.1

def PartsAt (w : World) (g off : Nat) (zs : List PartI) : Prop := ∀ k x, zs[k]? = some x → PartAt w g (off + k * 5) x

theorem PartsAt.below {w w' : World} {g off : Nat} {zs : List PartI} (h : PartsAt w g off zs) (hb : Below w.heap.size w w') : PartsAt w' g off zs := fun k x e => (h k x e).below hb

/-- A slice of parts. -/
def PartsIn (w : World) (a : Option Addr) (len : Nat) (zs : List PartI) : Prop := zs.length = len ∧ (0 < len → ∃ b off, a = some ⟨b, off, none⟩ ∧ PartsAt w b off zs)

theorem PartsIn.below {w w' : World} {a : Option Addr} {len : Nat} {zs : List PartI} (h : PartsIn w a len zs) (hb : Below w.heap.size w w') : PartsIn w' a len zs := by
  refine ⟨h.1, fun hl => ?_⟩
  obtain ⟨b, off, e, hr⟩ := h.2 hl
  exact ⟨b, off, e, hr.below hb⟩

theorem PartsIn.at {w : World} {a : Option Addr} {len : Nat} {zs : List PartI} (h : PartsIn w a len zs) {k : Nat} (hk : k < len) :
    ∃ b off x, a = some ⟨b, off, none⟩ ∧ zs[k]? = some x ∧ PartAt w b (off + k * 5) x := by
  obtain ⟨b, off, e, hr⟩ := h.2 (by omega)
  have hl := h.1
  exact ⟨b, off, zs[k]'(by omega), e, List.getElem?_eq_getElem (by omega), hr k _ (List.getElem?_eq_getElem (by omega))⟩

theorem PartsIn.of {w : World} {g len : Nat} {zs : List PartI} (hl : zs.length = len) (h : PartsAt w g 0 zs) : PartsIn w (some ⟨g, 0, none⟩) len zs :=
  ⟨hl, fun _ => ⟨g, 0, rfl, h⟩⟩

def PartsArg (w : World) (a : Option Addr) (len : Nat) (zs : List PartI) : Prop := PartsIn w a len zs ∧ len ≤ maxLen

theorem parts_lt {w : World} {a : Option Addr} {n : Nat} {zs : List PartI} (h : PartsIn w a n zs) : ∀ b off, a = some ⟨b, off, none⟩ → n = 0 ∨ b < w.heap.size := by
  intro b off e
  by_cases h0 : n = 0
  · exact .inl h0
  · obtain ⟨b', off', r, e', _, hr⟩ := h.at (show 0 < n by omega)
    rw [e] at e'
    cases e'
    exact .inr hr.lt

theorem partsIn_kept {w w' : World} {a : Option Addr} {n L : Nat} {zs : List PartI} {row : Option Nat} (h : PartsIn w a n zs) (hg : w.grownBy w' row) (hL : ∀ b off, a = some ⟨b, off, none⟩ → n = 0 ∨ b < L) (hne : ∀ q, row = some q → L ≤ q) : PartsIn w' a n zs := by
  refine ⟨h.1, fun hp => ?_⟩
  obtain ⟨b, off, e, hr⟩ := h.2 hp
  have hb : b < L := by
    rcases hL b off e with h0 | h0
    · omega
    · exact h0
  refine ⟨b, off, e, fun k r hk => ?_⟩
  have hx : ∀ (o : Nat) (u : Value), w.cell? ⟨b, o, none⟩ = some u → w'.cell? ⟨b, o, none⟩ = some u := fun o u hu => hg.cell hu (fun q => by have := hne b q.symm; omega)
  obtain ⟨h0, h1, h2, h3, h4⟩ := hr k r hk
  exact ⟨hx _ _ h0, hx _ _ h1, hx _ _ h2, hx _ _ h3, hx _ _ h4⟩

/-- A block of n parts that may be written. -/
def Room5 (w : World) (g n : Nat) : Prop := (∀ j, j < n * 5 → ∃ v, w.cell? ⟨g, j, none⟩ = some v) ∧ ∀ j, w.frozen? ⟨g, j, none⟩ = false

theorem Room5.below {w w' : World} {g n : Nat} (h : Room5 w g n) (hg : g < w.heap.size) (hb : Below w.heap.size w w') : Room5 w' g n :=
  ⟨fun j hj => by obtain ⟨v, e⟩ := h.1 j hj; exact ⟨v, (hb.cell (p := ⟨g, j, none⟩) hg).trans e⟩, fun j => (hb.frozen (p := ⟨g, j, none⟩) hg).trans (h.2 j)⟩

theorem Room5.grown {w w' : World} {g n : Nat} {row : Option Nat} (h : Room5 w g n) (hg : g < w.heap.size) (hr : w.grownBy w' row) (hne : some g ≠ row) : Room5 w' g n :=
  ⟨fun j hj => by obtain ⟨v, e⟩ := h.1 j hj; exact ⟨v, hr.cell e hne⟩, fun j => by
    have := h.2 j
    unfold World.frozen? at this ⊢
    simp only at this ⊢
    rw [hr.block g hg hne]
    exact this⟩

abbrev put5 (w : World) (g o : Nat) (s : PartI) : World := (((((w.setCell ⟨g, o, none⟩ (.int .i64 s.k)).setCell ⟨g, o + 1, none⟩ (.int .i64 s.ro)).setCell ⟨g, o + 2, none⟩ (.int .i64 s.rn)).setCell ⟨g, o + 3, none⟩ (.int .i64 s.l)).setCell ⟨g, o + 4, none⟩ (.int .i64 s.r))

theorem put5_other (w : World) (g o : Nat) (s : PartI) (a : Addr) (h : ∀ j, j < 5 → a ≠ ⟨g, o + j, none⟩) : (put5 w g o s).cell? a = w.cell? a := by
  rw [World.cell?_setCell_other (h := Ne.symm (h 4 (by omega))), World.cell?_setCell_other (h := Ne.symm (h 3 (by omega))), World.cell?_setCell_other (h := Ne.symm (h 2 (by omega))), World.cell?_setCell_other (h := Ne.symm (h 1 (by omega))), World.cell?_setCell_other (h := Ne.symm (a := a) (b := ⟨g, o, none⟩) (by simpa using h 0 (by omega)))]

theorem put5_at (w : World) (g o : Nat) (s : PartI) (h : ∀ j, j < 5 → ∃ v, w.cell? ⟨g, o + j, none⟩ = some v) : PartAt (put5 w g o s) g o s := by
  obtain ⟨v0, h0⟩ := h 0 (by omega)
  obtain ⟨v1, h1⟩ := h 1 (by omega)
  obtain ⟨v2, h2⟩ := h 2 (by omega)
  obtain ⟨v3, h3⟩ := h 3 (by omega)
  obtain ⟨v4, h4⟩ := h 4 (by omega)
  rw [Nat.add_zero] at h0
  refine ⟨?_, ?_, ?_, ?_, ?_⟩ <;> simp [go_sem, h0, h1, h2, h3, h4]

theorem put5_room {w : World} {g n k : Nat} {zs : List PartI} {s : PartI} (hroom : Room5 w g n) (hd : PartsAt w g 0 (zs.take k)) (hs : zs[k]? = some s) (hk : k < n) :
    Room5 (put5 w g (k * 5) s) g n ∧ PartsAt (put5 w g (k * 5) s) g 0 (zs.take (k + 1)) := by
  have hr := put5_at w g (k * 5) s (fun j hj => hroom.1 (k * 5 + j) (by omega))
  refine ⟨⟨fun j hj => ?_, fun j => ?_⟩, fun i r e => ?_⟩
  · by_cases h : k * 5 ≤ j ∧ j < k * 5 + 5
    · have hj' : j = k * 5 ∨ j = k * 5 + 1 ∨ j = k * 5 + 2 ∨ j = k * 5 + 3 ∨ j = k * 5 + 4 := by omega
      obtain ⟨h0, h1, h2, h3, h4⟩ := hr
      rcases hj' with rfl | rfl | rfl | rfl | rfl
      · exact ⟨_, h0⟩
      · exact ⟨_, h1⟩
      · exact ⟨_, h2⟩
      · exact ⟨_, h3⟩
      · exact ⟨_, h4⟩
    · rw [put5_other w g (k * 5) s ⟨g, j, none⟩ (fun i hi e => by have e2 := congrArg Addr.off e; simp only at e2; omega)]
      exact hroom.1 j hj
  · simp only [World.frozen?_setCell]
    exact hroom.2 j
  · rw [List.getElem?_take] at e
    split at e
    · by_cases hik : i = k
      · subst hik
        rw [hs] at e
        cases e
        rw [Nat.zero_add]
        exact hr
      · have hi : i < k := by omega
        have h1 := hd i r (by rw [List.getElem?_take, if_pos hi]; exact e)
        have key : ∀ (o : Nat) (v : Value), o < k * 5 → w.cell? ⟨g, o, none⟩ = some v → (put5 w g (k * 5) s).cell? ⟨g, o, none⟩ = some v := fun o v ho hv => by
          rw [put5_other w g (k * 5) s ⟨g, o, none⟩ (fun j hj e => by have e2 := congrArg Addr.off e; simp only at e2; omega)]; exact hv
        obtain ⟨h0, h1, h2, h3, h4⟩ := h1
        exact ⟨key _ _ (by omega) h0, key _ _ (by omega) h1, key _ _ (by omega) h2, key _ _ (by omega) h3, key _ _ (by omega) h4⟩
    · cases e

theorem put5_below {w0 w : World} {B g o : Nat} (h : Below B w0 w) (hg : B ≤ g) (s : PartI) : Below B w0 (put5 w g o s) :=
  h.setCell hg _ |>.setCell hg _ |>.setCell hg _ |>.setCell hg _ |>.setCell hg _

set_option maxHeartbeats 400000 in
theorem toPart_c (x : PartI) (w : World) : Calls Try.prog 85 #[.agg #[.int .i64 x.k, .int .i64 x.ro, .int .i64 x.rn, .int .i64 x.l, .int .i64 x.r]] w fun e w' => e = .returned (.agg #[.int .i64 x.k, .int .i64 x.ro, .int .i64 x.rn, .int .i64 x.l, .int .i64 x.r]) ∧ Below w.heap.size w w' := by
  go_enter Try.func85, Try.ntmps85
  go_wp2
  go_returns
  exact ⟨rfl, by go_grown⟩

theorem Try.info112 : (Try.prog.info? 112).map (fun i => (i.zero, i.size, i.bytes)) = some (some (.agg #[.int .i64 0, .int .i64 0, .int .i64 0, .int .i64 0, .int .i64 0]), 5, 40) := by kernel_rfl

set_option maxHeartbeats 1000000 in
theorem toParts_room (a : Option Addr) (n cap : Nat) (zs : List PartI) (w : World) (hn : n ≤ 1048576) (h : PartsIn w a n zs) :
    Calls Try.prog 40 #[.slice a n cap] w fun e w' => e = .returned (.slice (some ⟨w.heap.size, 0, none⟩) n n) ∧ PartsAt w' w.heap.size 0 zs ∧ w.heap.size < w'.heap.size ∧ Below w.heap.size w w' ∧ Room5 w' w.heap.size n := by
  obtain ⟨i0, hi, hz0, hz1, hz2⟩ := info_parts Try.info112
  obtain ⟨wm, hmk, hownm, hgrm⟩ := run_make_full (P := Try.prog) (w := w) w.heap.size 64 112 i0 (.agg #[.int .i64 0, .int .i64 0, .int .i64 0, .int .i64 0, .int .i64 0]) 5 Try.underlying64 hi hz0 hz1 .i64 .i64 n (by rw [hz2]; omega) (by unfold maxLen; omega) (Nat.le_refl _)
  have H : Hid (PartsIn w a n zs) := h
  have hz : Hid (zs.length = n) := h.1
  clear h
  have HM : Hid (Room5 wm w.heap.size n ∧ w.heap.size < wm.heap.size) := by
    refine ⟨⟨fun j hj => ?_, fun j => hownm.frozenAt j⟩, (hownm.lt _ rfl).2⟩
    have hl := hownm.1
    exact ⟨_, (hownm.cellAt j hj).trans (List.getElem?_eq_getElem (by omega))⟩
  clear hownm
  have HG : Hid (w.grownBy wm none) := hgrm
  clear hgrm
  have hn' : (n : Int) ≤ 1048576 := by omega
  go_enter Try.func40, Try.ntmps40
  go_wp2
  go_loopw [4] (fun i wr => ∃ k : Nat, k ≤ n ∧ i = .int .i64 (k : Int) ∧ Room5 wr w.heap.size n ∧ PartsAt wr w.heap.size 0 (zs.take k) ∧ w.heap.size < wr.heap.size ∧ Below w.heap.size w wr)
    (fun i _ => n - (intOf i).toNat)
  case atStart => exact ⟨0, Nat.zero_le _, rfl, HM.out.1, fun k r e => by simp at e, HM.out.2, (Below.refl _ _).grown HG.out (Nat.le_refl _) (fun k e => by cases e)⟩
  case round =>
    obtain ⟨k, hk, rfl, hroom, hdone, hlt0, hnx⟩ := hrel
    by_cases hlt : k < n
    · obtain ⟨b, off, s, rfl, hs, hr⟩ := H.out.at hlt
      have HS : Hid (zs[k]? = some s) := hs
      have hb : b < w.heap.size := hr.lt
      clear hs
      obtain ⟨h0, h1, h2, h3, h4⟩ := hr.below hnx
      have HD : Hid (Room5 wr w.heap.size n ∧ PartsAt wr w.heap.size 0 (zs.take k)) := ⟨hroom, hdone⟩
      clear hroom hdone hr
      have hlt' : (k : Int) < (n : Int) := by omega
      go_wp2_with fail
      refine (toPart_c s _).mono ?_
      rintro e w1 ⟨rfl, hb1⟩
      obtain ⟨⟨hc, hf⟩, hd⟩ := HD.out
      have hz1 := hb1.size
      have HD1 : Hid (Room5 w1 w.heap.size n ∧ PartsAt w1 w.heap.size 0 (zs.take k) ∧ Below w.heap.size w w1) :=
        ⟨⟨fun j hj => by obtain ⟨v, e⟩ := hc j hj; exact ⟨v, (hb1.cell (p := ⟨w.heap.size, j, none⟩) hlt0).trans e⟩, fun j => (hb1.frozen (p := ⟨w.heap.size, j, none⟩) hlt0).trans (hf j)⟩, hd.below hb1, hnx.trans (hb1.mono hnx.size)⟩
      clear hc hf hd HD h0 h1 h2 h3 h4
      obtain ⟨v0, c0⟩ := HD1.out.1.1 (k * 5) (by omega)
      obtain ⟨v1, c1⟩ := HD1.out.1.1 (k * 5 + 1) (by omega)
      obtain ⟨v2, c2⟩ := HD1.out.1.1 (k * 5 + 2) (by omega)
      obtain ⟨v3, c3⟩ := HD1.out.1.1 (k * 5 + 3) (by omega)
      obtain ⟨v4, c4⟩ := HD1.out.1.1 (k * 5 + 4) (by omega)
      have f0 := HD1.out.1.2 (k * 5)
      have f1 := HD1.out.1.2 (k * 5 + 1)
      have f2 := HD1.out.1.2 (k * 5 + 2)
      have f3 := HD1.out.1.2 (k * 5 + 3)
      have f4 := HD1.out.1.2 (k * 5 + 4)
      have RM : Hid (Room5 (put5 w1 w.heap.size (k * 5) s) w.heap.size n ∧ PartsAt (put5 w1 w.heap.size (k * 5) s) w.heap.size 0 (zs.take (k + 1)) ∧ Below w.heap.size w (put5 w1 w.heap.size (k * 5) s)) := by
        have h2 := put5_room HD1.out.1 HD1.out.2.1 HS.out hlt
        exact ⟨h2.1, h2.2, put5_below HD1.out.2.2 (Nat.le_refl _) s⟩
      go_wp2
      exact ⟨⟨k + 1, by omega, by go_num, RM.out.1, RM.out.2.1, by simp only [World.size_setCell]; omega, RM.out.2.2⟩, by simp [intOf]; omega⟩
    · have hkn : k = n := by omega
      subst hkn
      rw [List.take_of_length_le (by rw [hz.out]; exact Nat.le_refl _)] at hdone
      go_wp2
      go_ret
      exact ⟨rfl, hdone, hlt0, hnx, hroom⟩

theorem toParts_c (a : Option Addr) (n cap : Nat) (zs : List PartI) (w : World) (hn : n ≤ 1048576) (h : PartsIn w a n zs) :
    Calls Try.prog 40 #[.slice a n cap] w fun e w' => e = .returned (.slice (some ⟨w.heap.size, 0, none⟩) n n) ∧ PartsAt w' w.heap.size 0 zs ∧ w.heap.size < w'.heap.size ∧ Below w.heap.size w w' :=
  (toParts_room a n cap zs w hn h).mono fun e w' hh => ⟨hh.1, hh.2.1, hh.2.2.1, hh.2.2.2.1⟩

set_option maxHeartbeats 1000000 in
theorem eqPart_same (x : PartI) (w : World) :
    Calls Try.prog 88 #[.agg #[.int .i64 x.k, .int .i64 x.ro, .int .i64 x.rn, .int .i64 x.l, .int .i64 x.r], .agg #[.int .i64 x.k, .int .i64 x.ro, .int .i64 x.rn, .int .i64 x.l, .int .i64 x.r]] w fun e w' => e = .returned (.bool true) ∧ Below w.heap.size w w' := by
  go_enter Try.func88, Try.ntmps88
  go_wp2
  go_ret
  exact ⟨rfl, by go_grown⟩

set_option maxHeartbeats 1000000 in
theorem eqParts_same (a b : Option Addr) (n c d : Nat) (zs : List PartI) (w : World) (hn : n ≤ 1048576) (ha : PartsIn w a n zs) (hb : PartsIn w b n zs) :
    Calls Try.prog 43 #[.slice a n c, .slice b n d] w fun e w' => e = .returned (.bool true) ∧ Below w.heap.size w w' := by
  have HA : Hid (PartsIn w a n zs) := ha
  have HB : Hid (PartsIn w b n zs) := hb
  clear ha hb
  have hn' : (n : Int) ≤ 1048576 := by omega
  go_enter Try.func43, Try.ntmps43
  go_wp2
  go_loopw [5] (fun i wr => ∃ k : Nat, k ≤ n ∧ i = .int .i64 (k : Int) ∧ Below w.heap.size w wr) (fun i _ => n - (intOf i).toNat)
  case atStart => exact ⟨0, Nat.zero_le _, rfl, Below.refl _ _⟩
  case round =>
    obtain ⟨k, hk, rfl, hnx⟩ := hrel
    by_cases hlt : k < n
    · obtain ⟨b1, o1, s, e1, hs, hr⟩ := HA.out.at hlt
      obtain ⟨b2, o2, s2, e2, hs2, hr2⟩ := HB.out.at hlt
      obtain rfl : s = s2 := Option.some.inj (hs.symm.trans hs2)
      subst e1 e2
      clear hs hs2
      obtain ⟨h0, h1, h2, h3, h4⟩ := hr.below hnx
      obtain ⟨g0, g1, g2, g3, g4⟩ := hr2.below hnx
      clear hr hr2
      have hlt' : (k : Int) < (n : Int) := by omega
      have hb1 : b1 < wr.heap.size := World.block_lt_of_cell? wr ⟨b1, o1 + k * 5, none⟩ h0
      have hb2 : b2 < wr.heap.size := World.block_lt_of_cell? wr ⟨b2, o2 + k * 5, none⟩ g0
      go_wp2
      go_region_held3 (fun w' => (∀ b o, b < wr.heap.size → w'.cell? ⟨b, o, none⟩ = wr.cell? ⟨b, o, none⟩) ∧ Below wr.heap.size wr w') (first | exact hS | exact kp_drew _)
        (first | (go_at_call 88; refine (eqPart_same s _).mono ?_; rintro e w' ⟨rfl, hb1⟩; have hS := kp_step (by assumption) hb1))
      go_wp2
      exact ⟨⟨k + 1, by omega, by go_num, hnx.trans (hS.2.mono hnx.size)⟩, by simp [intOf]; omega⟩
    · have hkn : k = n := by omega
      subst hkn
      go_wp2
      go_ret
      exact ⟨rfl, hnx⟩

end Go.Proofs.Ytocdclgolhhckaa

namespace Go.Proofs.Ytocdclgolhhckaa
open Go.RowKit
set_option linter.unusedVariables false
set_option linter.unusedSimpArgs false

/-- Which of the 256 sets are told. -/
abbrev TS := Nat → Bool
def noT : TS := fun _ => false
def putT (T : TS) (x : Nat) : TS := fun y => if y = x then true else T y
def oneT (s : Int) : TS := fun x => (List.range 8).any fun p => (x == 2 ^ p) && hasI s ((p : Int) + 1)
def okAB (ap : Bool) (a b : Nat) : Bool := !(ap && (a &&& b != 0))
def bothT (ap : Bool) (L R : TS) : TS := fun x => (List.range 256).any fun a => L a && (List.range 256).any fun b => R b && okAB ap a b && (a ||| b == x)

theorem bothT_iff {ap : Bool} {L R : TS} {x : Nat} : bothT ap L R x = true ↔ ∃ a b, a < 256 ∧ b < 256 ∧ L a = true ∧ R b = true ∧ okAB ap a b = true ∧ a ||| b = x := by
  unfold bothT
  rw [List.any_eq_true]
  constructor
  · rintro ⟨a, ha, h⟩
    rw [Bool.and_eq_true, List.any_eq_true] at h
    obtain ⟨hL, b, hb, h⟩ := h
    rw [Bool.and_eq_true, Bool.and_eq_true] at h
    exact ⟨a, b, List.mem_range.1 ha, List.mem_range.1 hb, hL, h.1.1, h.1.2, by simpa using h.2⟩
  · rintro ⟨a, b, ha, hb, hL, hR, ho, rfl⟩
    refine ⟨a, List.mem_range.2 ha, ?_⟩
    rw [Bool.and_eq_true, List.any_eq_true]
    exact ⟨hL, b, List.mem_range.2 hb, by simp [hR, ho]⟩

/-- What two loops have put so far. -/
def Both (ap : Bool) (L R : TS) (i j : Nat) (T : TS) : Prop := ∀ x, x < 256 → (T x = true ↔ ∃ a b, (a < i ∨ a = i ∧ b < j) ∧ a < 256 ∧ b < 256 ∧ L a = true ∧ R b = true ∧ okAB ap a b = true ∧ a ||| b = x)

theorem both_start (ap : Bool) (L R : TS) : Both ap L R 0 0 noT := by
  intro x hx
  constructor
  · intro h; cases h
  · rintro ⟨a, b, h, _⟩; omega

theorem both_skip {ap : Bool} {L R : TS} {i j : Nat} {T : TS} (h : Both ap L R i j T) (hl : L i = false) : Both ap L R (i + 1) 0 T := by
  intro x hx
  rw [h x hx]
  constructor
  · rintro ⟨a, b, h0, h1⟩
    exact ⟨a, b, by omega, h1⟩
  · rintro ⟨a, b, h0, h1, h2, h3, h4⟩
    have : a ≠ i := fun e => by rw [e, hl] at h3; cases h3
    exact ⟨a, b, by omega, h1, h2, h3, h4⟩

theorem both_next {ap : Bool} {L R : TS} {i : Nat} {T : TS} (h : Both ap L R i 256 T) : Both ap L R (i + 1) 0 T := by
  intro x hx
  rw [h x hx]
  constructor
  · rintro ⟨a, b, h0, h1⟩
    exact ⟨a, b, by omega, h1⟩
  · rintro ⟨a, b, h0, h1, h2, h3⟩
    exact ⟨a, b, by omega, h1, h2, h3⟩

theorem both_no {ap : Bool} {L R : TS} {i j : Nat} {T : TS} (h : Both ap L R i j T) (hn : (R j && okAB ap i j) = false) : Both ap L R i (j + 1) T := by
  intro x hx
  rw [h x hx]
  constructor
  · rintro ⟨a, b, h0, h1⟩
    exact ⟨a, b, by omega, h1⟩
  · rintro ⟨a, b, h0, h1, h2, h3, h4, h5, h6⟩
    have : ¬ (a = i ∧ b = j) := by
      rintro ⟨rfl, rfl⟩
      rw [h4, h5] at hn; cases hn
    exact ⟨a, b, by omega, h1, h2, h3, h4, h5, h6⟩

theorem both_put {ap : Bool} {L R : TS} {i j : Nat} {T : TS} (h : Both ap L R i j T) (hi : i < 256) (hj : j < 256) (hL : L i = true) (hn : (R j && okAB ap i j) = true) : Both ap L R i (j + 1) (putT T (i ||| j)) := by
  rw [Bool.and_eq_true] at hn
  intro x hx
  unfold putT
  by_cases e : x = i ||| j
  · rw [if_pos e]
    exact ⟨fun _ => ⟨i, j, by omega, hi, hj, hL, hn.1, hn.2, e.symm⟩, fun _ => rfl⟩
  · rw [if_neg e, h x hx]
    constructor
    · rintro ⟨a, b, h0, h1⟩
      exact ⟨a, b, by omega, h1⟩
    · rintro ⟨a, b, h0, h1, h2, h3, h4, h5, h6⟩
      have : ¬ (a = i ∧ b = j) := by
        rintro ⟨rfl, rfl⟩
        exact e h6.symm
      exact ⟨a, b, by omega, h1, h2, h3, h4, h5, h6⟩

theorem both_end {ap : Bool} {L R : TS} {j : Nat} {T : TS} (h : Both ap L R 256 j T) : ∀ x, x < 256 → T x = bothT ap L R x := by
  intro x hx
  rw [Bool.eq_iff_iff, h x hx, bothT_iff]
  constructor
  · rintro ⟨a, b, h0, h1⟩
    exact ⟨a, b, h1⟩
  · rintro ⟨a, b, h1, h2, h3⟩
    exact ⟨a, b, .inl h1, h1, h2, h3⟩

/-- The first principals of a set, each alone. -/
def oneTo (s : Int) (k : Nat) : TS := fun x => (List.range k).any fun p => (x == 2 ^ p) && hasI s ((p : Int) + 1)
theorem oneTo_next (s : Int) (k : Nat) : oneTo s (k + 1) = if hasI s ((k : Int) + 1) = true then putT (oneTo s k) (2 ^ k) else oneTo s k := by
  funext x
  have e0 : oneTo s (k + 1) x = (oneTo s k x || ((x == 2 ^ k) && hasI s ((k : Int) + 1))) := by
    unfold oneTo
    rw [List.range_succ, List.any_append]
    simp only [List.any_cons, List.any_nil, Bool.or_false]
  rw [e0]
  cases h : hasI s ((k : Int) + 1)
  · rw [Bool.and_false, Bool.or_false, if_neg (by simp)]
  · rw [Bool.and_true, if_pos rfl]
    unfold putT
    by_cases e : x = 2 ^ k
    · rw [if_pos e, e]; simp
    · rw [if_neg e, show (x == 2 ^ k) = false by simpa using e, Bool.or_false]

/-- The 256 cells. -/
def arrT (T : TS) : Array Value := ((List.range 256).map fun i => Value.bool (T i)).toArray

theorem arrT_size (T : TS) : (arrT T).size = 256 := by simp [arrT]
theorem arrT_at (T : TS) {i : Nat} (h : i < 256) : (arrT T)[i]? = some (.bool (T i)) := by simp [arrT, h]
theorem arrT_ext {T U : TS} (h : ∀ x, x < 256 → T x = U x) : arrT T = arrT U := by
  unfold arrT
  congr 1
  apply List.map_congr_left
  intro x hx
  rw [h x (List.mem_range.1 hx)]
theorem arrT_put (T : TS) {i : Nat} (h : i < 256) : (arrT T).setIfInBounds i (.bool true) = arrT (putT T i) := by
  apply Array.ext_getElem?
  intro j
  rw [Array.getElem?_setIfInBounds]
  by_cases hj : j < 256
  · by_cases e : i = j
    · subst e
      rw [if_pos rfl, if_pos (by rw [arrT_size]; exact h), arrT_at _ h]; simp [putT]
    · rw [if_neg e, arrT_at _ hj, arrT_at _ hj]; simp [putT, show ¬ j = i from fun q => e q.symm]
  · rw [if_neg (by omega), Array.getElem?_eq_none (by rw [arrT_size]; omega), Array.getElem?_eq_none (by rw [arrT_size]; omega)]
theorem arrT_cells (T : TS) : (arrT T).all (·.oneCell') = true := by
  rw [Array.all_eq_true']
  intro v hv
  simp [arrT] at hv
  obtain ⟨i, _, rfl⟩ := hv
  rfl

/-- What a part tells, out of what the parts ahead tell. -/
def tellOne (f : RoI → Int) (ts : List TS) (p : PartI) : TS := if p.k = 1 then oneT (f (p.ro, p.rn)) else bothT (decide (p.k = 3)) (ts[p.l.toNat]?.getD noT) (ts[p.r.toNat]?.getD noT)
def tellsTo (f : RoI → Int) (zs : List PartI) : Nat → List TS
  | 0 => []
  | k + 1 => match zs[k]? with
    | none => tellsTo f zs k
    | some p => tellsTo f zs k ++ [tellOne f (tellsTo f zs k) p]
theorem tellsTo_next {zs : List PartI} {k : Nat} {p : PartI} (h : zs[k]? = some p) (f : RoI → Int) : tellsTo f zs (k + 1) = tellsTo f zs k ++ [tellOne f (tellsTo f zs k) p] := by
  simp [tellsTo, h]
theorem tellsTo_len (f : RoI → Int) (zs : List PartI) : ∀ k, k ≤ zs.length → (tellsTo f zs k).length = k
  | 0, _ => rfl
  | k + 1, h => by
    rw [tellsTo_next (List.getElem?_eq_getElem (show k < zs.length by omega))]
    simp [tellsTo_len f zs k (by omega)]
/-- What the last part tells. -/
def tellsL (f : RoI → Int) (zs : List PartI) : TS := (tellsTo f zs zs.length)[zs.length - 1]?.getD noT

/-- The sets that are told, rising. -/
def setsTo (T : TS) (k : Nat) : List Int := ((List.range k).filter T).map (fun n : Nat => (n : Int))
def setsL (T : TS) : List Int := setsTo T 256
theorem setsTo_next (T : TS) (k : Nat) : setsTo T (k + 1) = if T k = true then setsTo T k ++ [(k : Int)] else setsTo T k := by
  unfold setsTo
  rw [List.range_succ, List.filter_append, List.map_append]
  cases h : T k <;> simp [h]
theorem setsTo_len (T : TS) (k : Nat) : (setsTo T k).length ≤ k := by
  unfold setsTo
  rw [List.length_map]
  have := List.length_filter_le T (List.range k)
  simpa using this

/-- How many a set has. -/
def pcN (x : Nat) : Nat := (listTo (x : Int) 8).length
theorem pc_le : ∀ n : Fin 256, pcN n.val ≤ 8 := by decide +kernel
def IsLeast (T : TS) (x : Nat) : Prop := x < 256 ∧ T x = true ∧ ∀ y, y < 256 → T y = true → pcN x < pcN y ∨ (pcN x = pcN y ∧ x ≤ y)
theorem least_unique {T : TS} {x y : Nat} (h : IsLeast T x) (g : IsLeast T y) : x = y := by
  have h1 := h.2.2 y g.1 g.2.1
  have h2 := g.2.2 x h.1 h.2.1
  omega

end Go.Proofs.Ytocdclgolhhckaa

namespace Go.Proofs.Ytocdclgolhhckaa
open Go.RowKit
set_option linter.unusedVariables false
set_option linter.unusedSimpArgs false

theorem ts_under : Try.prog.underlying 117 = some (.array 256 4) := by kernel_rfl
theorem ts_info : (Try.prog.info? 117).map (fun i => (i.zero, i.size)) = some (some (.agg (arrT noT)), 256) := by kernel_rfl
theorem ts_zero (w : World) : (zeroValue 117).run Try.prog w = .ok (.agg (arrT noT)) w := (zero_of_info ts_info).1 w
theorem ts_size : (Try.prog.info? 117).map (·.size) = some 256 := (zero_of_info ts_info).2

theorem cell_old (w : World) (o : Obj) {b : Nat} (i : Nat) (hb : b < w.heap.size) : (w.alloc o).cell? ⟨b, i, none⟩ = w.cell? ⟨b, i, none⟩ := ((Below.refl _ _).alloc (Nat.le_refl _) o).cell (p := ⟨b, i, none⟩) hb
theorem cell_new (w : World) (c : Array Value) (t : TypeId) (i : Nat) : (w.alloc (.cells c t)).cell? ⟨w.heap.size, i, none⟩ = c[i]? := cell_of_row _ _ i c t (0, 0) (heap_alloc_last w _)
theorem heap_old (w : World) (o : Obj) {b : Nat} (hb : b < w.heap.size) : (w.alloc o).heap[b]? = w.heap[b]? := ((Below.refl _ _).alloc (Nat.le_refl _) o).block b hb

theorem heap_setRow {w : World} {g : Nat} {c c' : Array Value} {t : TypeId} {fr : Nat × Nat} (h : w.heap[g]? = some (.cells c t fr)) : (w.setRow g c').heap[g]? = some (.cells c' t fr) := by
  simp only [World.setRow]
  rw [Array.getElem?_modify, if_pos rfl, h]
  rfl
theorem heap_setRow_ne {w : World} {g i : Nat} {c' : Array Value} (h : i ≠ g) : (w.setRow g c').heap[i]? = w.heap[i]? := by
  simp only [World.setRow]
  rw [Array.getElem?_modify, if_neg (fun e => h e.symm)]
theorem size_setRow (w : World) (g : Nat) (c' : Array Value) : (w.setRow g c').heap.size = w.heap.size := by simp [World.setRow]
theorem below_setRow {B : Nat} {w0 w : World} {g : Nat} (h : Below B w0 w) (hg : B ≤ g) (c : Array Value) : Below B w0 (w.setRow g c) :=
  ⟨h.os, h.tape, h.output, by rw [size_setRow]; exact h.size, fun i hi => by rw [heap_setRow_ne (by omega)]; exact h.block i hi⟩
theorem storeAt_row (w : World) (g : Nat) (old T : TS) (hg : w.heap[g]? = some (.cells (arrT old) 117 (0, 0))) :
    (Instr.storeAt 117 (.pointer (some ⟨g, 0, none⟩)) (.agg (arrT T))).run Try.prog w = .ok () (w.setRow g (arrT T)) := by
  simp only [Instr.storeAt, Instr.sureAddr, Sem.run_bind, Sem.run_pure, Result.andThen]
  exact run_storeVar_row _ _ _ _ _ _ hg (by rw [arrT_size]; exact ts_size) (by rw [arrT_size, arrT_size]) (arrT_cells T)
theorem storeCells_row (w : World) (g : Nat) (old T : TS) (hg : w.heap[g]? = some (.cells (arrT old) 117 (0, 0))) :
    (storeCells ⟨g, 0, none⟩ (arrT T).toList).run Try.prog w = .ok () (w.setRow g (arrT T)) := by
  have := run_storeCells_from (P := Try.prog) g 117 (arrT T).toList 0 (arrT old) w hg (by rw [Nat.zero_add, arrT_size, Array.length_toList, arrT_size]) (fun v hv => (Array.all_eq_true_iff_forall_mem.1 (arrT_cells T)) v (by simpa using hv))
  simpa using this
theorem loadVar_row (w : World) (g : Nat) (T : TS) (hg : w.heap[g]? = some (.cells (arrT T) 117 (0, 0))) :
    (loadVar 117 ⟨g, 0, none⟩).run Try.prog w = .ok (.agg (arrT T)) w :=
  run_loadVar_row _ _ _ _ _ _ _ hg ts_under rfl (by rw [arrT_size]; exact ts_size)
theorem loadAt_row (w : World) (g : Nat) (T : TS) (hg : w.heap[g]? = some (.cells (arrT T) 117 (0, 0))) :
    (Instr.loadAt 117 (.pointer (some ⟨g, 0, none⟩))).run Try.prog w = .ok (.agg (arrT T)) w := by
  simp only [Instr.loadAt, Instr.sureAddr, Sem.run_bind, Sem.run_pure, Result.andThen]
  exact loadVar_row w g T hg

set_option maxRecDepth 100000 in
set_option maxHeartbeats 4000000 in
theorem together_c (L R : TS) (ap : Bool) (w : World) :
    Calls Try.prog 116 #[.agg (arrT L), .agg (arrT R), .bool ap] w fun e w' => e = .returned (.agg (arrT (bothT ap L R))) ∧ Below w.heap.size w w' := by
  have hz := ts_zero
  obtain ⟨W, hW⟩ : ∃ W, W = ((w.alloc (.cells (arrT L) 117)).alloc (.cells (arrT R) 117)).alloc (.cells (arrT noT) 117) := ⟨_, rfl⟩
  have hs0 : w.heap.size + 1 + 1 + 1 = W.heap.size := by rw [hW]; simp
  have HSz : Hid (w.heap.size + 1 + 1 + 1 = W.heap.size) := hs0
  clear hs0
  have B0 : Below w.heap.size w W := by rw [hW]; exact (((Below.refl _ _).alloc (Nat.le_refl _) _).alloc (by simp) _).alloc (by simp; omega) _
  have HL : Hid (∀ (o : Obj) (i : Nat), i < 256 → (W.alloc o).cell? ⟨w.heap.size, i, none⟩ = some (.bool (L i))) := fun o i hi => by
    rw [hW, cell_old _ _ _ (by simp; omega), cell_old _ _ _ (by simp; omega), cell_old _ _ _ (by simp), cell_new, arrT_at _ hi]
  have HR : Hid (∀ (o : Obj) (i : Nat), i < 256 → (W.alloc o).cell? ⟨w.heap.size + 1, i, none⟩ = some (.bool (R i))) := fun o i hi => by
    rw [hW, cell_old _ _ _ (by simp), cell_old _ _ _ (by simp)]
    have := cell_new (w.alloc (.cells (arrT L) 117)) (arrT R) 117 i
    rw [World.size_alloc] at this
    rw [this, arrT_at _ hi]
  have HRes : Hid (∀ o : Obj, (W.alloc o).heap[w.heap.size + 1 + 1]? = some (.cells (arrT noT) 117 (0, 0))) := fun o => by
    rw [hW, heap_old _ _ (by simp)]
    have := heap_alloc_last ((w.alloc (.cells (arrT L) 117)).alloc (.cells (arrT R) 117)) (.cells (arrT noT) 117)
    rw [World.size_alloc, World.size_alloc] at this
    exact this
  go_enter Try.func116, Try.ntmps116
  go_wp2_with fail
  rw [← hW]
  clear hW hz
  have hs := HSz.out
  simp only [hs]
  go_loopw [10] (fun i wr => ∃ (k : Nat) (T : TS), k ≤ 256 ∧ i = .int .i64 (k : Int) ∧ wr = W.alloc (.cells (arrT T) 117) ∧ Hid (Both ap L R k 0 T)) (fun i _ => 256 - (intOf i).toNat)
  case atStart => exact ⟨0, noT, by omega, rfl, rfl, both_start ap L R⟩
  case round =>
    obtain ⟨k, T, hk, rfl, rfl, HB⟩ := hrel
    by_cases hlt : k < 256
    · have hlt' : (k : Int) < 256 := by omega
      have cL := HL.out (.cells (arrT T) 117) k hlt
      obtain ⟨l, hl⟩ : ∃ l, L k = l := ⟨_, rfl⟩
      have HLk : Hid (L k = l) := hl
      rw [hl] at cL
      clear hl
      cases l
      · go_wp2_with fail
        exact ⟨⟨k + 1, T, by omega, by go_num, rfl, both_skip HB.out HLk.out⟩, by simp [intOf]; omega⟩
      · go_wp2_with fail
        go_loopw [17] (fun j wr => ∃ (m : Nat) (U : TS), m ≤ 256 ∧ j = .int .i64 (m : Int) ∧ wr = W.alloc (.cells (arrT U) 117) ∧ Hid (Both ap L R k m U)) (fun j _ => 256 - (intOf j).toNat)
        case atStart => exact ⟨0, T, by omega, rfl, rfl, HB⟩
        case round =>
          obtain ⟨m, U, hm, rfl, rfl, HC⟩ := hrel
          by_cases hmt : m < 256
          · have hmt' : (m : Int) < 256 := by omega
            have cR := HR.out (.cells (arrT U) 117) m hmt
            obtain ⟨r, hr⟩ : ∃ r, R m = r := ⟨_, rfl⟩
            have HRm : Hid (R m = r) := hr
            rw [hr] at cR
            have hand : bits .and .i64 (k : Int) (m : Int) = ((k &&& m : Nat) : Int) := and_nat k m hlt hmt
            have hor : bits .or .i64 (k : Int) (m : Int) = ((k ||| m : Nat) : Int) := or_nat k m hlt hmt
            have hx : k ||| m < 256 := Nat.or_lt_two_pow (n := 8) hlt hmt
            obtain ⟨q, hq⟩ : ∃ q, ((k &&& m) != 0) = q := ⟨_, rfl⟩
            have hq' : ((((k &&& m : Nat) : Int)) != 0) = q := by rw [← hq]; rw [Bool.eq_iff_iff]; simp
            have hok : okAB ap k m = !(ap && q) := by unfold okAB; rw [hq]
            have hn0 : (R m && okAB ap k m) = (r && !(ap && q)) := by rw [hr, hok]
            have HN : Hid ((R m && okAB ap k m) = (r && !(ap && q))) := hn0
            clear hn0
            have HX : Hid (k ||| m = k ||| m) := rfl
            obtain ⟨x, hxx⟩ : ∃ x, x = k ||| m := ⟨_, rfl⟩
            have HXX : Hid (x = k ||| m) := hxx
            rw [← hxx] at hor hx
            have hx' : (x : Int) < 256 := by omega
            have cx : (arrT U)[x]? = some (.bool (U x)) := arrT_at U hx
            generalize hy : ((k &&& m : Nat) : Int) = y at hand hq'
            clear hy hr hq hok hxx HX
            cases r
            · go_wp2_with fail
              exact ⟨⟨m + 1, U, by omega, by go_num, rfl, both_no HC.out HN.out⟩, by simp [intOf]; omega⟩
            · cases ap
              · go_wp2_with fail
                refine ⟨⟨m + 1, putT U x, by omega, by go_num, ?_, ?_⟩, by simp [intOf]; omega⟩
                · rw [arrT_put U hx]
                · have := both_put HC.out hlt hmt HLk.out HN.out
                  rw [← HXX.out] at this
                  exact this
              · cases q
                · go_wp2_with fail
                  refine ⟨⟨m + 1, putT U x, by omega, by go_num, ?_, ?_⟩, by simp [intOf]; omega⟩
                  · rw [arrT_put U hx]
                  · have := both_put HC.out hlt hmt HLk.out HN.out
                    rw [← HXX.out] at this
                    exact this
                · go_wp2_with fail
                  exact ⟨⟨m + 1, U, by omega, by go_num, rfl, both_no HC.out HN.out⟩, by simp [intOf]; omega⟩
          · have hme : m = 256 := by omega
            subst hme
            go_wp2_with fail
            exact ⟨⟨k + 1, U, by omega, by go_num, rfl, both_next HC.out⟩, by simp [intOf]; omega⟩
    · have hke : k = 256 := by omega
      subst hke
      have HE : Hid (arrT T = arrT (bothT ap L R)) := arrT_ext (both_end HB.out)
      have hld := loadAt_row (W.alloc (.cells (arrT T) 117)) W.heap.size T (heap_alloc_last _ _)
      have hst := storeCells_row (W.alloc (.cells (arrT T) 117)) (w.heap.size + 1 + 1) noT T (HRes.out _)
      go_wp2_with fail
      unfold Oper.wp
      simp [execOp, Act.eval, hld, Result.andThen]
      rw [Oper.upon_value]
      have hl2 := loadVar_row ((W.alloc (.cells (arrT T) 117)).setRow (w.heap.size + 1 + 1) (arrT T)) (w.heap.size + 1 + 1) T (heap_setRow (HRes.out _))
      go_wp2
      refine bodyPost_ret (v := .agg (arrT T)) ?_ rfl ⟨by rw [HE.out], ?_⟩
      · simp [results, Try.results116, asAddr, Result.andThen, hl2]
      · exact below_setRow (B0.alloc B0.size _) (by omega) _

end Go.Proofs.Ytocdclgolhhckaa
