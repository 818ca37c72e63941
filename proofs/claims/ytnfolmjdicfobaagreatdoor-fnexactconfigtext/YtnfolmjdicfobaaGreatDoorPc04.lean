/-
  PLAIN WORDS on forms: their parts as numbers, the fault of parts, parts in memory; copies and comparisons of them.
  Conditions: each fact bears its own.
  PLAIN WORDS on lists of roles: strictly rising lists, what is put into one, what a policy's roles are. No Go text is walked here.
  Conditions: each fact bears its own.
  PLAIN FACTS on the set of a list of principals: no Go text is walked here.
  Conditions: each fact bears its own.
  PLAIN WORDS on grants: sets of principals joined and met, rising lists of grants, a set given to a role, one step of the rules. No Go text is walked here.
  Conditions: each fact bears its own.
-/
import Derived.Test.YtnfolmjdicfobaaGreatDoorPc02
import Derived.Test.YtnfolmjdicfobaaGreatDoorPc03
import Derived.Test.YtnfolmjdicfobaaGreatDoorPc01
namespace Go.Proofs.YtnfolmjdicfobaaGreatDoor
open Go.RowKit
set_option linter.unusedVariables false
set_option linter.unusedSimpArgs false

/-- A part, as five numbers. -/
structure PartI where
  k : Int
  ro : Int
  rn : Int
  l : Int
  r : Int
deriving DecidableEq, Inhabited

/-- The code of one part at its place. -/
def ptOne (k : Nat) (p : PartI) : Int :=
  if ¬ (1 ≤ p.k ∧ p.k ≤ 3) then 1
  else if p.k = 1 then (if roleB p.ro p.rn = false then 3 else if ¬ (p.l = 0 ∧ p.r = 0) then 1 else 0)
  else if ¬ (p.ro = 0 ∧ p.rn = 0) then 1 else if ¬ (0 ≤ p.l ∧ p.l < k) then 3 else if ¬ (0 ≤ p.r ∧ p.r < k) then 3 else 0

def ptTo (zs : List PartI) : Nat → Int
  | 0 => 0
  | k + 1 => if ptTo zs k ≠ 0 then ptTo zs k else match zs[k]? with
    | none => 0
    | some x => ptOne k x

def ptCode (zs : List PartI) : Int := if zs.length < 1 then 2 else if 8 < zs.length then 2 else ptTo zs zs.length

theorem ptTo_stay (zs : List PartI) (k m : Nat) (c : Int) (hc : c ≠ 0) (h : ptTo zs k = c) (hm : k ≤ m) : ptTo zs m = c := by
  induction m with
  | zero => obtain rfl : k = 0 := by omega
            exact h
  | succ m ih =>
    by_cases e : k = m + 1
    · subst e; exact h
    · have := ih (by omega)
      simp only [ptTo, this]
      rw [if_pos hc]

theorem ptTo_next {zs : List PartI} {k : Nat} {x : PartI} (hk : zs[k]? = some x) (h0 : ptTo zs k = 0) : ptTo zs (k + 1) = ptOne k x := by
  simp [ptTo, h0, hk]

theorem ptTo_low {zs : List PartI} {m : Nat} (h : ptTo zs m = 0) : ∀ k, k ≤ m → ptTo zs k = 0 := by
  intro k hk
  by_cases q : ptTo zs k = 0
  · exact q
  · have := ptTo_stay zs k m _ q rfl hk
    rw [this] at h
    exact absurd h q

theorem pt_all {zs : List PartI} (h : ptCode zs = 0) : 1 ≤ zs.length ∧ zs.length ≤ 8 ∧ ∀ k x, zs[k]? = some x → ptOne k x = 0 := by
  unfold ptCode at h
  split at h
  · cases h
  · split at h
    · cases h
    · refine ⟨by omega, by omega, fun k x e => ?_⟩
      have hk : k < zs.length := by
        by_cases q : k < zs.length
        · exact q
        · rw [List.getElem?_eq_none (by omega)] at e; cases e
      have h0 := ptTo_low h k (by omega)
      have h1 := ptTo_low h (k + 1) (by omega)
      rw [ptTo_next e h0] at h1
      exact h1

/-- A part in memory, in five cells. -/
def PartAt (w : World) (g off : Nat) (x : PartI) : Prop := w.cell? ⟨g, off, none⟩ = some (.int .i64 x.k) ∧ w.cell? ⟨g, off + 1, none⟩ = some (.int .i64 x.ro) ∧ w.cell? ⟨g, off + 2, none⟩ = some (.int .i64 x.rn) ∧ w.cell? ⟨g, off + 3, none⟩ = some (.int .i64 x.l) ∧ w.cell? ⟨g, off + 4, none⟩ = some (.int .i64 x.r)

theorem PartAt.below {w w' : World} {g off : Nat} {x : PartI} (h : PartAt w g off x) (hb : Below w.heap.size w w') : PartAt w' g off x := by
  have key : ∀ (o : Nat) (v : Value), w.cell? ⟨g, o, none⟩ = some v → w'.cell? ⟨g, o, none⟩ = some v := fun o v e => (hb.cell (p := ⟨g, o, none⟩) (World.block_lt_of_cell? w ⟨g, o, none⟩ e)).trans e
  obtain ⟨h0, h1, h2, h3, h4⟩ := h
  exact ⟨key _ _ h0, key _ _ h1, key _ _ h2, key _ _ h3, key _ _ h4⟩

theorem PartAt.lt {w : World} {g off : Nat} {x : PartI} (h : PartAt w g off x) : g < w.heap.size := World.block_lt_of_cell? w ⟨g, off, none⟩ h.1

def PartsAt (w : World) (g off : Nat) (zs : List PartI) : Prop := ∀ k x, zs[k]? = some x → PartAt w g (off + k * 5) x

theorem PartsAt.below {w w' : World} {g off : Nat} {zs : List PartI} (h : PartsAt w g off zs) (hb : Below w.heap.size w w') : PartsAt w' g off zs := fun k x e => (h k x e).below hb

/-- A slice of parts. -/
def PartsIn (w : World) (a : Option Addr) (len : Nat) (zs : List PartI) : Prop := zs.length = len ∧ (0 < len → ∃ b off, a = some ⟨b, off, none⟩ ∧ PartsAt w b off zs)

theorem PartsIn.below {w w' : World} {a : Option Addr} {len : Nat} {zs : List PartI} (h : PartsIn w a len zs) (hb : Below w.heap.size w w') : PartsIn w' a len zs := by
  refine ⟨h.1, fun hl => ?_⟩
  obtain ⟨b, off, e, hr⟩ := h.2 hl
  exact ⟨b, off, e, hr.below hb⟩

theorem PartsIn.at {w : World} {a : Option Addr} {len : Nat} {zs : List PartI} (h : PartsIn w a len zs) {k : Nat} (hk : k < len) :
    ∃ b off x, a = some ⟨b, off, none⟩ ∧ zs[k]? = some x ∧ PartAt w b (off + k * 5) x := by
  obtain ⟨b, off, e, hr⟩ := h.2 (by omega)
  have hl := h.1
  exact ⟨b, off, zs[k]'(by omega), e, List.getElem?_eq_getElem (by omega), hr k _ (List.getElem?_eq_getElem (by omega))⟩

theorem PartsIn.of {w : World} {g len : Nat} {zs : List PartI} (hl : zs.length = len) (h : PartsAt w g 0 zs) : PartsIn w (some ⟨g, 0, none⟩) len zs :=
  ⟨hl, fun _ => ⟨g, 0, rfl, h⟩⟩

def PartsArg (w : World) (a : Option Addr) (len : Nat) (zs : List PartI) : Prop := PartsIn w a len zs ∧ len ≤ maxLen

theorem parts_lt {w : World} {a : Option Addr} {n : Nat} {zs : List PartI} (h : PartsIn w a n zs) : ∀ b off, a = some ⟨b, off, none⟩ → n = 0 ∨ b < w.heap.size := by
  intro b off e
  by_cases h0 : n = 0
  · exact .inl h0
  · obtain ⟨b', off', r, e', _, hr⟩ := h.at (show 0 < n by omega)
    rw [e] at e'
    cases e'
    exact .inr hr.lt

theorem partsIn_kept {w w' : World} {a : Option Addr} {n L : Nat} {zs : List PartI} {row : Option Nat} (h : PartsIn w a n zs) (hg : w.grownBy w' row) (hL : ∀ b off, a = some ⟨b, off, none⟩ → n = 0 ∨ b < L) (hne : ∀ q, row = some q → L ≤ q) : PartsIn w' a n zs := by
  refine ⟨h.1, fun hp => ?_⟩
  obtain ⟨b, off, e, hr⟩ := h.2 hp
  have hb : b < L := by
    rcases hL b off e with h0 | h0
    · omega
    · exact h0
  refine ⟨b, off, e, fun k r hk => ?_⟩
  have hx : ∀ (o : Nat) (u : Value), w.cell? ⟨b, o, none⟩ = some u → w'.cell? ⟨b, o, none⟩ = some u := fun o u hu => hg.cell hu (fun q => by have := hne b q.symm; omega)
  obtain ⟨h0, h1, h2, h3, h4⟩ := hr k r hk
  exact ⟨hx _ _ h0, hx _ _ h1, hx _ _ h2, hx _ _ h3, hx _ _ h4⟩

/-- A block of n parts that may be written. -/
def Room5 (w : World) (g n : Nat) : Prop := (∀ j, j < n * 5 → ∃ v, w.cell? ⟨g, j, none⟩ = some v) ∧ ∀ j, w.frozen? ⟨g, j, none⟩ = false

theorem Room5.below {w w' : World} {g n : Nat} (h : Room5 w g n) (hg : g < w.heap.size) (hb : Below w.heap.size w w') : Room5 w' g n :=
  ⟨fun j hj => by obtain ⟨v, e⟩ := h.1 j hj; exact ⟨v, (hb.cell (p := ⟨g, j, none⟩) hg).trans e⟩, fun j => (hb.frozen (p := ⟨g, j, none⟩) hg).trans (h.2 j)⟩

theorem Room5.grown {w w' : World} {g n : Nat} {row : Option Nat} (h : Room5 w g n) (hg : g < w.heap.size) (hr : w.grownBy w' row) (hne : some g ≠ row) : Room5 w' g n :=
  ⟨fun j hj => by obtain ⟨v, e⟩ := h.1 j hj; exact ⟨v, hr.cell e hne⟩, fun j => by
    have := h.2 j
    unfold World.frozen? at this ⊢
    simp only at this ⊢
    rw [hr.block g hg hne]
    exact this⟩

abbrev put5 (w : World) (g o : Nat) (s : PartI) : World := (((((w.setCell ⟨g, o, none⟩ (.int .i64 s.k)).setCell ⟨g, o + 1, none⟩ (.int .i64 s.ro)).setCell ⟨g, o + 2, none⟩ (.int .i64 s.rn)).setCell ⟨g, o + 3, none⟩ (.int .i64 s.l)).setCell ⟨g, o + 4, none⟩ (.int .i64 s.r))

theorem put5_other (w : World) (g o : Nat) (s : PartI) (a : Addr) (h : ∀ j, j < 5 → a ≠ ⟨g, o + j, none⟩) : (put5 w g o s).cell? a = w.cell? a := by
  rw [World.cell?_setCell_other (h := Ne.symm (h 4 (by omega))), World.cell?_setCell_other (h := Ne.symm (h 3 (by omega))), World.cell?_setCell_other (h := Ne.symm (h 2 (by omega))), World.cell?_setCell_other (h := Ne.symm (h 1 (by omega))), World.cell?_setCell_other (h := Ne.symm (a := a) (b := ⟨g, o, none⟩) (by simpa using h 0 (by omega)))]

theorem put5_at (w : World) (g o : Nat) (s : PartI) (h : ∀ j, j < 5 → ∃ v, w.cell? ⟨g, o + j, none⟩ = some v) : PartAt (put5 w g o s) g o s := by
  obtain ⟨v0, h0⟩ := h 0 (by omega)
  obtain ⟨v1, h1⟩ := h 1 (by omega)
  obtain ⟨v2, h2⟩ := h 2 (by omega)
  obtain ⟨v3, h3⟩ := h 3 (by omega)
  obtain ⟨v4, h4⟩ := h 4 (by omega)
  rw [Nat.add_zero] at h0
  refine ⟨?_, ?_, ?_, ?_, ?_⟩ <;> simp [go_sem, h0, h1, h2, h3, h4]

theorem put5_room {w : World} {g n k : Nat} {zs : List PartI} {s : PartI} (hroom : Room5 w g n) (hd : PartsAt w g 0 (zs.take k)) (hs : zs[k]? = some s) (hk : k < n) :
    Room5 (put5 w g (k * 5) s) g n ∧ PartsAt (put5 w g (k * 5) s) g 0 (zs.take (k + 1)) := by
  have hr := put5_at w g (k * 5) s (fun j hj => hroom.1 (k * 5 + j) (by omega))
  refine ⟨⟨fun j hj => ?_, fun j => ?_⟩, fun i r e => ?_⟩
  · by_cases h : k * 5 ≤ j ∧ j < k * 5 + 5
    · have hj' : j = k * 5 ∨ j = k * 5 + 1 ∨ j = k * 5 + 2 ∨ j = k * 5 + 3 ∨ j = k * 5 + 4 := by omega
      obtain ⟨h0, h1, h2, h3, h4⟩ := hr
      rcases hj' with rfl | rfl | rfl | rfl | rfl
      · exact ⟨_, h0⟩
      · exact ⟨_, h1⟩
      · exact ⟨_, h2⟩
      · exact ⟨_, h3⟩
      · exact ⟨_, h4⟩
    · rw [put5_other w g (k * 5) s ⟨g, j, none⟩ (fun i hi e => by have e2 := congrArg Addr.off e; simp only at e2; omega)]
      exact hroom.1 j hj
  · simp only [World.frozen?_setCell]
    exact hroom.2 j
  · rw [List.getElem?_take] at e
    split at e
    · by_cases hik : i = k
      · subst hik
        rw [hs] at e
        cases e
        rw [Nat.zero_add]
        exact hr
      · have hi : i < k := by omega
        have h1 := hd i r (by rw [List.getElem?_take, if_pos hi]; exact e)
        have key : ∀ (o : Nat) (v : Value), o < k * 5 → w.cell? ⟨g, o, none⟩ = some v → (put5 w g (k * 5) s).cell? ⟨g, o, none⟩ = some v := fun o v ho hv => by
          rw [put5_other w g (k * 5) s ⟨g, o, none⟩ (fun j hj e => by have e2 := congrArg Addr.off e; simp only at e2; omega)]; exact hv
        obtain ⟨h0, h1, h2, h3, h4⟩ := h1
        exact ⟨key _ _ (by omega) h0, key _ _ (by omega) h1, key _ _ (by omega) h2, key _ _ (by omega) h3, key _ _ (by omega) h4⟩
    · cases e

theorem put5_below {w0 w : World} {B g o : Nat} (h : Below B w0 w) (hg : B ≤ g) (s : PartI) : Below B w0 (put5 w g o s) :=
  h.setCell hg _ |>.setCell hg _ |>.setCell hg _ |>.setCell hg _ |>.setCell hg _

set_option maxHeartbeats 400000 in
theorem toPart_c (x : PartI) (w : World) : Calls Tryz.prog 155 #[.agg #[.int .i64 x.k, .int .i64 x.ro, .int .i64 x.rn, .int .i64 x.l, .int .i64 x.r]] w fun e w' => e = .returned (.agg #[.int .i64 x.k, .int .i64 x.ro, .int .i64 x.rn, .int .i64 x.l, .int .i64 x.r]) ∧ Below w.heap.size w w' := by
  go_enter Tryz.func155, Tryz.ntmps155
  go_wp2
  go_returns
  exact ⟨rfl, by go_grown⟩

theorem Tryz.info105 : (Tryz.prog.info? 105).map (fun i => (i.zero, i.size, i.bytes)) = some (some (.agg #[.int .i64 0, .int .i64 0, .int .i64 0, .int .i64 0, .int .i64 0]), 5, 40) := by kernel_rfl

set_option maxHeartbeats 1000000 in
theorem toParts_room (a : Option Addr) (n cap : Nat) (zs : List PartI) (w : World) (hn : n ≤ 1048576) (h : PartsIn w a n zs) :
    Calls Tryz.prog 134 #[.slice a n cap] w fun e w' => e = .returned (.slice (some ⟨w.heap.size, 0, none⟩) n n) ∧ PartsAt w' w.heap.size 0 zs ∧ w.heap.size < w'.heap.size ∧ Below w.heap.size w w' ∧ Room5 w' w.heap.size n := by
  obtain ⟨i0, hi, hz0, hz1, hz2⟩ := info_parts Tryz.info105
  obtain ⟨wm, hmk, hownm, hgrm⟩ := run_make_full (P := Tryz.prog) (w := w) w.heap.size 40 105 i0 (.agg #[.int .i64 0, .int .i64 0, .int .i64 0, .int .i64 0, .int .i64 0]) 5 Tryz.underlying40 hi hz0 hz1 .i64 .i64 n (by rw [hz2]; omega) (by unfold maxLen; omega) (Nat.le_refl _)
  have H : Hid (PartsIn w a n zs) := h
  have hz : Hid (zs.length = n) := h.1
  clear h
  have HM : Hid (Room5 wm w.heap.size n ∧ w.heap.size < wm.heap.size) := by
    refine ⟨⟨fun j hj => ?_, fun j => hownm.frozenAt j⟩, (hownm.lt _ rfl).2⟩
    have hl := hownm.1
    exact ⟨_, (hownm.cellAt j hj).trans (List.getElem?_eq_getElem (by omega))⟩
  clear hownm
  have HG : Hid (w.grownBy wm none) := hgrm
  clear hgrm
  have hn' : (n : Int) ≤ 1048576 := by omega
  go_enter Tryz.func134, Tryz.ntmps134
  go_wp2
  go_loopw [4] (fun i wr => ∃ k : Nat, k ≤ n ∧ i = .int .i64 (k : Int) ∧ Room5 wr w.heap.size n ∧ PartsAt wr w.heap.size 0 (zs.take k) ∧ w.heap.size < wr.heap.size ∧ Below w.heap.size w wr)
    (fun i _ => n - (intOf i).toNat)
  case atStart => exact ⟨0, Nat.zero_le _, rfl, HM.out.1, fun k r e => by simp at e, HM.out.2, (Below.refl _ _).grown HG.out (Nat.le_refl _) (fun k e => by cases e)⟩
  case round =>
    obtain ⟨k, hk, rfl, hroom, hdone, hlt0, hnx⟩ := hrel
    by_cases hlt : k < n
    · obtain ⟨b, off, s, rfl, hs, hr⟩ := H.out.at hlt
      have HS : Hid (zs[k]? = some s) := hs
      have hb : b < w.heap.size := hr.lt
      clear hs
      obtain ⟨h0, h1, h2, h3, h4⟩ := hr.below hnx
      have HD : Hid (Room5 wr w.heap.size n ∧ PartsAt wr w.heap.size 0 (zs.take k)) := ⟨hroom, hdone⟩
      clear hroom hdone hr
      have hlt' : (k : Int) < (n : Int) := by omega
      go_wp2_with fail
      refine (toPart_c s _).mono ?_
      rintro e w1 ⟨rfl, hb1⟩
      obtain ⟨⟨hc, hf⟩, hd⟩ := HD.out
      have hz1 := hb1.size
      have HD1 : Hid (Room5 w1 w.heap.size n ∧ PartsAt w1 w.heap.size 0 (zs.take k) ∧ Below w.heap.size w w1) :=
        ⟨⟨fun j hj => by obtain ⟨v, e⟩ := hc j hj; exact ⟨v, (hb1.cell (p := ⟨w.heap.size, j, none⟩) hlt0).trans e⟩, fun j => (hb1.frozen (p := ⟨w.heap.size, j, none⟩) hlt0).trans (hf j)⟩, hd.below hb1, hnx.trans (hb1.mono hnx.size)⟩
      clear hc hf hd HD h0 h1 h2 h3 h4
      obtain ⟨v0, c0⟩ := HD1.out.1.1 (k * 5) (by omega)
      obtain ⟨v1, c1⟩ := HD1.out.1.1 (k * 5 + 1) (by omega)
      obtain ⟨v2, c2⟩ := HD1.out.1.1 (k * 5 + 2) (by omega)
      obtain ⟨v3, c3⟩ := HD1.out.1.1 (k * 5 + 3) (by omega)
      obtain ⟨v4, c4⟩ := HD1.out.1.1 (k * 5 + 4) (by omega)
      have f0 := HD1.out.1.2 (k * 5)
      have f1 := HD1.out.1.2 (k * 5 + 1)
      have f2 := HD1.out.1.2 (k * 5 + 2)
      have f3 := HD1.out.1.2 (k * 5 + 3)
      have f4 := HD1.out.1.2 (k * 5 + 4)
      have RM : Hid (Room5 (put5 w1 w.heap.size (k * 5) s) w.heap.size n ∧ PartsAt (put5 w1 w.heap.size (k * 5) s) w.heap.size 0 (zs.take (k + 1)) ∧ Below w.heap.size w (put5 w1 w.heap.size (k * 5) s)) := by
        have h2 := put5_room HD1.out.1 HD1.out.2.1 HS.out hlt
        exact ⟨h2.1, h2.2, put5_below HD1.out.2.2 (Nat.le_refl _) s⟩
      go_wp2
      exact ⟨⟨k + 1, by omega, by go_num, RM.out.1, RM.out.2.1, by simp only [World.size_setCell]; omega, RM.out.2.2⟩, by simp [intOf]; omega⟩
    · have hkn : k = n := by omega
      subst hkn
      rw [List.take_of_length_le (by rw [hz.out]; exact Nat.le_refl _)] at hdone
      go_wp2
      go_ret
      exact ⟨rfl, hdone, hlt0, hnx, hroom⟩

theorem toParts_c (a : Option Addr) (n cap : Nat) (zs : List PartI) (w : World) (hn : n ≤ 1048576) (h : PartsIn w a n zs) :
    Calls Tryz.prog 134 #[.slice a n cap] w fun e w' => e = .returned (.slice (some ⟨w.heap.size, 0, none⟩) n n) ∧ PartsAt w' w.heap.size 0 zs ∧ w.heap.size < w'.heap.size ∧ Below w.heap.size w w' :=
  (toParts_room a n cap zs w hn h).mono fun e w' hh => ⟨hh.1, hh.2.1, hh.2.2.1, hh.2.2.2.1⟩

set_option maxHeartbeats 1000000 in
theorem eqPart_same (x : PartI) (w : World) :
    Calls Tryz.prog 156 #[.agg #[.int .i64 x.k, .int .i64 x.ro, .int .i64 x.rn, .int .i64 x.l, .int .i64 x.r], .agg #[.int .i64 x.k, .int .i64 x.ro, .int .i64 x.rn, .int .i64 x.l, .int .i64 x.r]] w fun e w' => e = .returned (.bool true) ∧ Below w.heap.size w w' := by
  go_enter Tryz.func156, Tryz.ntmps156
  go_wp2
  go_ret
  exact ⟨rfl, by go_grown⟩

set_option maxHeartbeats 1000000 in
theorem eqParts_same (a b : Option Addr) (n c d : Nat) (zs : List PartI) (w : World) (hn : n ≤ 1048576) (ha : PartsIn w a n zs) (hb : PartsIn w b n zs) :
    Calls Tryz.prog 136 #[.slice a n c, .slice b n d] w fun e w' => e = .returned (.bool true) ∧ Below w.heap.size w w' := by
  have HA : Hid (PartsIn w a n zs) := ha
  have HB : Hid (PartsIn w b n zs) := hb
  clear ha hb
  have hn' : (n : Int) ≤ 1048576 := by omega
  go_enter Tryz.func136, Tryz.ntmps136
  go_wp2
  go_loopw [5] (fun i wr => ∃ k : Nat, k ≤ n ∧ i = .int .i64 (k : Int) ∧ Below w.heap.size w wr) (fun i _ => n - (intOf i).toNat)
  case atStart => exact ⟨0, Nat.zero_le _, rfl, Below.refl _ _⟩
  case round =>
    obtain ⟨k, hk, rfl, hnx⟩ := hrel
    by_cases hlt : k < n
    · obtain ⟨b1, o1, s, e1, hs, hr⟩ := HA.out.at hlt
      obtain ⟨b2, o2, s2, e2, hs2, hr2⟩ := HB.out.at hlt
      obtain rfl : s = s2 := Option.some.inj (hs.symm.trans hs2)
      subst e1 e2
      clear hs hs2
      obtain ⟨h0, h1, h2, h3, h4⟩ := hr.below hnx
      obtain ⟨g0, g1, g2, g3, g4⟩ := hr2.below hnx
      clear hr hr2
      have hlt' : (k : Int) < (n : Int) := by omega
      have hb1 : b1 < wr.heap.size := World.block_lt_of_cell? wr ⟨b1, o1 + k * 5, none⟩ h0
      have hb2 : b2 < wr.heap.size := World.block_lt_of_cell? wr ⟨b2, o2 + k * 5, none⟩ g0
      go_wp2
      go_region_held3 (fun w' => (∀ b o, b < wr.heap.size → w'.cell? ⟨b, o, none⟩ = wr.cell? ⟨b, o, none⟩) ∧ Below wr.heap.size wr w') (first | exact hS | exact kp_drew _)
        (first | (go_at_call 156; refine (eqPart_same s _).mono ?_; rintro e w' ⟨rfl, hb1⟩; have hS := kp_step (by assumption) hb1))
      go_wp2
      exact ⟨⟨k + 1, by omega, by go_num, hnx.trans (hS.2.mono hnx.size)⟩, by simp [intOf]; omega⟩
    · have hkn : k = n := by omega
      subst hkn
      go_wp2
      go_ret
      exact ⟨rfl, hnx⟩

end Go.Proofs.YtnfolmjdicfobaaGreatDoor

namespace Go.Proofs.YtnfolmjdicfobaaGreatDoor
open Go.RowKit

abbrev RoI := Int × Int

def ltR (a b : RoI) : Bool := decide (a.1 < b.1 ∨ (a.1 = b.1 ∧ a.2 < b.2))

theorem ltR_irrefl (a : RoI) : ltR a a = false := by simp [ltR]
theorem ltR_trans {a b c : RoI} (h : ltR a b = true) (k : ltR b c = true) : ltR a c = true := by
  simp [ltR] at *; omega
theorem ltR_total {a b : RoI} (h : ltR a b = false) (hne : a ≠ b) : ltR b a = true := by
  obtain ⟨a1, a2⟩ := a
  obtain ⟨b1, b2⟩ := b
  have hne' : ¬ (a1 = b1 ∧ a2 = b2) := fun e => hne (by rw [e.1, e.2])
  simp [ltR] at *; omega

/-- Strictly rising. -/
def SS (zs : List RoI) : Prop := zs.Pairwise (fun a b => ltR a b = true)

theorem ss_unique : ∀ (a b : List RoI), SS a → SS b → (∀ x, x ∈ a ↔ x ∈ b) → a = b
  | [], [], _, _, _ => rfl
  | [], y :: ys, _, _, h => absurd ((h y).2 (by simp)) (by simp)
  | x :: xs, [], _, _, h => absurd ((h x).1 (by simp)) (by simp)
  | x :: xs, y :: ys, ha, hb, h => by
    have ha' := List.pairwise_cons.1 ha
    have hb' := List.pairwise_cons.1 hb
    have e : x = y := by
      rcases List.mem_cons.1 ((h x).1 (by simp)) with e | e
      · exact e
      · rcases List.mem_cons.1 ((h y).2 (by simp)) with e2 | e2
        · exact e2.symm
        · have h1 := hb'.1 x e
          have h2 := ha'.1 y e2
          have := ltR_trans h1 h2
          rw [ltR_irrefl] at this
          cases this
    subst e
    rw [ss_unique xs ys ha'.2 hb'.2 (fun z => ?_)]
    constructor
    · intro hz
      rcases List.mem_cons.1 ((h z).1 (by simp [hz])) with e | e
      · subst e
        have := ha'.1 z hz
        rw [ltR_irrefl] at this
        cases this
      · exact e
    · intro hz
      rcases List.mem_cons.1 ((h z).2 (by simp [hz])) with e | e
      · subst e
        have := hb'.1 z hz
        rw [ltR_irrefl] at this
        cases this
      · exact e

/-- A role put at its place: all ahead are less, the one there is not less and is another. -/
theorem ss_insert {zs : List RoI} {r : RoI} {k : Nat} (hs : SS zs) (hlo : ∀ j x, j < k → zs[j]? = some x → ltR x r = true) (hhi : ∀ x, zs[k]? = some x → ltR x r = false ∧ x ≠ r) : SS (zs.take k ++ r :: zs.drop k) := by
  have hs2 : SS (zs.take k ++ zs.drop k) := by rw [List.take_append_drop]; exact hs
  obtain ⟨h1, h2, h3⟩ := List.pairwise_append.1 hs2
  have hr : ∀ b ∈ zs.drop k, ltR r b = true := by
    intro b hb
    cases e : zs.drop k with
    | nil => rw [e] at hb; cases hb
    | cons y ys =>
      have hy : zs[k]? = some y := by
        have : (zs.drop k)[0]? = some y := by rw [e]; rfl
        rw [List.getElem?_drop] at this
        simpa using this
      obtain ⟨h4, h5⟩ := hhi y hy
      have h6 := ltR_total h4 h5
      rw [e] at hb h2
      rcases List.mem_cons.1 hb with rfl | hb'
      · exact h6
      · exact ltR_trans h6 ((List.pairwise_cons.1 h2).1 b hb')
  refine List.pairwise_append.2 ⟨h1, List.pairwise_cons.2 ⟨hr, h2⟩, fun a ha b hb => ?_⟩
  rcases List.mem_cons.1 hb with rfl | hb'
  · obtain ⟨j, hj⟩ := List.mem_iff_getElem?.1 ha
    rw [List.getElem?_take] at hj
    split at hj
    · rename_i hjk
      exact hlo j a hjk hj
    · cases hj
  · exact h3 a ha b hb'

theorem mem_insert {zs : List RoI} {r : RoI} (k : Nat) (x : RoI) : x ∈ zs.take k ++ r :: zs.drop k ↔ x = r ∨ x ∈ zs := by
  have : x ∈ zs ↔ x ∈ zs.take k ++ zs.drop k := by rw [List.take_append_drop]
  rw [this]
  simp only [List.mem_append, List.mem_cons]
  constructor
  · rintro (h | h | h)
    · exact .inr (.inl h)
    · exact .inl h
    · exact .inr (.inr h)
  · rintro (h | h | h)
    · exact .inr (.inl h)
    · exact .inl h
    · exact .inr (.inr h)

/-- The roles that a rule names. -/
def bodyR (r : RuleI) : List RoI := if r.k = 1 then [] else if r.k = 4 then [(r.oo, r.on), (r.to, r.tn)] else [(r.oo, r.on)]
def rawR (r : RuleI) : List RoI := (r.ho, r.hn) :: bodyR r
def rawTo (zs : List RuleI) (k : Nat) : List RoI := (zs.take k).flatMap rawR

theorem rawTo_succ {zs : List RuleI} {k : Nat} {r : RuleI} (h : zs[k]? = some r) : rawTo zs (k + 1) = rawTo zs k ++ rawR r := by
  have hk : k < zs.length := by
    by_cases q : k < zs.length
    · exact q
    · rw [List.getElem?_eq_none (by omega)] at h; cases h
  have e : zs[k] = r := by rw [List.getElem?_eq_getElem hk] at h; exact Option.some.inj h
  rw [rawTo, List.take_succ_eq_append_getElem hk, List.flatMap_append, e]
  simp [rawTo]

theorem rawR_len (r : RuleI) : (rawR r).length ≤ 3 := by
  unfold rawR bodyR
  split
  · simp
  · split <;> simp

theorem rawTo_len (zs : List RuleI) (k : Nat) : (rawTo zs k).length ≤ 3 * k := by
  induction k with
  | zero => simp [rawTo]
  | succ k ih =>
    cases h : zs[k]? with
    | none =>
      have hk : zs.length ≤ k := by
        by_cases q : k < zs.length
        · rw [List.getElem?_eq_getElem q] at h; cases h
        · omega
      have : rawTo zs (k + 1) = rawTo zs k := by unfold rawTo; rw [List.take_of_length_le (by omega), List.take_of_length_le (by omega)]
      rw [this]; omega
    | some r =>
      rw [rawTo_succ h, List.length_append]
      have := rawR_len r
      omega

/-- Roles laid out flat. -/
def flat2 : List RoI → List Value
  | [] => []
  | p :: ps => .int .i64 p.1 :: .int .i64 p.2 :: flat2 ps

theorem flat2_append (a b : List RoI) : flat2 (a ++ b) = flat2 a ++ flat2 b := by
  induction a with
  | nil => rfl
  | cons p ps ih => simp [flat2, ih]

theorem flat2_len (a : List RoI) : (flat2 a).length = a.length * 2 := by
  induction a with
  | nil => rfl
  | cons p ps ih => simp [flat2, ih]; omega

theorem flat2_fst : ∀ (a : List RoI) (k : Nat) (p : RoI), a[k]? = some p → (flat2 a)[k * 2]? = some (.int .i64 p.1)
  | [], _, _, h => by simp at h
  | q :: qs, 0, p, h => by simp at h; subst h; rfl
  | q :: qs, k + 1, p, h => by
    have := flat2_fst qs k p (by simpa using h)
    rw [show (k + 1) * 2 = k * 2 + 1 + 1 by omega]
    simpa [flat2] using this

theorem flat2_snd : ∀ (a : List RoI) (k : Nat) (p : RoI), a[k]? = some p → (flat2 a)[k * 2 + 1]? = some (.int .i64 p.2)
  | [], _, _, h => by simp at h
  | q :: qs, 0, p, h => by simp at h; subst h; rfl
  | q :: qs, k + 1, p, h => by
    have := flat2_snd qs k p (by simpa using h)
    rw [show (k + 1) * 2 + 1 = k * 2 + 1 + 1 + 1 by omega]
    simpa [flat2] using this

theorem flat2_one (a : List RoI) : ∀ u ∈ flat2 a, u.oneCell' = true := by
  induction a with
  | nil => simp [flat2]
  | cons p ps ih =>
    intro u hu
    simp only [flat2, List.mem_cons] at hu
    rcases hu with rfl | rfl | hu
    · rfl
    · rfl
    · exact ih u hu

theorem flat2_take (a : List RoI) (k : Nat) : flat2 (a.take k) = (flat2 a).take (k * 2) := by
  induction a generalizing k with
  | nil => simp [flat2]
  | cons p ps ih =>
    cases k with
    | zero => simp [flat2]
    | succ k =>
      rw [show (k + 1) * 2 = k * 2 + 1 + 1 by omega]
      simp [flat2, ih]

theorem flat2_drop (a : List RoI) (k : Nat) : flat2 (a.drop k) = (flat2 a).drop (k * 2) := by
  induction a generalizing k with
  | nil => simp [flat2]
  | cons p ps ih =>
    cases k with
    | zero => simp [flat2]
    | succ k =>
      rw [show (k + 1) * 2 = k * 2 + 1 + 1 by omega]
      simp [flat2, ih]

theorem flat2_set (a : List RoI) (k : Nat) (p : RoI) : flat2 (a.set k p) = ((flat2 a).set (k * 2) (.int .i64 p.1)).set (k * 2 + 1) (.int .i64 p.2) := by
  induction a generalizing k with
  | nil => simp [flat2]
  | cons q qs ih =>
    cases k with
    | zero => simp [flat2]
    | succ k =>
      rw [show (k + 1) * 2 = k * 2 + 1 + 1 by omega]
      simp [flat2, ih]

/-- A row of roles that is owned. -/
def Owns2 (w : World) (B : Nat) (v : Value) (zs : List RoI) : Prop := w.ownsRow B 79 2 v zs.length (flat2 zs)

end Go.Proofs.YtnfolmjdicfobaaGreatDoor

namespace Go.Proofs.YtnfolmjdicfobaaGreatDoor
open Go.RowKit

/-- The set of one principal. -/
def bitI (p : Int) : Int := ((2 ^ (p - 1).toNat : Nat) : Int)

/-- The set of the first k of a list. -/
def orTo (ys : List Int) : Nat → Int
  | 0 => 0
  | k + 1 => bits .or .i64 (orTo ys k) (bitI (ys[k]?.getD 0))

/-- The first k are principals. -/
def okTo (ys : List Int) (k : Nat) : Prop := ∀ j, j < k → 1 ≤ ys[j]?.getD 0 ∧ ys[j]?.getD 0 ≤ 8

theorem or_dec : ∀ n : Fin 256, ∀ k : Fin 8, bits .or .u8 ((n.val : Nat) : Int) ((2 ^ k.val : Nat) : Int) = bits .or .i64 ((n.val : Nat) : Int) ((2 ^ k.val : Nat) : Int) ∧ 0 ≤ bits .or .i64 ((n.val : Nat) : Int) ((2 ^ k.val : Nat) : Int) ∧ bits .or .i64 ((n.val : Nat) : Int) ((2 ^ k.val : Nat) : Int) ≤ 255 := by
  decide +kernel

theorem or_u8 (m p : Int) (h0 : 0 ≤ m) (h1 : m ≤ 255) (p0 : 1 ≤ p) (p1 : p ≤ 8) :
    bits .or .u8 m (bitI p) = bits .or .i64 m (bitI p) ∧ 0 ≤ bits .or .i64 m (bitI p) ∧ bits .or .i64 m (bitI p) ≤ 255 := by
  obtain ⟨n, rfl⟩ := Int.eq_ofNat_of_zero_le h0
  exact or_dec ⟨n, by omega⟩ ⟨(p - 1).toNat, by omega⟩

theorem orTo_bd (ys : List Int) (k : Nat) (h : okTo ys k) : 0 ≤ orTo ys k ∧ orTo ys k ≤ 255 := by
  induction k with
  | zero => simp [orTo]
  | succ k ih =>
    have i := ih (fun j hj => h j (by omega))
    have y := h k (by omega)
    exact (or_u8 _ _ i.1 i.2 y.1 y.2).2

theorem okTo_or_first (ys : List Int) (n : Nat) : okTo ys n ∨ ∃ j, j < n ∧ okTo ys j ∧ ¬ (1 ≤ ys[j]?.getD 0 ∧ ys[j]?.getD 0 ≤ 8) := by
  induction n with
  | zero => exact .inl (fun j hj => by omega)
  | succ n ih =>
    rcases ih with h | ⟨j, hj, h⟩
    · by_cases hb : 1 ≤ ys[n]?.getD 0 ∧ ys[n]?.getD 0 ≤ 8
      · refine .inl (fun j hj => ?_)
        by_cases e : j = n
        · subst e; exact hb
        · exact h j (by omega)
      · exact .inr ⟨n, by omega, h, hb⟩
    · exact .inr ⟨j, by omega, h⟩

end Go.Proofs.YtnfolmjdicfobaaGreatDoor

namespace Go.Proofs.YtnfolmjdicfobaaGreatDoor
open Go.RowKit

/-! sets -/

theorem or_nat (a b : Nat) (ha : a < 256) (hb : b < 256) : bits .or .i64 (a : Int) (b : Int) = ((a ||| b : Nat) : Int) := by
  have hx : a ||| b < 2 ^ 8 := Nat.or_lt_two_pow (by omega) (by omega)
  have ea : (BitVec.ofInt 64 (a : Int)).toNat = a := by rw [BitVec.ofInt_natCast, BitVec.toNat_ofNat]; exact Nat.mod_eq_of_lt (by omega)
  have eb : (BitVec.ofInt 64 (b : Int)).toNat = b := by rw [BitVec.ofInt_natCast, BitVec.toNat_ofNat]; exact Nat.mod_eq_of_lt (by omega)
  show IntKind.i64.wrap ((BitVec.ofInt 64 (a : Int) ||| BitVec.ofInt 64 (b : Int)).toNat : Int) = _
  rw [BitVec.toNat_or, ea, eb, IntKind.wrap_i64]
  omega

theorem and_nat (a b : Nat) (ha : a < 256) (hb : b < 256) : bits .and .i64 (a : Int) (b : Int) = ((a &&& b : Nat) : Int) := by
  have hx : a &&& b < 2 ^ 8 := Nat.and_lt_two_pow _ (by omega)
  have ea : (BitVec.ofInt 64 (a : Int)).toNat = a := by rw [BitVec.ofInt_natCast, BitVec.toNat_ofNat]; exact Nat.mod_eq_of_lt (by omega)
  have eb : (BitVec.ofInt 64 (b : Int)).toNat = b := by rw [BitVec.ofInt_natCast, BitVec.toNat_ofNat]; exact Nat.mod_eq_of_lt (by omega)
  show IntKind.i64.wrap ((BitVec.ofInt 64 (a : Int) &&& BitVec.ofInt 64 (b : Int)).toNat : Int) = _
  rw [BitVec.toNat_and, ea, eb, IntKind.wrap_i64]
  omega

/-- A set: 0 to 255. -/
def setB (s : Int) : Prop := 0 ≤ s ∧ s ≤ 255
abbrev orI (a b : Int) : Int := bits .or .i64 a b
abbrev andI (a b : Int) : Int := bits .and .i64 a b

theorem or_set {a b : Int} (ha : setB a) (hb : setB b) : setB (orI a b) := by
  obtain ⟨A, rfl⟩ := Int.eq_ofNat_of_zero_le ha.1
  obtain ⟨B, rfl⟩ := Int.eq_ofNat_of_zero_le hb.1
  have h1 := ha.2
  have h2 := hb.2
  have hx : A ||| B < 2 ^ 8 := Nat.or_lt_two_pow (by omega) (by omega)
  rw [orI, or_nat A B (by omega) (by omega)]
  exact ⟨by omega, by omega⟩

theorem and_set {a b : Int} (ha : setB a) (hb : setB b) : setB (andI a b) := by
  obtain ⟨A, rfl⟩ := Int.eq_ofNat_of_zero_le ha.1
  obtain ⟨B, rfl⟩ := Int.eq_ofNat_of_zero_le hb.1
  have h1 := ha.2
  have h2 := hb.2
  have hx : A &&& B < 2 ^ 8 := Nat.and_lt_two_pow _ (by omega)
  rw [andI, and_nat A B (by omega) (by omega)]
  exact ⟨by omega, by omega⟩

theorem hasI_or {a b : Int} (ha : setB a) (hb : setB b) (p : Int) : hasI (orI a b) p = (hasI a p || hasI b p) := by
  obtain ⟨A, rfl⟩ := Int.eq_ofNat_of_zero_le ha.1
  obtain ⟨B, rfl⟩ := Int.eq_ofNat_of_zero_le hb.1
  have h1 := ha.2
  have h2 := hb.2
  rw [orI, or_nat A B (by omega) (by omega)]
  simp [hasI]

theorem hasI_and {a b : Int} (ha : setB a) (hb : setB b) (p : Int) : hasI (andI a b) p = (hasI a p && hasI b p) := by
  obtain ⟨A, rfl⟩ := Int.eq_ofNat_of_zero_le ha.1
  obtain ⟨B, rfl⟩ := Int.eq_ofNat_of_zero_le hb.1
  have h1 := ha.2
  have h2 := hb.2
  rw [andI, and_nat A B (by omega) (by omega)]
  simp [hasI]

theorem hasI_zero (p : Int) : hasI 0 p = false := by simp [hasI]

theorem set_ext {a b : Int} (ha : setB a) (hb : setB b) (h : ∀ p, 1 ≤ p → p ≤ 8 → hasI a p = hasI b p) : a = b := by
  obtain ⟨A, rfl⟩ := Int.eq_ofNat_of_zero_le ha.1
  obtain ⟨B, rfl⟩ := Int.eq_ofNat_of_zero_le hb.1
  have h1 := ha.2
  have h2 := hb.2
  have e : A = B := by
    apply Nat.eq_of_testBit_eq
    intro i
    by_cases q : i < 8
    · have := h ((i : Int) + 1) (by omega) (by omega)
      simpa [hasI] using this
    · have hi : 256 ≤ 2 ^ i := by
        have : 2 ^ 8 ≤ 2 ^ i := Nat.pow_le_pow_right (by omega) (by omega)
        omega
      rw [Nat.testBit_lt_two_pow (by omega), Nat.testBit_lt_two_pow (by omega)]
  rw [e]

theorem hasI_high {a : Int} (ha : setB a) {p : Int} (h : hasI a p = true) : p ≤ 8 := by
  by_cases q : p ≤ 8
  · exact q
  · obtain ⟨A, rfl⟩ := Int.eq_ofNat_of_zero_le ha.1
    have h1 := ha.2
    have hi : 256 ≤ 2 ^ (p - 1).toNat := by
      have : 2 ^ 8 ≤ 2 ^ (p - 1).toNat := Nat.pow_le_pow_right (by omega) (by omega)
      omega
    rw [hasI, Nat.testBit_lt_two_pow (by rw [Int.toNat_natCast]; omega)] at h
    cases h

theorem or_le {a b : Int} (ha : setB a) (hb : setB b) : a ≤ orI a b := by
  obtain ⟨A, rfl⟩ := Int.eq_ofNat_of_zero_le ha.1
  obtain ⟨B, rfl⟩ := Int.eq_ofNat_of_zero_le hb.1
  have h1 := ha.2
  have h2 := hb.2
  rw [orI, or_nat A B (by omega) (by omega)]
  have : A ≤ A ||| B := Nat.left_le_or
  omega

theorem or_pos {a b : Int} (ha : setB a) (hb : setB b) (h : 1 ≤ b) : 1 ≤ orI a b := by
  obtain ⟨A, rfl⟩ := Int.eq_ofNat_of_zero_le ha.1
  obtain ⟨B, rfl⟩ := Int.eq_ofNat_of_zero_le hb.1
  have h1 := ha.2
  have h2 := hb.2
  rw [orI, or_nat A B (by omega) (by omega)]
  have : B ≤ A ||| B := Nat.right_le_or
  omega

theorem bit_set {p : Int} (h0 : 1 ≤ p) (h1 : p ≤ 8) : setB (bitI p) := by
  have hi : 2 ^ (p - 1).toNat ≤ 2 ^ 7 := Nat.pow_le_pow_right (by omega) (by omega)
  unfold bitI setB
  generalize 2 ^ (p - 1).toNat = n at *
  omega

theorem hasI_bit {p q : Int} (h0 : 1 ≤ p) (k0 : 1 ≤ q) : hasI (bitI p) q = decide (q = p) := by
  unfold bitI hasI
  rw [Int.toNat_natCast, Nat.testBit_two_pow]
  by_cases e : q = p
  · subst e; simp
  · rw [decide_eq_false e, decide_eq_false]
    omega

/-! grants -/

abbrev GrI := RoI × Int

/-- The set of a role. -/
def ofG : List GrI → RoI → Int
  | [], _ => 0
  | x :: xs, r => if x.1 = r then x.2 else ofG xs r

/-- A set given to a role, in a rising list. -/
def insG : List GrI → RoI → Int → List GrI
  | [], r, s => [(r, s)]
  | x :: xs, r, s => if x.1 = r then (r, orI x.2 s) :: xs else if ltR r x.1 = true then (r, s) :: x :: xs else x :: insG xs r s

/-- Grants without a fault. -/
structure SG (gs : List GrI) : Prop where
  up : gs.Pairwise (fun a b => ltR a.1 b.1 = true)
  ro : ∀ x ∈ gs, roleB x.1.1 x.1.2 = true
  st : ∀ x ∈ gs, 1 ≤ x.2 ∧ x.2 ≤ 255

theorem sg_nil : SG [] := ⟨List.Pairwise.nil, fun _ h => by simp at h, fun _ h => by simp at h⟩

theorem SG.tail {x : GrI} {xs : List GrI} (h : SG (x :: xs)) : SG xs := ⟨(List.pairwise_cons.1 h.up).2, fun y hy => h.ro y (by simp [hy]), fun y hy => h.st y (by simp [hy])⟩

theorem ofG_set {gs : List GrI} (h : SG gs) (r : RoI) : setB (ofG gs r) := by
  induction gs with
  | nil => exact ⟨by simp [ofG], by simp [ofG]⟩
  | cons x xs ih =>
    unfold ofG
    split
    · have := h.st x (by simp)
      exact ⟨by omega, by omega⟩
    · exact ih h.tail

theorem ofG_none {gs : List GrI} {r : RoI} (h : ∀ x ∈ gs, x.1 ≠ r) : ofG gs r = 0 := by
  induction gs with
  | nil => rfl
  | cons x xs ih =>
    unfold ofG
    rw [if_neg (h x (by simp))]
    exact ih (fun y hy => h y (by simp [hy]))

theorem ofG_mem {gs : List GrI} (h : SG gs) {x : GrI} (hx : x ∈ gs) : ofG gs x.1 = x.2 := by
  induction gs with
  | nil => cases hx
  | cons y ys ih =>
    unfold ofG
    rcases List.mem_cons.1 hx with rfl | hx'
    · simp
    · have := (List.pairwise_cons.1 h.up).1 x hx'
      rw [if_neg (fun e => by rw [e, ltR_irrefl] at this; cases this)]
      exact ih h.tail hx'

theorem ofG_some {gs : List GrI} {r : RoI} (h : ofG gs r ≠ 0) : (r, ofG gs r) ∈ gs := by
  induction gs with
  | nil => exact absurd rfl h
  | cons y ys ih =>
    unfold ofG at h ⊢
    split
    · rename_i e
      rw [← e]
      simp
    · rename_i e
      rw [if_neg e] at h
      exact List.mem_cons_of_mem _ (ih h)

theorem sg_ext {a b : List GrI} (ha : SG a) (hb : SG b) (h : ∀ r, ofG a r = ofG b r) : a = b := by
  have key : ∀ {c : List GrI}, SG c → ∀ r, r ∈ c.map Prod.fst ↔ ofG c r ≠ 0 := by
    intro c hc r
    constructor
    · intro hr
      obtain ⟨x, hx, rfl⟩ := List.mem_map.1 hr
      rw [ofG_mem hc hx]
      have := hc.st x hx
      omega
    · intro hr
      exact List.mem_map.2 ⟨_, ofG_some hr, rfl⟩
  have e : a.map Prod.fst = b.map Prod.fst := by
    refine ss_unique _ _ (List.pairwise_map.2 ha.up) (List.pairwise_map.2 hb.up) (fun r => ?_)
    rw [key ha r, key hb r, h r]
  have back : ∀ {c : List GrI}, SG c → c = (c.map Prod.fst).map (fun r => (r, ofG c r)) := by
    intro c hc
    rw [List.map_map]
    conv => lhs; rw [← List.map_id c]
    refine List.map_congr_left (fun x hx => ?_)
    simp [ofG_mem hc hx]
  rw [back ha, back hb, e]
  exact List.map_congr_left (fun r _ => by rw [h r])

theorem insG_lo {gs : List GrI} {r : RoI} {s : Int} {q : RoI} (hq : ltR q r = true) (h : ∀ x ∈ gs, ltR q x.1 = true) : ∀ x ∈ insG gs r s, ltR q x.1 = true := by
  induction gs with
  | nil =>
    intro x hx
    simp [insG] at hx
    rw [hx]; exact hq
  | cons y ys ih =>
    intro x hx
    unfold insG at hx
    split at hx
    · rcases List.mem_cons.1 hx with rfl | hx'
      · exact hq
      · exact h x (by simp [hx'])
    · split at hx
      · rcases List.mem_cons.1 hx with rfl | hx'
        · exact hq
        · exact h x hx'
      · rcases List.mem_cons.1 hx with rfl | hx'
        · exact h x (by simp)
        · exact ih (fun z hz => h z (by simp [hz])) x hx'

theorem sg_ins {gs : List GrI} (h : SG gs) {r : RoI} {s : Int} (hr : roleB r.1 r.2 = true) (hs : 1 ≤ s ∧ s ≤ 255) : SG (insG gs r s) := by
  induction gs with
  | nil => exact ⟨by simp [insG], fun x hx => by simp [insG] at hx; rw [hx]; exact hr, fun x hx => by simp [insG] at hx; rw [hx]; exact hs⟩
  | cons y ys ih =>
    have hp := List.pairwise_cons.1 h.up
    have hy := h.st y (by simp)
    unfold insG
    split
    · rename_i e
      refine ⟨List.pairwise_cons.2 ⟨fun x hx => by rw [← e]; exact hp.1 x hx, hp.2⟩, fun x hx => ?_, fun x hx => ?_⟩
      · rcases List.mem_cons.1 hx with rfl | hx'
        · exact hr
        · exact h.ro x (by simp [hx'])
      · rcases List.mem_cons.1 hx with rfl | hx'
        · exact ⟨or_pos ⟨by omega, by omega⟩ ⟨by omega, by omega⟩ hs.1, (or_set (a := y.2) (b := s) ⟨by omega, by omega⟩ ⟨by omega, by omega⟩).2⟩
        · exact h.st x (by simp [hx'])
    · split
      · rename_i e q
        refine ⟨List.pairwise_cons.2 ⟨fun x hx => ?_, h.up⟩, fun x hx => ?_, fun x hx => ?_⟩
        · rcases List.mem_cons.1 hx with rfl | hx'
          · exact q
          · exact ltR_trans q (hp.1 x hx')
        · rcases List.mem_cons.1 hx with rfl | hx'
          · exact hr
          · exact h.ro x hx'
        · rcases List.mem_cons.1 hx with rfl | hx'
          · exact hs
          · exact h.st x hx'
      · rename_i e q
        have i := ih h.tail
        have q2 : ltR y.1 r = true := ltR_total (by simpa using q) (fun e2 => e e2.symm)
        refine ⟨List.pairwise_cons.2 ⟨insG_lo q2 hp.1, i.up⟩, fun x hx => ?_, fun x hx => ?_⟩
        · rcases List.mem_cons.1 hx with rfl | hx'
          · exact h.ro x (by simp)
          · exact i.ro x hx'
        · rcases List.mem_cons.1 hx with rfl | hx'
          · exact h.st x (by simp)
          · exact i.st x hx'

theorem zero_or {s : Int} (hs : setB s) : orI 0 s = s := by
  obtain ⟨B, rfl⟩ := Int.eq_ofNat_of_zero_le hs.1
  have h2 := hs.2
  have := or_nat 0 B (by omega) (by omega)
  simpa using this

theorem ofG_ins {gs : List GrI} (h : SG gs) {r : RoI} {s : Int} (hs : 1 ≤ s ∧ s ≤ 255) (r' : RoI) : ofG (insG gs r s) r' = if r' = r then orI (ofG gs r) s else ofG gs r' := by
  induction gs with
  | nil =>
    simp only [insG, ofG]
    by_cases e : r' = r
    · subst e; simp [zero_or ⟨by omega, hs.2⟩]
    · rw [if_neg (fun e2 => e e2.symm), if_neg e]
  | cons y ys ih =>
    have hp := List.pairwise_cons.1 h.up
    unfold insG
    by_cases e : y.1 = r
    · rw [if_pos e]
      unfold ofG
      by_cases e2 : r' = r
      · subst e2; simp [e]
      · rw [if_neg (fun q => e2 q.symm), if_neg e2, if_neg (fun q => e2 (by rw [← q, e]))]
    · rw [if_neg e]
      by_cases q : ltR r y.1 = true
      · rw [if_pos q]
        by_cases e2 : r' = r
        · subst e2
          have n : ofG (y :: ys) r' = 0 := by
            refine ofG_none (fun x hx e3 => ?_)
            have : ltR r' x.1 = true := by
              rcases List.mem_cons.1 hx with rfl | hx'
              · exact q
              · exact ltR_trans q (hp.1 x hx')
            rw [e3, ltR_irrefl] at this
            cases this
          rw [n, if_pos rfl, zero_or ⟨by omega, hs.2⟩]
          simp [ofG]
        · rw [if_neg e2]
          show ofG ((r, s) :: y :: ys) r' = _
          rw [ofG, if_neg (fun q => e2 q.symm)]
      · rw [if_neg q, ofG, ih h.tail]
        by_cases e2 : r' = r
        · subst e2
          simp [e, ofG]
        · simp [e2, ofG]

/-! how many there may be -/

theorem rising_len : ∀ (l : List Int) (a b : Int), l.Pairwise (· < ·) → (∀ x ∈ l, a ≤ x ∧ x < b) → (l.length : Int) ≤ max 0 (b - a)
  | [], a, b, _, _ => by simp; omega
  | x :: xs, a, b, h, k => by
    have hp := List.pairwise_cons.1 h
    have hx := k x (by simp)
    have := rising_len xs (x + 1) b hp.2 (fun y hy => ⟨by have := hp.1 y hy; omega, (k y (by simp [hy])).2⟩)
    simp only [List.length_cons]
    omega

theorem sg_len {gs : List GrI} (h : SG gs) : gs.length ≤ 40 := by
  have hb : ∀ x ∈ gs, 1 ≤ x.1.1 ∧ x.1.1 ≤ 8 ∧ 1 ≤ x.1.2 ∧ x.1.2 ≤ 5 := by
    intro x hx
    have := h.ro x hx
    simp [roleB, prinB, nameB] at this
    omega
  have := rising_len (gs.map (fun x => x.1.1 * 5 + x.1.2)) 6 46 (List.pairwise_map.2 (h.up.imp_of_mem (fun {a b} ha hb' q => ?_))) (fun y hy => ?_)
  · simp at this; omega
  · have h1 := hb a ha
    have h2 := hb b hb'
    simp [ltR] at q
    omega
  · obtain ⟨x, hx, rfl⟩ := List.mem_map.1 hy
    have := hb x hx
    omega

/-! the sum of the sets: it rises -/

def sumG (gs : List GrI) : Int := (gs.map Prod.snd).sum

theorem sum_ins {gs : List GrI} (h : SG gs) {r : RoI} {s : Int} (hs : 1 ≤ s ∧ s ≤ 255) : sumG gs ≤ sumG (insG gs r s) ∧ (sumG gs = sumG (insG gs r s) → insG gs r s = gs) := by
  induction gs with
  | nil => simp [sumG, insG]; omega
  | cons y ys ih =>
    have hy := h.st y (by simp)
    have i := ih h.tail
    unfold insG
    by_cases e : y.1 = r
    · rw [if_pos e]
      have := or_le (a := y.2) (b := s) ⟨by omega, by omega⟩ ⟨by omega, by omega⟩
      simp only [sumG, List.map_cons, List.sum_cons]
      refine ⟨by omega, fun q => ?_⟩
      have : orI y.2 s = y.2 := by omega
      rw [this, ← e]
    · rw [if_neg e]
      by_cases q : ltR r y.1 = true
      · rw [if_pos q]
        simp only [sumG, List.map_cons, List.sum_cons]
        exact ⟨by omega, fun q => by omega⟩
      · rw [if_neg q]
        simp only [sumG, List.map_cons, List.sum_cons] at i ⊢
        refine ⟨by omega, fun q => ?_⟩
        rw [i.2 (by omega)]

theorem sum_bd {gs : List GrI} (h : ∀ x ∈ gs, 1 ≤ x.2 ∧ x.2 ≤ 255) : 0 ≤ sumG gs ∧ sumG gs ≤ 255 * gs.length := by
  induction gs with
  | nil => simp [sumG]
  | cons y ys ih =>
    have hy := h y (by simp)
    have i := ih (fun x hx => h x (by simp [hx]))
    simp only [sumG, List.map_cons, List.sum_cons, List.length_cons] at i ⊢
    omega

theorem sum_le {gs : List GrI} (h : SG gs) : 0 ≤ sumG gs ∧ sumG gs ≤ 10200 := by
  have := sum_bd h.st
  have := sg_len h
  omega

/-! the loop that gives a set to a role -/

def addStep (r : RoI) (s : Int) (o : List GrI × Bool) (x : GrI) : List GrI × Bool :=
  if x.1 = r then (o.1 ++ [(x.1, orI x.2 s)], true)
  else if o.2 = false ∧ ltR r x.1 = true then (o.1 ++ [(r, s), x], true)
  else (o.1 ++ [x], o.2)

def addTo (gs : List GrI) (r : RoI) (s : Int) (k : Nat) : List GrI × Bool := (gs.take k).foldl (addStep r s) ([], false)

theorem addTo_zero (gs : List GrI) (r : RoI) (s : Int) : addTo gs r s 0 = ([], false) := by simp [addTo]

theorem addTo_succ {gs : List GrI} {k : Nat} {x : GrI} (h : gs[k]? = some x) (r : RoI) (s : Int) : addTo gs r s (k + 1) = addStep r s (addTo gs r s k) x := by
  have hk : k < gs.length := by
    by_cases q : k < gs.length
    · exact q
    · rw [List.getElem?_eq_none (by omega)] at h; cases h
  have e : gs[k] = x := by rw [List.getElem?_eq_getElem hk] at h; exact Option.some.inj h
  rw [addTo, List.take_succ_eq_append_getElem hk, List.foldl_append, e]
  rfl

def addEnd (r : RoI) (s : Int) (o : List GrI × Bool) : List GrI := if o.2 = true then o.1 else o.1 ++ [(r, s)]

theorem add_done (r : RoI) (s : Int) : ∀ (gs o : List GrI), (∀ x ∈ gs, x.1 ≠ r) → gs.foldl (addStep r s) (o, true) = (o ++ gs, true)
  | [], o, _ => by simp
  | x :: xs, o, h => by
    rw [List.foldl_cons]
    have : addStep r s (o, true) x = (o ++ [x], true) := by simp [addStep, h x (by simp)]
    rw [this, add_done r s xs _ (fun y hy => h y (by simp [hy]))]
    simp

theorem add_fold (r : RoI) (s : Int) : ∀ (gs o : List GrI), SG gs → addEnd r s (gs.foldl (addStep r s) (o, false)) = o ++ insG gs r s
  | [], o, _ => by simp [addEnd, insG]
  | x :: xs, o, h => by
    have hp := List.pairwise_cons.1 h.up
    rw [List.foldl_cons]
    by_cases e : x.1 = r
    · have : addStep r s (o, false) x = (o ++ [(r, orI x.2 s)], true) := by simp [addStep, e]
      rw [this, add_done r s xs _ (fun y hy q => by have := hp.1 y hy; rw [q, e, ltR_irrefl] at this; cases this)]
      simp [addEnd, insG, e]
    · by_cases q : ltR r x.1 = true
      · have : addStep r s (o, false) x = (o ++ [(r, s), x], true) := by simp [addStep, e, q]
        rw [this, add_done r s xs _ (fun y hy q2 => by have := ltR_trans q (hp.1 y hy); rw [q2, ltR_irrefl] at this; cases this)]
        simp [addEnd, insG, e, q]
      · have : addStep r s (o, false) x = (o ++ [x], false) := by simp [addStep, e, q]
        rw [this, add_fold r s xs _ h.tail]
        simp [insG, e, q]

theorem addTo_all {gs : List GrI} (h : SG gs) (r : RoI) (s : Int) : addEnd r s (addTo gs r s gs.length) = insG gs r s := by
  rw [addTo, List.take_length, add_fold r s gs [] h]
  simp

end Go.Proofs.YtnfolmjdicfobaaGreatDoor
