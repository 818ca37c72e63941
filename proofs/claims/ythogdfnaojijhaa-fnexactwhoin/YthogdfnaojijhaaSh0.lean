/-
  CONTRACTS: Share in memory; laws.toShareS (a copy of a slice) and laws.eqShareS (two that are alike).
  Conditions: each contract bears its own.
-/
import Derived.Test.YthogdfnaojijhaaPol0
import Derived.Test.YthogdfnaojijhaaSpec1
import Derived.Handy
import Derived.WalkSmall
import Derived.BigQuiet
import Derived.Deep.QuietTactic
import Derived.Deep.RegionHeld3
namespace Go.Proofs.Ythogdfnaojijhaa
open Go.RowKit
set_option linter.unusedVariables false
set_option linter.unusedSimpArgs false

/-- Share, as numbers. -/
structure ShI where
  r : Int
  k : Int
  e : Int
  f : Int
  s : Int
  n : Int
deriving DecidableEq, Inhabited

/-- One of them in memory. -/
def ShAt (w : World) (b o : Nat) (x : ShI) : Prop := w.cell? ⟨b, o, none⟩ = some (.int .i64 x.r) ∧ w.cell? ⟨b, o + 1, none⟩ = some (.int .i64 x.k) ∧ w.cell? ⟨b, o + 2, none⟩ = some (.int .i64 x.e) ∧ w.cell? ⟨b, o + 3, none⟩ = some (.int .i64 x.f) ∧ w.cell? ⟨b, o + 4, none⟩ = some (.int .i64 x.s) ∧ w.cell? ⟨b, o + 5, none⟩ = some (.int .i64 x.n)

theorem ShAt.below {w w' : World} {B b o : Nat} {x : ShI} (h : ShAt w b o x) (hb : Below B w w') (hB : b < B) : ShAt w' b o x :=
  ⟨(hb.cell (p := ⟨b, o, none⟩) hB).trans h.1, (hb.cell (p := ⟨b, o + 1, none⟩) hB).trans h.2.1, (hb.cell (p := ⟨b, o + 2, none⟩) hB).trans h.2.2.1, (hb.cell (p := ⟨b, o + 3, none⟩) hB).trans h.2.2.2.1, (hb.cell (p := ⟨b, o + 4, none⟩) hB).trans h.2.2.2.2.1, (hb.cell (p := ⟨b, o + 5, none⟩) hB).trans h.2.2.2.2.2⟩

/-- Several in memory. -/
def ShIn (w : World) (a : Option Addr) (n : Nat) (gs : List ShI) : Prop := gs.length = n ∧ (0 < n → ∃ b off, a = some ⟨b, off, none⟩ ∧ ∀ k x, gs[k]? = some x → ShAt w b (off + k * 6) x)

theorem ShIn.below {w w' : World} {a : Option Addr} {n : Nat} {gs : List ShI} (h : ShIn w a n gs) (hb : Below w.heap.size w w') : ShIn w' a n gs := by
  refine ⟨h.1, fun hn => ?_⟩
  obtain ⟨b, off, e, k⟩ := h.2 hn
  exact ⟨b, off, e, fun j x hx => (k j x hx).below hb (World.block_lt_of_cell? w ⟨b, off + j * 6, none⟩ (k j x hx).1)⟩

theorem ShIn.at {w : World} {a : Option Addr} {n : Nat} {gs : List ShI} (h : ShIn w a n gs) {k : Nat} (hk : k < n) : ∃ b off x, a = some ⟨b, off, none⟩ ∧ gs[k]? = some x ∧ ShAt w b (off + k * 6) x ∧ b < w.heap.size := by
  obtain ⟨b, off, e, q⟩ := h.2 (by omega)
  have hx := List.getElem?_eq_getElem (l := gs) (i := k) (by rw [h.1]; exact hk)
  exact ⟨b, off, _, e, hx, q k _ hx, World.block_lt_of_cell? w ⟨b, off + k * 6, none⟩ (q k _ hx).1⟩

/-- In a block, from its beginning. -/
def ShsAt (w : World) (g : Nat) (gs : List ShI) : Prop := ∀ k x, gs[k]? = some x → ShAt w g (k * 6) x

theorem ShsAt.below {w w' : World} {g : Nat} {gs : List ShI} (h : ShsAt w g gs) (hb : Below w.heap.size w w') : ShsAt w' g gs := fun k x e =>
  (h k x e).below hb (World.block_lt_of_cell? w ⟨g, k * 6, none⟩ (h k x e).1)

theorem ShIn.of {w : World} {g n : Nat} {gs : List ShI} (hl : gs.length = n) (h : ShsAt w g gs) : ShIn w (some ⟨g, 0, none⟩) n gs :=
  ⟨hl, fun _ => ⟨g, 0, rfl, fun k x e => by rw [Nat.zero_add]; exact h k x e⟩⟩

/-- A block of n of them that may be written. -/
def ShRoom (w : World) (g n : Nat) : Prop := (∀ j, j < n * 6 → ∃ v, w.cell? ⟨g, j, none⟩ = some v) ∧ ∀ j, w.frozen? ⟨g, j, none⟩ = false

abbrev ShPut (w : World) (g o : Nat) (s : ShI) : World := ((((((w.setCell ⟨g, o, none⟩ (.int .i64 s.r)).setCell ⟨g, o + 1, none⟩ (.int .i64 s.k)).setCell ⟨g, o + 2, none⟩ (.int .i64 s.e)).setCell ⟨g, o + 3, none⟩ (.int .i64 s.f)).setCell ⟨g, o + 4, none⟩ (.int .i64 s.s)).setCell ⟨g, o + 5, none⟩ (.int .i64 s.n))

theorem ShPut_other (w : World) (g o : Nat) (s : ShI) (a : Addr) (h : ∀ j, j < 6 → a ≠ ⟨g, o + j, none⟩) : (ShPut w g o s).cell? a = w.cell? a := by
  rw [World.cell?_setCell_other (h := Ne.symm (h 5 (by omega))), World.cell?_setCell_other (h := Ne.symm (h 4 (by omega))), World.cell?_setCell_other (h := Ne.symm (h 3 (by omega))), World.cell?_setCell_other (h := Ne.symm (h 2 (by omega))), World.cell?_setCell_other (h := Ne.symm (h 1 (by omega))), World.cell?_setCell_other (h := Ne.symm (a := a) (b := ⟨g, o, none⟩) (by simpa using h 0 (by omega)))]

theorem ShPut_at (w : World) (g o : Nat) (s : ShI) (h : ∀ j, j < 6 → ∃ v, w.cell? ⟨g, o + j, none⟩ = some v) : ShAt (ShPut w g o s) g o s := by
  obtain ⟨v0, h0⟩ := h 0 (by omega)
  obtain ⟨v1, h1⟩ := h 1 (by omega)
  obtain ⟨v2, h2⟩ := h 2 (by omega)
  obtain ⟨v3, h3⟩ := h 3 (by omega)
  obtain ⟨v4, h4⟩ := h 4 (by omega)
  obtain ⟨v5, h5⟩ := h 5 (by omega)
  rw [Nat.add_zero] at h0
  refine ⟨?_, ?_, ?_, ?_, ?_, ?_⟩ <;> simp [go_sem, h0, h1, h2, h3, h4, h5]

theorem ShPut_room {w : World} {g n k : Nat} {zs : List ShI} {s : ShI} (hroom : ShRoom w g n) (hd : ShsAt w g (zs.take k)) (hs : zs[k]? = some s) (hk : k < n) :
    ShRoom (ShPut w g (k * 6) s) g n ∧ ShsAt (ShPut w g (k * 6) s) g (zs.take (k + 1)) := by
  have hr := ShPut_at w g (k * 6) s (fun j hj => hroom.1 (k * 6 + j) (by omega))
  refine ⟨⟨fun j hj => ?_, fun j => ?_⟩, fun i r e => ?_⟩
  · by_cases h : k * 6 ≤ j ∧ j < k * 6 + 6
    · have hj' : j = k * 6 ∨ j = k * 6 + 1 ∨ j = k * 6 + 2 ∨ j = k * 6 + 3 ∨ j = k * 6 + 4 ∨ j = k * 6 + 5 := by omega
      obtain ⟨h0, h1, h2, h3, h4, h5⟩ := hr
      rcases hj' with rfl | rfl | rfl | rfl | rfl | rfl
      · exact ⟨_, h0⟩
      · exact ⟨_, h1⟩
      · exact ⟨_, h2⟩
      · exact ⟨_, h3⟩
      · exact ⟨_, h4⟩
      · exact ⟨_, h5⟩
    · rw [ShPut_other w g (k * 6) s ⟨g, j, none⟩ (fun i hi e => by have e2 := congrArg Addr.off e; simp only at e2; omega)]
      exact hroom.1 j hj
  · simp only [World.frozen?_setCell]
    exact hroom.2 j
  · rw [List.getElem?_take] at e
    split at e
    · by_cases hik : i = k
      · subst hik
        rw [hs] at e
        cases e
        exact hr
      · have hi : i < k := by omega
        have h1 := hd i r (by rw [List.getElem?_take, if_pos hi]; exact e)
        obtain ⟨h0, h1, h2, h3, h4, h5⟩ := h1
        refine ⟨?_, ?_, ?_, ?_, ?_, ?_⟩
        · rw [ShPut_other w g (k * 6) s ⟨g, i * 6, none⟩ (fun j hj e => by have e2 := congrArg Addr.off e; simp only at e2; omega)]; exact h0
        · rw [ShPut_other w g (k * 6) s ⟨g, i * 6 + 1, none⟩ (fun j hj e => by have e2 := congrArg Addr.off e; simp only at e2; omega)]; exact h1
        · rw [ShPut_other w g (k * 6) s ⟨g, i * 6 + 2, none⟩ (fun j hj e => by have e2 := congrArg Addr.off e; simp only at e2; omega)]; exact h2
        · rw [ShPut_other w g (k * 6) s ⟨g, i * 6 + 3, none⟩ (fun j hj e => by have e2 := congrArg Addr.off e; simp only at e2; omega)]; exact h3
        · rw [ShPut_other w g (k * 6) s ⟨g, i * 6 + 4, none⟩ (fun j hj e => by have e2 := congrArg Addr.off e; simp only at e2; omega)]; exact h4
        · rw [ShPut_other w g (k * 6) s ⟨g, i * 6 + 5, none⟩ (fun j hj e => by have e2 := congrArg Addr.off e; simp only at e2; omega)]; exact h5
    · cases e

theorem ShPut_below {w0 w : World} {B g o : Nat} (h : Below B w0 w) (hg : B ≤ g) (s : ShI) : Below B w0 (ShPut w g o s) :=
  h.setCell hg _ |>.setCell hg _ |>.setCell hg _ |>.setCell hg _ |>.setCell hg _ |>.setCell hg _

theorem Try.info71 : (Try.prog.info? 71).map (fun i => (i.zero, i.size, i.bytes)) = some (some (.agg #[.int .i64 0, .int .i64 0, .int .i64 0, .int .i64 0, .int .i64 0, .int .i64 0]), 6, 48) := by kernel_rfl

theorem Try.under34 : Try.prog.underlying 34 = some (.slice 71) := by kernel_rfl

set_option maxHeartbeats 400000 in
theorem toShare_c (x : ShI) (w : World) : Calls Try.prog 32 #[.agg #[.int .i64 x.r, .int .i64 x.k, .int .i64 x.e, .int .i64 x.f, .int .i64 x.s, .int .i64 x.n]] w fun e w' => e = .returned (.agg #[.int .i64 x.r, .int .i64 x.k, .int .i64 x.e, .int .i64 x.f, .int .i64 x.s, .int .i64 x.n]) ∧ Below w.heap.size w w' := by
  go_enter Try.func32, Try.ntmps32
  go_wp2
  go_returns
  exact ⟨rfl, by go_grown⟩

set_option maxHeartbeats 1000000 in
theorem toShares_room (a : Option Addr) (n cap : Nat) (zs : List ShI) (w : World) (hn : n ≤ 1048576) (h : ShIn w a n zs) :
    Calls Try.prog 12 #[.slice a n cap] w fun e w' => e = .returned (.slice (some ⟨w.heap.size, 0, none⟩) n n) ∧ ShsAt w' w.heap.size zs ∧ w.heap.size < w'.heap.size ∧ Below w.heap.size w w' ∧ ShRoom w' w.heap.size n := by
  obtain ⟨i0, hi, hz0, hz1, hz2⟩ := info_parts Try.info71
  obtain ⟨wm, hmk, hownm, hgrm⟩ := run_make_full (P := Try.prog) (w := w) w.heap.size 34 71 i0 (.agg #[.int .i64 0, .int .i64 0, .int .i64 0, .int .i64 0, .int .i64 0, .int .i64 0]) 6 Try.underlying34 hi hz0 hz1 .i64 .i64 n (by rw [hz2]; omega) (by unfold maxLen; omega) (Nat.le_refl _)
  have H : Hid (ShIn w a n zs) := h
  have hz : Hid (zs.length = n) := h.1
  clear h
  have HM : Hid (ShRoom wm w.heap.size n ∧ w.heap.size < wm.heap.size) := by
    refine ⟨⟨fun j hj => ?_, fun j => hownm.frozenAt j⟩, (hownm.lt _ rfl).2⟩
    have hl := hownm.1
    exact ⟨_, (hownm.cellAt j hj).trans (List.getElem?_eq_getElem (by omega))⟩
  clear hownm
  have HG : Hid (w.grownBy wm none) := hgrm
  clear hgrm
  have hn' : (n : Int) ≤ 1048576 := by omega
  go_enter Try.func12, Try.ntmps12
  go_wp2
  go_loopw [4] (fun i wr => ∃ k : Nat, k ≤ n ∧ i = .int .i64 (k : Int) ∧ ShRoom wr w.heap.size n ∧ ShsAt wr w.heap.size (zs.take k) ∧ w.heap.size < wr.heap.size ∧ Below w.heap.size w wr)
    (fun i _ => n - (intOf i).toNat)
  case atStart => exact ⟨0, Nat.zero_le _, rfl, HM.out.1, fun k r e => by simp at e, HM.out.2, (Below.refl _ _).grown HG.out (Nat.le_refl _) (fun k e => by cases e)⟩
  case round =>
    obtain ⟨k, hk, rfl, hroom, hdone, hlt0, hnx⟩ := hrel
    by_cases hlt : k < n
    · obtain ⟨b, off, s, rfl, hs, hr, hb⟩ := H.out.at hlt
      have HS : Hid (zs[k]? = some s) := hs
      clear hs
      obtain ⟨h0, h1, h2, h3, h4, h5⟩ := hr.below hnx hb
      have HD : Hid (ShRoom wr w.heap.size n ∧ ShsAt wr w.heap.size (zs.take k)) := ⟨hroom, hdone⟩
      clear hroom hdone hr
      have hlt' : (k : Int) < (n : Int) := by omega
      go_wp2_with fail
      refine (toShare_c s _).mono ?_
      rintro e w1 ⟨rfl, hb1⟩
      obtain ⟨⟨hc, hf⟩, hd⟩ := HD.out
      have hz1 := hb1.size
      have HD1 : Hid (ShRoom w1 w.heap.size n ∧ ShsAt w1 w.heap.size (zs.take k) ∧ Below w.heap.size w w1) :=
        ⟨⟨fun j hj => by obtain ⟨v, e⟩ := hc j hj; exact ⟨v, (hb1.cell (p := ⟨w.heap.size, j, none⟩) hlt0).trans e⟩, fun j => (hb1.frozen (p := ⟨w.heap.size, j, none⟩) hlt0).trans (hf j)⟩, hd.below hb1, hnx.trans (hb1.mono hnx.size)⟩
      clear hc hf hd HD h0 h1 h2 h3 h4 h5
      obtain ⟨v0, c0⟩ := HD1.out.1.1 (k * 6) (by omega)
      obtain ⟨v1, c1⟩ := HD1.out.1.1 (k * 6 + 1) (by omega)
      obtain ⟨v2, c2⟩ := HD1.out.1.1 (k * 6 + 2) (by omega)
      obtain ⟨v3, c3⟩ := HD1.out.1.1 (k * 6 + 3) (by omega)
      obtain ⟨v4, c4⟩ := HD1.out.1.1 (k * 6 + 4) (by omega)
      obtain ⟨v5, c5⟩ := HD1.out.1.1 (k * 6 + 5) (by omega)
      have f0 := HD1.out.1.2 (k * 6)
      have f1 := HD1.out.1.2 (k * 6 + 1)
      have f2 := HD1.out.1.2 (k * 6 + 2)
      have f3 := HD1.out.1.2 (k * 6 + 3)
      have f4 := HD1.out.1.2 (k * 6 + 4)
      have f5 := HD1.out.1.2 (k * 6 + 5)
      have RM : Hid (ShRoom (ShPut w1 w.heap.size (k * 6) s) w.heap.size n ∧ ShsAt (ShPut w1 w.heap.size (k * 6) s) w.heap.size (zs.take (k + 1)) ∧ Below w.heap.size w (ShPut w1 w.heap.size (k * 6) s)) := by
        have h2 := ShPut_room HD1.out.1 HD1.out.2.1 HS.out hlt
        exact ⟨h2.1, h2.2, ShPut_below HD1.out.2.2 (Nat.le_refl _) s⟩
      go_wp2
      exact ⟨⟨k + 1, by omega, by go_num, RM.out.1, RM.out.2.1, by simp only [World.size_setCell]; omega, RM.out.2.2⟩, by simp [intOf]; omega⟩
    · have hkn : k = n := by omega
      subst hkn
      rw [List.take_of_length_le (by rw [hz.out]; exact Nat.le_refl _)] at hdone
      go_wp2
      go_ret
      exact ⟨rfl, hdone, hlt0, hnx, hroom⟩

theorem toShares_c (a : Option Addr) (n cap : Nat) (zs : List ShI) (w : World) (hn : n ≤ 1048576) (h : ShIn w a n zs) :
    Calls Try.prog 12 #[.slice a n cap] w fun e w' => e = .returned (.slice (some ⟨w.heap.size, 0, none⟩) n n) ∧ ShsAt w' w.heap.size zs ∧ w.heap.size < w'.heap.size ∧ Below w.heap.size w w' :=
  (toShares_room a n cap zs w hn h).mono fun e w' hh => ⟨hh.1, hh.2.1, hh.2.2.1, hh.2.2.2.1⟩

set_option maxHeartbeats 1000000 in
theorem eqShare_same (x : ShI) (w : World) :
    Calls Try.prog 40 #[.agg #[.int .i64 x.r, .int .i64 x.k, .int .i64 x.e, .int .i64 x.f, .int .i64 x.s, .int .i64 x.n], .agg #[.int .i64 x.r, .int .i64 x.k, .int .i64 x.e, .int .i64 x.f, .int .i64 x.s, .int .i64 x.n]] w fun e w' => e = .returned (.bool true) ∧ Below w.heap.size w w' := by
  go_enter Try.func40, Try.ntmps40
  go_wp2
  go_ret
  exact ⟨rfl, by go_grown⟩

set_option maxHeartbeats 1000000 in
theorem eqShares_same (a b : Option Addr) (n c d : Nat) (zs : List ShI) (w : World) (hn : n ≤ 1048576) (ha : ShIn w a n zs) (hb : ShIn w b n zs) :
    Calls Try.prog 16 #[.slice a n c, .slice b n d] w fun e w' => e = .returned (.bool true) ∧ Below w.heap.size w w' := by
  have HA : Hid (ShIn w a n zs) := ha
  have HB : Hid (ShIn w b n zs) := hb
  clear ha hb
  have hn' : (n : Int) ≤ 1048576 := by omega
  go_enter Try.func16, Try.ntmps16
  go_wp2
  go_loopw [5] (fun i wr => ∃ k : Nat, k ≤ n ∧ i = .int .i64 (k : Int) ∧ Below w.heap.size w wr) (fun i _ => n - (intOf i).toNat)
  case atStart => exact ⟨0, Nat.zero_le _, rfl, Below.refl _ _⟩
  case round =>
    obtain ⟨k, hk, rfl, hnx⟩ := hrel
    by_cases hlt : k < n
    · obtain ⟨b1, o1, s, e1, hs, hr, hl1⟩ := HA.out.at hlt
      obtain ⟨b2, o2, s2, e2, hs2, hr2, hl2⟩ := HB.out.at hlt
      obtain rfl : s = s2 := Option.some.inj (hs.symm.trans hs2)
      subst e1 e2
      clear hs hs2
      obtain ⟨h0, h1, h2, h3, h4, h5⟩ := hr.below hnx hl1
      obtain ⟨g0, g1, g2, g3, g4, g5⟩ := hr2.below hnx hl2
      clear hr hr2
      have hlt' : (k : Int) < (n : Int) := by omega
      have hb1 : b1 < wr.heap.size := World.block_lt_of_cell? wr ⟨b1, o1 + k * 6, none⟩ h0
      have hb2 : b2 < wr.heap.size := World.block_lt_of_cell? wr ⟨b2, o2 + k * 6, none⟩ g0
      go_wp2
      go_region_held3 (fun w' => (∀ b o, b < wr.heap.size → w'.cell? ⟨b, o, none⟩ = wr.cell? ⟨b, o, none⟩) ∧ Below wr.heap.size wr w') (first | exact hS | exact kp_drew _)
        (first | (go_at_call 40; refine (eqShare_same s _).mono ?_; rintro e w' ⟨rfl, hb1⟩; have hS := kp_step (by assumption) hb1))
      go_wp2
      exact ⟨⟨k + 1, by omega, by go_num, hnx.trans (hS.2.mono hnx.size)⟩, by simp [intOf]; omega⟩
    · have hkn : k = n := by omega
      subst hkn
      go_wp2
      go_ret
      exact ⟨rfl, hnx⟩

end Go.Proofs.Ythogdfnaojijhaa
