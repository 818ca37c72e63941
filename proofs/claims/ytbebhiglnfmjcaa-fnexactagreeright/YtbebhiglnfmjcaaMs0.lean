/-
  CONTRACTS: Msg in memory; laws.toMsgS (a copy of a slice) and laws.eqMsgS (two that are alike).
  Conditions: each contract bears its own.
-/
import Derived.Test.YtbebhiglnfmjcaaPol0
import Derived.Test.YtbebhiglnfmjcaaSpec1
import Derived.Handy
import Derived.WalkSmall
import Derived.BigQuiet
import Derived.Deep.QuietTactic
import Derived.Deep.RegionHeld3
namespace Go.Proofs.Ytbebhiglnfmjcaa
open Go.RowKit
set_option linter.unusedVariables false
set_option linter.unusedSimpArgs false

/-- Msg, as numbers. -/
structure MsI where
  f : Int
  t : Int
  k : Int
  v : Int
deriving DecidableEq, Inhabited

/-- One of them in memory. -/
def MsAt (w : World) (b o : Nat) (x : MsI) : Prop := w.cell? ⟨b, o, none⟩ = some (.int .i64 x.f) ∧ w.cell? ⟨b, o + 1, none⟩ = some (.int .i64 x.t) ∧ w.cell? ⟨b, o + 2, none⟩ = some (.int .i64 x.k) ∧ w.cell? ⟨b, o + 3, none⟩ = some (.int .i64 x.v)

theorem MsAt.below {w w' : World} {B b o : Nat} {x : MsI} (h : MsAt w b o x) (hb : Below B w w') (hB : b < B) : MsAt w' b o x :=
  ⟨(hb.cell (p := ⟨b, o, none⟩) hB).trans h.1, (hb.cell (p := ⟨b, o + 1, none⟩) hB).trans h.2.1, (hb.cell (p := ⟨b, o + 2, none⟩) hB).trans h.2.2.1, (hb.cell (p := ⟨b, o + 3, none⟩) hB).trans h.2.2.2⟩

/-- Several in memory. -/
def MsIn (w : World) (a : Option Addr) (n : Nat) (gs : List MsI) : Prop := gs.length = n ∧ (0 < n → ∃ b off, a = some ⟨b, off, none⟩ ∧ ∀ k x, gs[k]? = some x → MsAt w b (off + k * 4) x)

theorem MsIn.below {w w' : World} {a : Option Addr} {n : Nat} {gs : List MsI} (h : MsIn w a n gs) (hb : Below w.heap.size w w') : MsIn w' a n gs := by
  refine ⟨h.1, fun hn => ?_⟩
  obtain ⟨b, off, e, k⟩ := h.2 hn
  exact ⟨b, off, e, fun j x hx => (k j x hx).below hb (World.block_lt_of_cell? w ⟨b, off + j * 4, none⟩ (k j x hx).1)⟩

theorem MsIn.at {w : World} {a : Option Addr} {n : Nat} {gs : List MsI} (h : MsIn w a n gs) {k : Nat} (hk : k < n) : ∃ b off x, a = some ⟨b, off, none⟩ ∧ gs[k]? = some x ∧ MsAt w b (off + k * 4) x ∧ b < w.heap.size := by
  obtain ⟨b, off, e, q⟩ := h.2 (by omega)
  have hx := List.getElem?_eq_getElem (l := gs) (i := k) (by rw [h.1]; exact hk)
  exact ⟨b, off, _, e, hx, q k _ hx, World.block_lt_of_cell? w ⟨b, off + k * 4, none⟩ (q k _ hx).1⟩

/-- In a block, from its beginning. -/
def MssAt (w : World) (g : Nat) (gs : List MsI) : Prop := ∀ k x, gs[k]? = some x → MsAt w g (k * 4) x

theorem MssAt.below {w w' : World} {g : Nat} {gs : List MsI} (h : MssAt w g gs) (hb : Below w.heap.size w w') : MssAt w' g gs := fun k x e =>
  (h k x e).below hb (World.block_lt_of_cell? w ⟨g, k * 4, none⟩ (h k x e).1)

theorem MsIn.of {w : World} {g n : Nat} {gs : List MsI} (hl : gs.length = n) (h : MssAt w g gs) : MsIn w (some ⟨g, 0, none⟩) n gs :=
  ⟨hl, fun _ => ⟨g, 0, rfl, fun k x e => by rw [Nat.zero_add]; exact h k x e⟩⟩

/-- A block of n of them that may be written. -/
def MsRoom (w : World) (g n : Nat) : Prop := (∀ j, j < n * 4 → ∃ v, w.cell? ⟨g, j, none⟩ = some v) ∧ ∀ j, w.frozen? ⟨g, j, none⟩ = false

abbrev MsPut (w : World) (g o : Nat) (s : MsI) : World := ((((w.setCell ⟨g, o, none⟩ (.int .i64 s.f)).setCell ⟨g, o + 1, none⟩ (.int .i64 s.t)).setCell ⟨g, o + 2, none⟩ (.int .i64 s.k)).setCell ⟨g, o + 3, none⟩ (.int .i64 s.v))

theorem MsPut_other (w : World) (g o : Nat) (s : MsI) (a : Addr) (h : ∀ j, j < 4 → a ≠ ⟨g, o + j, none⟩) : (MsPut w g o s).cell? a = w.cell? a := by
  rw [World.cell?_setCell_other (h := Ne.symm (h 3 (by omega))), World.cell?_setCell_other (h := Ne.symm (h 2 (by omega))), World.cell?_setCell_other (h := Ne.symm (h 1 (by omega))), World.cell?_setCell_other (h := Ne.symm (a := a) (b := ⟨g, o, none⟩) (by simpa using h 0 (by omega)))]

theorem MsPut_at (w : World) (g o : Nat) (s : MsI) (h : ∀ j, j < 4 → ∃ v, w.cell? ⟨g, o + j, none⟩ = some v) : MsAt (MsPut w g o s) g o s := by
  obtain ⟨v0, h0⟩ := h 0 (by omega)
  obtain ⟨v1, h1⟩ := h 1 (by omega)
  obtain ⟨v2, h2⟩ := h 2 (by omega)
  obtain ⟨v3, h3⟩ := h 3 (by omega)
  rw [Nat.add_zero] at h0
  refine ⟨?_, ?_, ?_, ?_⟩ <;> simp [go_sem, h0, h1, h2, h3]

theorem MsPut_room {w : World} {g n k : Nat} {zs : List MsI} {s : MsI} (hroom : MsRoom w g n) (hd : MssAt w g (zs.take k)) (hs : zs[k]? = some s) (hk : k < n) :
    MsRoom (MsPut w g (k * 4) s) g n ∧ MssAt (MsPut w g (k * 4) s) g (zs.take (k + 1)) := by
  have hr := MsPut_at w g (k * 4) s (fun j hj => hroom.1 (k * 4 + j) (by omega))
  refine ⟨⟨fun j hj => ?_, fun j => ?_⟩, fun i r e => ?_⟩
  · by_cases h : k * 4 ≤ j ∧ j < k * 4 + 4
    · have hj' : j = k * 4 ∨ j = k * 4 + 1 ∨ j = k * 4 + 2 ∨ j = k * 4 + 3 := by omega
      obtain ⟨h0, h1, h2, h3⟩ := hr
      rcases hj' with rfl | rfl | rfl | rfl
      · exact ⟨_, h0⟩
      · exact ⟨_, h1⟩
      · exact ⟨_, h2⟩
      · exact ⟨_, h3⟩
    · rw [MsPut_other w g (k * 4) s ⟨g, j, none⟩ (fun i hi e => by have e2 := congrArg Addr.off e; simp only at e2; omega)]
      exact hroom.1 j hj
  · simp only [World.frozen?_setCell]
    exact hroom.2 j
  · rw [List.getElem?_take] at e
    split at e
    · by_cases hik : i = k
      · subst hik
        rw [hs] at e
        cases e
        exact hr
      · have hi : i < k := by omega
        have h1 := hd i r (by rw [List.getElem?_take, if_pos hi]; exact e)
        obtain ⟨h0, h1, h2, h3⟩ := h1
        refine ⟨?_, ?_, ?_, ?_⟩
        · rw [MsPut_other w g (k * 4) s ⟨g, i * 4, none⟩ (fun j hj e => by have e2 := congrArg Addr.off e; simp only at e2; omega)]; exact h0
        · rw [MsPut_other w g (k * 4) s ⟨g, i * 4 + 1, none⟩ (fun j hj e => by have e2 := congrArg Addr.off e; simp only at e2; omega)]; exact h1
        · rw [MsPut_other w g (k * 4) s ⟨g, i * 4 + 2, none⟩ (fun j hj e => by have e2 := congrArg Addr.off e; simp only at e2; omega)]; exact h2
        · rw [MsPut_other w g (k * 4) s ⟨g, i * 4 + 3, none⟩ (fun j hj e => by have e2 := congrArg Addr.off e; simp only at e2; omega)]; exact h3
    · cases e

theorem MsPut_below {w0 w : World} {B g o : Nat} (h : Below B w0 w) (hg : B ≤ g) (s : MsI) : Below B w0 (MsPut w g o s) :=
  h.setCell hg _ |>.setCell hg _ |>.setCell hg _ |>.setCell hg _

theorem Try.info51 : (Try.prog.info? 51).map (fun i => (i.zero, i.size, i.bytes)) = some (some (.agg #[.int .i64 0, .int .i64 0, .int .i64 0, .int .i64 0]), 4, 32) := by kernel_rfl

theorem Try.under26 : Try.prog.underlying 26 = some (.slice 51) := by kernel_rfl

set_option maxHeartbeats 400000 in
theorem toMsg_c (x : MsI) (w : World) : Calls Try.prog 37 #[.agg #[.int .i64 x.f, .int .i64 x.t, .int .i64 x.k, .int .i64 x.v]] w fun e w' => e = .returned (.agg #[.int .i64 x.f, .int .i64 x.t, .int .i64 x.k, .int .i64 x.v]) ∧ Below w.heap.size w w' := by
  go_enter Try.func37, Try.ntmps37
  go_wp2
  go_returns
  exact ⟨rfl, by go_grown⟩

set_option maxHeartbeats 1000000 in
theorem toMsgs_room (a : Option Addr) (n cap : Nat) (zs : List MsI) (w : World) (hn : n ≤ 1048576) (h : MsIn w a n zs) :
    Calls Try.prog 82 #[.slice a n cap] w fun e w' => e = .returned (.slice (some ⟨w.heap.size, 0, none⟩) n n) ∧ MssAt w' w.heap.size zs ∧ w.heap.size < w'.heap.size ∧ Below w.heap.size w w' ∧ MsRoom w' w.heap.size n := by
  obtain ⟨i0, hi, hz0, hz1, hz2⟩ := info_parts Try.info51
  obtain ⟨wm, hmk, hownm, hgrm⟩ := run_make_full (P := Try.prog) (w := w) w.heap.size 26 51 i0 (.agg #[.int .i64 0, .int .i64 0, .int .i64 0, .int .i64 0]) 4 Try.underlying26 hi hz0 hz1 .i64 .i64 n (by rw [hz2]; omega) (by unfold maxLen; omega) (Nat.le_refl _)
  have H : Hid (MsIn w a n zs) := h
  have hz : Hid (zs.length = n) := h.1
  clear h
  have HM : Hid (MsRoom wm w.heap.size n ∧ w.heap.size < wm.heap.size) := by
    refine ⟨⟨fun j hj => ?_, fun j => hownm.frozenAt j⟩, (hownm.lt _ rfl).2⟩
    have hl := hownm.1
    exact ⟨_, (hownm.cellAt j hj).trans (List.getElem?_eq_getElem (by omega))⟩
  clear hownm
  have HG : Hid (w.grownBy wm none) := hgrm
  clear hgrm
  have hn' : (n : Int) ≤ 1048576 := by omega
  go_enter Try.func82, Try.ntmps82
  go_wp2
  go_loopw [4] (fun i wr => ∃ k : Nat, k ≤ n ∧ i = .int .i64 (k : Int) ∧ MsRoom wr w.heap.size n ∧ MssAt wr w.heap.size (zs.take k) ∧ w.heap.size < wr.heap.size ∧ Below w.heap.size w wr)
    (fun i _ => n - (intOf i).toNat)
  case atStart => exact ⟨0, Nat.zero_le _, rfl, HM.out.1, fun k r e => by simp at e, HM.out.2, (Below.refl _ _).grown HG.out (Nat.le_refl _) (fun k e => by cases e)⟩
  case round =>
    obtain ⟨k, hk, rfl, hroom, hdone, hlt0, hnx⟩ := hrel
    by_cases hlt : k < n
    · obtain ⟨b, off, s, rfl, hs, hr, hb⟩ := H.out.at hlt
      have HS : Hid (zs[k]? = some s) := hs
      clear hs
      obtain ⟨h0, h1, h2, h3⟩ := hr.below hnx hb
      have HD : Hid (MsRoom wr w.heap.size n ∧ MssAt wr w.heap.size (zs.take k)) := ⟨hroom, hdone⟩
      clear hroom hdone hr
      have hlt' : (k : Int) < (n : Int) := by omega
      go_wp2_with fail
      refine (toMsg_c s _).mono ?_
      rintro e w1 ⟨rfl, hb1⟩
      obtain ⟨⟨hc, hf⟩, hd⟩ := HD.out
      have hz1 := hb1.size
      have HD1 : Hid (MsRoom w1 w.heap.size n ∧ MssAt w1 w.heap.size (zs.take k) ∧ Below w.heap.size w w1) :=
        ⟨⟨fun j hj => by obtain ⟨v, e⟩ := hc j hj; exact ⟨v, (hb1.cell (p := ⟨w.heap.size, j, none⟩) hlt0).trans e⟩, fun j => (hb1.frozen (p := ⟨w.heap.size, j, none⟩) hlt0).trans (hf j)⟩, hd.below hb1, hnx.trans (hb1.mono hnx.size)⟩
      clear hc hf hd HD h0 h1 h2 h3
      obtain ⟨v0, c0⟩ := HD1.out.1.1 (k * 4) (by omega)
      obtain ⟨v1, c1⟩ := HD1.out.1.1 (k * 4 + 1) (by omega)
      obtain ⟨v2, c2⟩ := HD1.out.1.1 (k * 4 + 2) (by omega)
      obtain ⟨v3, c3⟩ := HD1.out.1.1 (k * 4 + 3) (by omega)
      have f0 := HD1.out.1.2 (k * 4)
      have f1 := HD1.out.1.2 (k * 4 + 1)
      have f2 := HD1.out.1.2 (k * 4 + 2)
      have f3 := HD1.out.1.2 (k * 4 + 3)
      have RM : Hid (MsRoom (MsPut w1 w.heap.size (k * 4) s) w.heap.size n ∧ MssAt (MsPut w1 w.heap.size (k * 4) s) w.heap.size (zs.take (k + 1)) ∧ Below w.heap.size w (MsPut w1 w.heap.size (k * 4) s)) := by
        have h2 := MsPut_room HD1.out.1 HD1.out.2.1 HS.out hlt
        exact ⟨h2.1, h2.2, MsPut_below HD1.out.2.2 (Nat.le_refl _) s⟩
      go_wp2
      exact ⟨⟨k + 1, by omega, by go_num, RM.out.1, RM.out.2.1, by simp only [World.size_setCell]; omega, RM.out.2.2⟩, by simp [intOf]; omega⟩
    · have hkn : k = n := by omega
      subst hkn
      rw [List.take_of_length_le (by rw [hz.out]; exact Nat.le_refl _)] at hdone
      go_wp2
      go_ret
      exact ⟨rfl, hdone, hlt0, hnx, hroom⟩

theorem toMsgs_c (a : Option Addr) (n cap : Nat) (zs : List MsI) (w : World) (hn : n ≤ 1048576) (h : MsIn w a n zs) :
    Calls Try.prog 82 #[.slice a n cap] w fun e w' => e = .returned (.slice (some ⟨w.heap.size, 0, none⟩) n n) ∧ MssAt w' w.heap.size zs ∧ w.heap.size < w'.heap.size ∧ Below w.heap.size w w' :=
  (toMsgs_room a n cap zs w hn h).mono fun e w' hh => ⟨hh.1, hh.2.1, hh.2.2.1, hh.2.2.2.1⟩

set_option maxHeartbeats 1000000 in
theorem eqMsg_same (x : MsI) (w : World) :
    Calls Try.prog 107 #[.agg #[.int .i64 x.f, .int .i64 x.t, .int .i64 x.k, .int .i64 x.v], .agg #[.int .i64 x.f, .int .i64 x.t, .int .i64 x.k, .int .i64 x.v]] w fun e w' => e = .returned (.bool true) ∧ Below w.heap.size w w' := by
  go_enter Try.func107, Try.ntmps107
  go_wp2
  go_ret
  exact ⟨rfl, by go_grown⟩

set_option maxHeartbeats 1000000 in
theorem eqMsgs_same (a b : Option Addr) (n c d : Nat) (zs : List MsI) (w : World) (hn : n ≤ 1048576) (ha : MsIn w a n zs) (hb : MsIn w b n zs) :
    Calls Try.prog 84 #[.slice a n c, .slice b n d] w fun e w' => e = .returned (.bool true) ∧ Below w.heap.size w w' := by
  have HA : Hid (MsIn w a n zs) := ha
  have HB : Hid (MsIn w b n zs) := hb
  clear ha hb
  have hn' : (n : Int) ≤ 1048576 := by omega
  go_enter Try.func84, Try.ntmps84
  go_wp2
  go_loopw [5] (fun i wr => ∃ k : Nat, k ≤ n ∧ i = .int .i64 (k : Int) ∧ Below w.heap.size w wr) (fun i _ => n - (intOf i).toNat)
  case atStart => exact ⟨0, Nat.zero_le _, rfl, Below.refl _ _⟩
  case round =>
    obtain ⟨k, hk, rfl, hnx⟩ := hrel
    by_cases hlt : k < n
    · obtain ⟨b1, o1, s, e1, hs, hr, hl1⟩ := HA.out.at hlt
      obtain ⟨b2, o2, s2, e2, hs2, hr2, hl2⟩ := HB.out.at hlt
      obtain rfl : s = s2 := Option.some.inj (hs.symm.trans hs2)
      subst e1 e2
      clear hs hs2
      obtain ⟨h0, h1, h2, h3⟩ := hr.below hnx hl1
      obtain ⟨g0, g1, g2, g3⟩ := hr2.below hnx hl2
      clear hr hr2
      have hlt' : (k : Int) < (n : Int) := by omega
      have hb1 : b1 < wr.heap.size := World.block_lt_of_cell? wr ⟨b1, o1 + k * 4, none⟩ h0
      have hb2 : b2 < wr.heap.size := World.block_lt_of_cell? wr ⟨b2, o2 + k * 4, none⟩ g0
      go_wp2
      go_region_held3 (fun w' => (∀ b o, b < wr.heap.size → w'.cell? ⟨b, o, none⟩ = wr.cell? ⟨b, o, none⟩) ∧ Below wr.heap.size wr w') (first | exact hS | exact kp_drew _)
        (first | (go_at_call 107; refine (eqMsg_same s _).mono ?_; rintro e w' ⟨rfl, hb1⟩; have hS := kp_step (by assumption) hb1))
      go_wp2
      exact ⟨⟨k + 1, by omega, by go_num, hnx.trans (hS.2.mono hnx.size)⟩, by simp [intOf]; omega⟩
    · have hkn : k = n := by omega
      subst hkn
      go_wp2
      go_ret
      exact ⟨rfl, hnx⟩

end Go.Proofs.Ytbebhiglnfmjcaa
