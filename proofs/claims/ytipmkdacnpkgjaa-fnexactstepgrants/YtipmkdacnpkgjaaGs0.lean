/-
  CONTRACTS: laws.toGrantS (a copy of a slice of grants) and laws.eqGrantS (two that are alike).
  Conditions: each contract bears its own.
-/
import Derived.Test.YtipmkdacnpkgjaaGr4
import Derived.Test.YtipmkdacnpkgjaaPol3
import Derived.Deep.RegionHeld3
namespace Go.Proofs.Ytipmkdacnpkgjaa
open Go.RowKit
set_option linter.unusedVariables false
set_option linter.unusedSimpArgs false

/-- Grants in a block, three cells each. -/
def GrsAt (w : World) (g : Nat) (gs : List GrI) : Prop := ∀ k x, gs[k]? = some x → GrAt w g (k * 3) x

theorem GrsAt.below {w w' : World} {g : Nat} {gs : List GrI} (h : GrsAt w g gs) (hb : Below w.heap.size w w') : GrsAt w' g gs := fun k x e =>
  (h k x e).below hb (World.block_lt_of_cell? w ⟨g, k * 3, none⟩ (h k x e).1)

theorem GrIn.of {w : World} {g n : Nat} {gs : List GrI} (hl : gs.length = n) (h : GrsAt w g gs) : GrIn w (some ⟨g, 0, none⟩) n gs :=
  ⟨hl, fun _ => ⟨g, 0, rfl, fun k x e => by rw [Nat.zero_add]; exact h k x e⟩⟩

/-- A block of n grants that may be written. -/
def Room3 (w : World) (g n : Nat) : Prop := (∀ j, j < n * 3 → ∃ v, w.cell? ⟨g, j, none⟩ = some v) ∧ ∀ j, w.frozen? ⟨g, j, none⟩ = false

abbrev put3 (w : World) (g o : Nat) (s : GrI) : World := (((w.setCell ⟨g, o, none⟩ (.int .i64 s.1.1)).setCell ⟨g, o + 1, none⟩ (.int .i64 s.1.2)).setCell ⟨g, o + 2, none⟩ (.int .i64 s.2))

theorem put3_other (w : World) (g o : Nat) (s : GrI) (a : Addr) (h : ∀ j, j < 3 → a ≠ ⟨g, o + j, none⟩) : (put3 w g o s).cell? a = w.cell? a := by
  rw [World.cell?_setCell_other (h := Ne.symm (h 2 (by omega))), World.cell?_setCell_other (h := Ne.symm (h 1 (by omega))), World.cell?_setCell_other (h := Ne.symm (a := a) (b := ⟨g, o, none⟩) (by simpa using h 0 (by omega)))]

theorem put3_gr (w : World) (g o : Nat) (s : GrI) (h : ∀ j, j < 3 → ∃ v, w.cell? ⟨g, o + j, none⟩ = some v) : GrAt (put3 w g o s) g o s := by
  obtain ⟨v0, h0⟩ := h 0 (by omega)
  obtain ⟨v1, h1⟩ := h 1 (by omega)
  obtain ⟨v2, h2⟩ := h 2 (by omega)
  rw [Nat.add_zero] at h0
  refine ⟨?_, ?_, ?_⟩ <;> simp [go_sem, h0, h1, h2]

theorem put3_room {w : World} {g n k : Nat} {zs : List GrI} {s : GrI} (hroom : Room3 w g n) (hd : GrsAt w g (zs.take k)) (hs : zs[k]? = some s) (hk : k < n) :
    Room3 (put3 w g (k * 3) s) g n ∧ GrsAt (put3 w g (k * 3) s) g (zs.take (k + 1)) := by
  have hr := put3_gr w g (k * 3) s (fun j hj => hroom.1 (k * 3 + j) (by omega))
  refine ⟨⟨fun j hj => ?_, fun j => ?_⟩, fun i r e => ?_⟩
  · by_cases h : k * 3 ≤ j ∧ j < k * 3 + 3
    · have hj' : j = k * 3 ∨ j = k * 3 + 1 ∨ j = k * 3 + 2 := by omega
      obtain ⟨h0, h1, h2⟩ := hr
      rcases hj' with rfl | rfl | rfl
      · exact ⟨_, h0⟩
      · exact ⟨_, h1⟩
      · exact ⟨_, h2⟩
    · rw [put3_other w g (k * 3) s ⟨g, j, none⟩ (fun i hi e => by have e2 := congrArg Addr.off e; simp only at e2; omega)]
      exact hroom.1 j hj
  · simp only [World.frozen?_setCell]
    exact hroom.2 j
  · rw [List.getElem?_take] at e
    split at e
    · by_cases hik : i = k
      · subst hik
        rw [hs] at e
        cases e
        exact hr
      · have hi : i < k := by omega
        have h1 := hd i r (by rw [List.getElem?_take, if_pos hi]; exact e)
        obtain ⟨h0, h1, h2⟩ := h1
        refine ⟨?_, ?_, ?_⟩
        · rw [put3_other w g (k * 3) s ⟨g, i * 3, none⟩ (fun j hj e => by have e2 := congrArg Addr.off e; simp only at e2; omega)]; exact h0
        · rw [put3_other w g (k * 3) s ⟨g, i * 3 + 1, none⟩ (fun j hj e => by have e2 := congrArg Addr.off e; simp only at e2; omega)]; exact h1
        · rw [put3_other w g (k * 3) s ⟨g, i * 3 + 2, none⟩ (fun j hj e => by have e2 := congrArg Addr.off e; simp only at e2; omega)]; exact h2
    · cases e

theorem put3_below {w0 w : World} {B g o : Nat} (h : Below B w0 w) (hg : B ≤ g) (s : GrI) : Below B w0 (put3 w g o s) :=
  h.setCell hg _ |>.setCell hg _ |>.setCell hg _

set_option maxHeartbeats 400000 in
theorem toRoleL_c (o n : Int) (w : World) : Calls Try.prog 22 #[.agg #[.int .i64 o, .int .i64 n]] w fun e w' => e = .returned (.agg #[.int .i64 o, .int .i64 n]) ∧ Below w.heap.size w w' := by
  go_enter Try.func22, Try.ntmps22
  go_wp2
  go_returns
  exact ⟨rfl, by go_grown⟩

set_option maxHeartbeats 400000 in
theorem toGrant_c (x : GrI) (w : World) : Calls Try.prog 62 #[.agg #[.int .i64 x.1.1, .int .i64 x.1.2, .int .i64 x.2]] w fun e w' => e = .returned (.agg #[.int .i64 x.1.1, .int .i64 x.1.2, .int .i64 x.2]) ∧ Below w.heap.size w w' := by
  go_enter Try.func62, Try.ntmps62
  go_wp2
  go_returns
  exact ⟨rfl, by go_grown⟩

set_option maxHeartbeats 1000000 in
theorem toGrants_room (a : Option Addr) (n cap : Nat) (zs : List GrI) (w : World) (hn : n ≤ 1048576) (h : GrIn w a n zs) :
    Calls Try.prog 30 #[.slice a n cap] w fun e w' => e = .returned (.slice (some ⟨w.heap.size, 0, none⟩) n n) ∧ GrsAt w' w.heap.size zs ∧ w.heap.size < w'.heap.size ∧ Below w.heap.size w w' ∧ Room3 w' w.heap.size n := by
  obtain ⟨i0, hi, hz0, hz1, hz2⟩ := info_parts Try.info37
  obtain ⟨wm, hmk, hownm, hgrm⟩ := run_make_full (P := Try.prog) (w := w) w.heap.size 25 37 i0 (.agg #[.int .i64 0, .int .i64 0, .int .i64 0]) 3 Try.underlying25 hi hz0 hz1 .i64 .i64 n (by rw [hz2]; omega) (by unfold maxLen; omega) (Nat.le_refl _)
  have H : Hid (GrIn w a n zs) := h
  have hz : Hid (zs.length = n) := h.1
  clear h
  have HM : Hid (Room3 wm w.heap.size n ∧ w.heap.size < wm.heap.size) := by
    refine ⟨⟨fun j hj => ?_, fun j => hownm.frozenAt j⟩, (hownm.lt _ rfl).2⟩
    have hl := hownm.1
    exact ⟨_, (hownm.cellAt j hj).trans (List.getElem?_eq_getElem (by omega))⟩
  clear hownm
  have HG : Hid (w.grownBy wm none) := hgrm
  clear hgrm
  have hn' : (n : Int) ≤ 1048576 := by omega
  go_enter Try.func30, Try.ntmps30
  go_wp2
  go_loopw [4] (fun i wr => ∃ k : Nat, k ≤ n ∧ i = .int .i64 (k : Int) ∧ Room3 wr w.heap.size n ∧ GrsAt wr w.heap.size (zs.take k) ∧ w.heap.size < wr.heap.size ∧ Below w.heap.size w wr)
    (fun i _ => n - (intOf i).toNat)
  case atStart => exact ⟨0, Nat.zero_le _, rfl, HM.out.1, fun k r e => by simp at e, HM.out.2, (Below.refl _ _).grown HG.out (Nat.le_refl _) (fun k e => by cases e)⟩
  case round =>
    obtain ⟨k, hk, rfl, hroom, hdone, hlt0, hnx⟩ := hrel
    by_cases hlt : k < n
    · obtain ⟨b, off, s, rfl, hs, hr, hb⟩ := H.out.at hlt
      have HS : Hid (zs[k]? = some s) := hs
      clear hs
      obtain ⟨h0, h1, h2⟩ := hr.below hnx hb
      have HD : Hid (Room3 wr w.heap.size n ∧ GrsAt wr w.heap.size (zs.take k)) := ⟨hroom, hdone⟩
      clear hroom hdone hr
      have hlt' : (k : Int) < (n : Int) := by omega
      go_wp2_with fail
      refine (toGrant_c s _).mono ?_
      rintro e w1 ⟨rfl, hb1⟩
      obtain ⟨⟨hc, hf⟩, hd⟩ := HD.out
      have hz1 := hb1.size
      have HD1 : Hid (Room3 w1 w.heap.size n ∧ GrsAt w1 w.heap.size (zs.take k) ∧ Below w.heap.size w w1) :=
        ⟨⟨fun j hj => by obtain ⟨v, e⟩ := hc j hj; exact ⟨v, (hb1.cell (p := ⟨w.heap.size, j, none⟩) hlt0).trans e⟩, fun j => (hb1.frozen (p := ⟨w.heap.size, j, none⟩) hlt0).trans (hf j)⟩, hd.below hb1, hnx.trans (hb1.mono hnx.size)⟩
      clear hc hf hd HD h0 h1 h2
      obtain ⟨v0, c0⟩ := HD1.out.1.1 (k * 3) (by omega)
      obtain ⟨v1, c1⟩ := HD1.out.1.1 (k * 3 + 1) (by omega)
      obtain ⟨v2, c2⟩ := HD1.out.1.1 (k * 3 + 2) (by omega)
      have f0 := HD1.out.1.2 (k * 3)
      have f1 := HD1.out.1.2 (k * 3 + 1)
      have f2 := HD1.out.1.2 (k * 3 + 2)
      have RM : Hid (Room3 (put3 w1 w.heap.size (k * 3) s) w.heap.size n ∧ GrsAt (put3 w1 w.heap.size (k * 3) s) w.heap.size (zs.take (k + 1)) ∧ Below w.heap.size w (put3 w1 w.heap.size (k * 3) s)) := by
        have h2 := put3_room HD1.out.1 HD1.out.2.1 HS.out hlt
        exact ⟨h2.1, h2.2, put3_below HD1.out.2.2 (Nat.le_refl _) s⟩
      go_wp2
      exact ⟨⟨k + 1, by omega, by go_num, RM.out.1, RM.out.2.1, by simp only [World.size_setCell]; omega, RM.out.2.2⟩, by simp [intOf]; omega⟩
    · have hkn : k = n := by omega
      subst hkn
      rw [List.take_of_length_le (by rw [hz.out]; exact Nat.le_refl _)] at hdone
      go_wp2
      go_ret
      exact ⟨rfl, hdone, hlt0, hnx, hroom⟩

theorem toGrants_c (a : Option Addr) (n cap : Nat) (zs : List GrI) (w : World) (hn : n ≤ 1048576) (h : GrIn w a n zs) :
    Calls Try.prog 30 #[.slice a n cap] w fun e w' => e = .returned (.slice (some ⟨w.heap.size, 0, none⟩) n n) ∧ GrsAt w' w.heap.size zs ∧ w.heap.size < w'.heap.size ∧ Below w.heap.size w w' :=
  (toGrants_room a n cap zs w hn h).mono fun e w' hh => ⟨hh.1, hh.2.1, hh.2.2.1, hh.2.2.2.1⟩

set_option maxHeartbeats 1000000 in
theorem eqGrant_same (x : GrI) (w : World) :
    Calls Try.prog 63 #[.agg #[.int .i64 x.1.1, .int .i64 x.1.2, .int .i64 x.2], .agg #[.int .i64 x.1.1, .int .i64 x.1.2, .int .i64 x.2]] w fun e w' => e = .returned (.bool true) ∧ Below w.heap.size w w' := by
  go_enter Try.func63, Try.ntmps63
  go_wp2
  go_ret
  exact ⟨rfl, by go_grown⟩

set_option maxHeartbeats 1000000 in
theorem eqGrants_same (a b : Option Addr) (n c d : Nat) (zs : List GrI) (w : World) (hn : n ≤ 1048576) (ha : GrIn w a n zs) (hb : GrIn w b n zs) :
    Calls Try.prog 31 #[.slice a n c, .slice b n d] w fun e w' => e = .returned (.bool true) ∧ Below w.heap.size w w' := by
  have HA : Hid (GrIn w a n zs) := ha
  have HB : Hid (GrIn w b n zs) := hb
  clear ha hb
  have hn' : (n : Int) ≤ 1048576 := by omega
  go_enter Try.func31, Try.ntmps31
  go_wp2
  go_loopw [5] (fun i wr => ∃ k : Nat, k ≤ n ∧ i = .int .i64 (k : Int) ∧ Below w.heap.size w wr) (fun i _ => n - (intOf i).toNat)
  case atStart => exact ⟨0, Nat.zero_le _, rfl, Below.refl _ _⟩
  case round =>
    obtain ⟨k, hk, rfl, hnx⟩ := hrel
    by_cases hlt : k < n
    · obtain ⟨b1, o1, s, e1, hs, hr, hl1⟩ := HA.out.at hlt
      obtain ⟨b2, o2, s2, e2, hs2, hr2, hl2⟩ := HB.out.at hlt
      obtain rfl : s = s2 := Option.some.inj (hs.symm.trans hs2)
      subst e1 e2
      clear hs hs2
      obtain ⟨h0, h1, h2⟩ := hr.below hnx hl1
      obtain ⟨g0, g1, g2⟩ := hr2.below hnx hl2
      clear hr hr2
      have hlt' : (k : Int) < (n : Int) := by omega
      have hb1 : b1 < wr.heap.size := World.block_lt_of_cell? wr ⟨b1, o1 + k * 3, none⟩ h0
      have hb2 : b2 < wr.heap.size := World.block_lt_of_cell? wr ⟨b2, o2 + k * 3, none⟩ g0
      go_wp2
      go_region_held3 (fun w' => (∀ b o, b < wr.heap.size → w'.cell? ⟨b, o, none⟩ = wr.cell? ⟨b, o, none⟩) ∧ Below wr.heap.size wr w') (first | exact hS | exact kp_drew _)
        (first | (go_at_call 63; refine (eqGrant_same s _).mono ?_; rintro e w' ⟨rfl, hb1⟩; have hS := kp_step (by assumption) hb1))
      go_wp2
      exact ⟨⟨k + 1, by omega, by go_num, hnx.trans (hS.2.mono hnx.size)⟩, by simp [intOf]; omega⟩
    · have hkn : k = n := by omega
      subst hkn
      go_wp2
      go_ret
      exact ⟨rfl, hnx⟩

end Go.Proofs.Ytipmkdacnpkgjaa
