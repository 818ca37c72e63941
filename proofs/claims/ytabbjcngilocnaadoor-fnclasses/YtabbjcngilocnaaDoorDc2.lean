/-
  CONTRACTS: spec.l5Bent: locks drawn from a source, now and then with a fault.
  Conditions: each contract bears its own.
-/
import Derived.Test.YtabbjcngilocnaaDoorDc1
import Derived.Test.YtabbjcngilocnaaDoorTn1
namespace Go.Proofs.YtabbjcngilocnaaDoor
open Go.RowKit
set_option linter.unusedVariables false
set_option linter.unusedSimpArgs false

/-- Locks drawn, with a fault or not. -/
structure LB (w wr : World) (B : Nat) (a : Option Addr) (len cap kk : Nat) (ys : List Int) (a' : Option Addr) (cp : Nat) (L : List LkI) : Prop where
  ow : OwnLk wr w.heap.size (.slice a' L.length cp) L
  ds : DS w wr B a len cap kk ys
  ln : L.length ≤ 201

theorem LB.draw {w wr wr' : World} {B : Nat} {a : Option Addr} {len cap kk k' : Nat} {ys : List Int} {a' : Option Addr} {cp : Nat} {L : List LkI} (h : LB w wr B a len cap kk ys a' cp L) (hB : B < w.heap.size) (hs : SrcAt wr' B a len cap k' ys) (hg : wr.grownBy wr' (some B)) : LB w wr' B a len cap k' ys a' cp L :=
  ⟨ownLk_kept h.ow hg hB, h.ds.draw hs hg, h.ln⟩

theorem LB.below {w wr wr' : World} {B : Nat} {a : Option Addr} {len cap kk : Nat} {ys : List Int} {a' : Option Addr} {cp : Nat} {L : List LkI} (h : LB w wr B a len cap kk ys a' cp L) (hb : Below wr.heap.size wr wr') : LB w wr' B a len cap kk ys a' cp L :=
  ⟨h.ow.below hb, h.ds.below hb, h.ln⟩

theorem flat_zero (n : Nat) : flatLk (List.replicate n (⟨0, 0, 0, 0⟩ : LkI)) = List.replicate (n * 4) (Value.int .i64 0) := by
  induction n with
  | zero => rfl
  | succ n ih => rw [show (n + 1) * 4 = n * 4 + 1 + 1 + 1 + 1 by omega]; simp [List.replicate_succ, flatLk, ih]

theorem made_zero (n : Nat) : (madeCells (Value.agg #[.int .i64 0, .int .i64 0, .int .i64 0, .int .i64 0]).cells (n * 4)).toList = List.replicate (n * 4) (Value.int .i64 0) := by
  apply List.ext_getElem?
  intro j
  by_cases hj : j < n * 4
  · have h4 : j % 4 = 0 ∨ j % 4 = 1 ∨ j % 4 = 2 ∨ j % 4 = 3 := by omega
    have hz : (Value.agg #[.int .i64 0, .int .i64 0, .int .i64 0, .int .i64 0]).cells = #[Value.int .i64 0, .int .i64 0, .int .i64 0, .int .i64 0] := rfl
    rw [hz]
    rcases h4 with h | h | h | h <;> simp [madeCells, hj, h]
  · simp [madeCells, hj]

set_option maxRecDepth 20000 in
set_option maxHeartbeats 4000000 in
theorem bentL_c (w : World) (B : Nat) (a : Option Addr) (len cap k0 : Nat) (ys : List Int) (h : SrcAt w B a len cap k0 ys) (hl : len ≤ 1048576) (hk0 : k0 ≤ 600) :
    Calls Tryd.prog 17 #[.pointer (some ⟨B, 0, none⟩)] w fun e w' => ∃ (a' : Option Addr) (cp kk : Nat) (L : List LkI), e = .returned (.slice a' L.length cp) ∧ kk ≤ k0 + 40 ∧ LB w w' B a len cap kk ys a' cp L := by
  have hB := h.lt
  have HCode : Hid (∀ b off, a = some ⟨b, off, none⟩ → len = 0 ∨ b < w.heap.size) := h.code_lt
  obtain ⟨i0, hi, hz0, hz1, hz2⟩ := info_parts Tryd.info36
  have HS : Hid (SrcAt w B a len cap k0 ys) := h
  clear h
  go_enter Tryd.func17, Tryd.ntmps17
  go_wp2_with fail
  refine (right_c w B a len cap k0 ys HS.out hl (by omega)).mono ?_
  rintro e w1 ⟨a', cp, kk, L, rfl, hkk, hL⟩
  have HL : Hid (LR w w1 B a len cap kk ys a' cp L) := hL
  clear hL
  go_wp2_with fail
  refine (next_c _ B a len cap kk ys 14 HL.out.ds.src hl (by omega) (by omega) (by omega)).mono ?_
  rintro e w2 ⟨v, v0, v1, rfl, hS2, hG2⟩
  have HB0 : Hid (LB w w2 B a len cap (kk + 1) ys a' cp L) := ⟨ownLk_kept HL.out.ow hG2 hB, HL.out.ds.draw hS2 hG2, by have := HL.out.ln; omega⟩
  have hL2 : L.length ≤ 200 := HL.out.ln
  clear hS2 hG2 HL
  by_cases e0 : v = 0
  · subst e0
    have HA0 : Hid (LB w (w2.alloc (.cells #[.int .i64 9, .int .i64 0, .int .i64 1] 2)) B a len cap (kk + 1) ys a' cp L) := HB0.out.below ((Below.refl _ _).alloc (Nat.le_refl _) _)
    have C0 : Hid (∀ k, k < 3 → (w2.alloc (.cells #[.int .i64 9, .int .i64 0, .int .i64 1] 2)).cell? ⟨w2.heap.size, k, none⟩ = some (.int .i64 ([9, 0, 1][k]?.getD 0))) := fun k hk => by
      have : k = 0 ∨ k = 1 ∨ k = 2 := by omega
      rcases this with rfl | rfl | rfl <;> simp
    have hn0 : w2.heap.size ≠ B := by have := HB0.out.ds.gr.size; omega
    clear HB0
    go_wp2_with fail
    generalize w2.alloc (.cells #[.int .i64 9, .int .i64 0, .int .i64 1] 2) = w30 at HA0 C0 ⊢
    refine (pick_c _ B a len cap (kk + 1) ys HA0.out.ds.src hl (by omega) w2.heap.size 3 3 [9, 0, 1] rfl (by omega) (by omega) hn0 C0.out).mono ?_
    rintro e w40 ⟨j0, hj0, rfl, hS0, hG0⟩
    have HB1 : Hid (LB w w40 B a len cap (kk + 1 + 1) ys a' cp L) := HA0.out.draw hB hS0 hG0
    obtain ⟨pe, hx0⟩ : ∃ x : Int, [9, 0, 1][j0]?.getD 0 = x := ⟨_, rfl⟩
    rw [hx0]
    clear hS0 hG0 HA0 C0 hx0 hn0 hj0
    have HA1 : Hid (LB w (w40.alloc (.cells #[.int .i64 0, .int .i64 4] 2)) B a len cap (kk + 1 + 1) ys a' cp L) := HB1.out.below ((Below.refl _ _).alloc (Nat.le_refl _) _)
    have C1 : Hid (∀ k, k < 2 → (w40.alloc (.cells #[.int .i64 0, .int .i64 4] 2)).cell? ⟨w40.heap.size, k, none⟩ = some (.int .i64 ([0, 4][k]?.getD 0))) := fun k hk => by
      have : k = 0 ∨ k = 1 := by omega
      rcases this with rfl | rfl <;> simp
    have hn1 : w40.heap.size ≠ B := by have := HB1.out.ds.gr.size; omega
    clear HB1
    go_wp2_with fail
    generalize w40.alloc (.cells #[.int .i64 0, .int .i64 4] 2) = w31 at HA1 C1 ⊢
    refine (pick_c _ B a len cap (kk + 1 + 1) ys HA1.out.ds.src hl (by omega) w40.heap.size 2 2 [0, 4] rfl (by omega) (by omega) hn1 C1.out).mono ?_
    rintro e w41 ⟨j1, hj1, rfl, hS1, hG1⟩
    have HB2 : Hid (LB w w41 B a len cap (kk + 1 + 1 + 1) ys a' cp L) := HA1.out.draw hB hS1 hG1
    obtain ⟨pc, hx1⟩ : ∃ x : Int, [0, 4][j1]?.getD 0 = x := ⟨_, rfl⟩
    rw [hx1]
    clear hS1 hG1 HA1 C1 hx1 hn1 hj1
    have HA2 : Hid (LB w (w41.alloc (.cells #[.int .i64 1, .int .i64 9] 2)) B a len cap (kk + 1 + 1 + 1) ys a' cp L) := HB2.out.below ((Below.refl _ _).alloc (Nat.le_refl _) _)
    have C2 : Hid (∀ k, k < 2 → (w41.alloc (.cells #[.int .i64 1, .int .i64 9] 2)).cell? ⟨w41.heap.size, k, none⟩ = some (.int .i64 ([1, 9][k]?.getD 0))) := fun k hk => by
      have : k = 0 ∨ k = 1 := by omega
      rcases this with rfl | rfl <;> simp
    have hn2 : w41.heap.size ≠ B := by have := HB2.out.ds.gr.size; omega
    clear HB2
    go_wp2_with fail
    generalize w41.alloc (.cells #[.int .i64 1, .int .i64 9] 2) = w32 at HA2 C2 ⊢
    refine (pick_c _ B a len cap (kk + 1 + 1 + 1) ys HA2.out.ds.src hl (by omega) w41.heap.size 2 2 [1, 9] rfl (by omega) (by omega) hn2 C2.out).mono ?_
    rintro e w42 ⟨j2, hj2, rfl, hS2, hG2⟩
    have HB3 : Hid (LB w w42 B a len cap (kk + 1 + 1 + 1 + 1) ys a' cp L) := HA2.out.draw hB hS2 hG2
    obtain ⟨pp, hx2⟩ : ∃ x : Int, [1, 9][j2]?.getD 0 = x := ⟨_, rfl⟩
    rw [hx2]
    clear hS2 hG2 HA2 C2 hx2 hn2 hj2
    have HA3 : Hid (LB w (w42.alloc (.cells #[.int .i64 1, .int .i64 5] 2)) B a len cap (kk + 1 + 1 + 1 + 1) ys a' cp L) := HB3.out.below ((Below.refl _ _).alloc (Nat.le_refl _) _)
    have C3 : Hid (∀ k, k < 2 → (w42.alloc (.cells #[.int .i64 1, .int .i64 5] 2)).cell? ⟨w42.heap.size, k, none⟩ = some (.int .i64 ([1, 5][k]?.getD 0))) := fun k hk => by
      have : k = 0 ∨ k = 1 := by omega
      rcases this with rfl | rfl <;> simp
    have hn3 : w42.heap.size ≠ B := by have := HB3.out.ds.gr.size; omega
    clear HB3
    go_wp2_with fail
    generalize w42.alloc (.cells #[.int .i64 1, .int .i64 5] 2) = w33 at HA3 C3 ⊢
    refine (pick_c _ B a len cap (kk + 1 + 1 + 1 + 1) ys HA3.out.ds.src hl (by omega) w42.heap.size 2 2 [1, 5] rfl (by omega) (by omega) hn3 C3.out).mono ?_
    rintro e w43 ⟨j3, hj3, rfl, hS3, hG3⟩
    have HB4 : Hid (LB w w43 B a len cap (kk + 1 + 1 + 1 + 1 + 1) ys a' cp L) := HA3.out.draw hB hS3 hG3
    obtain ⟨pf, hx3⟩ : ∃ x : Int, [1, 5][j3]?.getD 0 = x := ⟨_, rfl⟩
    rw [hx3]
    clear hS3 hG3 HA3 C3 hx3 hn3 hj3
    go_wp2_with (first
      | (at_builtin; refine wpList_append_own _ rfl _ _ 24 rfl w.heap.size 36 i0 (.agg #[.int .i64 0, .int .i64 0, .int .i64 0, .int .i64 0]) 4 32 Tryd.underlying24 hi hz0 hz1 hz2 rfl (by decide) _ L.length (flatLk L) rfl (World.ownsRow.alloc HB4.out.ow _) ⟨w43.heap.size, 0, none⟩ 1 1 (vLk ⟨pe, pc, pp, pf⟩) rfl rfl (fun j u hj => by rw [Go.WideShapes.add_plain, Nat.zero_add]; exact vLk_at (x := ⟨pe, pc, pp, pf⟩) ⟨by simp, by simp, by simp, by simp⟩ j u hj) (vLk_one _) (by unfold maxLen; omega) (by omega) (by have := HB4.out.ds.gr.size; simp; omega) ?_)
      | fail)
    intro v' w9 hown' hgrow hnil
    have hO : OwnLk w9 w.heap.size v' (L ++ [⟨pe, pc, pp, pf⟩]) := ownLk_push hown'
    obtain ⟨a9, cp9, e9⟩ := hO.slice
    subst e9
    have H9 : Hid (LB w w9 B a len cap (kk + 1 + 1 + 1 + 1 + 1) ys a9 cp9 (L ++ [⟨pe, pc, pp, pf⟩])) := ⟨hO, (HB4.out.ds.alloc _).row hgrow (fun q e => (ownLk_row HB4.out.ow q e).1) hB HCode.out, by simp; omega⟩
    clear hown' hgrow hnil hO HB4
    go_wp2
    go_ret
    exact ⟨a9, cp9, _, _, rfl, by omega, H9.out⟩
  · by_cases e1 : v = 1
    · subst e1
      obtain ⟨wm, hmk, hownm, hgrm⟩ := run_make_full (P := Tryd.prog) (w := w2) w.heap.size 24 36 i0 (.agg #[.int .i64 0, .int .i64 0, .int .i64 0, .int .i64 0]) 4 Tryd.underlying24 hi hz0 hz1 .i64 .i64 201 (by rw [hz2]; omega) (by unfold maxLen; omega) HB0.out.ds.gr.size
      have hmk' : (Instr.makeSlice 24 (.int .i64 201) (.int .i64 201)).run Tryd.prog w2 = .ok (.slice (some ⟨w2.heap.size, 0, none⟩) 201 201) wm := hmk
      have hm : (madeCells (Value.agg #[.int .i64 0, .int .i64 0, .int .i64 0, .int .i64 0]).cells (201 * 4)).toList = flatLk (List.replicate 201 (⟨0, 0, 0, 0⟩ : LkI)) := by
        rw [flat_zero]
        exact made_zero 201
      rw [hm] at hownm
      have HM : Hid (LB w wm B a len cap (kk + 1) ys (some ⟨w2.heap.size, 0, none⟩) 201 (List.replicate 201 (⟨0, 0, 0, 0⟩ : LkI))) := by
        refine ⟨?_, HB0.out.ds.row hgrm (fun q e => by cases e) hB HCode.out, by rw [List.length_replicate]; omega⟩
        unfold OwnLk
        rw [List.length_replicate]
        exact hownm
      clear hownm hgrm hmk hm
      go_wp2
      go_ret
      exact ⟨some ⟨w2.heap.size, 0, none⟩, 201, _, List.replicate 201 (⟨0, 0, 0, 0⟩ : LkI), by rw [List.length_replicate]; rfl, by omega, HM.out⟩
    · have eb0 : (v == 0) = false := by simpa using e0
      have eb1 : (v == 1) = false := by simpa using e1
      go_wp2
      go_ret
      exact ⟨a', cp, _, L, rfl, by omega, HB0.out⟩

end Go.Proofs.YtabbjcngilocnaaDoor
