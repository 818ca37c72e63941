/-
  CONTRACTS: spec.DrawTakeLocks.
  Conditions: each contract bears its own.
-/
import Derived.Test.YtabbjcngilocnaaDoorDc2
namespace Go.Proofs.YtabbjcngilocnaaDoor
open Go.RowKit
set_option linter.unusedVariables false
set_option linter.unusedSimpArgs false

def ChanceD (w : World) (B : Nat) (a : Option Addr) (len cap k : Nat) (ys : List Int) (e : Ending) (w' : World) : Prop := ∃ t : Bool, e = .returned (.bool t) ∧ SrcAt w' B a len cap (k + 1) ys ∧ w.grownBy w' (some B)

theorem chanceD_c (w : World) (B : Nat) (a : Option Addr) (len cap k : Nat) (ys : List Int) (n : Int) (h : SrcAt w B a len cap k ys) (hl : len ≤ 1048576) (hk : k ≤ 1000) (n1 : 1 ≤ n) (n2 : n ≤ 1048576) :
    Calls Tryd.prog 18 #[.pointer (some ⟨B, 0, none⟩), .int .i64 n] w fun e w' => ChanceD w B a len cap k ys e w' := by
  have H : Hid (SrcAt w B a len cap k ys) := h
  clear h
  go_enter Tryd.func18, Tryd.ntmps18
  go_wp2_with fail
  refine (next_c _ B a len cap k ys n H.out hl hk n1 n2).mono ?_
  rintro e w1 ⟨v, v0, v1, rfl, hS, hG⟩
  go_wp2
  go_ret
  exact ⟨_, rfl, hS, hG⟩

/-- What grew but for its own new block has left all that was. -/
theorem below_of_new {w w1 W : World} (h1 : w1.heap.size = w.heap.size + 1 ∧ Below w.heap.size w w1) (hg : w1.grownBy W (some w.heap.size)) : Below w.heap.size w W :=
  h1.2.grown hg (by omega) (fun q e => by cases e; exact Nat.le_refl _)

theorem LI.ints {w wr : World} {B : Nat} {a : Option Addr} {len cap kk : Nat} {ys : List Int} {g n c : Nat} {zs : List Int} (h : LI w wr B a len cap kk ys g n c zs) : zs.length = n ∧ IntsAt wr g zs := by
  have hl : zs.length = n := by have := h.ow.1; simpa using this
  refine ⟨hl, fun k x hx => ?_⟩
  have hk : k < zs.length := by
    by_cases q : k < zs.length
    · exact q
    · rw [List.getElem?_eq_none (by omega)] at hx; cases hx
  rw [h.ow.cellAt k (by omega), List.getElem?_map, hx]
  rfl

set_option maxRecDepth 20000 in
set_option maxHeartbeats 4000000 in
theorem drawTake_c (w : World) (a : Option Addr) (len cap : Nat) (ys : List Int) (h : CodeIn w a len ys) (hl : len ≤ 1048576) :
    Calls Tryd.prog 6 #[.slice a len cap] w fun e w' => ∃ (a' : Option Addr) (cp : Nat) (L : List LkI) (g n c : Nat) (zs : List Int) (pe pf ps : Int), e = .returned (.tuple #[.slice a' L.length cp, .slice (some ⟨g, 0, none⟩) n c, .int .i64 pe, .int .i64 pf, .int .i64 ps]) ∧ OwnLk w' w.heap.size (.slice a' L.length cp) L ∧ L.length ≤ 201 ∧ n ≤ 5 ∧ IntIn w' (some ⟨g, 0, none⟩) n zs ∧ Below w.heap.size w w' := by
  have HS : Hid (SrcAt (w.alloc (.cells #[.slice a len cap, .int .i64 0] 80)) w.heap.size a len cap 0 ys) := src_new w a len cap ys h
  have HW : Hid ((w.alloc (.cells #[.slice a len cap, .int .i64 0] 80)).heap.size = w.heap.size + 1 ∧ Below w.heap.size w (w.alloc (.cells #[.slice a len cap, .int .i64 0] 80))) := ⟨by simp, (Below.refl _ _).alloc (Nat.le_refl _) _⟩
  clear h
  go_enter Tryd.func6, Tryd.ntmps6
  go_wp2_with fail
  refine (source_c a len cap _).mono ?_
  rintro e w0 ⟨rfl, rfl⟩
  generalize w.alloc (.cells #[.slice a len cap, .int .i64 0] 80) = w1 at HS HW ⊢
  have hw1 : Hid (w1.heap.size = w.heap.size + 1 ∧ Below w.heap.size w w1) := HW.out
  have hB : w.heap.size < w1.heap.size := by have := HW.out.1; omega
  clear HW
  go_wp2_with fail
  refine (bentL_c _ w.heap.size a len cap 0 ys HS.out hl (by omega)).mono ?_
  rintro e w2 ⟨a', cp, kk, L, rfl, hkk, hL2⟩
  have HL2 : Hid (LB w1 w2 w.heap.size a len cap kk ys a' cp L) := hL2
  clear hL2 HS
  have HL3 : Hid (LB w1 (w2.alloc (.cells #[.int .i64 3, .int .i64 6] 2)) w.heap.size a len cap kk ys a' cp L) := HL2.out.below ((Below.refl _ _).alloc (Nat.le_refl _) _)
  have C3 : Hid (IntsAt (w2.alloc (.cells #[.int .i64 3, .int .i64 6] 2)) w2.heap.size [3, 6] ∧ w2.heap.size ≠ w.heap.size) := by
    refine ⟨fun k x hx => ?_, by have := HL2.out.ds.gr.size; omega⟩
    match k with
    | 0 => simp at hx; subst hx; simp
    | 1 => simp at hx; subst hx; simp
    | k + 2 => simp at hx
  clear HL2
  go_wp2_with fail
  generalize w2.alloc (.cells #[.int .i64 3, .int .i64 6] 2) = w3 at HL3 C3 ⊢
  refine (chanceD_c _ w.heap.size a len cap kk ys 6 HL3.out.ds.src hl (by omega) (by omega) (by omega)).mono ?_
  rintro e w4 ⟨t, rfl, hS4, hG4⟩
  have HB : Hid (LB w1 w4 w.heap.size a len cap (kk + 1) ys a' cp L) := HL3.out.draw hB hS4 hG4
  have CB : Hid (IntsAt w4 w2.heap.size [3, 6] ∧ w2.heap.size ≠ w.heap.size) := ⟨fun k x hx => hG4.cell (C3.out.1 k x hx) (by have := C3.out.2; simpa using this), C3.out.2⟩
  clear hS4 hG4 HL3 C3
  cases t
  · have HB0 := HB
    have CB0 := CB
    clear HB CB
    have HA0 : Hid (LB w1 (w4.alloc (.cells #[.int .i64 1, .int .i64 1, .int .i64 2, .int .i64 10] 2)) w.heap.size a len cap (kk + 1) ys a' cp L) := HB0.out.below ((Below.refl _ _).alloc (Nat.le_refl _) _)
    have CA0 : Hid (IntsAt (w4.alloc (.cells #[.int .i64 1, .int .i64 1, .int .i64 2, .int .i64 10] 2)) w2.heap.size [3, 6] ∧ w2.heap.size ≠ w.heap.size) := ⟨CB0.out.1.below ((Below.refl _ _).alloc (Nat.le_refl _) _), CB0.out.2⟩
    have C0 : Hid (∀ k, k < 4 → (w4.alloc (.cells #[.int .i64 1, .int .i64 1, .int .i64 2, .int .i64 10] 2)).cell? ⟨w4.heap.size, k, none⟩ = some (.int .i64 ([1, 1, 2, 10][k]?.getD 0))) := fun k hk => by
      have : k = 0 ∨ k = 1 ∨ k = 2 ∨ k = 3 := by omega
      rcases this with rfl | rfl | rfl | rfl <;> simp
    have hn0 : w4.heap.size ≠ w.heap.size := by have := HB0.out.ds.gr.size; omega
    clear HB0 CB0
    go_wp2_with fail
    generalize w4.alloc (.cells #[.int .i64 1, .int .i64 1, .int .i64 2, .int .i64 10] 2) = wa0 at HA0 CA0 C0 ⊢
    refine (pick_c _ w.heap.size a len cap (kk + 1) ys HA0.out.ds.src hl (by omega) w4.heap.size 4 4 [1, 1, 2, 10] rfl (by omega) (by omega) hn0 C0.out).mono ?_
    rintro e wb0 ⟨j0, hj0, rfl, hS0, hG0⟩
    have HB1 : Hid (LB w1 wb0 w.heap.size a len cap (kk + 1 + 1) ys a' cp L) := HA0.out.draw hB hS0 hG0
    have CB1 : Hid (IntsAt wb0 w2.heap.size [3, 6] ∧ w2.heap.size ≠ w.heap.size) := ⟨fun k x hx => hG0.cell (CA0.out.1 k x hx) (by have := CA0.out.2; simpa using this), CA0.out.2⟩
    obtain ⟨pe, hx0⟩ : ∃ x : Int, [1, 1, 2, 10][j0]?.getD 0 = x := ⟨_, rfl⟩
    rw [hx0]
    clear hS0 hG0 HA0 CA0 C0 hx0 hn0 hj0
    have HA1 : Hid (LB w1 (wb0.alloc (.cells #[.int .i64 1, .int .i64 2, .int .i64 3, .int .i64 0] 2)) w.heap.size a len cap (kk + 1 + 1) ys a' cp L) := HB1.out.below ((Below.refl _ _).alloc (Nat.le_refl _) _)
    have CA1 : Hid (IntsAt (wb0.alloc (.cells #[.int .i64 1, .int .i64 2, .int .i64 3, .int .i64 0] 2)) w2.heap.size [3, 6] ∧ w2.heap.size ≠ w.heap.size) := ⟨CB1.out.1.below ((Below.refl _ _).alloc (Nat.le_refl _) _), CB1.out.2⟩
    have C1 : Hid (∀ k, k < 4 → (wb0.alloc (.cells #[.int .i64 1, .int .i64 2, .int .i64 3, .int .i64 0] 2)).cell? ⟨wb0.heap.size, k, none⟩ = some (.int .i64 ([1, 2, 3, 0][k]?.getD 0))) := fun k hk => by
      have : k = 0 ∨ k = 1 ∨ k = 2 ∨ k = 3 := by omega
      rcases this with rfl | rfl | rfl | rfl <;> simp
    have hn1 : wb0.heap.size ≠ w.heap.size := by have := HB1.out.ds.gr.size; omega
    clear HB1 CB1
    go_wp2_with fail
    generalize wb0.alloc (.cells #[.int .i64 1, .int .i64 2, .int .i64 3, .int .i64 0] 2) = wa1 at HA1 CA1 C1 ⊢
    refine (pick_c _ w.heap.size a len cap (kk + 1 + 1) ys HA1.out.ds.src hl (by omega) wb0.heap.size 4 4 [1, 2, 3, 0] rfl (by omega) (by omega) hn1 C1.out).mono ?_
    rintro e wb1 ⟨j1, hj1, rfl, hS1, hG1⟩
    have HB2 : Hid (LB w1 wb1 w.heap.size a len cap (kk + 1 + 1 + 1) ys a' cp L) := HA1.out.draw hB hS1 hG1
    have CB2 : Hid (IntsAt wb1 w2.heap.size [3, 6] ∧ w2.heap.size ≠ w.heap.size) := ⟨fun k x hx => hG1.cell (CA1.out.1 k x hx) (by have := CA1.out.2; simpa using this), CA1.out.2⟩
    obtain ⟨pf, hx1⟩ : ∃ x : Int, [1, 2, 3, 0][j1]?.getD 0 = x := ⟨_, rfl⟩
    rw [hx1]
    clear hS1 hG1 HA1 CA1 C1 hx1 hn1 hj1
    go_wp2_with fail
    refine (bent_c _ w.heap.size a len cap (kk + 1 + 1 + 1) ys HB2.out.ds.src hl (by omega)).mono ?_
    rintro e wz ⟨ps, rfl, hSz, hGz⟩
    have HZ : Hid (LB w1 wz w.heap.size a len cap (kk + 1 + 1 + 1 + 7) ys a' cp L) := HB2.out.draw hB hSz hGz
    have CZ : Hid (IntsAt wz w2.heap.size [3, 6]) := fun k x hx => hGz.cell (CB2.out.1 k x hx) (by have := CB2.out.2; simpa using this)
    clear hSz hGz HB2 CB2
    go_wp2
    refine bodyPost_ret (v := .tuple #[.slice a' L.length cp, .slice (some ⟨w2.heap.size, 0, none⟩) 2 2, .int .i64 pe, .int .i64 pf, .int .i64 ps]) (by simp [results, Tryd.results6, go_sem]) rfl ?_
    exact ⟨a', cp, L, w2.heap.size, 2, 2, [3, 6], pe, pf, ps, rfl, ownLk_lower HZ.out.ow (by have := hw1.out; omega), HZ.out.ln, by omega, IntIn.of rfl CZ.out, below_of_new hw1.out HZ.out.ds.gr⟩
  · clear CB
    go_wp2_with fail
    refine (drawClasses_c _ w.heap.size a len cap (kk + 1) ys HB.out.ds.src hl (by omega)).mono ?_
    rintro e w5 ⟨g, n, c, k5, zs, rfl, hn5, hk5, hL5⟩
    have HB0 : Hid (LB w1 w5 w.heap.size a len cap k5 ys a' cp L) := ⟨ownLk_kept HB.out.ow hL5.ds.gr hB, HB.out.ds.draw hL5.ds.src hL5.ds.gr, HB.out.ln⟩
    have CB0 : Hid (IntsAt w5 g zs ∧ g ≠ w.heap.size) := ⟨hL5.ints.2, by have := hL5.gw; have := HB.out.ds.gr.size; omega⟩
    have hzn : Hid (zs.length = n) := hL5.ints.1
    clear hL5 HB
    have HA0 : Hid (LB w1 (w5.alloc (.cells #[.int .i64 1, .int .i64 1, .int .i64 2, .int .i64 10] 2)) w.heap.size a len cap (k5) ys a' cp L) := HB0.out.below ((Below.refl _ _).alloc (Nat.le_refl _) _)
    have CA0 : Hid (IntsAt (w5.alloc (.cells #[.int .i64 1, .int .i64 1, .int .i64 2, .int .i64 10] 2)) g zs ∧ g ≠ w.heap.size) := ⟨CB0.out.1.below ((Below.refl _ _).alloc (Nat.le_refl _) _), CB0.out.2⟩
    have C0 : Hid (∀ k, k < 4 → (w5.alloc (.cells #[.int .i64 1, .int .i64 1, .int .i64 2, .int .i64 10] 2)).cell? ⟨w5.heap.size, k, none⟩ = some (.int .i64 ([1, 1, 2, 10][k]?.getD 0))) := fun k hk => by
      have : k = 0 ∨ k = 1 ∨ k = 2 ∨ k = 3 := by omega
      rcases this with rfl | rfl | rfl | rfl <;> simp
    have hn0 : w5.heap.size ≠ w.heap.size := by have := HB0.out.ds.gr.size; omega
    clear HB0 CB0
    go_wp2_with fail
    generalize w5.alloc (.cells #[.int .i64 1, .int .i64 1, .int .i64 2, .int .i64 10] 2) = wa0 at HA0 CA0 C0 ⊢
    refine (pick_c _ w.heap.size a len cap (k5) ys HA0.out.ds.src hl (by omega) w5.heap.size 4 4 [1, 1, 2, 10] rfl (by omega) (by omega) hn0 C0.out).mono ?_
    rintro e wb0 ⟨j0, hj0, rfl, hS0, hG0⟩
    have HB1 : Hid (LB w1 wb0 w.heap.size a len cap (k5 + 1) ys a' cp L) := HA0.out.draw hB hS0 hG0
    have CB1 : Hid (IntsAt wb0 g zs ∧ g ≠ w.heap.size) := ⟨fun k x hx => hG0.cell (CA0.out.1 k x hx) (by have := CA0.out.2; simpa using this), CA0.out.2⟩
    obtain ⟨pe, hx0⟩ : ∃ x : Int, [1, 1, 2, 10][j0]?.getD 0 = x := ⟨_, rfl⟩
    rw [hx0]
    clear hS0 hG0 HA0 CA0 C0 hx0 hn0 hj0
    have HA1 : Hid (LB w1 (wb0.alloc (.cells #[.int .i64 1, .int .i64 2, .int .i64 3, .int .i64 0] 2)) w.heap.size a len cap (k5 + 1) ys a' cp L) := HB1.out.below ((Below.refl _ _).alloc (Nat.le_refl _) _)
    have CA1 : Hid (IntsAt (wb0.alloc (.cells #[.int .i64 1, .int .i64 2, .int .i64 3, .int .i64 0] 2)) g zs ∧ g ≠ w.heap.size) := ⟨CB1.out.1.below ((Below.refl _ _).alloc (Nat.le_refl _) _), CB1.out.2⟩
    have C1 : Hid (∀ k, k < 4 → (wb0.alloc (.cells #[.int .i64 1, .int .i64 2, .int .i64 3, .int .i64 0] 2)).cell? ⟨wb0.heap.size, k, none⟩ = some (.int .i64 ([1, 2, 3, 0][k]?.getD 0))) := fun k hk => by
      have : k = 0 ∨ k = 1 ∨ k = 2 ∨ k = 3 := by omega
      rcases this with rfl | rfl | rfl | rfl <;> simp
    have hn1 : wb0.heap.size ≠ w.heap.size := by have := HB1.out.ds.gr.size; omega
    clear HB1 CB1
    go_wp2_with fail
    generalize wb0.alloc (.cells #[.int .i64 1, .int .i64 2, .int .i64 3, .int .i64 0] 2) = wa1 at HA1 CA1 C1 ⊢
    refine (pick_c _ w.heap.size a len cap (k5 + 1) ys HA1.out.ds.src hl (by omega) wb0.heap.size 4 4 [1, 2, 3, 0] rfl (by omega) (by omega) hn1 C1.out).mono ?_
    rintro e wb1 ⟨j1, hj1, rfl, hS1, hG1⟩
    have HB2 : Hid (LB w1 wb1 w.heap.size a len cap (k5 + 1 + 1) ys a' cp L) := HA1.out.draw hB hS1 hG1
    have CB2 : Hid (IntsAt wb1 g zs ∧ g ≠ w.heap.size) := ⟨fun k x hx => hG1.cell (CA1.out.1 k x hx) (by have := CA1.out.2; simpa using this), CA1.out.2⟩
    obtain ⟨pf, hx1⟩ : ∃ x : Int, [1, 2, 3, 0][j1]?.getD 0 = x := ⟨_, rfl⟩
    rw [hx1]
    clear hS1 hG1 HA1 CA1 C1 hx1 hn1 hj1
    go_wp2_with fail
    refine (bent_c _ w.heap.size a len cap (k5 + 1 + 1) ys HB2.out.ds.src hl (by omega)).mono ?_
    rintro e wz ⟨ps, rfl, hSz, hGz⟩
    have HZ : Hid (LB w1 wz w.heap.size a len cap (k5 + 1 + 1 + 7) ys a' cp L) := HB2.out.draw hB hSz hGz
    have CZ : Hid (IntsAt wz g zs) := fun k x hx => hGz.cell (CB2.out.1 k x hx) (by have := CB2.out.2; simpa using this)
    clear hSz hGz HB2 CB2
    go_wp2
    refine bodyPost_ret (v := .tuple #[.slice a' L.length cp, .slice (some ⟨g, 0, none⟩) n c, .int .i64 pe, .int .i64 pf, .int .i64 ps]) (by simp [results, Tryd.results6, go_sem]) rfl ?_
    exact ⟨a', cp, L, g, n, c, zs, pe, pf, ps, rfl, ownLk_lower HZ.out.ow (by have := hw1.out; omega), HZ.out.ln, by omega, IntIn.of hzn.out CZ.out, below_of_new hw1.out HZ.out.ds.gr⟩

end Go.Proofs.YtabbjcngilocnaaDoor
