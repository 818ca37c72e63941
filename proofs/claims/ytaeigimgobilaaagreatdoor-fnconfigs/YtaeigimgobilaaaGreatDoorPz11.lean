/-
  CONTRACTS: the digits of 0 to 15 of both programs; the lines of a configuration's text, as plain words; impl's classLines.
  Conditions: each contract bears its own.
-/
import Derived.Test.YtaeigimgobilaaaGreatDoorPz09
import Derived.Test.YtaeigimgobilaaaGreatDoorPz10
import Derived.Test.YtaeigimgobilaaaGreatDoorPz05

namespace Go.Proofs.YtaeigimgobilaaaGreatDoor
open Go.RowKit Go.Shelf
set_option linter.unusedVariables false
set_option linter.unusedSimpArgs false

/-- A number in decimal digits. -/
def decT (p : Int) : ByteArray := ⟨(Lib.decDigits p.toNat).toArray⟩

theorem decT_lt (p : Int) (p0 : 0 ≤ p) (p1 : p ≤ 9) : decT p = ⟨#[digitB p]⟩ := by
  unfold decT
  rw [Lib.decDigits, dif_pos (by omega)]
  rfl

theorem decT_ge (p : Int) (p0 : 10 ≤ p) (p1 : p ≤ 15) : decT p = ⟨#[49, digitB (p - 10)]⟩ := by
  unfold decT
  rw [Lib.decDigits, dif_neg (by omega), Lib.decDigits, dif_pos (by omega), show p.toNat / 10 = 1 by omega, show p.toNat % 10 = (p - 10).toNat by omega]
  rfl

theorem decT_size (p : Int) (p0 : 0 ≤ p) (p1 : p ≤ 15) : (decT p).size ≤ 2 := by
  by_cases h : p ≤ 9
  · rw [decT_lt p p0 h]; show 1 ≤ 2; omega
  · rw [decT_ge p (by omega) p1]; show 2 ≤ 2; omega

set_option maxHeartbeats 400000 in
theorem numD_c (p : Int) (p0 : 0 ≤ p) (p1 : p ≤ 15) (w : World) :
    Calls Tryz.prog 48 #[.int .i64 p] w fun e w' => e = .returned (.string (decT p)) ∧ w = w' := by
  have HF : Hid (∀ w : World, Calls Tryz.prog 80 #[.int .i64 p, .int .i64 10] w fun e w' => e = .returned (.string (decT p)) ∧ w = w') := fun w => by
    obtain ⟨i, rfl⟩ := Int.eq_ofNat_of_zero_le p0
    refine (Tryz.strconv_FormatInt_10_small i (by omega) w).mono fun e w' hh => ⟨?_, hh.2.symm⟩
    rw [hh.1]
    rfl
  go_enter Tryz.func48, Tryz.ntmps48
  go_wp2_with (go_at_call 80; refine (HF.out _).mono ?_; rintro e w' ⟨rfl, rfl⟩)
  go_ret
  exact ⟨rfl, rfl⟩

theorem convC (w : World) (g : Nat) (x : Int) (b : UInt8) (hx : (b.toNat : Int) = x) (h : w.cell? ⟨g, 0, none⟩ = some (.int .u8 x)) :
    (convert 22 9 (.slice (some ⟨g, 0, none⟩) 1 1)).run Tryz.prog w = .ok (.string ⟨#[b]⟩) w := by
  have h := run_convert_bytes_back (P := Tryz.prog) w 22 9 5 ⟨g, 0, none⟩ 1 [b] Tryz.underlying22 Tryz.underlying5 Tryz.underlying9
    (fun j hj => by
      match j, hj with
      | 0, _ => simpa [Addr.add, hx] using h)
  simpa using h

theorem below_new' {w w1 : World} {o : Obj} (h : Below (w.drew.alloc o).heap.size (w.drew.alloc o) w1) : Below w.heap.size w w1 :=
  (((Below.refl _ w).drew.alloc (Nat.le_refl _) o) : Below w.heap.size w (w.drew.alloc o)).trans (h.mono (by simp))

set_option maxRecDepth 20000 in
set_option maxHeartbeats 2000000 in
theorem l1D_c (p : Int) (p0 : 0 ≤ p) (p1 : p ≤ 15) (w : World) :
    Calls Tryz.prog 27 #[.int .i64 p] w fun e w' => e = .returned (.string (decT p)) ∧ Below w.heap.size w w' := by
  have hp : p = 0 ∨ p = 1 ∨ p = 2 ∨ p = 3 ∨ p = 4 ∨ p = 5 ∨ p = 6 ∨ p = 7 ∨ p = 8 ∨ p = 9 ∨ p = 10 ∨ p = 11 ∨ p = 12 ∨ p = 13 ∨ p = 14 ∨ p = 15 := by omega
  rcases hp with rfl | rfl | rfl | rfl | rfl | rfl | rfl | rfl | rfl | rfl | rfl | rfl | rfl | rfl | rfl | rfl
  · have hcv := conv1 w 48 48 rfl
    rw [show decT 0 = ⟨#[48]⟩ from decT_lt 0 (by omega) (by omega)]
    go_enter Tryz.func27, Tryz.ntmps27
    go_wp2
    go_ret
    exact ⟨rfl, (Below.refl _ _).alloc (Nat.le_refl _) _⟩
  · have hcv := conv1 w 49 49 rfl
    rw [show decT 1 = ⟨#[49]⟩ from decT_lt 1 (by omega) (by omega)]
    go_enter Tryz.func27, Tryz.ntmps27
    go_wp2
    go_ret
    exact ⟨rfl, (Below.refl _ _).alloc (Nat.le_refl _) _⟩
  · have hcv := conv1 w 50 50 rfl
    rw [show decT 2 = ⟨#[50]⟩ from decT_lt 2 (by omega) (by omega)]
    go_enter Tryz.func27, Tryz.ntmps27
    go_wp2
    go_ret
    exact ⟨rfl, (Below.refl _ _).alloc (Nat.le_refl _) _⟩
  · have hcv := conv1 w 51 51 rfl
    rw [show decT 3 = ⟨#[51]⟩ from decT_lt 3 (by omega) (by omega)]
    go_enter Tryz.func27, Tryz.ntmps27
    go_wp2
    go_ret
    exact ⟨rfl, (Below.refl _ _).alloc (Nat.le_refl _) _⟩
  · have hcv := conv1 w 52 52 rfl
    rw [show decT 4 = ⟨#[52]⟩ from decT_lt 4 (by omega) (by omega)]
    go_enter Tryz.func27, Tryz.ntmps27
    go_wp2
    go_ret
    exact ⟨rfl, (Below.refl _ _).alloc (Nat.le_refl _) _⟩
  · have hcv := conv1 w 53 53 rfl
    rw [show decT 5 = ⟨#[53]⟩ from decT_lt 5 (by omega) (by omega)]
    go_enter Tryz.func27, Tryz.ntmps27
    go_wp2
    go_ret
    exact ⟨rfl, (Below.refl _ _).alloc (Nat.le_refl _) _⟩
  · have hcv := conv1 w 54 54 rfl
    rw [show decT 6 = ⟨#[54]⟩ from decT_lt 6 (by omega) (by omega)]
    go_enter Tryz.func27, Tryz.ntmps27
    go_wp2
    go_ret
    exact ⟨rfl, (Below.refl _ _).alloc (Nat.le_refl _) _⟩
  · have hcv := conv1 w 55 55 rfl
    rw [show decT 7 = ⟨#[55]⟩ from decT_lt 7 (by omega) (by omega)]
    go_enter Tryz.func27, Tryz.ntmps27
    go_wp2
    go_ret
    exact ⟨rfl, (Below.refl _ _).alloc (Nat.le_refl _) _⟩
  · have hcv := conv1 w 56 56 rfl
    rw [show decT 8 = ⟨#[56]⟩ from decT_lt 8 (by omega) (by omega)]
    go_enter Tryz.func27, Tryz.ntmps27
    go_wp2
    go_ret
    exact ⟨rfl, (Below.refl _ _).alloc (Nat.le_refl _) _⟩
  · have hcv := conv1 w 57 57 rfl
    rw [show decT 9 = ⟨#[57]⟩ from decT_lt 9 (by omega) (by omega)]
    go_enter Tryz.func27, Tryz.ntmps27
    go_wp2
    go_ret
    exact ⟨rfl, (Below.refl _ _).alloc (Nat.le_refl _) _⟩
  · have hcv : ∀ (w' : World) (g : Nat), w'.cell? ⟨g, 0, none⟩ = some (.int .u8 48) → (convert 22 9 (.slice (some ⟨g, 0, none⟩) 1 1)).run Tryz.prog w' = .ok (.string ⟨#[48]⟩) w' := fun w' g h => convC w' g 48 48 rfl h
    rw [show decT 10 = ⟨#[49, 48]⟩ from decT_ge 10 (by omega) (by omega)]
    have hw1 : IntKind.i64.wrap 48 = 48 := by decide
    have hw2 : IntKind.u8.wrap 48 = 48 := by decide
    go_enter Tryz.func27, Tryz.ntmps27
    go_wp2
    go_region_with (first | (go_at_call 27; refine (l1Digits_c 1 (by omega) (by omega) _).mono ?_; rintro e w1 ⟨rfl, hb1⟩; obtain ⟨hc, hf⟩ := bcell hb1; (try (have hz1 := hb1.size; simp only [World.size_alloc] at hz1))))
    all_goals go_wp2
    all_goals go_ret
    all_goals first
      | exact ⟨rfl, below_new' hb1⟩
      | exact ⟨rfl, ((Below.refl _ w).drew.trans hb1).alloc hb1.size _⟩
  · have hcv : ∀ (w' : World) (g : Nat), w'.cell? ⟨g, 0, none⟩ = some (.int .u8 49) → (convert 22 9 (.slice (some ⟨g, 0, none⟩) 1 1)).run Tryz.prog w' = .ok (.string ⟨#[49]⟩) w' := fun w' g h => convC w' g 49 49 rfl h
    rw [show decT 11 = ⟨#[49, 49]⟩ from decT_ge 11 (by omega) (by omega)]
    have hw1 : IntKind.i64.wrap 49 = 49 := by decide
    have hw2 : IntKind.u8.wrap 49 = 49 := by decide
    go_enter Tryz.func27, Tryz.ntmps27
    go_wp2
    go_region_with (first | (go_at_call 27; refine (l1Digits_c 1 (by omega) (by omega) _).mono ?_; rintro e w1 ⟨rfl, hb1⟩; obtain ⟨hc, hf⟩ := bcell hb1; (try (have hz1 := hb1.size; simp only [World.size_alloc] at hz1))))
    all_goals go_wp2
    all_goals go_ret
    all_goals first
      | exact ⟨rfl, below_new' hb1⟩
      | exact ⟨rfl, ((Below.refl _ w).drew.trans hb1).alloc hb1.size _⟩
  · have hcv : ∀ (w' : World) (g : Nat), w'.cell? ⟨g, 0, none⟩ = some (.int .u8 50) → (convert 22 9 (.slice (some ⟨g, 0, none⟩) 1 1)).run Tryz.prog w' = .ok (.string ⟨#[50]⟩) w' := fun w' g h => convC w' g 50 50 rfl h
    rw [show decT 12 = ⟨#[49, 50]⟩ from decT_ge 12 (by omega) (by omega)]
    have hw1 : IntKind.i64.wrap 50 = 50 := by decide
    have hw2 : IntKind.u8.wrap 50 = 50 := by decide
    go_enter Tryz.func27, Tryz.ntmps27
    go_wp2
    go_region_with (first | (go_at_call 27; refine (l1Digits_c 1 (by omega) (by omega) _).mono ?_; rintro e w1 ⟨rfl, hb1⟩; obtain ⟨hc, hf⟩ := bcell hb1; (try (have hz1 := hb1.size; simp only [World.size_alloc] at hz1))))
    all_goals go_wp2
    all_goals go_ret
    all_goals first
      | exact ⟨rfl, below_new' hb1⟩
      | exact ⟨rfl, ((Below.refl _ w).drew.trans hb1).alloc hb1.size _⟩
  · have hcv : ∀ (w' : World) (g : Nat), w'.cell? ⟨g, 0, none⟩ = some (.int .u8 51) → (convert 22 9 (.slice (some ⟨g, 0, none⟩) 1 1)).run Tryz.prog w' = .ok (.string ⟨#[51]⟩) w' := fun w' g h => convC w' g 51 51 rfl h
    rw [show decT 13 = ⟨#[49, 51]⟩ from decT_ge 13 (by omega) (by omega)]
    have hw1 : IntKind.i64.wrap 51 = 51 := by decide
    have hw2 : IntKind.u8.wrap 51 = 51 := by decide
    go_enter Tryz.func27, Tryz.ntmps27
    go_wp2
    go_region_with (first | (go_at_call 27; refine (l1Digits_c 1 (by omega) (by omega) _).mono ?_; rintro e w1 ⟨rfl, hb1⟩; obtain ⟨hc, hf⟩ := bcell hb1; (try (have hz1 := hb1.size; simp only [World.size_alloc] at hz1))))
    all_goals go_wp2
    all_goals go_ret
    all_goals first
      | exact ⟨rfl, below_new' hb1⟩
      | exact ⟨rfl, ((Below.refl _ w).drew.trans hb1).alloc hb1.size _⟩
  · have hcv : ∀ (w' : World) (g : Nat), w'.cell? ⟨g, 0, none⟩ = some (.int .u8 52) → (convert 22 9 (.slice (some ⟨g, 0, none⟩) 1 1)).run Tryz.prog w' = .ok (.string ⟨#[52]⟩) w' := fun w' g h => convC w' g 52 52 rfl h
    rw [show decT 14 = ⟨#[49, 52]⟩ from decT_ge 14 (by omega) (by omega)]
    have hw1 : IntKind.i64.wrap 52 = 52 := by decide
    have hw2 : IntKind.u8.wrap 52 = 52 := by decide
    go_enter Tryz.func27, Tryz.ntmps27
    go_wp2
    go_region_with (first | (go_at_call 27; refine (l1Digits_c 1 (by omega) (by omega) _).mono ?_; rintro e w1 ⟨rfl, hb1⟩; obtain ⟨hc, hf⟩ := bcell hb1; (try (have hz1 := hb1.size; simp only [World.size_alloc] at hz1))))
    all_goals go_wp2
    all_goals go_ret
    all_goals first
      | exact ⟨rfl, below_new' hb1⟩
      | exact ⟨rfl, ((Below.refl _ w).drew.trans hb1).alloc hb1.size _⟩
  · have hcv : ∀ (w' : World) (g : Nat), w'.cell? ⟨g, 0, none⟩ = some (.int .u8 53) → (convert 22 9 (.slice (some ⟨g, 0, none⟩) 1 1)).run Tryz.prog w' = .ok (.string ⟨#[53]⟩) w' := fun w' g h => convC w' g 53 53 rfl h
    rw [show decT 15 = ⟨#[49, 53]⟩ from decT_ge 15 (by omega) (by omega)]
    have hw1 : IntKind.i64.wrap 53 = 53 := by decide
    have hw2 : IntKind.u8.wrap 53 = 53 := by decide
    go_enter Tryz.func27, Tryz.ntmps27
    go_wp2
    go_region_with (first | (go_at_call 27; refine (l1Digits_c 1 (by omega) (by omega) _).mono ?_; rintro e w1 ⟨rfl, hb1⟩; obtain ⟨hc, hf⟩ := bcell hb1; (try (have hz1 := hb1.size; simp only [World.size_alloc] at hz1))))
    all_goals go_wp2
    all_goals go_ret
    all_goals first
      | exact ⟨rfl, below_new' hb1⟩
      | exact ⟨rfl, ((Below.refl _ w).drew.trans hb1).alloc hb1.size _⟩

/-- The line feed. -/
def nlT : ByteArray := ⟨#[10]⟩
def headT (e f : Int) : ByteArray := (⟨#[101, 112, 111, 99, 104, 32]⟩ : ByteArray) ++ decT e ++ ⟨#[32]⟩ ++ decT f
def ruleLn (r : RuleI) : ByteArray := (⟨#[114, 117, 108, 101, 32]⟩ : ByteArray) ++ lineT r
def formLn (t : ByteArray) : ByteArray := (⟨#[102, 111, 114, 109, 32]⟩ : ByteArray) ++ t
def classLn (c : Int) : ByteArray := (⟨#[99, 108, 97, 115, 115, 32]⟩ : ByteArray) ++ decT c

/-- Lines, each ended by a line feed. -/
def accT : List ByteArray → ByteArray
  | [] => noTx
  | l :: ls => l ++ nlT ++ accT ls

theorem noTx_append (a : ByteArray) : noTx ++ a = a := by
  apply ByteArray.ext
  simp [noTx]

theorem append_noTx (a : ByteArray) : a ++ noTx = a := by
  apply ByteArray.ext
  simp [noTx]

theorem accT_snoc (ls : List ByteArray) (l : ByteArray) : accT (ls ++ [l]) = accT ls ++ l ++ nlT := by
  induction ls with
  | nil => simp only [List.nil_append, accT, append_noTx, noTx_append]
  | cons x xs ih => simp only [List.cons_append, accT, ih, ByteArray.append_assoc]

theorem join_acc (ls : List ByteArray) (h : ls ≠ []) : (⟨(Lib.join (ls.map (·.data.toList)) [10]).toArray⟩ : ByteArray) ++ nlT = accT ls := by
  induction ls with
  | nil => exact absurd rfl h
  | cons x xs ih =>
    cases xs with
    | nil =>
      apply ByteArray.ext
      simp [Lib.join, accT, nlT, noTx]
    | cons y ys =>
      have := ih (by simp)
      rw [accT, ← this]
      apply ByteArray.ext
      simp [Lib.join, nlT, List.intercalate]

theorem line_size (r : RuleI) : (lineT r).size ≤ 16 := by
  have := tail_size r
  have e : (lineT r).size = 7 + (tailT r).size := by
    unfold lineT tailT lineL
    simp [ByteArray.size]
    omega
  omega

theorem acc_size : ∀ (ls : List ByteArray), (∀ l ∈ ls, l.size ≤ 250) → (accT ls).size ≤ 251 * ls.length
  | [], _ => (Nat.zero_le _ : (0 : Nat) ≤ 251 * 0)
  | l :: ls, h => by
    have h1 := h l (by simp)
    have ih := acc_size ls (fun x hx => h x (by simp [hx]))
    simp only [accT, size_cat, List.length_cons]
    have : nlT.size = 1 := rfl
    omega

theorem join_size (ls : List ByteArray) (h : ls ≠ []) : (Lib.join (ls.map (·.data.toList)) [10]).length + 1 = (accT ls).size := by
  have := congrArg ByteArray.size (join_acc ls h)
  rw [size_cat] at this
  have e : nlT.size = 1 := rfl
  rw [e] at this
  rw [← this]
  simp [ByteArray.size]

end Go.Proofs.YtaeigimgobilaaaGreatDoor
