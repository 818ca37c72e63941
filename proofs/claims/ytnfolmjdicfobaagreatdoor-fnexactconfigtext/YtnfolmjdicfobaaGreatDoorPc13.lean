/-
  CONTRACTS: the digits of 0 to 15 of both programs; the lines of a configuration's text, as plain words; impl's classLines.
  Conditions: each contract bears its own.
  CONTRACTS: impl's classLines.
  Conditions: each contract bears its own.
  PLAIN WORDS: the rules of a policy without a fault are such as the steps need. No Go text is walked here.
  Conditions: each fact bears its own.
  CONTRACT: the text of a configuration without a fault, by the code (epochConfig.text).
  Conditions: each contract bears its own.
-/
import Derived.Test.YtnfolmjdicfobaaGreatDoorPc02
import Derived.Test.YtnfolmjdicfobaaGreatDoorPc07
import Derived.Test.YtnfolmjdicfobaaGreatDoorPc09
import Derived.Test.YtnfolmjdicfobaaGreatDoorPc12
import Derived.Laws.AppendOwnNone
import Derived.Test.YtnfolmjdicfobaaGreatDoorPc05
import Derived.Deep.RegionHeld3
namespace Go.Proofs.YtnfolmjdicfobaaGreatDoor
open Go.RowKit Go.Shelf
set_option linter.unusedVariables false
set_option linter.unusedSimpArgs false

/-- A number in decimal digits. -/
def decT (p : Int) : ByteArray := ⟨(Lib.decDigits p.toNat).toArray⟩

theorem decT_lt (p : Int) (p0 : 0 ≤ p) (p1 : p ≤ 9) : decT p = ⟨#[digitB p]⟩ := by
  unfold decT
  rw [Lib.decDigits, dif_pos (by omega)]
  rfl

theorem decT_ge (p : Int) (p0 : 10 ≤ p) (p1 : p ≤ 15) : decT p = ⟨#[49, digitB (p - 10)]⟩ := by
  unfold decT
  rw [Lib.decDigits, dif_neg (by omega), Lib.decDigits, dif_pos (by omega), show p.toNat / 10 = 1 by omega, show p.toNat % 10 = (p - 10).toNat by omega]
  rfl

theorem decT_size (p : Int) (p0 : 0 ≤ p) (p1 : p ≤ 15) : (decT p).size ≤ 2 := by
  by_cases h : p ≤ 9
  · rw [decT_lt p p0 h]; show 1 ≤ 2; omega
  · rw [decT_ge p (by omega) p1]; show 2 ≤ 2; omega

set_option maxHeartbeats 400000 in
theorem numD_c (p : Int) (p0 : 0 ≤ p) (p1 : p ≤ 15) (w : World) :
    Calls Tryz.prog 76 #[.int .i64 p] w fun e w' => e = .returned (.string (decT p)) ∧ w = w' := by
  have HF : Hid (∀ w : World, Calls Tryz.prog 115 #[.int .i64 p, .int .i64 10] w fun e w' => e = .returned (.string (decT p)) ∧ w = w') := fun w => by
    obtain ⟨i, rfl⟩ := Int.eq_ofNat_of_zero_le p0
    refine (Tryz.strconv_FormatInt_10_small i (by omega) w).mono fun e w' hh => ⟨?_, hh.2.symm⟩
    rw [hh.1]
    rfl
  go_enter Tryz.func76, Tryz.ntmps76
  go_wp2_with (go_at_call 115; refine (HF.out _).mono ?_; rintro e w' ⟨rfl, rfl⟩)
  go_ret
  exact ⟨rfl, rfl⟩

theorem convC (w : World) (g : Nat) (x : Int) (b : UInt8) (hx : (b.toNat : Int) = x) (h : w.cell? ⟨g, 0, none⟩ = some (.int .u8 x)) :
    (convert 22 9 (.slice (some ⟨g, 0, none⟩) 1 1)).run Tryz.prog w = .ok (.string ⟨#[b]⟩) w := by
  have h := run_convert_bytes_back (P := Tryz.prog) w 22 9 5 ⟨g, 0, none⟩ 1 [b] Tryz.underlying22 Tryz.underlying5 Tryz.underlying9
    (fun j hj => by
      match j, hj with
      | 0, _ => simpa [Addr.add, hx] using h)
  simpa using h

theorem below_new' {w w1 : World} {o : Obj} (h : Below (w.drew.alloc o).heap.size (w.drew.alloc o) w1) : Below w.heap.size w w1 :=
  (((Below.refl _ w).drew.alloc (Nat.le_refl _) o) : Below w.heap.size w (w.drew.alloc o)).trans (h.mono (by simp))

set_option maxRecDepth 20000 in
set_option maxHeartbeats 2000000 in
theorem l1D_c (p : Int) (p0 : 0 ≤ p) (p1 : p ≤ 15) (w : World) :
    Calls Tryz.prog 40 #[.int .i64 p] w fun e w' => e = .returned (.string (decT p)) ∧ Below w.heap.size w w' := by
  have hp : p = 0 ∨ p = 1 ∨ p = 2 ∨ p = 3 ∨ p = 4 ∨ p = 5 ∨ p = 6 ∨ p = 7 ∨ p = 8 ∨ p = 9 ∨ p = 10 ∨ p = 11 ∨ p = 12 ∨ p = 13 ∨ p = 14 ∨ p = 15 := by omega
  rcases hp with rfl | rfl | rfl | rfl | rfl | rfl | rfl | rfl | rfl | rfl | rfl | rfl | rfl | rfl | rfl | rfl
  · have hcv := conv1 w 48 48 rfl
    rw [show decT 0 = ⟨#[48]⟩ from decT_lt 0 (by omega) (by omega)]
    go_enter Tryz.func40, Tryz.ntmps40
    go_wp2
    go_ret
    exact ⟨rfl, (Below.refl _ _).alloc (Nat.le_refl _) _⟩
  · have hcv := conv1 w 49 49 rfl
    rw [show decT 1 = ⟨#[49]⟩ from decT_lt 1 (by omega) (by omega)]
    go_enter Tryz.func40, Tryz.ntmps40
    go_wp2
    go_ret
    exact ⟨rfl, (Below.refl _ _).alloc (Nat.le_refl _) _⟩
  · have hcv := conv1 w 50 50 rfl
    rw [show decT 2 = ⟨#[50]⟩ from decT_lt 2 (by omega) (by omega)]
    go_enter Tryz.func40, Tryz.ntmps40
    go_wp2
    go_ret
    exact ⟨rfl, (Below.refl _ _).alloc (Nat.le_refl _) _⟩
  · have hcv := conv1 w 51 51 rfl
    rw [show decT 3 = ⟨#[51]⟩ from decT_lt 3 (by omega) (by omega)]
    go_enter Tryz.func40, Tryz.ntmps40
    go_wp2
    go_ret
    exact ⟨rfl, (Below.refl _ _).alloc (Nat.le_refl _) _⟩
  · have hcv := conv1 w 52 52 rfl
    rw [show decT 4 = ⟨#[52]⟩ from decT_lt 4 (by omega) (by omega)]
    go_enter Tryz.func40, Tryz.ntmps40
    go_wp2
    go_ret
    exact ⟨rfl, (Below.refl _ _).alloc (Nat.le_refl _) _⟩
  · have hcv := conv1 w 53 53 rfl
    rw [show decT 5 = ⟨#[53]⟩ from decT_lt 5 (by omega) (by omega)]
    go_enter Tryz.func40, Tryz.ntmps40
    go_wp2
    go_ret
    exact ⟨rfl, (Below.refl _ _).alloc (Nat.le_refl _) _⟩
  · have hcv := conv1 w 54 54 rfl
    rw [show decT 6 = ⟨#[54]⟩ from decT_lt 6 (by omega) (by omega)]
    go_enter Tryz.func40, Tryz.ntmps40
    go_wp2
    go_ret
    exact ⟨rfl, (Below.refl _ _).alloc (Nat.le_refl _) _⟩
  · have hcv := conv1 w 55 55 rfl
    rw [show decT 7 = ⟨#[55]⟩ from decT_lt 7 (by omega) (by omega)]
    go_enter Tryz.func40, Tryz.ntmps40
    go_wp2
    go_ret
    exact ⟨rfl, (Below.refl _ _).alloc (Nat.le_refl _) _⟩
  · have hcv := conv1 w 56 56 rfl
    rw [show decT 8 = ⟨#[56]⟩ from decT_lt 8 (by omega) (by omega)]
    go_enter Tryz.func40, Tryz.ntmps40
    go_wp2
    go_ret
    exact ⟨rfl, (Below.refl _ _).alloc (Nat.le_refl _) _⟩
  · have hcv := conv1 w 57 57 rfl
    rw [show decT 9 = ⟨#[57]⟩ from decT_lt 9 (by omega) (by omega)]
    go_enter Tryz.func40, Tryz.ntmps40
    go_wp2
    go_ret
    exact ⟨rfl, (Below.refl _ _).alloc (Nat.le_refl _) _⟩
  · have hcv : ∀ (w' : World) (g : Nat), w'.cell? ⟨g, 0, none⟩ = some (.int .u8 48) → (convert 22 9 (.slice (some ⟨g, 0, none⟩) 1 1)).run Tryz.prog w' = .ok (.string ⟨#[48]⟩) w' := fun w' g h => convC w' g 48 48 rfl h
    rw [show decT 10 = ⟨#[49, 48]⟩ from decT_ge 10 (by omega) (by omega)]
    have hw1 : IntKind.i64.wrap 48 = 48 := by decide
    have hw2 : IntKind.u8.wrap 48 = 48 := by decide
    go_enter Tryz.func40, Tryz.ntmps40
    go_wp2
    go_region_with (first | (go_at_call 40; refine (l1Digits_c 1 (by omega) (by omega) _).mono ?_; rintro e w1 ⟨rfl, hb1⟩; obtain ⟨hc, hf⟩ := bcell hb1; (try (have hz1 := hb1.size; simp only [World.size_alloc] at hz1))))
    all_goals go_wp2
    all_goals go_ret
    all_goals first
      | exact ⟨rfl, below_new' hb1⟩
      | exact ⟨rfl, ((Below.refl _ w).drew.trans hb1).alloc hb1.size _⟩
  · have hcv : ∀ (w' : World) (g : Nat), w'.cell? ⟨g, 0, none⟩ = some (.int .u8 49) → (convert 22 9 (.slice (some ⟨g, 0, none⟩) 1 1)).run Tryz.prog w' = .ok (.string ⟨#[49]⟩) w' := fun w' g h => convC w' g 49 49 rfl h
    rw [show decT 11 = ⟨#[49, 49]⟩ from decT_ge 11 (by omega) (by omega)]
    have hw1 : IntKind.i64.wrap 49 = 49 := by decide
    have hw2 : IntKind.u8.wrap 49 = 49 := by decide
    go_enter Tryz.func40, Tryz.ntmps40
    go_wp2
    go_region_with (first | (go_at_call 40; refine (l1Digits_c 1 (by omega) (by omega) _).mono ?_; rintro e w1 ⟨rfl, hb1⟩; obtain ⟨hc, hf⟩ := bcell hb1; (try (have hz1 := hb1.size; simp only [World.size_alloc] at hz1))))
    all_goals go_wp2
    all_goals go_ret
    all_goals first
      | exact ⟨rfl, below_new' hb1⟩
      | exact ⟨rfl, ((Below.refl _ w).drew.trans hb1).alloc hb1.size _⟩
  · have hcv : ∀ (w' : World) (g : Nat), w'.cell? ⟨g, 0, none⟩ = some (.int .u8 50) → (convert 22 9 (.slice (some ⟨g, 0, none⟩) 1 1)).run Tryz.prog w' = .ok (.string ⟨#[50]⟩) w' := fun w' g h => convC w' g 50 50 rfl h
    rw [show decT 12 = ⟨#[49, 50]⟩ from decT_ge 12 (by omega) (by omega)]
    have hw1 : IntKind.i64.wrap 50 = 50 := by decide
    have hw2 : IntKind.u8.wrap 50 = 50 := by decide
    go_enter Tryz.func40, Tryz.ntmps40
    go_wp2
    go_region_with (first | (go_at_call 40; refine (l1Digits_c 1 (by omega) (by omega) _).mono ?_; rintro e w1 ⟨rfl, hb1⟩; obtain ⟨hc, hf⟩ := bcell hb1; (try (have hz1 := hb1.size; simp only [World.size_alloc] at hz1))))
    all_goals go_wp2
    all_goals go_ret
    all_goals first
      | exact ⟨rfl, below_new' hb1⟩
      | exact ⟨rfl, ((Below.refl _ w).drew.trans hb1).alloc hb1.size _⟩
  · have hcv : ∀ (w' : World) (g : Nat), w'.cell? ⟨g, 0, none⟩ = some (.int .u8 51) → (convert 22 9 (.slice (some ⟨g, 0, none⟩) 1 1)).run Tryz.prog w' = .ok (.string ⟨#[51]⟩) w' := fun w' g h => convC w' g 51 51 rfl h
    rw [show decT 13 = ⟨#[49, 51]⟩ from decT_ge 13 (by omega) (by omega)]
    have hw1 : IntKind.i64.wrap 51 = 51 := by decide
    have hw2 : IntKind.u8.wrap 51 = 51 := by decide
    go_enter Tryz.func40, Tryz.ntmps40
    go_wp2
    go_region_with (first | (go_at_call 40; refine (l1Digits_c 1 (by omega) (by omega) _).mono ?_; rintro e w1 ⟨rfl, hb1⟩; obtain ⟨hc, hf⟩ := bcell hb1; (try (have hz1 := hb1.size; simp only [World.size_alloc] at hz1))))
    all_goals go_wp2
    all_goals go_ret
    all_goals first
      | exact ⟨rfl, below_new' hb1⟩
      | exact ⟨rfl, ((Below.refl _ w).drew.trans hb1).alloc hb1.size _⟩
  · have hcv : ∀ (w' : World) (g : Nat), w'.cell? ⟨g, 0, none⟩ = some (.int .u8 52) → (convert 22 9 (.slice (some ⟨g, 0, none⟩) 1 1)).run Tryz.prog w' = .ok (.string ⟨#[52]⟩) w' := fun w' g h => convC w' g 52 52 rfl h
    rw [show decT 14 = ⟨#[49, 52]⟩ from decT_ge 14 (by omega) (by omega)]
    have hw1 : IntKind.i64.wrap 52 = 52 := by decide
    have hw2 : IntKind.u8.wrap 52 = 52 := by decide
    go_enter Tryz.func40, Tryz.ntmps40
    go_wp2
    go_region_with (first | (go_at_call 40; refine (l1Digits_c 1 (by omega) (by omega) _).mono ?_; rintro e w1 ⟨rfl, hb1⟩; obtain ⟨hc, hf⟩ := bcell hb1; (try (have hz1 := hb1.size; simp only [World.size_alloc] at hz1))))
    all_goals go_wp2
    all_goals go_ret
    all_goals first
      | exact ⟨rfl, below_new' hb1⟩
      | exact ⟨rfl, ((Below.refl _ w).drew.trans hb1).alloc hb1.size _⟩
  · have hcv : ∀ (w' : World) (g : Nat), w'.cell? ⟨g, 0, none⟩ = some (.int .u8 53) → (convert 22 9 (.slice (some ⟨g, 0, none⟩) 1 1)).run Tryz.prog w' = .ok (.string ⟨#[53]⟩) w' := fun w' g h => convC w' g 53 53 rfl h
    rw [show decT 15 = ⟨#[49, 53]⟩ from decT_ge 15 (by omega) (by omega)]
    have hw1 : IntKind.i64.wrap 53 = 53 := by decide
    have hw2 : IntKind.u8.wrap 53 = 53 := by decide
    go_enter Tryz.func40, Tryz.ntmps40
    go_wp2
    go_region_with (first | (go_at_call 40; refine (l1Digits_c 1 (by omega) (by omega) _).mono ?_; rintro e w1 ⟨rfl, hb1⟩; obtain ⟨hc, hf⟩ := bcell hb1; (try (have hz1 := hb1.size; simp only [World.size_alloc] at hz1))))
    all_goals go_wp2
    all_goals go_ret
    all_goals first
      | exact ⟨rfl, below_new' hb1⟩
      | exact ⟨rfl, ((Below.refl _ w).drew.trans hb1).alloc hb1.size _⟩

/-- The line feed. -/
def nlT : ByteArray := ⟨#[10]⟩
def headT (e f : Int) : ByteArray := (⟨#[101, 112, 111, 99, 104, 32]⟩ : ByteArray) ++ decT e ++ ⟨#[32]⟩ ++ decT f
def ruleLn (r : RuleI) : ByteArray := (⟨#[114, 117, 108, 101, 32]⟩ : ByteArray) ++ lineT r
def formLn (t : ByteArray) : ByteArray := (⟨#[102, 111, 114, 109, 32]⟩ : ByteArray) ++ t
def classLn (c : Int) : ByteArray := (⟨#[99, 108, 97, 115, 115, 32]⟩ : ByteArray) ++ decT c

/-- Lines, each ended by a line feed. -/
def accT : List ByteArray → ByteArray
  | [] => noTx
  | l :: ls => l ++ nlT ++ accT ls

theorem noTx_append (a : ByteArray) : noTx ++ a = a := by
  apply ByteArray.ext
  simp [noTx]

theorem append_noTx (a : ByteArray) : a ++ noTx = a := by
  apply ByteArray.ext
  simp [noTx]

theorem accT_snoc (ls : List ByteArray) (l : ByteArray) : accT (ls ++ [l]) = accT ls ++ l ++ nlT := by
  induction ls with
  | nil => simp only [List.nil_append, accT, append_noTx, noTx_append]
  | cons x xs ih => simp only [List.cons_append, accT, ih, ByteArray.append_assoc]

theorem join_acc (ls : List ByteArray) (h : ls ≠ []) : (⟨(Lib.join (ls.map (·.data.toList)) [10]).toArray⟩ : ByteArray) ++ nlT = accT ls := by
  induction ls with
  | nil => exact absurd rfl h
  | cons x xs ih =>
    cases xs with
    | nil =>
      apply ByteArray.ext
      simp [Lib.join, accT, nlT, noTx]
    | cons y ys =>
      have := ih (by simp)
      rw [accT, ← this]
      apply ByteArray.ext
      simp [Lib.join, nlT, List.intercalate]

theorem line_size (r : RuleI) : (lineT r).size ≤ 16 := by
  have := tail_size r
  have e : (lineT r).size = 7 + (tailT r).size := by
    unfold lineT tailT lineL
    simp [ByteArray.size]
    omega
  omega

theorem acc_size : ∀ (ls : List ByteArray), (∀ l ∈ ls, l.size ≤ 250) → (accT ls).size ≤ 251 * ls.length
  | [], _ => (Nat.zero_le _ : (0 : Nat) ≤ 251 * 0)
  | l :: ls, h => by
    have h1 := h l (by simp)
    have ih := acc_size ls (fun x hx => h x (by simp [hx]))
    simp only [accT, size_cat, List.length_cons]
    have : nlT.size = 1 := rfl
    omega

theorem join_size (ls : List ByteArray) (h : ls ≠ []) : (Lib.join (ls.map (·.data.toList)) [10]).length + 1 = (accT ls).size := by
  have := congrArg ByteArray.size (join_acc ls h)
  rw [size_cat] at this
  have e : nlT.size = 1 := rfl
  rw [e] at this
  rw [← this]
  simp [ByteArray.size]

end Go.Proofs.YtnfolmjdicfobaaGreatDoor

namespace Go.Proofs.YtnfolmjdicfobaaGreatDoor
open Go.RowKit Go.Shelf
set_option linter.unusedVariables false
set_option linter.unusedSimpArgs false
attribute [-go_sem] run_string_add_if

theorem Tryz.infoS9 : (Tryz.prog.info? 9).map (fun i => (i.zero, i.size, i.bytes)) = some (some (.string ⟨#[]⟩), 1, 16) := by kernel_rfl

theorem classLn_size (x : Int) (h0 : 0 ≤ x) (h1 : x ≤ 15) : (classLn x).size ≤ 8 := by
  have := decT_size x h0 h1
  unfold classLn
  rw [size_cat]
  show 6 + _ ≤ 8
  omega

set_option maxRecDepth 20000 in
set_option maxHeartbeats 2000000 in
theorem classLines_c (a : Option Addr) (n cap : Nat) (zs : List Int) (w : World) (hn : n ≤ 4) (h : IntIn w a n zs) (hok : ∀ x ∈ zs, inR x 0 15 = true) :
    Calls Tryz.prog 78 #[.slice a n cap] w fun e w' => ∃ v, e = .returned v ∧ OwnT w' w.heap.size v (zs.map classLn) ∧ (n = 0 → v = .slice none 0 0) ∧ Below w.heap.size w w' := by
  have H : Hid (IntIn w a n zs) := h
  have HZ : Hid (zs.length = n) := h.1
  have HOK : Hid (∀ x ∈ zs, inR x 0 15 = true) := hok
  obtain ⟨i0, hi, hz0, hz1', hz2⟩ := info_parts Tryz.infoS9
  have hn4 : (n : Int) ≤ 4 := by omega
  clear h hok
  go_enter Tryz.func78, Tryz.ntmps78
  go_wp2_with fail
  go_loopw [3, 8] (fun v i wr => ∃ k : Nat, k ≤ n ∧ i = .int .i64 (k : Int) ∧ Hid (OwnT wr w.heap.size v ((zs.take k).map classLn) ∧ (k = 0 → v = .slice none 0 0) ∧ Below w.heap.size w wr)) (fun _ i _ => n - (intOf i).toNat)
  case atStart => exact ⟨0, by omega, rfl, World.ownsRow_nil _ _ _ _, fun _ => rfl, Below.refl _ _⟩
  case round =>
    obtain ⟨k, hk, rfl, HK⟩ := hrel
    by_cases hlt : k < n
    · have hlt' : (k : Int) < (n : Int) := by omega
      obtain ⟨b, off, x, rfl, hs, hx, hbl⟩ := H.out.at hlt
      obtain ⟨x0, x1⟩ := (inR_iff _ _ _).1 (HOK.out x (List.mem_of_getElem? hs))
      have hx' := (HK.out.2.2.cell (p := ⟨b, off + k, none⟩) hbl).trans hx
      have hbl' : b < wr.heap.size := by have := HK.out.2.2.size; omega
      obtain ⟨t, ht⟩ : ∃ t, classLn x = t := ⟨_, rfl⟩
      have HNX : Hid ((zs.take (k + 1)).map classLn = (zs.take k).map classLn ++ [t]) := by
        show (zs.take (k + 1)).map classLn = (zs.take k).map classLn ++ [t]
        rw [List.take_add_one, hs, ← ht]
        simp
      have hsum : ∀ w', (Op.stringOp .add ⟨#[99, 108, 97, 115, 115, 32]⟩ (decT x)).run Tryz.prog w' = .ok (.string t) w' := fun w' => by rw [← ht]; exact run_string_add_sum w' _ _ (by rw [show (ByteArray.mk #[99, 108, 97, 115, 115, 32]).size = 6 from rfl]; have := decT_size x x0 x1; omega)
      have HN : Hid (∀ w', Calls Tryz.prog 76 #[.int .i64 x] w' fun e w'' => e = .returned (.string (decT x)) ∧ w' = w'') := numD_c x x0 x1
      obtain ⟨ts, hts⟩ : ∃ ts, (zs.take k).map classLn = ts := ⟨_, rfl⟩
      have hkl : ts.length = k := by have := HZ.out; rw [← hts]; simp; omega
      have HV : Hid (OwnT wr w.heap.size _ ts ∧ Below w.heap.size w wr) := ⟨by rw [← hts]; exact HK.out.1, HK.out.2.2⟩
      rw [hts] at HNX
      clear hs hx ht HK hts
      generalize decT x = D at hsum HN
      go_wp2_with (first
        | (go_at_call 76; refine (HN.out _).mono ?_; rintro e w' ⟨rfl, rfl⟩)
        | (at_builtin; refine wpList_append_own _ rfl _ _ 103 rfl w.heap.size 9 i0 (.string ⟨#[]⟩) 1 16 Tryz.underlying103 hi hz0 hz1' hz2 rfl (by decide) _ _ _ rfl (HV.out.1.alloc _) ⟨wr.heap.size, 0, none⟩ 1 1 [.string t] rfl rfl ?c1 ?c2 ?c3 ?c4 ?c5 ?_)
        | fail)
      case c1 =>
        intro j u hj
        match j, hj with
        | 0, hj => simp at hj; subst hj; simp [Addr.add]
      case c2 => intro u hu; simp at hu; subst hu; rfl
      case c3 => rw [hkl]; unfold maxLen; omega
      case c4 => rw [hkl]; omega
      case c5 => have := HV.out.2.size; simp; omega
      intro v' w9 hown' hgrow hnil
      have HR : Hid (OwnT w9 w.heap.size v' ((zs.take (k + 1)).map classLn) ∧ (k + 1 = 0 → v' = .slice none 0 0) ∧ Below w.heap.size w w9) := by
        rw [HNX.out]
        refine ⟨by unfold OwnT; simpa [hkl] using hown', fun q => by omega, (HV.out.2.alloc HV.out.2.size _).grown hgrow (by have := HV.out.2.size; simp; omega) (fun j hj => (HV.out.1.lt j hj).1)⟩
      clear hnil hown' hgrow
      go_wp2_with fail
      exact ⟨⟨k + 1, by omega, by go_num, HR⟩, by simp [intOf]; omega⟩
    · have hke : k = n := by omega
      subst hke
      rw [List.take_of_length_le (by rw [HZ.out]; exact Nat.le_refl _)] at HK
      go_wp2_with fail
      go_ret
      exact ⟨_, rfl, HK.out.1, HK.out.2.1, HK.out.2.2⟩

end Go.Proofs.YtnfolmjdicfobaaGreatDoor

namespace Go.Proofs.YtnfolmjdicfobaaGreatDoor
open Go.RowKit

theorem okR_of {r : RuleI} (h : ruleCode r = 0) : okR r ∧ 1 ≤ r.k ∧ r.k ≤ 4 := by
  unfold ruleCode at h
  by_cases hk : 1 ≤ r.k ∧ r.k ≤ 4
  · rw [if_neg (fun q => q hk)] at h
    cases hr : roleB r.ho r.hn
    · simp [hr] at h
    · refine ⟨⟨hr, fun e => ?_⟩, hk⟩
      rw [if_neg (by rw [hr]; simp)] at h
      cases hb : bareB r
      · simp [hb] at h
      · cases hh : hasB r
        · simp [hb, hh] at h
        · unfold hasB at hh
          rw [if_pos e] at hh
          simpa [prinB] using hh
  · rw [if_pos hk] at h; cases h

theorem polTo_all {zs : List RuleI} : ∀ k, polTo zs k = 0 → ∀ j z, j < k → zs[j]? = some z → ruleCode z = 0
  | 0, _, j, _, hj, _ => by omega
  | k + 1, h, j, z, hj, hz => by
    have h0 : polTo zs k = 0 := by
      by_cases q : polTo zs k = 0
      · exact q
      · exact absurd (polTo_stay zs k (k + 1) _ q rfl (by omega)) (by rw [h]; exact fun e => q e.symm)
    by_cases e : j = k
    · subst e
      by_cases q : ruleCode z = 0
      · exact q
      · rw [polTo_bad zs j z hz h0 q] at h; exact h
    · exact polTo_all k h0 j z (by omega) hz

theorem pol_ok {zs : List RuleI} (h : polCode zs = 0) : zs.length ≤ 16 ∧ ∀ z ∈ zs, okR z ∧ 1 ≤ z.k ∧ z.k ≤ 4 := by
  unfold polCode at h
  split at h
  · cases h
  · refine ⟨by omega, fun z hz => ?_⟩
    obtain ⟨j, hj⟩ := List.mem_iff_getElem?.1 hz
    have hl : j < zs.length := by
      by_cases q : j < zs.length
      · exact q
      · rw [List.getElem?_eq_none (by omega)] at hj; cases hj
    exact okR_of (polTo_all _ h j z hl hj)

end Go.Proofs.YtnfolmjdicfobaaGreatDoor

namespace Go.Proofs.YtnfolmjdicfobaaGreatDoor
open Go.RowKit Go.Shelf
set_option linter.unusedVariables false
set_option linter.unusedSimpArgs false
attribute [-go_sem] run_string_add_if

theorem fldT1C (x : Int) (y : ByteArray) (w : World) : (Instr.field 33 (.agg #[.int .i64 x, .string y]) 1).run Tryz.prog w = .ok (.string y) w := by kernel_rfl

attribute [local go_sem ↓] fldT1C

theorem polC_n16 {zs : List RuleI} {n : Nat} (h : zs.length = n) (hc : polCode zs = 0) : n ≤ 16 := by
  have := (pol_ok hc).1
  omega

theorem polC_codes {zs : List RuleI} (h : polCode zs = 0) : ∀ z ∈ zs, ruleCode z = 0 := by
  unfold polCode at h
  split at h
  · cases h
  · intro z hz
    obtain ⟨j, hj⟩ := List.mem_iff_getElem?.1 hz
    have hl : j < zs.length := by
      by_cases q : j < zs.length
      · exact q
      · rw [List.getElem?_eq_none (by omega)] at hj; cases hj
    exact polTo_all _ h j z hl hj

/-- The code and the text of a form's parts. -/
def ftC (ps : List PartI) : Int := if 200 < (textAt ps (ps.length - 1)).size then 2 else 0
def ftT (ps : List PartI) : ByteArray := if 200 < (textAt ps (ps.length - 1)).size then noTx else textAt ps (ps.length - 1)

theorem ftT_size (ps : List PartI) : (ftT ps).size ≤ 200 := by
  unfold ftT
  split
  · exact (Nat.zero_le _ : (0 : Nat) ≤ 200)
  · omega

theorem implFt_c (a : Option Addr) (n cap : Nat) (ps : List PartI) (w : World) (h : PartsIn w a n ps) (hc : ptCode ps = 0) : GivesT 26 a n cap (ftC ps) (ftT ps) w := by
  have hl := h.1
  refine implPT_ok a n cap ps _ w h hc rfl (ftC ps) (ftT ps) ⟨fun q => ?_, fun q => ?_⟩
  · rw [← hl] at q
    exact ⟨by unfold ftC; rw [if_pos q], by unfold ftT; rw [if_pos q]⟩
  · rw [← hl] at q ⊢
    exact ⟨by unfold ftC; rw [if_neg q], by unfold ftT; rw [if_neg q]⟩

theorem specFt_c (a : Option Addr) (n cap : Nat) (ps : List PartI) (w : World) (h : PartsIn w a n ps) (hc : ptCode ps = 0) : GivesT 28 a n cap (ftC ps) (ftT ps) w := by
  have hl := h.1
  refine specPT_ok a n cap ps _ w h hc rfl (last_text a n cap ps w h hc) (ftC ps) (ftT ps) ⟨fun q => ?_, fun q => ?_⟩
  · rw [← hl] at q
    exact ⟨by unfold ftC; rw [if_pos q], by unfold ftT; rw [if_pos q]⟩
  · rw [← hl] at q ⊢
    exact ⟨by unfold ftC; rw [if_neg q], by unfold ftT; rw [if_neg q]⟩

def fmLn (ps : List PartI) : ByteArray := formLn (ftT ps)

/-- The lines ahead of the classes. -/
def lines1 (e f : Int) (zs : List RuleI) : List ByteArray := headT e f :: zs.map ruleLn
def lines2 (e f : Int) (zs : List RuleI) (pss : List (List PartI)) : List ByteArray := lines1 e f zs ++ pss.map fmLn
def lines3 (e f : Int) (zs : List RuleI) (pss : List (List PartI)) (cs : List Int) : List ByteArray := lines2 e f zs pss ++ cs.map classLn

/-- What ConfigText tells where there is no fault. -/
def ctCode (e f : Int) (zs : List RuleI) (pss : List (List PartI)) (cs : List Int) : Int := if pss.all (fun ps => decide (ftC ps = 0)) = false then 2 else if 1500 < (accT (lines3 e f zs pss cs)).size then 2 else 0
def ctText (e f : Int) (zs : List RuleI) (pss : List (List PartI)) (cs : List Int) : ByteArray := if ctCode e f zs pss cs = 0 then accT (lines3 e f zs pss cs) else noTx

theorem ct_bad {e f : Int} {zs : List RuleI} {pss : List (List PartI)} {cs : List Int} {k : Nat} {ps : List PartI} (h : pss[k]? = some ps) (hb : ftC ps ≠ 0) : ctCode e f zs pss cs = 2 ∧ ctText e f zs pss cs = noTx ∧ ftC ps = 2 ∧ ftT ps = noTx := by
  have e1 : pss.all (fun ps => decide (ftC ps = 0)) = false := by
    rw [List.all_eq_false]
    exact ⟨ps, List.mem_of_getElem? h, by simpa using hb⟩
  have e2 : ctCode e f zs pss cs = 2 := by unfold ctCode; rw [if_pos e1]
  refine ⟨e2, by unfold ctText; rw [if_neg (by rw [e2]; decide)], ?_⟩
  unfold ftC at hb ⊢
  unfold ftT
  split at hb
  · rename_i q
    rw [if_pos q, if_pos q]
    exact ⟨rfl, rfl⟩
  · exact absurd rfl hb

theorem ct_ok {e f : Int} {zs : List RuleI} {pss : List (List PartI)} {cs : List Int} (h : ∀ (k : Nat) (ps : List PartI), pss[k]? = some ps → ftC ps = 0) :
    (1500 < (accT (lines3 e f zs pss cs)).size → ctCode e f zs pss cs = 2 ∧ ctText e f zs pss cs = noTx) ∧ (¬ 1500 < (accT (lines3 e f zs pss cs)).size → ctCode e f zs pss cs = 0 ∧ ctText e f zs pss cs = accT (lines3 e f zs pss cs)) := by
  have e1 : pss.all (fun ps => decide (ftC ps = 0)) = true := by
    rw [List.all_eq_true]
    intro ps hp
    obtain ⟨k, hk⟩ := List.mem_iff_getElem?.1 hp
    exact decide_eq_true (h k ps hk)
  refine ⟨fun q => ?_, fun q => ?_⟩
  · have e2 : ctCode e f zs pss cs = 2 := by unfold ctCode; rw [if_neg (by rw [e1]; decide), if_pos q]
    exact ⟨e2, by unfold ctText; rw [if_neg (by rw [e2]; decide)]⟩
  · have e2 : ctCode e f zs pss cs = 0 := by unfold ctCode; rw [if_neg (by rw [e1]; decide), if_neg q]
    exact ⟨e2, by unfold ctText; rw [if_pos e2]⟩

theorem headT_size (e f : Int) (e0 : 0 ≤ e) (e1 : e ≤ 15) (f0 : 0 ≤ f) (f1 : f ≤ 15) : (headT e f).size ≤ 11 := by
  have h1 := decT_size e e0 e1
  have h2 := decT_size f f0 f1
  unfold headT
  rw [size_cat, size_cat, size_cat]
  show 6 + _ + 1 + _ ≤ 11
  omega

theorem lines_small {e f : Int} {zs : List RuleI} {pss : List (List PartI)} {cs : List Int} (he : 0 ≤ e ∧ e ≤ 15) (hf : 0 ≤ f ∧ f ≤ 15) (hc : ∀ x ∈ cs, inR x 0 15 = true) : ∀ l ∈ lines3 e f zs pss cs, l.size ≤ 250 := by
  intro l hl
  unfold lines3 lines2 lines1 at hl
  rcases List.mem_append.1 hl with hl | hl
  · rcases List.mem_append.1 hl with hl | hl
    · rcases List.mem_cons.1 hl with rfl | hl
      · have := headT_size e f he.1 he.2 hf.1 hf.2; omega
      · obtain ⟨r, _, rfl⟩ := List.mem_map.1 hl
        have := line_size r
        unfold ruleLn
        rw [size_cat]
        show 5 + _ ≤ 250
        omega
    · obtain ⟨p, _, rfl⟩ := List.mem_map.1 hl
      have := ftT_size p
      unfold fmLn formLn
      rw [size_cat]
      show 5 + _ ≤ 250
      omega
  · obtain ⟨x, hx, rfl⟩ := List.mem_map.1 hl
    obtain ⟨x0, x1⟩ := (inR_iff _ _ _).1 (hc x hx)
    have := classLn_size x x0 x1
    omega

theorem OwnT.next {w w9 : World} {B : Nat} {v v' : Value} {ts : List ByteArray} {t : ByteArray} {n : Nat} (hl : ts.length = n) (h : w9.ownsRow B 9 1 v' (n + 1) (ts.map Value.string ++ [.string t])) : OwnT w9 B v' (ts ++ [t]) := by
  unfold OwnT
  rw [List.length_append, hl, List.map_append]
  exact h

end Go.Proofs.YtnfolmjdicfobaaGreatDoor
