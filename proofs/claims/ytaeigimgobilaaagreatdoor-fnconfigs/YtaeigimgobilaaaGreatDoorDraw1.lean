/-
  CONTRACTS of the draws of the verifier's model: spec.l1Source, spec.l1Next, spec.l1Pick, spec.l1Draw, spec.l1Bent.
  Conditions: each contract bears its own.
-/
import Derived.Test.YtaeigimgobilaaaGreatDoorSpec1
import Derived.WalkSmall
import Derived.BigQuiet
import Derived.Deep.QuietTactic
import Derived.Laws.BitsAllLaws
namespace Go.Proofs.YtaeigimgobilaaaGreatDoor
open Go.RowKit
set_option linter.unusedVariables false

/-- The bytes of a code: each can be read. -/
def CodeIn (w : World) (a : Option Addr) (len : Nat) (ys : List Int) : Prop :=
  ∀ k, k < len → ∃ b off, a = some ⟨b, off, none⟩ ∧ w.cell? ⟨b, off + k, none⟩ = some (.int .u8 (ys[k]?.getD 0)) ∧ 0 ≤ ys[k]?.getD 0 ∧ ys[k]?.getD 0 ≤ 255

/-- A source in block B: its code, and how many were drawn. -/
def SrcAt (w : World) (B : Nat) (a : Option Addr) (len cap at' : Nat) (ys : List Int) : Prop :=
  w.heap[B]? = some (.cells #[.slice a len cap, .int .i64 (at' : Int)] 79 (0, 0)) ∧ CodeIn w a len ys ∧ (∀ b off, a = some ⟨b, off, none⟩ → len = 0 ∨ b ≠ B)

theorem CodeIn.kept {w w' : World} {a : Option Addr} {len : Nat} {ys : List Int} {row : Option Nat} (h : CodeIn w a len ys) (hg : w.grownBy w' row) (hne : ∀ b off, a = some ⟨b, off, none⟩ → len = 0 ∨ some b ≠ row) : CodeIn w' a len ys := by
  intro k hk
  obtain ⟨b, off, e, hc, h0, h1⟩ := h k hk
  rcases hne b off e with h' | h'
  · omega
  · exact ⟨b, off, e, hg.cell hc h', h0, h1⟩

theorem SrcAt.kept {w w' : World} {B : Nat} {a : Option Addr} {len cap at' : Nat} {ys : List Int} {row : Option Nat} (h : SrcAt w B a len cap at' ys) (hg : w.grownBy w' row) (hB : some B ≠ row) (hne : ∀ b off, a = some ⟨b, off, none⟩ → len = 0 ∨ some b ≠ row) : SrcAt w' B a len cap at' ys :=
  ⟨(hg.block B (Array.getElem?_eq_some_iff.1 h.1).1 hB).trans h.1, h.2.1.kept hg hne, h.2.2⟩

theorem SrcAt.below {w w' : World} {B : Nat} {a : Option Addr} {len cap at' : Nat} {ys : List Int} (h : SrcAt w B a len cap at' ys) (hb : Below w.heap.size w w') : SrcAt w' B a len cap at' ys :=
  h.kept (row := none) ⟨hb.os, hb.tape, hb.output, hb.size, fun k hk _ => hb.block k hk⟩ (by simp) (fun _ _ _ => .inr (by simp))

theorem SrcAt.lt {w : World} {B : Nat} {a : Option Addr} {len cap at' : Nat} {ys : List Int} (h : SrcAt w B a len cap at' ys) : B < w.heap.size := (Array.getElem?_eq_some_iff.1 h.1).1

set_option maxHeartbeats 400000 in
theorem source_c (a : Option Addr) (len cap : Nat) (w : World) :
    Calls Tryz.prog 16 #[.slice a len cap] w fun e w' => e = .returned (.pointer (some ⟨w.heap.size, 0, none⟩)) ∧ w.alloc (.cells #[.slice a len cap, .int .i64 0] 79) = w' := by
  go_enter Tryz.func16, Tryz.ntmps16
  go_wp2
  go_ret
  exact ⟨rfl, rfl⟩

theorem SrcAt.drewN {w : World} {B : Nat} {a : Option Addr} {len cap at' : Nat} {ys : List Int} (h : SrcAt w B a len cap at' ys) (m : Nat) : SrcAt (w.drewN m) B a len cap at' ys := ⟨h.1, h.2.1, h.2.2⟩
theorem grown_drewN' {w w' : World} {row : Option Nat} (h : w.grownBy w' row) (m : Nat) : w.grownBy (w'.drewN m) row := ⟨h.os, h.tape, h.output, h.size, h.block⟩

theorem src_step {w : World} {B : Nat} {a : Option Addr} {len cap at' : Nat} {ys : List Int} (h : SrcAt w B a len cap at' ys) :
    SrcAt (w.setCell ⟨B, 1, none⟩ (.int .i64 ((at' : Int) + 1))) B a len cap (at' + 1) ys ∧ w.grownBy (w.setCell ⟨B, 1, none⟩ (.int .i64 ((at' : Int) + 1))) (some B) := by
  have hg : w.grownBy (w.setCell ⟨B, 1, none⟩ (.int .i64 ((at' : Int) + 1))) (some B) := ⟨rfl, rfl, rfl, by simp [World.setCell], fun k _ hk => Below.heap_setCell _ _ _ _ (fun e => hk (by rw [e]))⟩
  refine ⟨⟨?_, h.2.1.kept hg (fun b off e => (h.2.2 b off e).imp id (fun hne => by simpa using hne)), h.2.2⟩, hg⟩
  rw [heap_setCell_same w B 1 _ _ _ h.1]
  simp

set_option maxHeartbeats 1000000 in
theorem next_c (w : World) (B : Nat) (a : Option Addr) (len cap at' : Nat) (ys : List Int) (n : Int) (h : SrcAt w B a len cap at' ys) (hl : len ≤ 1048576) (hat : at' ≤ 1000) (n1 : 1 ≤ n) (n2 : n ≤ 1048576) :
    Calls Tryz.prog 22 #[.pointer (some ⟨B, 0, none⟩), .int .i64 n] w fun e w' => ∃ v : Int, 0 ≤ v ∧ v < n ∧ e = .returned (.int .i64 v) ∧ SrcAt w' B a len cap (at' + 1) ys ∧ w.grownBy w' (some B) := by
  have hc0 : w.cell? ⟨B, 0, none⟩ = some (.slice a len cap) := by simp [World.cell?, h.1]
  have hc1 : w.cell? ⟨B, 1, none⟩ = some (.int .i64 (at' : Int)) := by simp [World.cell?, h.1]
  have hf1 : w.frozen? ⟨B, 1, none⟩ = false := by simp [World.frozen?, h.1]
  have hat' : (at' : Int) ≤ 1000 := by omega
  have hl' : (len : Int) ≤ 1048576 := by omega
  have HH : Hid (SrcAt w B a len cap at' ys) := h
  clear h
  have hst := src_step HH.out
  have HST : Hid (SrcAt (w.setCell ⟨B, 1, none⟩ (.int .i64 ((at' : Int) + 1))) B a len cap (at' + 1) ys ∧ w.grownBy (w.setCell ⟨B, 1, none⟩ (.int .i64 ((at' : Int) + 1))) (some B)) := hst
  clear hst
  by_cases h0 : len = 0
  · subst h0
    go_enter Tryz.func22, Tryz.ntmps22
    go_wp2
    go_ret
    exact ⟨_, Int.emod_nonneg _ (by omega), Int.emod_lt_of_pos _ (by omega), rfl, HST.out⟩
  · have hk0 : ((len : Int) == 0) = false := by simp; omega
    obtain ⟨j, hj, hjl⟩ : ∃ j : Nat, (at' : Int) % (len : Int) = (j : Int) ∧ j < len := ⟨at' % len, by simp, Nat.mod_lt _ (by omega)⟩
    obtain ⟨j2, hj2, hj2l⟩ : ∃ j : Nat, ((at' : Int) + 1) % (len : Int) = (j : Int) ∧ j < len := ⟨(at' + 1) % len, by simp, Nat.mod_lt _ (by omega)⟩
    obtain ⟨q, hq, hql⟩ : ∃ q : Nat, (at' : Int) / (len : Int) = (q : Int) ∧ q ≤ 1000 := ⟨at' / len, by simp, Nat.le_trans (Nat.div_le_self _ _) hat⟩
    obtain ⟨b, off, ha, hcj, y0, y1⟩ := HST.out.1.2.1 j hjl
    obtain ⟨b2, off2, ha2, hcj2, z0, z1⟩ := HST.out.1.2.1 j2 hj2l
    have hbb : b2 = b ∧ off2 = off := by rw [ha] at ha2; simp at ha2; exact ⟨ha2.1.symm, ha2.2.symm⟩
    obtain ⟨rfl, rfl⟩ := hbb
    obtain ⟨y, hy⟩ : ∃ y : Int, y = ys[j]?.getD 0 := ⟨_, rfl⟩
    obtain ⟨z, hz⟩ : ∃ z : Int, z = ys[j2]?.getD 0 := ⟨_, rfl⟩
    rw [← hy] at hcj y0 y1
    rw [← hz] at hcj2 z0 z1
    subst ha
    clear hy hz ha2
    have hjl' : (j : Int) < (len : Int) := by omega
    have hj2l' : (j2 : Int) < (len : Int) := by omega
    have hql' : (q : Int) ≤ 1000 := by omega
    go_enter Tryz.func22, Tryz.ntmps22
    go_wp2
    go_quiet (fail)
    go_wp2
    · go_quiet (fail)
      go_wp2
      go_ret
      exact ⟨_, Int.emod_nonneg _ (by omega), Int.emod_lt_of_pos _ (by omega), rfl, HST.out.1.drewN _, grown_drewN' HST.out.2 _⟩
    · go_ret
      exact ⟨_, Int.emod_nonneg _ (by omega), Int.emod_lt_of_pos _ (by omega), rfl, HST.out.1.drewN _, grown_drewN' HST.out.2 _⟩

/-- The world behind a draw: a source has gone on, older blocks but its own are as they were. -/
def Drawn (w w' : World) (B : Nat) (a : Option Addr) (len cap : Nat) (k k' : Nat) (ys : List Int) : Prop := SrcAt w' B a len cap k' ys ∧ w.grownBy w' (some B)

set_option maxHeartbeats 400000 in
theorem pick_c (w : World) (B : Nat) (a : Option Addr) (len cap at' : Nat) (ys : List Int) (h : SrcAt w B a len cap at' ys) (hl : len ≤ 1048576) (hat : at' ≤ 1000) (g n c : Nat) (xs : List Int) (hxs : xs.length = n) (hn : 1 ≤ n) (hn2 : n ≤ 100) (hgB : g ≠ B)
    (hc : ∀ k, k < n → w.cell? ⟨g, k, none⟩ = some (.int .i64 (xs[k]?.getD 0))) :
    Calls Tryz.prog 18 #[.pointer (some ⟨B, 0, none⟩), .slice (some ⟨g, 0, none⟩) n c] w fun e w' => ∃ k : Nat, k < n ∧ e = .returned (.int .i64 (xs[k]?.getD 0)) ∧ SrcAt w' B a len cap (at' + 1) ys ∧ w.grownBy w' (some B) := by
  have HH : Hid (SrcAt w B a len cap at' ys) := h
  have HC : Hid (∀ k, k < n → w.cell? ⟨g, k, none⟩ = some (.int .i64 (xs[k]?.getD 0))) := hc
  clear h hc hxs
  go_enter Tryz.func18, Tryz.ntmps18
  go_wp2_with fail
  refine (next_c w B a len cap at' ys (n : Int) HH.out hl hat (by omega) (by omega)).mono ?_
  rintro e w1 ⟨v, v0, v1, rfl, hS, hG⟩
  obtain ⟨k, rfl⟩ := Int.eq_ofNat_of_zero_le v0
  have hk : k < n := by omega
  have hck := hG.cell (a := ⟨g, k, none⟩) (HC.out k hk) (by simpa using hgB)
  have hk' : (k : Int) < (n : Int) := by omega
  go_wp2
  go_ret
  exact ⟨k, hk, rfl, hS, hG⟩

theorem and_small : ∀ x : Fin 256, ∀ y : Fin 256, (y.val = 7 ∨ y.val = 15 ∨ y.val = 255) → 0 ≤ bits .and .i64 ((x.val : Nat) : Int) ((y.val : Nat) : Int) ∧ bits .and .i64 ((x.val : Nat) : Int) ((y.val : Nat) : Int) ≤ 255 := by
  have h : ∀ x : Fin 256, ∀ y : Fin 3, 0 ≤ bits .and .i64 ((x.val : Nat) : Int) (([7, 15, 255][y.val]?.getD 0 : Nat) : Int) ∧ bits .and .i64 ((x.val : Nat) : Int) (([7, 15, 255][y.val]?.getD 0 : Nat) : Int) ≤ 255 := by decide +kernel
  intro x y hy
  rcases hy with e | e | e
  · rw [e]; exact h x 0
  · rw [e]; exact h x 1
  · rw [e]; exact h x 2

theorem three_at (x y z : Int) (k : Nat) (hk : k < 3) : [x, y, z][k]?.getD 0 = x ∨ [x, y, z][k]?.getD 0 = y ∨ [x, y, z][k]?.getD 0 = z := by
  match k, hk with
  | 0, _ => exact .inl rfl
  | 1, _ => exact .inr (.inl rfl)
  | 2, _ => exact .inr (.inr rfl)

theorem grown_alloc (w : World) (o : Obj) : w.grownBy (w.alloc o) none := ⟨rfl, rfl, rfl, by simp, fun k hk _ => Below.heap_alloc w o k hk⟩
theorem grown_trans {a b c : World} {row : Option Nat} (h : a.grownBy b row) (k : b.grownBy c row) : a.grownBy c row :=
  ⟨k.os.trans h.os, k.tape.trans h.tape, k.output.trans h.output, Nat.le_trans h.size k.size, fun q hq hne => (k.block q (Nat.lt_of_lt_of_le hq h.size) hne).trans (h.block q hq hne)⟩
theorem grown_none {a b : World} (h : a.grownBy b none) (row : Option Nat) : a.grownBy b row := ⟨h.os, h.tape, h.output, h.size, fun q hq _ => h.block q hq (by simp)⟩

set_option maxHeartbeats 400000 in
theorem draw_c (w : World) (B : Nat) (a : Option Addr) (len cap at' : Nat) (ys : List Int) (h : SrcAt w B a len cap at' ys) (hl : len ≤ 1048576) (hat : at' ≤ 900) :
    Calls Tryz.prog 47 #[.pointer (some ⟨B, 0, none⟩)] w fun e w' => ∃ v : Int, 0 ≤ v ∧ v ≤ 255 ∧ e = .returned (.int .i64 v) ∧ SrcAt w' B a len cap (at' + 2) ys ∧ w.grownBy w' (some B) := by
  have HH : Hid (SrcAt w B a len cap at' ys) := h
  clear h
  go_enter Tryz.func47, Tryz.ntmps47
  go_wp2_with fail
  refine (next_c w B a len cap at' ys 256 HH.out hl (by omega) (by omega) (by omega)).mono ?_
  rintro e w1 ⟨v, v0, v1, rfl, hS, hG⟩
  have HS : Hid (SrcAt (w1.alloc (.cells #[.int .i64 7, .int .i64 15, .int .i64 255] 2)) B a len cap (at' + 1) ys) := hS.below ((Below.refl _ _).alloc (Nat.le_refl _) _)
  have hBl := hS.lt
  have HG : Hid (w.grownBy w1 (some B)) := hG
  clear hS hG HH
  go_wp2_with fail
  refine (pick_c _ B a len cap (at' + 1) ys HS.out hl (by omega) w1.heap.size 3 3 [7, 15, 255] rfl (by omega) (by omega) (by omega) (fun k hk => by
    match k, hk with
    | 0, _ => simp
    | 1, _ => simp
    | 2, _ => simp)).mono ?_
  rintro e w2 ⟨k, hk, rfl, hS2, hG2⟩
  obtain ⟨m, hm⟩ : ∃ m : Int, m = ([7, 15, 255] : List Int)[k]?.getD 0 := ⟨_, rfl⟩
  rw [← hm]
  have hbd : 0 ≤ bits .and .i64 v m ∧ bits .and .i64 v m ≤ 255 := by
    obtain ⟨x, rfl⟩ := Int.eq_ofNat_of_zero_le v0
    rcases three_at 7 15 255 k hk with e | e | e <;> rw [hm, e]
    · exact and_small ⟨x, by omega⟩ 7 (.inl rfl)
    · exact and_small ⟨x, by omega⟩ 15 (.inr (.inl rfl))
    · exact and_small ⟨x, by omega⟩ 255 (.inr (.inr rfl))
  have HBD : Hid (0 ≤ bits .and .i64 v m ∧ bits .and .i64 v m ≤ 255) := hbd
  clear hbd hm
  go_wp2
  go_ret
  exact ⟨_, HBD.out.1, HBD.out.2, rfl, hS2, grown_trans HG.out (grown_trans (grown_none (grown_alloc _ _) _) hG2)⟩

set_option maxHeartbeats 400000 in
theorem bent_c (w : World) (B : Nat) (a : Option Addr) (len cap at' : Nat) (ys : List Int) (h : SrcAt w B a len cap at' ys) (hl : len ≤ 1048576) (hat : at' ≤ 800) :
    Calls Tryz.prog 23 #[.pointer (some ⟨B, 0, none⟩)] w fun e w' => ∃ v : Int, e = .returned (.int .i64 v) ∧ SrcAt w' B a len cap (at' + 7) ys ∧ w.grownBy w' (some B) := by
  have HH : Hid (SrcAt w B a len cap at' ys) := h
  clear h
  go_enter Tryz.func23, Tryz.ntmps23
  go_wp2_with fail
  refine (draw_c w B a len cap at' ys HH.out hl (by omega)).mono ?_
  rintro e w1 ⟨v1, _, _, rfl, hS1, hG1⟩
  have H1 : Hid (SrcAt w1 B a len cap (at' + 2) ys ∧ w.grownBy w1 (some B)) := ⟨hS1, hG1⟩
  clear hS1 hG1 HH
  go_wp2_with fail
  refine (draw_c w1 B a len cap (at' + 2) ys H1.out.1 hl (by omega)).mono ?_
  rintro e w2 ⟨v2, _, _, rfl, hS2, hG2⟩
  have H2 : Hid (SrcAt w2 B a len cap (at' + 4) ys ∧ w.grownBy w2 (some B)) := ⟨hS2, grown_trans H1.out.2 hG2⟩
  clear hS2 hG2 H1
  go_wp2_with fail
  refine (draw_c w2 B a len cap (at' + 4) ys H2.out.1 hl (by omega)).mono ?_
  rintro e w3 ⟨v3, _, _, rfl, hS3, hG3⟩
  have H3 : Hid (SrcAt (w3.alloc (.cells #[.int .i64 v1, .int .i64 v2, .int .i64 v3, .int .i64 255, .int .i64 256, .int .i64 (-1)] 2)) B a len cap (at' + 6) ys ∧ w.grownBy (w3.alloc (.cells #[.int .i64 v1, .int .i64 v2, .int .i64 v3, .int .i64 255, .int .i64 256, .int .i64 (-1)] 2)) (some B)) :=
    ⟨hS3.below ((Below.refl _ _).alloc (Nat.le_refl _) _), grown_trans (grown_trans H2.out.2 hG3) (grown_none (grown_alloc _ _) _)⟩
  have hBl := hS3.lt
  clear hS3 hG3 H2
  go_wp2_with fail
  refine (pick_c _ B a len cap (at' + 6) ys H3.out.1 hl (by omega) w3.heap.size 6 6 [v1, v2, v3, 255, 256, -1] rfl (by omega) (by omega) (by omega) (fun k hk => by
    match k, hk with
    | 0, _ => simp
    | 1, _ => simp
    | 2, _ => simp
    | 3, _ => simp
    | 4, _ => simp
    | 5, _ => simp)).mono ?_
  rintro e w4 ⟨k, hk, rfl, hS4, hG4⟩
  obtain ⟨m, hm⟩ : ∃ m : Int, m = ([v1, v2, v3, 255, 256, -1] : List Int)[k]?.getD 0 := ⟨_, rfl⟩
  rw [← hm]
  clear hm
  go_wp2
  go_ret
  exact ⟨_, rfl, hS4, grown_trans H3.out.2 hG4⟩

theorem src_new (w : World) (a : Option Addr) (len cap : Nat) (ys : List Int) (h : CodeIn w a len ys) : SrcAt (w.alloc (.cells #[.slice a len cap, .int .i64 0] 79)) w.heap.size a len cap 0 ys := by
  refine ⟨heap_alloc_new w _, h.kept (row := none) (grown_alloc w _) (fun _ _ _ => .inr (by simp)), fun b off e => ?_⟩
  by_cases h0 : len = 0
  · exact .inl h0
  · obtain ⟨b', off', e', hc, _⟩ := h 0 (by omega)
    rw [e] at e'
    simp at e'
    have := World.block_lt_of_cell? w ⟨b', off' + 0, none⟩ hc
    exact .inr (by have h1 := e'.1; simp at this; omega)

end Go.Proofs.YtaeigimgobilaaaGreatDoor
