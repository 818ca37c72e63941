/-
  CONTRACTS of laws.toInt64S (a copy of a slice) and of laws.eqInt64S (two that are alike).
  Conditions: each contract bears its own.
  CONTRACTS: laws.eqRoleS, laws.markRoleS, laws.heldRoleS, of results too; laws.markRuleS.
  Conditions: each contract bears its own.
  CONTRACTS: slices of numbers in memory: copied, compared, marked.
  Conditions: each contract bears its own.
  CONTRACTS: forms and configurations in memory: measured, copied (laws.toFormS, laws.toConfig), compared (two that are alike).
  Conditions: each contract bears its own.
-/
import Derived.Test.YtnfolmjdicfobaaGreatDoorPc01
import Derived.WalkSmall
import Derived.BigQuiet
import Derived.Deep.QuietTactic
import Derived.Test.YtnfolmjdicfobaaGreatDoorPc04
import Derived.Test.YtnfolmjdicfobaaGreatDoorPc03
namespace Go.Proofs.YtnfolmjdicfobaaGreatDoor
open Go.RowKit
set_option linter.unusedVariables false

/-- What laws.toInt64S needs of the slice that it copies. -/
def RowIn (w : World) (a : Option Addr) (len : Nat) (zs : List Int) : Prop :=
  len ≤ zs.length ∧ ∀ k, k < len → ∃ b off, a = some ⟨b, off, none⟩ ∧ w.cell? ⟨b, off + k, none⟩ = some (.int .i64 (zs[k]?.getD 0))

theorem made_len (n : Nat) : ((madeCells (Value.int .i64 0).cells (n * 1)).toList).length = n := by simp [madeCells, Value.cells]

theorem rows_done {n : Nat} {ys : List Value} {zs : List Int} (hz : n ≤ zs.length) (hl : ys.length = n) (h : ∀ j, j < n → ys[j]? = some (.int .i64 (zs[j]?.getD 0))) : ys = (zs.take n).map (Value.int .i64) := by
  apply List.ext_getElem?
  intro i
  by_cases hi : i < n
  · rw [h i hi]; simp [hi, List.getElem?_eq_getElem (show i < zs.length by omega)]
  · rw [List.getElem?_eq_none (by omega), List.getElem?_eq_none (by simp; omega)]

set_option maxHeartbeats 400000 in
theorem toS_c (a0 : Option Addr) (len cap : Nat) (zs : List Int) (w : World) (hl : len ≤ 1048576) (hr : RowIn w a0 len zs) :
    Calls Tryz.prog 53 #[.slice a0 len cap] w fun e w' => e = .returned (.slice (some ⟨w.heap.size, 0, none⟩) len len) ∧
      w'.ownsRow w.heap.size 2 1 (.slice (some ⟨w.heap.size, 0, none⟩) len len) len ((zs.take len).map (Value.int .i64)) ∧ Below w.heap.size w w' := by
  obtain ⟨i0, hi, hz0, hz1, hz2⟩ := info_parts Tryz.info2
  obtain ⟨wm, hmk, hownm, hgrm⟩ := run_make_full (P := Tryz.prog) (w := w) w.heap.size 26 2 i0 (.int .i64 0) 1 Tryz.underlying26 hi hz0 hz1 .i64 .i64 len (by rw [hz2]; omega) (by unfold maxLen; omega) (Nat.le_refl _)
  obtain ⟨hzl, hcs⟩ := hr
  have HC : Hid (∀ k, k < len → ∃ b off, a0 = some ⟨b, off, none⟩ ∧ w.cell? ⟨b, off + k, none⟩ = some (.int .i64 (zs[k]?.getD 0))) := hcs
  clear hcs
  have HM : Hid (wm.ownsRow w.heap.size 2 1 (.slice (some ⟨w.heap.size, 0, none⟩) len len) len (madeCells (Value.int .i64 0).cells (len * 1)).toList) := hownm
  clear hownm
  have HG : Hid (w.grownBy wm none) := hgrm
  clear hgrm
  have hl' : (len : Int) ≤ 1048576 := by omega
  go_enter Tryz.func53, Tryz.ntmps53
  go_wp2
  go_loopw [4] (fun i wr => ∃ (k : Nat) (ys : List Value), k ≤ len ∧ i = .int .i64 (k : Int) ∧ wr.ownsRow w.heap.size 2 1 (.slice (some ⟨w.heap.size, 0, none⟩) len len) len ys ∧ (∀ j, j < k → ys[j]? = some (.int .i64 (zs[j]?.getD 0))) ∧ Below w.heap.size w wr)
    (fun i _ => len - (intOf i).toNat)
  case atStart => exact ⟨0, _, Nat.zero_le _, rfl, HM.out, fun j hj => by omega, (Below.refl _ _).grown HG.out (Nat.le_refl _) (fun k e => by cases e)⟩
  case round =>
    obtain ⟨k, ys, hk, rfl, hown, hys, hnx⟩ := hrel
    by_cases hlt : k < len
    · obtain ⟨b, off, ha, hc⟩ := HC.out k hlt
      subst ha
      obtain ⟨y, hy⟩ : ∃ y, y = zs[k]?.getD 0 := ⟨_, rfl⟩
      rw [← hy] at hc
      have hb : b < w.heap.size := World.block_lt_of_cell? w ⟨b, off + k, none⟩ hc
      have hcr : wr.cell? ⟨b, off + k, none⟩ = some (.int .i64 y) := (hnx.cell (p := ⟨b, off + k, none⟩) hb).trans hc
      have hlen : ys.length = len := by simpa using hown.1
      obtain ⟨v0, hco⟩ : ∃ v0, wr.cell? ⟨w.heap.size, k, none⟩ = some v0 := ⟨_, (hown.cellAt k (by omega)).trans (List.getElem?_eq_getElem (show k < ys.length by omega))⟩
      have hfo := hown.frozenAt k
      have hst := hown.stored k (.int .i64 y)
      have R : Hid ((wr.setCell ⟨w.heap.size, k, none⟩ (.int .i64 y)).ownsRow w.heap.size 2 1 (.slice (some ⟨w.heap.size, 0, none⟩) len len) len (ys.set k (.int .i64 y)) ∧ (∀ j, j < k + 1 → (ys.set k (.int .i64 y))[j]? = some (.int .i64 (zs[j]?.getD 0))) ∧ Below w.heap.size w (wr.setCell ⟨w.heap.size, k, none⟩ (.int .i64 y))) := by
        refine ⟨hst.1, fun j hj => ?_, hnx.setCell (Nat.le_refl _) _⟩
        by_cases e : j = k
        · subst e; rw [List.getElem?_set_self (by omega), hy]
        · rw [List.getElem?_set_ne (by omega)]; exact hys j (by omega)
      clear hst hown hys hy hc hlen
      have hlt' : (k : Int) < (len : Int) := by omega
      go_wp2
      go_roundw
      case rel => exact ⟨k + 1, _, by omega, by go_num, R.out.1, R.out.2.1, R.out.2.2⟩
      case measure => simp [intOf]; omega
    · have hkn : k = len := by omega
      subst hkn
      have E := rows_done hzl (by simpa using hown.1) hys
      rw [E] at hown
      go_wp2
      go_ret
      exact ⟨rfl, hown, hnx⟩

set_option maxHeartbeats 400000 in
theorem eqS_same (a b : Option Addr) (n c d : Nat) (zs : List Int) (w : World) (hn : n ≤ 1048576)
    (ha : ∀ k, k < n → ∃ g off, a = some ⟨g, off, none⟩ ∧ w.cell? ⟨g, off + k, none⟩ = some (.int .i64 (zs[k]?.getD 0))) (hb : ∀ k, k < n → ∃ g off, b = some ⟨g, off, none⟩ ∧ w.cell? ⟨g, off + k, none⟩ = some (.int .i64 (zs[k]?.getD 0))) :
    Calls Tryz.prog 56 #[.slice a n c, .slice b n d] w fun e w' => e = .returned (.bool true) ∧ Below w.heap.size w w' := by
  have HA : Hid (∀ k, k < n → ∃ g off, a = some ⟨g, off, none⟩ ∧ w.cell? ⟨g, off + k, none⟩ = some (.int .i64 (zs[k]?.getD 0))) := ha
  have HB : Hid (∀ k, k < n → ∃ g off, b = some ⟨g, off, none⟩ ∧ w.cell? ⟨g, off + k, none⟩ = some (.int .i64 (zs[k]?.getD 0))) := hb
  clear ha hb
  have hn' : (n : Int) ≤ 1048576 := by omega
  go_enter Tryz.func56, Tryz.ntmps56
  go_wp2
  go_loopw [5] (fun i wr => ∃ (k : Nat), k ≤ n ∧ i = .int .i64 (k : Int) ∧ ∃ m, wr = w.drewN m) (fun i _ => n - (intOf i).toNat)
  case atStart => exact ⟨0, Nat.zero_le _, rfl, 0, rfl⟩
  case round =>
    obtain ⟨k, hk, rfl, m, rfl⟩ := hrel
    by_cases hlt : k < n
    · obtain ⟨g, off, e1, hca⟩ := HA.out k hlt
      obtain ⟨g2, off2, e2, hcb⟩ := HB.out k hlt
      subst e1 e2
      obtain ⟨y, hy⟩ : ∃ y, y = zs[k]?.getD 0 := ⟨_, rfl⟩
      rw [← hy] at hca hcb
      clear hy
      have hlt' : (k : Int) < (n : Int) := by omega
      go_wp2
      go_quiet (fail)
      go_wp2
      exact ⟨⟨k + 1, by omega, by go_num, _, rfl⟩, by simp [intOf]; omega⟩
    · have hkn : k = n := by omega
      subst hkn
      go_wp2
      go_ret
      exact ⟨rfl, below_drewN (Below.refl _ _) _⟩

theorem RowIn.below {w w' : World} {a : Option Addr} {len : Nat} {zs : List Int} (h : RowIn w a len zs) (hb : Below w.heap.size w w') : RowIn w' a len zs := by
  refine ⟨h.1, fun k hk => ?_⟩
  obtain ⟨b, off, e, hc⟩ := h.2 k hk
  exact ⟨b, off, e, (hb.cell (p := ⟨b, off + k, none⟩) (World.block_lt_of_cell? w ⟨b, off + k, none⟩ hc)).trans hc⟩

theorem owned_cells {w : World} {base g len cap : Nat} {zs : List Int} (h : w.ownsRow base 2 1 (.slice (some ⟨g, 0, none⟩) len cap) len ((zs.take len).map (Value.int .i64))) (hz : len ≤ zs.length) :
    ∀ k, k < len → w.cell? ⟨g, k, none⟩ = some (.int .i64 (zs[k]?.getD 0)) := by
  intro k hk
  rw [h.cellAt k (by omega)]
  simp [hk, List.getElem?_eq_getElem (show k < zs.length by omega)]

theorem owned_lt {w : World} {base g len cap : Nat} {xs : List Value} (h : w.ownsRow base 2 1 (.slice (some ⟨g, 0, none⟩) len cap) len xs) : g < w.heap.size := (h.lt g rfl).2

end Go.Proofs.YtnfolmjdicfobaaGreatDoor

namespace Go.Proofs.YtnfolmjdicfobaaGreatDoor
open Go.RowKit
set_option linter.unusedVariables false
set_option linter.unusedSimpArgs false

/-- A slice of roles, read. -/
def RolesV (w : World) (a : Option Addr) (zs : List RoI) : Prop := ∀ k p, zs[k]? = some p → ∃ g, a = some ⟨g, 0, none⟩ ∧ w.cell? ⟨g, k * 2, none⟩ = some (.int .i64 p.1) ∧ w.cell? ⟨g, k * 2 + 1, none⟩ = some (.int .i64 p.2)

theorem RolesV.below {w w' : World} {a : Option Addr} {zs : List RoI} (h : RolesV w a zs) (hb : Below w.heap.size w w') : RolesV w' a zs := fun k p e => by
  obtain ⟨g, ha, h1, h2⟩ := h k p e
  exact ⟨g, ha, (hb.cell (p := ⟨g, k * 2, none⟩) (World.block_lt_of_cell? w ⟨g, k * 2, none⟩ h1)).trans h1, (hb.cell (p := ⟨g, k * 2 + 1, none⟩) (World.block_lt_of_cell? w ⟨g, k * 2 + 1, none⟩ h2)).trans h2⟩

theorem RolesV.kept {w w' : World} {a : Option Addr} {zs : List RoI} {row : Option Nat} (h : RolesV w a zs) (hg : w.grownBy w' row) (hne : ∀ g, a = some ⟨g, 0, none⟩ → some g ≠ row) : RolesV w' a zs := fun k p e => by
  obtain ⟨g, ha, h1, h2⟩ := h k p e
  exact ⟨g, ha, hg.cell h1 (hne g ha), hg.cell h2 (hne g ha)⟩

theorem Owns2.read {w : World} {B : Nat} {a : Option Addr} {n cap : Nat} {zs : List RoI} (h : Owns2 w B (.slice a n cap) zs) : RolesV w a zs := by
  intro k p e
  have hk : k < zs.length := by
    by_cases q : k < zs.length
    · exact q
    · rw [List.getElem?_eq_none (by omega)] at e; cases e
  have h0 : w.ownsRow B 79 2 (.slice a n cap) zs.length (flat2 zs) := h
  rcases h0.2 with ⟨h', h''⟩ | ⟨g, cap', cur, h', _⟩
  · omega
  · simp at h'
    obtain ⟨rfl, rfl, rfl⟩ := h'
    refine ⟨g, rfl, ?_, ?_⟩
    · rw [h0.cellAt (k * 2) (by omega)]; exact flat2_fst zs k p e
    · rw [h0.cellAt (k * 2 + 1) (by omega)]; exact flat2_snd zs k p e

theorem Owns2.shape {w : World} {B : Nat} {v : Value} {zs : List RoI} (h : Owns2 w B v zs) : (v = .slice none 0 0 ∧ zs = []) ∨ ∃ g cap, v = .slice (some ⟨g, 0, none⟩) zs.length cap ∧ B ≤ g ∧ g < w.heap.size ∧ zs.length ≤ cap ∧ cap ≤ maxLen := by
  have h0 : w.ownsRow B 79 2 v zs.length (flat2 zs) := h
  rcases h0.2 with ⟨h', h''⟩ | ⟨g, cap', cur, h', hb, hg, hc, hm, _⟩
  · exact .inl ⟨h', List.length_eq_zero_iff.1 h''⟩
  · exact .inr ⟨g, cap', h', hb, (Array.getElem?_eq_some_iff.1 hg).1, hc, hm⟩

theorem Owns2.below {w w' : World} {B : Nat} {v : Value} {zs : List RoI} (h : Owns2 w B v zs) (hb : Below w.heap.size w w') : Owns2 w' B v zs :=
  World.ownsRow.kept (row := none) h ⟨hb.os, hb.tape, hb.output, hb.size, fun k hk _ => hb.block k hk⟩ (by cases v.ownBlock <;> simp)

/-- The marks of n roles. -/
def mk2 (n : Nat) : List RoI := (List.range n).map fun j => (((1 + 2 * j : Nat) : Int), ((2 + 2 * j : Nat) : Int))
theorem mk2_len (n : Nat) : (mk2 n).length = n := by simp [mk2]
theorem mk2_at (n j : Nat) (h : j < n) : (mk2 n)[j]? = some (((1 + 2 * j : Nat) : Int), ((2 + 2 * j : Nat) : Int)) := by simp [mk2, h]

theorem Owns2.put {w : World} {B g cap : Nat} {zs : List RoI} {n : Nat} (hn : n = zs.length) (h : Owns2 w B (.slice (some ⟨g, 0, none⟩) n cap) zs) (j : Nat) (p : RoI) :
    Owns2 ((w.setCell ⟨g, j * 2, none⟩ (.int .i64 p.1)).setCell ⟨g, j * 2 + 1, none⟩ (.int .i64 p.2)) B (.slice (some ⟨g, 0, none⟩) n cap) (zs.set j p) ∧ w.grownBy ((w.setCell ⟨g, j * 2, none⟩ (.int .i64 p.1)).setCell ⟨g, j * 2 + 1, none⟩ (.int .i64 p.2)) (some g) := by
  subst hn
  have h0 : w.ownsRow B 79 2 (.slice (some ⟨g, 0, none⟩) zs.length cap) zs.length (flat2 zs) := h
  have h1 := h0.stored (j * 2) (.int .i64 p.1)
  have h2 := h1.1.stored (j * 2 + 1) (.int .i64 p.2)
  refine ⟨?_, ⟨h2.2.os.trans h1.2.os, h2.2.tape.trans h1.2.tape, h2.2.output.trans h1.2.output, Nat.le_trans h1.2.size h2.2.size, fun q hq hne => (h2.2.block q (Nat.lt_of_lt_of_le hq h1.2.size) hne).trans (h1.2.block q hq hne)⟩⟩
  show World.ownsRow _ B 79 2 _ (zs.set j p).length (flat2 (zs.set j p))
  rw [flat2_set, List.length_set]
  exact h2.1

theorem Owns2.cell {w : World} {B g cap : Nat} {zs : List RoI} {n : Nat} (hn : n = zs.length) (h : Owns2 w B (.slice (some ⟨g, 0, none⟩) n cap) zs) (j : Nat) (hj : j < n * 2) : (∃ v, w.cell? ⟨g, j, none⟩ = some v) ∧ w.frozen? ⟨g, j, none⟩ = false := by
  subst hn
  have h0 : w.ownsRow B 79 2 (.slice (some ⟨g, 0, none⟩) zs.length cap) zs.length (flat2 zs) := h
  exact ⟨⟨_, (h0.cellAt j hj).trans (List.getElem?_eq_getElem (by rw [flat2_len]; exact hj))⟩, h0.frozenAt j⟩

theorem grown_refl (w : World) (row : Option Nat) : w.grownBy w row := ⟨rfl, rfl, rfl, Nat.le_refl _, fun _ _ _ => rfl⟩
theorem grown_tr {a b c : World} {row : Option Nat} (h : a.grownBy b row) (k : b.grownBy c row) : a.grownBy c row :=
  ⟨k.os.trans h.os, k.tape.trans h.tape, k.output.trans h.output, Nat.le_trans h.size k.size, fun q hq hne => (k.block q (Nat.lt_of_lt_of_le hq h.size) hne).trans (h.block q hq hne)⟩

theorem Owns2.alloc {w : World} {B : Nat} {v : Value} {zs : List RoI} (h : Owns2 w B v zs) (o : Obj) : Owns2 (w.alloc o) B v zs := World.ownsRow.alloc h o

theorem RoomAt.set {w : World} {g n : Nat} (h : RoomAt w g n) (j : Nat) (v : Value) : RoomAt (w.setCell ⟨g, j, none⟩ v) g n := by
  refine ⟨fun i hi => ?_, fun i => by simp only [World.frozen?_setCell]; exact h.2 i⟩
  obtain ⟨u, hu⟩ := h.1 i hi
  by_cases e : i = j
  · subst e
    exact ⟨v, World.cell?_setCell_same' _ _ _ (by rw [hu]; rfl)⟩
  · exact ⟨u, (World.cell?_setCell_other w ⟨g, j, none⟩ ⟨g, i, none⟩ v (fun q => e (congrArg Addr.off q).symm)).trans hu⟩

theorem grown_set (w : World) (g j : Nat) (v : Value) : w.grownBy (w.setCell ⟨g, j, none⟩ v) (some g) :=
  ⟨rfl, rfl, rfl, by simp [World.setCell], fun k _ hk => Below.heap_setCell _ _ _ _ (fun e => hk (by rw [e]))⟩

end Go.Proofs.YtnfolmjdicfobaaGreatDoor

namespace Go.Proofs.YtnfolmjdicfobaaGreatDoor
open Go.RowKit
set_option linter.unusedVariables false
set_option linter.unusedSimpArgs false

/-- Numbers in memory. -/
def IntIn (w : World) (a : Option Addr) (n : Nat) (zs : List Int) : Prop := zs.length = n ∧ (0 < n → ∃ b off, a = some ⟨b, off, none⟩ ∧ ∀ k x, zs[k]? = some x → w.cell? ⟨b, off + k, none⟩ = some (.int .i64 x))

theorem IntIn.below {w w' : World} {a : Option Addr} {n : Nat} {zs : List Int} (h : IntIn w a n zs) (hb : Below w.heap.size w w') : IntIn w' a n zs := by
  refine ⟨h.1, fun hn => ?_⟩
  obtain ⟨b, off, e, k⟩ := h.2 hn
  exact ⟨b, off, e, fun j x hx => (hb.cell (p := ⟨b, off + j, none⟩) (World.block_lt_of_cell? w ⟨b, off + j, none⟩ (k j x hx))).trans (k j x hx)⟩

theorem IntIn.at {w : World} {a : Option Addr} {n : Nat} {zs : List Int} (h : IntIn w a n zs) {k : Nat} (hk : k < n) : ∃ b off x, a = some ⟨b, off, none⟩ ∧ zs[k]? = some x ∧ w.cell? ⟨b, off + k, none⟩ = some (.int .i64 x) ∧ b < w.heap.size := by
  obtain ⟨b, off, e, q⟩ := h.2 (by omega)
  have hx := List.getElem?_eq_getElem (l := zs) (i := k) (by rw [h.1]; exact hk)
  exact ⟨b, off, _, e, hx, q k _ hx, World.block_lt_of_cell? w ⟨b, off + k, none⟩ (q k _ hx)⟩

theorem IntIn.row {w : World} {a : Option Addr} {n : Nat} {zs : List Int} (h : IntIn w a n zs) : RowIn w a n zs := by
  refine ⟨by rw [h.1]; exact Nat.le_refl _, fun k hk => ?_⟩
  obtain ⟨b, off, x, e, hx, hc, _⟩ := h.at hk
  exact ⟨b, off, e, by rw [hx]; exact hc⟩

theorem RowIn.ints {w : World} {a : Option Addr} {n : Nat} {zs : List Int} (h : RowIn w a n zs) : IntIn w a n (zs.take n) := by
  have hl := h.1
  refine ⟨by simp; omega, fun hp => ?_⟩
  obtain ⟨b, off, e, _⟩ := h.2 0 hp
  refine ⟨b, off, e, fun k x hx => ?_⟩
  have hk : k < n := by
    by_cases q : k < n
    · exact q
    · rw [List.getElem?_eq_none (by simp; omega)] at hx; cases hx
  obtain ⟨b', off', e', hc⟩ := h.2 k hk
  rw [e] at e'
  cases e'
  rw [List.getElem?_take, if_pos hk] at hx
  rw [hx] at hc
  exact hc

/-- Numbers in a block, from its beginning. -/
def IntsAt (w : World) (g : Nat) (zs : List Int) : Prop := ∀ k x, zs[k]? = some x → w.cell? ⟨g, k, none⟩ = some (.int .i64 x)

theorem IntsAt.below {w w' : World} {g : Nat} {zs : List Int} (h : IntsAt w g zs) (hb : Below w.heap.size w w') : IntsAt w' g zs := fun k x e =>
  (hb.cell (p := ⟨g, k, none⟩) (World.block_lt_of_cell? w ⟨g, k, none⟩ (h k x e))).trans (h k x e)

theorem IntIn.of {w : World} {g n : Nat} {zs : List Int} (hl : zs.length = n) (h : IntsAt w g zs) : IntIn w (some ⟨g, 0, none⟩) n zs :=
  ⟨hl, fun _ => ⟨g, 0, rfl, fun k x e => by rw [Nat.zero_add]; exact h k x e⟩⟩

/-- A block of n numbers that may be written. -/
def IntRoom (w : World) (g n : Nat) : Prop := (∀ j, j < n → ∃ v, w.cell? ⟨g, j, none⟩ = some v) ∧ ∀ j, w.frozen? ⟨g, j, none⟩ = false

theorem IntRoom.below {w w' : World} {g n : Nat} (h : IntRoom w g n) (hg : g < w.heap.size) (hb : Below w.heap.size w w') : IntRoom w' g n :=
  ⟨fun j hj => by obtain ⟨v, e⟩ := h.1 j hj; exact ⟨v, (hb.cell (p := ⟨g, j, none⟩) hg).trans e⟩, fun j => (hb.frozen (p := ⟨g, j, none⟩) hg).trans (h.2 j)⟩

theorem IntRoom.grown {w w' : World} {g n : Nat} {row : Option Nat} (h : IntRoom w g n) (hg : g < w.heap.size) (hr : w.grownBy w' row) (hne : some g ≠ row) : IntRoom w' g n :=
  ⟨fun j hj => by obtain ⟨v, e⟩ := h.1 j hj; exact ⟨v, hr.cell e hne⟩, fun j => by
    have := h.2 j
    unfold World.frozen? at this ⊢
    simp only at this ⊢
    rw [hr.block g hg hne]
    exact this⟩

theorem IntRoom.set {w : World} {g n : Nat} (h : IntRoom w g n) (o : Nat) (v : Value) : IntRoom (w.setCell ⟨g, o, none⟩ v) g n := by
  refine ⟨fun j hj => ?_, fun j => by simp only [World.frozen?_setCell]; exact h.2 j⟩
  obtain ⟨u, e⟩ := h.1 j hj
  by_cases q : j = o
  · subst q
    exact ⟨v, by simp [go_sem, e]⟩
  · exact ⟨u, by rw [World.cell?_setCell_other (h := fun e => q (by have := congrArg Addr.off e; simp at this; omega))]; exact e⟩

theorem intIn_kept {w w' : World} {a : Option Addr} {n L : Nat} {zs : List Int} {row : Option Nat} (h : IntIn w a n zs) (hg : w.grownBy w' row) (hL : ∀ b off, a = some ⟨b, off, none⟩ → n = 0 ∨ b < L) (hne : ∀ q, row = some q → L ≤ q) : IntIn w' a n zs := by
  refine ⟨h.1, fun hp => ?_⟩
  obtain ⟨b, off, e, hr⟩ := h.2 hp
  have hb : b < L := by
    rcases hL b off e with h0 | h0
    · omega
    · exact h0
  exact ⟨b, off, e, fun k r hk => hg.cell (hr k r hk) (fun q => by have := hne b q.symm; omega)⟩

theorem int_lt {w : World} {a : Option Addr} {n : Nat} {zs : List Int} (h : IntIn w a n zs) : ∀ b off, a = some ⟨b, off, none⟩ → n = 0 ∨ b < w.heap.size := by
  intro b off e
  by_cases h0 : n = 0
  · exact .inl h0
  · obtain ⟨b', off', r, e', _, _, hb⟩ := h.at (show 0 < n by omega)
    rw [e] at e'
    cases e'
    exact .inr hb

theorem toInts_room (a : Option Addr) (n cap : Nat) (zs : List Int) (w : World) (hn : n ≤ 1048576) (h : IntIn w a n zs) :
    Calls Tryz.prog 53 #[.slice a n cap] w fun e w' => e = .returned (.slice (some ⟨w.heap.size, 0, none⟩) n n) ∧ IntsAt w' w.heap.size zs ∧ w.heap.size < w'.heap.size ∧ Below w.heap.size w w' ∧ IntRoom w' w.heap.size n := by
  refine (toS_c a n cap zs w hn h.row).mono ?_
  rintro e w' ⟨rfl, hown, hb⟩
  have hz : zs.length = n := h.1
  have hl := hown.1
  refine ⟨rfl, fun k x hx => ?_, owned_lt hown, hb, fun j hj => ⟨_, (hown.cellAt j (by omega)).trans (List.getElem?_eq_getElem (by omega))⟩, fun j => hown.frozenAt j⟩
  have hk : k < n := by
    by_cases q : k < n
    · exact q
    · rw [List.getElem?_eq_none (by omega)] at hx; cases hx
  have := owned_cells hown (by omega) k hk
  rw [hx] at this
  exact this

theorem toInts_c (a : Option Addr) (n cap : Nat) (zs : List Int) (w : World) (hn : n ≤ 1048576) (h : IntIn w a n zs) :
    Calls Tryz.prog 53 #[.slice a n cap] w fun e w' => e = .returned (.slice (some ⟨w.heap.size, 0, none⟩) n n) ∧ IntsAt w' w.heap.size zs ∧ w.heap.size < w'.heap.size ∧ Below w.heap.size w w' :=
  (toInts_room a n cap zs w hn h).mono fun e w' hh => ⟨hh.1, hh.2.1, hh.2.2.1, hh.2.2.2.1⟩

theorem eqIntsS_same (a b : Option Addr) (n c d : Nat) (zs : List Int) (w : World) (hn : n ≤ 1048576) (ha : IntIn w a n zs) (hb : IntIn w b n zs) :
    Calls Tryz.prog 56 #[.slice a n c, .slice b n d] w fun e w' => e = .returned (.bool true) ∧ Below w.heap.size w w' :=
  eqS_same a b n c d zs w hn ha.row.2 hb.row.2

end Go.Proofs.YtnfolmjdicfobaaGreatDoor

namespace Go.Proofs.YtnfolmjdicfobaaGreatDoor
open Go.RowKit
set_option linter.unusedVariables false
set_option linter.unusedSimpArgs false

/-- A form: where its parts lie, and what they are. -/
structure FormI where
  a : Option Addr
  n : Nat
  cap : Nat
  ps : List PartI
deriving Inhabited

/-- A form in memory. -/
def FormAt (w : World) (g off : Nat) (x : FormI) : Prop := w.cell? ⟨g, off, none⟩ = some (.slice x.a x.n x.cap) ∧ PartsIn w x.a x.n x.ps

theorem FormAt.below {w w' : World} {g off : Nat} {x : FormI} (h : FormAt w g off x) (hb : Below w.heap.size w w') : FormAt w' g off x :=
  ⟨(hb.cell (p := ⟨g, off, none⟩) (World.block_lt_of_cell? w ⟨g, off, none⟩ h.1)).trans h.1, h.2.below hb⟩

theorem FormAt.lt {w : World} {g off : Nat} {x : FormI} (h : FormAt w g off x) : g < w.heap.size := World.block_lt_of_cell? w ⟨g, off, none⟩ h.1

def FormsAt (w : World) (g off : Nat) (fs : List FormI) : Prop := ∀ (k : Nat) (x : FormI), fs[k]? = some x → FormAt w g (off + k) x

theorem FormsAt.below {w w' : World} {g off : Nat} {fs : List FormI} (h : FormsAt w g off fs) (hb : Below w.heap.size w w') : FormsAt w' g off fs := fun k x e => (h k x e).below hb

/-- A slice of forms. -/
def FormsIn (w : World) (a : Option Addr) (n : Nat) (fs : List FormI) : Prop := fs.length = n ∧ (0 < n → ∃ b off, a = some ⟨b, off, none⟩ ∧ FormsAt w b off fs)

theorem FormsIn.below {w w' : World} {a : Option Addr} {n : Nat} {fs : List FormI} (h : FormsIn w a n fs) (hb : Below w.heap.size w w') : FormsIn w' a n fs := by
  refine ⟨h.1, fun hl => ?_⟩
  obtain ⟨b, off, e, hr⟩ := h.2 hl
  exact ⟨b, off, e, hr.below hb⟩

theorem FormsIn.at {w : World} {a : Option Addr} {n : Nat} {fs : List FormI} (h : FormsIn w a n fs) {k : Nat} (hk : k < n) :
    ∃ b off x, a = some ⟨b, off, none⟩ ∧ fs[k]? = some x ∧ FormAt w b (off + k) x := by
  obtain ⟨b, off, e, hr⟩ := h.2 (by omega)
  have hl := h.1
  exact ⟨b, off, fs[k]'(by omega), e, List.getElem?_eq_getElem (by omega), hr k _ (List.getElem?_eq_getElem (by omega))⟩

theorem FormsIn.of {w : World} {g n : Nat} {fs : List FormI} (hl : fs.length = n) (h : FormsAt w g 0 fs) : FormsIn w (some ⟨g, 0, none⟩) n fs :=
  ⟨hl, fun _ => ⟨g, 0, rfl, h⟩⟩

/-- What the forms are, wherever they lie. -/
def partsL (fs : List FormI) : List (List PartI) := fs.map FormI.ps

/-- Every form is of at most so many parts. -/
def FormsLe (m : Nat) (fs : List FormI) : Prop := ∀ (k : Nat) (x : FormI), fs[k]? = some x → x.n ≤ m

/-- A form whose parts lie in a block of their own that may be written. -/
def FormNew (w : World) (L : Nat) (x : FormI) : Prop := x.cap = x.n ∧ ∃ g, x.a = some ⟨g, 0, none⟩ ∧ L ≤ g ∧ g < w.heap.size ∧ Room5 w g x.n

theorem FormNew.below {w w' : World} {L : Nat} {x : FormI} (h : FormNew w L x) (hb : Below w.heap.size w w') : FormNew w' L x := by
  obtain ⟨h0, g, h1, h2, h3, h4⟩ := h
  exact ⟨h0, g, h1, h2, by have := hb.size; omega, h4.below h3 hb⟩

def FormsNew (w : World) (L : Nat) (fs : List FormI) : Prop := ∀ (k : Nat) (x : FormI), fs[k]? = some x → FormNew w L x

theorem FormsNew.below {w w' : World} {L : Nat} {fs : List FormI} (h : FormsNew w L fs) (hb : Below w.heap.size w w') : FormsNew w' L fs := fun k x e => (h k x e).below hb

theorem Tryz.info42 : (Tryz.prog.info? 42).map (fun i => (i.zero, i.size, i.bytes)) = some (some (.agg #[.slice none 0 0]), 1, 24) := by kernel_rfl

theorem PartsIn.set {w : World} {a : Option Addr} {n g o : Nat} {v : Value} {zs : List PartI} (h : PartsIn w a n zs) (hne : ∀ b off, a = some ⟨b, off, none⟩ → b ≠ g) : PartsIn (w.setCell ⟨g, o, none⟩ v) a n zs := by
  refine ⟨h.1, fun hp => ?_⟩
  obtain ⟨b, off, e, hr⟩ := h.2 hp
  refine ⟨b, off, e, fun k x hx => ?_⟩
  have key : ∀ (q : Nat) (u : Value), w.cell? ⟨b, q, none⟩ = some u → (w.setCell ⟨g, o, none⟩ v).cell? ⟨b, q, none⟩ = some u := fun q u hu => by
    rw [World.cell?_setCell_other (h := fun e2 => hne b off e (by have := congrArg Addr.block e2; simp at this; omega))]; exact hu
  obtain ⟨h0, h1, h2, h3, h4⟩ := hr k x hx
  exact ⟨key _ _ h0, key _ _ h1, key _ _ h2, key _ _ h3, key _ _ h4⟩

theorem Room5.setAny {w : World} {g n : Nat} (h : Room5 w g n) (b o : Nat) (v : Value) : Room5 (w.setCell ⟨b, o, none⟩ v) g n := by
  refine ⟨fun j hj => ?_, fun j => by simp only [World.frozen?_setCell]; exact h.2 j⟩
  obtain ⟨u, e⟩ := h.1 j hj
  by_cases q : (⟨b, o, none⟩ : Addr) = ⟨g, j, none⟩
  · cases q
    exact ⟨v, by simp [go_sem, e]⟩
  · exact ⟨u, by rw [World.cell?_setCell_other (h := q)]; exact e⟩

set_option maxHeartbeats 400000 in
theorem toForm_c (x : FormI) (w : World) (hn : x.n ≤ 1048576) (h : PartsIn w x.a x.n x.ps) :
    Calls Tryz.prog 98 #[.agg #[.slice x.a x.n x.cap]] w fun e w' => ∃ y : FormI, e = .returned (.agg #[.slice y.a y.n y.cap]) ∧ y.ps = x.ps ∧ y.n = x.n ∧ PartsIn w' y.a y.n y.ps ∧ FormNew w' w.heap.size y ∧ Below w.heap.size w w' := by
  have HP : Hid (PartsIn w x.a x.n x.ps) := h
  clear h
  obtain ⟨W, hW⟩ : ∃ W, W = ((w.alloc (.cells #[.slice x.a x.n x.cap] 140)).alloc (.cells #[.slice none 0 0] 42)).alloc (.cells #[.slice none 0 0] 42) := ⟨_, rfl⟩
  have hs : W.heap.size = w.heap.size + 3 := by rw [hW]; simp
  have B0 : Below w.heap.size w W := by rw [hW]; exact (((Below.refl _ _).alloc (Nat.le_refl _) _).alloc (by simp) _).alloc (by simp; omega) _
  have c1 : W.cell? ⟨w.heap.size + 1, 0, none⟩ = some (.slice none 0 0) := by rw [hW]; go_cell
  have c2 : W.cell? ⟨w.heap.size + 2, 0, none⟩ = some (.slice none 0 0) := by rw [hW]; go_cell
  have f1 : W.frozen? ⟨w.heap.size + 1, 0, none⟩ = false := by rw [hW]; simp [go_sem]
  have f2 : W.frozen? ⟨w.heap.size + 2, 0, none⟩ = false := by rw [hW]; simp [go_sem]
  go_enter Tryz.func98, Tryz.ntmps98
  go_wp2_with fail
  rw [← hW]
  clear hW
  refine (toParts_room x.a x.n x.cap x.ps W hn (HP.out.below B0)).mono ?_
  rintro e w1 ⟨rfl, hat, hlt, hb, hroom⟩
  have HQ : Hid (PartsAt w1 W.heap.size 0 x.ps ∧ Room5 w1 W.heap.size x.n ∧ Below w.heap.size w w1) := ⟨hat, hroom, B0.trans (hb.mono (by omega))⟩
  have d1 : w1.cell? ⟨w.heap.size + 1, 0, none⟩ = some (.slice none 0 0) := (hb.cell (p := ⟨w.heap.size + 1, 0, none⟩) (by show w.heap.size + 1 < W.heap.size; omega)).trans c1
  have d2 : w1.cell? ⟨w.heap.size + 2, 0, none⟩ = some (.slice none 0 0) := (hb.cell (p := ⟨w.heap.size + 2, 0, none⟩) (by show w.heap.size + 2 < W.heap.size; omega)).trans c2
  have g1 : w1.frozen? ⟨w.heap.size + 1, 0, none⟩ = false := (hb.frozen (p := ⟨w.heap.size + 1, 0, none⟩) (by show w.heap.size + 1 < W.heap.size; omega)).trans f1
  have g2 : w1.frozen? ⟨w.heap.size + 2, 0, none⟩ = false := (hb.frozen (p := ⟨w.heap.size + 2, 0, none⟩) (by show w.heap.size + 2 < W.heap.size; omega)).trans f2
  have hw : w.heap.size + 2 < w1.heap.size := by omega
  have HS : Hid (W.heap.size = w.heap.size + 3) := hs
  clear hat hroom hb c1 c2 f1 f2 B0 hs
  go_wp2
  refine bodyPost_ret (v := .agg #[.slice (some ⟨W.heap.size, 0, none⟩) x.n x.n]) (by simp [results, Tryz.results98, go_sem, d1, d2, hw]) rfl ⟨⟨some ⟨W.heap.size, 0, none⟩, x.n, x.n, x.ps⟩, rfl, rfl, rfl, ?_, ⟨rfl, _, rfl, by have := HS.out; omega, by simp only [World.size_setCell]; exact hlt, (HQ.out.2.1.setAny _ _ _).setAny _ _ _⟩, ?_⟩
  · exact ((PartsIn.of HP.out.1 HQ.out.1).set (fun b off e => by cases e; have := HS.out; omega)).set (fun b off e => by cases e; have := HS.out; omega)
  · exact (HQ.out.2.2.setCell (by simp; omega) _).setCell (by simp) _

/-- One more form is stored in the table. -/
theorem forms_put {w : World} {B k n : Nat} {ys : List FormI} {y : FormI} (hroom : IntRoom w B n) (hk : k < n) (hl : ys.length = k) (hat : FormsAt w B 0 ys) (hnew : FormsNew w (B + 1) ys) (hp : PartsIn w y.a y.n y.ps) (hy : FormNew w (B + 1) y) :
    IntRoom (w.setCell ⟨B, k, none⟩ (.slice y.a y.n y.cap)) B n ∧ FormsAt (w.setCell ⟨B, k, none⟩ (.slice y.a y.n y.cap)) B 0 (ys ++ [y]) ∧ FormsNew (w.setCell ⟨B, k, none⟩ (.slice y.a y.n y.cap)) (B + 1) (ys ++ [y]) := by
  have hne : ∀ z : FormI, FormNew w (B + 1) z → ∀ b off, z.a = some ⟨b, off, none⟩ → b ≠ B := fun z hz b off e => by
    obtain ⟨_, g, e', hg, _⟩ := hz
    rw [e] at e'
    cases e'
    omega
  have hns : ∀ z : FormI, FormNew w (B + 1) z → FormNew (w.setCell ⟨B, k, none⟩ (.slice y.a y.n y.cap)) (B + 1) z := fun z hz => by
    obtain ⟨h0, g, e', hg, hlt, hr⟩ := hz
    exact ⟨h0, g, e', hg, by simp only [World.size_setCell]; exact hlt, hr.setAny _ _ _⟩
  obtain ⟨u, hu⟩ := hroom.1 k hk
  refine ⟨hroom.set _ _, fun j x e => ?_, fun j x e => ?_⟩
  · by_cases hj : j < k
    · rw [List.getElem?_append_left (by omega)] at e
      obtain ⟨h1, h2⟩ := hat j x e
      refine ⟨?_, h2.set (hne x (hnew j x e))⟩
      rw [World.cell?_setCell_other (h := fun q => by have := congrArg Addr.off q; simp at this; omega)]
      exact h1
    · have hjk : j = k := by
        by_cases q : j < (ys ++ [y]).length
        · simp at q; omega
        · rw [List.getElem?_eq_none (by omega)] at e; cases e
      subst hjk
      rw [← hl, List.getElem?_append_right (Nat.le_refl _), Nat.sub_self] at e
      simp at e
      subst e
      refine ⟨?_, hp.set (hne y hy)⟩
      rw [Nat.zero_add]
      simp [go_sem, hu]
  · rcases List.mem_append.1 (List.mem_of_getElem? e) with h | h
    · obtain ⟨i, hi⟩ := List.mem_iff_getElem?.1 h
      exact hns x (hnew i x hi)
    · rw [List.mem_singleton.1 h]
      exact hns y hy

/-- What a copy of forms is: as many, of the same parts, in a table of its own. -/
structure FormsTo (w0 w : World) (n : Nat) (fs ys : List FormI) : Prop where
  ln : ys.length = n
  ps : partsL ys = partsL fs
  at' : FormsAt w w0.heap.size 0 ys
  nw : FormsNew w (w0.heap.size + 1) ys
  rm : IntRoom w w0.heap.size n
  lt : w0.heap.size < w.heap.size
  bl : Below w0.heap.size w0 w

set_option maxHeartbeats 1000000 in
theorem toForms_c (a : Option Addr) (n cap : Nat) (fs : List FormI) (w : World) (hn : n ≤ 1048576) (hle : FormsLe 1048576 fs) (h : FormsIn w a n fs) :
    Calls Tryz.prog 52 #[.slice a n cap] w fun e w' => e = .returned (.slice (some ⟨w.heap.size, 0, none⟩) n n) ∧ ∃ ys, FormsTo w w' n fs ys := by
  obtain ⟨i0, hi, hz0, hz1, hz2⟩ := info_parts Tryz.info42
  obtain ⟨wm, hmk, hownm, hgrm⟩ := run_make_full (P := Tryz.prog) (w := w) w.heap.size 25 42 i0 (.agg #[.slice none 0 0]) 1 Tryz.underlying25 hi hz0 hz1 .i64 .i64 n (by rw [hz2]; omega) (by unfold maxLen; omega) (Nat.le_refl _)
  have H : Hid (FormsIn w a n fs) := h
  have HLE : Hid (FormsLe 1048576 fs) := hle
  have hz : Hid (fs.length = n) := h.1
  clear h hle
  have HM : Hid (IntRoom wm w.heap.size n ∧ w.heap.size < wm.heap.size) := by
    refine ⟨⟨fun j hj => ?_, fun j => hownm.frozenAt j⟩, (hownm.lt _ rfl).2⟩
    have hl := hownm.1
    exact ⟨_, (hownm.cellAt j (by omega)).trans (List.getElem?_eq_getElem (by omega))⟩
  clear hownm
  have HG : Hid (w.grownBy wm none) := hgrm
  clear hgrm
  have hn' : (n : Int) ≤ 1048576 := by omega
  go_enter Tryz.func52, Tryz.ntmps52
  go_wp2
  go_loopw [4] (fun i wr => ∃ (k : Nat) (ys : List FormI), k ≤ n ∧ i = .int .i64 (k : Int) ∧ ys.length = k ∧ partsL ys = partsL (fs.take k) ∧ IntRoom wr w.heap.size n ∧ FormsAt wr w.heap.size 0 ys ∧ FormsNew wr (w.heap.size + 1) ys ∧ w.heap.size < wr.heap.size ∧ Below w.heap.size w wr)
    (fun i _ => n - (intOf i).toNat)
  case atStart => exact ⟨0, [], Nat.zero_le _, rfl, rfl, rfl, HM.out.1, fun k r e => by simp at e, fun k r e => by simp at e, HM.out.2, (Below.refl _ _).grown HG.out (Nat.le_refl _) (fun k e => by cases e)⟩
  case round =>
    obtain ⟨k, ys, hk, rfl, hyl, hyp, hroom, hat, hnew, hlt0, hnx⟩ := hrel
    have HY : Hid (ys.length = k ∧ partsL ys = partsL (fs.take k)) := ⟨hyl, hyp⟩
    clear hyl hyp
    by_cases hlt : k < n
    · obtain ⟨b, off, x, rfl, hs, hr⟩ := H.out.at hlt
      have HS : Hid (fs[k]? = some x) := hs
      have hb : b < w.heap.size := hr.lt
      have hx : x.n ≤ 1048576 := HLE.out k x hs
      clear hs
      have hr2 := hr.below hnx
      have h0 := hr2.1
      have HX : Hid (PartsIn wr x.a x.n x.ps) := hr2.2
      have HD : Hid (IntRoom wr w.heap.size n ∧ FormsAt wr w.heap.size 0 ys ∧ FormsNew wr (w.heap.size + 1) ys ∧ Below w.heap.size w wr) := ⟨hroom, hat, hnew, hnx⟩
      clear hroom hat hnew hr hr2 hnx
      have hlt' : (k : Int) < (n : Int) := by omega
      go_wp2_with fail
      refine (toForm_c x _ hx HX.out).mono ?_
      rintro e w1 ⟨y, rfl, hyps, hyn, hyP, hyN, hb1⟩
      have hz1 := hb1.size
      have HB : Hid (Below wr.heap.size wr w1) := hb1
      have hyN' : FormNew w1 (w.heap.size + 1) y := by
        obtain ⟨q0, g, q1, q2, q3⟩ := hyN
        exact ⟨q0, g, q1, by omega, q3⟩
      obtain ⟨P1, P2, P3⟩ := forms_put (HD.out.1.below hlt0 hb1) hlt HY.out.1 (HD.out.2.1.below hb1) (HD.out.2.2.1.below hb1) hyP hyN'
      have RM : Hid (IntRoom (w1.setCell ⟨w.heap.size, k, none⟩ (.slice y.a y.n y.cap)) w.heap.size n ∧ FormsAt (w1.setCell ⟨w.heap.size, k, none⟩ (.slice y.a y.n y.cap)) w.heap.size 0 (ys ++ [y]) ∧ FormsNew (w1.setCell ⟨w.heap.size, k, none⟩ (.slice y.a y.n y.cap)) (w.heap.size + 1) (ys ++ [y]) ∧ Below w.heap.size w (w1.setCell ⟨w.heap.size, k, none⟩ (.slice y.a y.n y.cap))) := ⟨P1, P2, P3, (HD.out.2.2.2.trans (hb1.mono HD.out.2.2.2.size)).setCell (Nat.le_refl _) _⟩
      have HP : Hid (partsL (ys ++ [y]) = partsL (fs.take (k + 1))) := by
        show partsL (ys ++ [y]) = partsL (fs.take (k + 1))
        have h1 := HY.out.2
        unfold partsL at h1 ⊢
        rw [List.map_append, h1, List.take_add_one, HS.out]
        simp [hyps]
      obtain ⟨u, hu⟩ := (HD.out.1.below hlt0 hb1).1 k hlt
      have hf := (HD.out.1.below hlt0 hb1).2 k
      clear P1 P2 P3 hyps hyn hyP hyN hyN' hb1 h0
      go_wp2
      exact ⟨⟨k + 1, ys ++ [y], by omega, by go_num, by simp [HY.out.1], HP.out, RM.out.1, RM.out.2.1, RM.out.2.2.1, by simp only [World.size_setCell]; omega, RM.out.2.2.2⟩, by simp [intOf]; omega⟩
    · have hkn : k = n := by omega
      subst hkn
      have HQ : Hid (FormsTo w wr k fs ys) := by
        refine ⟨HY.out.1, ?_, hat, hnew, hroom, hlt0, hnx⟩
        have := HY.out.2
        rw [List.take_of_length_le (by rw [hz.out]; exact Nat.le_refl _)] at this
        exact this
      go_wp2
      go_ret
      exact ⟨rfl, ys, HQ.out⟩

set_option maxHeartbeats 400000 in
theorem eqForm_same (x y : FormI) (w : World) (hn : x.n ≤ 1048576) (hp : y.ps = x.ps) (ha : PartsIn w x.a x.n x.ps) (hb : PartsIn w y.a y.n y.ps) :
    Calls Tryz.prog 100 #[.agg #[.slice x.a x.n x.cap], .agg #[.slice y.a y.n y.cap]] w fun e w' => e = .returned (.bool true) ∧ Below w.heap.size w w' := by
  have hyn : y.n = x.n := by have h1 := ha.1; have h2 := hb.1; rw [hp] at h2; omega
  rw [hyn] at hb
  rw [hp] at hb
  rw [hyn]
  clear hyn hp
  have HA : Hid (PartsIn w x.a x.n x.ps) := ha
  have HB : Hid (PartsIn w y.a x.n x.ps) := hb
  clear ha hb
  obtain ⟨W, hW⟩ : ∃ W, W = (w.alloc (.cells #[.slice x.a x.n x.cap] 42)).alloc (.cells #[.slice y.a x.n y.cap] 42) := ⟨_, rfl⟩
  have B0 : Below w.heap.size w W := by rw [hW]; exact ((Below.refl _ _).alloc (Nat.le_refl _) _).alloc (by simp) _
  go_enter Tryz.func100, Tryz.ntmps100
  go_wp2_with fail
  rw [← hW]
  clear hW
  refine (eqParts_same x.a y.a x.n x.cap y.cap x.ps W hn (HA.out.below B0) (HB.out.below B0)).mono ?_
  rintro e w1 ⟨rfl, hb1⟩
  have hbb : Below w.heap.size w w1 := B0.trans (hb1.mono B0.size)
  clear B0 hb1
  go_wp2
  go_ret
  exact ⟨rfl, hbb⟩

theorem parts_at {fs ys : List FormI} (hp : partsL ys = partsL fs) {k : Nat} {x y : FormI} (hx : fs[k]? = some x) (hy : ys[k]? = some y) : y.ps = x.ps := by
  have h1 : (partsL ys)[k]? = some y.ps := by unfold partsL; rw [List.getElem?_map, hy]; rfl
  have h2 : (partsL fs)[k]? = some x.ps := by unfold partsL; rw [List.getElem?_map, hx]; rfl
  rw [hp, h2] at h1
  exact (Option.some.inj h1).symm

set_option maxHeartbeats 1000000 in
theorem eqForms_same (a b : Option Addr) (n c d : Nat) (fs ys : List FormI) (w : World) (hn : n ≤ 1048576) (hle : FormsLe 1048576 fs) (hp : partsL ys = partsL fs) (ha : FormsIn w a n fs) (hb : FormsIn w b n ys) :
    Calls Tryz.prog 55 #[.slice a n c, .slice b n d] w fun e w' => e = .returned (.bool true) ∧ Below w.heap.size w w' := by
  have HA : Hid (FormsIn w a n fs) := ha
  have HB : Hid (FormsIn w b n ys) := hb
  have HLE : Hid (FormsLe 1048576 fs) := hle
  have HP : Hid (partsL ys = partsL fs) := hp
  clear ha hb hle hp
  have hn' : (n : Int) ≤ 1048576 := by omega
  go_enter Tryz.func55, Tryz.ntmps55
  go_wp2
  go_loopw [5] (fun i wr => ∃ k : Nat, k ≤ n ∧ i = .int .i64 (k : Int) ∧ Below w.heap.size w wr) (fun i _ => n - (intOf i).toNat)
  case atStart => exact ⟨0, Nat.zero_le _, rfl, Below.refl _ _⟩
  case round =>
    obtain ⟨k, hk, rfl, hnx⟩ := hrel
    by_cases hlt : k < n
    · obtain ⟨b1, o1, x, e1, hs, hr⟩ := HA.out.at hlt
      obtain ⟨b2, o2, y, e2, hs2, hr2⟩ := HB.out.at hlt
      have hxn := HLE.out k x hs
      have hxy := parts_at HP.out hs hs2
      subst e1 e2
      clear hs hs2
      have h0 := (hr.below hnx).1
      have g0 := (hr2.below hnx).1
      have HX : Hid (PartsIn wr x.a x.n x.ps ∧ PartsIn wr y.a y.n y.ps ∧ y.ps = x.ps) := ⟨(hr.below hnx).2, (hr2.below hnx).2, hxy⟩
      clear hr hr2 hxy
      have hlt' : (k : Int) < (n : Int) := by omega
      have hb1 : b1 < wr.heap.size := World.block_lt_of_cell? wr ⟨b1, o1 + k, none⟩ h0
      have hb2 : b2 < wr.heap.size := World.block_lt_of_cell? wr ⟨b2, o2 + k, none⟩ g0
      have HC : Hid (∀ w' : World, ((∀ b o, b < wr.heap.size → w'.cell? ⟨b, o, none⟩ = wr.cell? ⟨b, o, none⟩) ∧ Below wr.heap.size wr w') → Calls Tryz.prog 100 #[.agg #[.slice x.a x.n x.cap], .agg #[.slice y.a y.n y.cap]] w' fun e w'' => e = .returned (.bool true) ∧ Below w'.heap.size w' w'') := fun w' q => eqForm_same x y w' hxn HX.out.2.2 (HX.out.1.below q.2) (HX.out.2.1.below q.2)
      go_wp2
      go_region_held3 (fun w' => (∀ b o, b < wr.heap.size → w'.cell? ⟨b, o, none⟩ = wr.cell? ⟨b, o, none⟩) ∧ Below wr.heap.size wr w') (first | exact hS | exact kp_drew _)
        (first | (go_at_call 100; refine (HC.out _ (by assumption)).mono ?_; rintro e w' ⟨rfl, hb1⟩; have hS := kp_step (by assumption) hb1))
      go_wp2
      exact ⟨⟨k + 1, by omega, by go_num, hnx.trans (hS.2.mono hnx.size)⟩, by simp [intOf]; omega⟩
    · have hkn : k = n := by omega
      subst hkn
      go_wp2
      go_ret
      exact ⟨rfl, hnx⟩

end Go.Proofs.YtnfolmjdicfobaaGreatDoor
