/- Contracts. -/
import Derived.Test.YtfkajnenniapaaaGreatPt01
import Derived.Test.YtfkajnenniapaaaGreatChecked
import Derived.Laws.BitsAllLaws
import Derived.WalkSmall
import Derived.BigQuiet
import Derived.Deep.QuietTactic
import Derived.Laws.AppendOwn
import Derived.Maps.Own
import Derived.Maps.OwnSet
import Derived.Maps.RangeWalk
import Derived.RangeFuncNested
import Derived.RangeFuncBound
import Derived.RangeFuncCalls
import Derived.RangeFuncBox
import Derived.RangeFuncLeaves
import Derived.Shelf.Abstract
import Derived.OwnWalkIn
import Derived.TacticsInMore
import Derived.LoopNIn
import Derived.LoopIn
import Derived.Maps.AppendAt
import Derived.Stop.RegionWithIn
import Derived.Sort.BigQuietIn
import Derived.RangeFuncSeq
import Derived.RangeFuncGives
import Derived.Sort.MapsRangeIn
import Derived.Deep.AppendLies
import Derived.Lib.BitFns
namespace Go.Proofs.YtfkajnenniapaaaGreat
set_option maxRecDepth 100000
set_option maxHeartbeats 8000000
open Go.RowKit
set_option linter.unusedVariables false
set_option linter.unusedSimpArgs false

def polTo (zs : List RuleI) : Nat → Int
 | 0 => 0
 | k + 1 => if polTo zs k ≠ 0 then polTo zs k else match zs[k]? with
  | none => 0
  | some r => if ruleCode r ≠ 0 then ruleCode r else if r ∈ zs.take k then 6 else 0
def polCode (zs : List RuleI) : Int := if 16 < zs.length then 2 else polTo zs zs.length
theorem polTo_stay (zs : List RuleI) (k m : Nat) (c : Int) (hc : c ≠ 0) (h : polTo zs k = c) (hm : k ≤ m) : polTo zs m = c := by
  induction m with
  | zero => obtain rfl : k = 0 := by omega
            exact h
  | succ m ih =>
    by_cases e : k = m + 1
    · subst e; exact h
    · have := ih (by omega)
      simp only [polTo, this]
      rw [if_pos hc]
theorem polTo_bad (zs : List RuleI) (k : Nat) (r : RuleI) (hk : zs[k]? = some r) (h0 : polTo zs k = 0) (hr : ruleCode r ≠ 0) : polTo zs (k + 1) = ruleCode r := by
 simp [polTo, h0, hk, hr]
theorem polTo_same (zs : List RuleI) (k : Nat) (r : RuleI) (hk : zs[k]? = some r) (h0 : polTo zs k = 0) (hr : ruleCode r = 0) (hm : r ∈ zs.take k) : polTo zs (k + 1) = 6 := by
 simp [polTo, h0, hk, hr, hm]
theorem polTo_good (zs : List RuleI) (k : Nat) (r : RuleI) (hk : zs[k]? = some r) (h0 : polTo zs k = 0) (hr : ruleCode r = 0) (hm : ¬ r ∈ zs.take k) : polTo zs (k + 1) = 0 := by
 simp [polTo, h0, hk, hr, hm]
theorem mem_take_iff (zs : List RuleI) (k : Nat) (r : RuleI) : r ∈ zs.take k ↔ ∃ j, j < k ∧ zs[j]? = some r := by
 rw [List.mem_iff_getElem?]
 constructor
 ·rintro ⟨j, hj⟩
  rw [List.getElem?_take] at hj
  by_cases h : j < k
  ·rw [if_pos h] at hj; exact ⟨j, h, hj⟩
  ·rw [if_neg h] at hj; cases hj
 ·rintro ⟨j, h, hj⟩
  exact ⟨j, by rw [List.getElem?_take, if_pos h]; exact hj⟩
def RulesAt (w : World) (g off : Nat) (zs : List RuleI) : Prop := ∀ k r, zs[k]? = some r → RuleAt w g (off + k * 8) r
theorem RulesAt.below {w w' : World} {g off : Nat} {zs : List RuleI} (h : RulesAt w g off zs) (hb : Below w.heap.size w w') : RulesAt w' g off zs := fun k r e => (h k r e).below hb
def RulesIn (w : World) (a : Option Addr) (len : Nat) (zs : List RuleI) : Prop := zs.length = len ∧ (0 < len → ∃ b off, a = some ⟨b, off, none⟩ ∧ RulesAt w b off zs)
theorem RulesIn.below {w w' : World} {a : Option Addr} {len : Nat} {zs : List RuleI} (h : RulesIn w a len zs) (hb : Below w.heap.size w w') : RulesIn w' a len zs := by
 refine ⟨h.1, fun hl => ?_⟩
 obtain ⟨b, off, e, hr⟩ := h.2 hl
 exact ⟨b, off, e, hr.below hb⟩
theorem RulesIn.at {w : World} {a : Option Addr} {len : Nat} {zs : List RuleI} (h : RulesIn w a len zs) {k : Nat} (hk : k < len) :
  ∃ b off r, a = some ⟨b, off, none⟩ ∧ zs[k]? = some r ∧ RuleAt w b (off + k * 8) r := by
 obtain ⟨b, off, e, hr⟩ := h.2 (by omega)
 have hl := h.1
 exact ⟨b, off, zs[k]'(by omega), e, List.getElem?_eq_getElem (by omega), hr k _ (List.getElem?_eq_getElem (by omega))⟩
theorem RulesIn.here {w : World} {b off len : Nat} {zs : List RuleI} (h : RulesIn w (some ⟨b, off, none⟩) len zs) {k : Nat} (hk : k < len) : ∃ r, zs[k]? = some r ∧ RuleAt w b (off + k * 8) r := by
 obtain ⟨b', off', r, e, h1, h2⟩ := h.at hk
 cases e
 exact ⟨r, h1, h2⟩
theorem RulesIn.cut {w : World} {a : Option Addr} {len : Nat} {zs : List RuleI} (h : RulesIn w a len zs) {k : Nat} (hk : k ≤ len) : RulesIn w a k (zs.take k) := by
 refine ⟨by have := h.1; simp; omega, fun hp => ?_⟩
 obtain ⟨b, off, e, hr⟩ := h.2 (by omega)
 refine ⟨b, off, e, fun j r ej => hr j r ?_⟩
 rw [List.getElem?_take] at ej
 split at ej
 ·exact ej
 ·cases ej
theorem RulesIn.of {w : World} {g len : Nat} {zs : List RuleI} (hl : zs.length = len) (h : RulesAt w g 0 zs) : RulesIn w (some ⟨g, 0, none⟩) len zs :=
 ⟨hl, fun _ => ⟨g, 0, rfl, h⟩⟩
theorem kp_drew (W : World) : (∀ b o, b < W.heap.size → W.drew.cell? ⟨b, o, none⟩ = W.cell? ⟨b, o, none⟩) ∧ Below W.heap.size W W.drew :=
 ⟨fun _ _ _ => rfl, ⟨rfl, rfl, rfl, Nat.le_refl _, fun _ _ => rfl⟩⟩
theorem kp_step {W w w' : World} (h : (∀ b o, b < W.heap.size → w.cell? ⟨b, o, none⟩ = W.cell? ⟨b, o, none⟩) ∧ Below W.heap.size W w) (hb : Below w.heap.size w w') : (∀ b o, b < W.heap.size → w'.cell? ⟨b, o, none⟩ = W.cell? ⟨b, o, none⟩) ∧ Below W.heap.size W w' := by
 have hz := h.2.size
 exact ⟨fun b o hl => (hb.cell (p := ⟨b, o, none⟩) (by show b < w.heap.size; omega)).trans (h.1 b o hl), h.2.trans (hb.mono hz)⟩
def RulesArg (w : World) (a : Option Addr) (len : Nat) (zs : List RuleI) : Prop := RulesIn w a len zs ∧ len ≤ maxLen

theorem Tryz.info2 : (Tryz.prog.info? 2).map (fun i => (i.zero, i.size, i.bytes)) = some (some (.int .i64 0), 1, 8) := by kernel_rfl
theorem bcell {W w1 : World} (hb : Below W.heap.size W w1) : (∀ b o, b < W.heap.size → w1.cell? ⟨b, o, none⟩ = W.cell? ⟨b, o, none⟩) ∧ (∀ b o, b < W.heap.size → w1.frozen? ⟨b, o, none⟩ = W.frozen? ⟨b, o, none⟩) :=
 ⟨fun b o h => hb.cell (p := ⟨b, o, none⟩) h, fun b o h => hb.frozen (p := ⟨b, o, none⟩) h⟩

def RowIn (w : World) (a : Option Addr) (len : Nat) (zs : List Int) : Prop :=
 len ≤ zs.length ∧ ∀ k, k < len → ∃ b off, a = some ⟨b, off, none⟩ ∧ w.cell? ⟨b, off + k, none⟩ = some (.int .i64 (zs[k]?.getD 0))
theorem rows_done {n : Nat} {ys : List Value} {zs : List Int} (hz : n ≤ zs.length) (hl : ys.length = n) (h : ∀ j, j < n → ys[j]? = some (.int .i64 (zs[j]?.getD 0))) : ys = (zs.take n).map (Value.int .i64) := by
 apply List.ext_getElem?
 intro i
 by_cases hi : i < n
 ·rw [h i hi]; simp [hi, List.getElem?_eq_getElem (show i < zs.length by omega)]
 ·rw [List.getElem?_eq_none (by omega), List.getElem?_eq_none (by simp; omega)]
theorem toS_c (a0 : Option Addr) (len cap : Nat) (zs : List Int) (w : World) (hl : len ≤ 1048576) (hr : RowIn w a0 len zs) :
  Calls Tryz.prog 70 #[.slice a0 len cap] w fun e w' => e = .returned (.slice (some ⟨w.heap.size, 0, none⟩) len len) ∧
   w'.ownsRow w.heap.size 2 1 (.slice (some ⟨w.heap.size, 0, none⟩) len len) len ((zs.take len).map (Value.int .i64)) ∧ Below w.heap.size w w' := by
 obtain ⟨i0, hi, hz0, hz1, hz2⟩ := info_parts Tryz.info2
 obtain ⟨wm, hmk, hownm, hgrm⟩ := run_make_full (P := Tryz.prog) (w := w) w.heap.size 26 2 i0 (.int .i64 0) 1 Tryz.underlying26 hi hz0 hz1 .i64 .i64 len (by rw [hz2]; omega) (by unfold maxLen; omega) (Nat.le_refl _)
 obtain ⟨hzl, hcs⟩ := hr
 have HC : Hid (∀ k, k < len → ∃ b off, a0 = some ⟨b, off, none⟩ ∧ w.cell? ⟨b, off + k, none⟩ = some (.int .i64 (zs[k]?.getD 0))) := hcs
 clear hcs
 have HM : Hid (wm.ownsRow w.heap.size 2 1 (.slice (some ⟨w.heap.size, 0, none⟩) len len) len (madeCells (Value.int .i64 0).cells (len * 1)).toList) := hownm
 clear hownm
 have HG : Hid (w.grownBy wm none) := hgrm
 clear hgrm
 have hl' : (len : Int) ≤ 1048576 := by omega
 go_enter Tryz.func70, Tryz.ntmps70
 go_wp2
 go_loopw [4] (fun i wr => ∃ (k : Nat) (ys : List Value), k ≤ len ∧ i = .int .i64 (k : Int) ∧ wr.ownsRow w.heap.size 2 1 (.slice (some ⟨w.heap.size, 0, none⟩) len len) len ys ∧ (∀ j, j < k → ys[j]? = some (.int .i64 (zs[j]?.getD 0))) ∧ Below w.heap.size w wr)
  (fun i _ => len - (intOf i).toNat)
 case atStart => exact ⟨0, _, Nat.zero_le _, rfl, HM.out, fun j hj => by omega, (Below.refl _ _).grown HG.out (Nat.le_refl _) (fun k e => by cases e)⟩
 case round =>
  obtain ⟨k, ys, hk, rfl, hown, hys, hnx⟩ := hrel
  by_cases hlt : k < len
  ·obtain ⟨b, off, ha, hc⟩ := HC.out k hlt
   subst ha
   obtain ⟨y, hy⟩ : ∃ y, y = zs[k]?.getD 0 := ⟨_, rfl⟩
   rw [← hy] at hc
   have hb : b < w.heap.size := zL w ⟨b, off + k, none⟩ hc
   have hcr : wr.cell? ⟨b, off + k, none⟩ = some (.int .i64 y) := (hnx.cell (p := ⟨b, off + k, none⟩) hb).trans hc
   have hlen : ys.length = len := by simpa using hown.1
   obtain ⟨v0, hco⟩ : ∃ v0, wr.cell? ⟨w.heap.size, k, none⟩ = some v0 := ⟨_, (hown.cellAt k (by omega)).trans (List.getElem?_eq_getElem (show k < ys.length by omega))⟩
   have hfo := hown.frozenAt k
   have hst := hown.stored k (.int .i64 y)
   have R : Hid ((wr.setCell ⟨w.heap.size, k, none⟩ (.int .i64 y)).ownsRow w.heap.size 2 1 (.slice (some ⟨w.heap.size, 0, none⟩) len len) len (ys.set k (.int .i64 y)) ∧ (∀ j, j < k + 1 → (ys.set k (.int .i64 y))[j]? = some (.int .i64 (zs[j]?.getD 0))) ∧ Below w.heap.size w (wr.setCell ⟨w.heap.size, k, none⟩ (.int .i64 y))) := by
    refine ⟨hst.1, fun j hj => ?_, hnx.setCell (Nat.le_refl _) _⟩
    by_cases e : j = k
    ·subst e; rw [List.getElem?_set_self (by omega), hy]
    ·rw [List.getElem?_set_ne (by omega)]; exact hys j (by omega)
   clear hst hown hys hy hc hlen
   have hlt' : (k : Int) < (len : Int) := by omega
   go_wp2
   go_roundw
   case rel => exact ⟨k + 1, _, by omega, by go_num, R.out.1, R.out.2.1, R.out.2.2⟩
   case measure => simp [intOf]; omega
  ·have hkn : k = len := by omega
   subst hkn
   have E := rows_done hzl (by simpa using hown.1) hys
   rw [E] at hown
   go_wp2
   go_ret
   exact ⟨rfl, hown, hnx⟩
theorem eqS_same (a b : Option Addr) (n c d : Nat) (zs : List Int) (w : World) (hn : n ≤ 1048576)
  (ha : ∀ k, k < n → ∃ g off, a = some ⟨g, off, none⟩ ∧ w.cell? ⟨g, off + k, none⟩ = some (.int .i64 (zs[k]?.getD 0))) (hb : ∀ k, k < n → ∃ g off, b = some ⟨g, off, none⟩ ∧ w.cell? ⟨g, off + k, none⟩ = some (.int .i64 (zs[k]?.getD 0))) :
  Calls Tryz.prog 43 #[.slice a n c, .slice b n d] w fun e w' => e = .returned (.bool true) ∧ Below w.heap.size w w' := by
 have HA : Hid (∀ k, k < n → ∃ g off, a = some ⟨g, off, none⟩ ∧ w.cell? ⟨g, off + k, none⟩ = some (.int .i64 (zs[k]?.getD 0))) := ha
 have HB : Hid (∀ k, k < n → ∃ g off, b = some ⟨g, off, none⟩ ∧ w.cell? ⟨g, off + k, none⟩ = some (.int .i64 (zs[k]?.getD 0))) := hb
 clear ha hb
 have hn' : (n : Int) ≤ 1048576 := by omega
 go_enter Tryz.func43, Tryz.ntmps43
 go_wp2
 go_loopw [5] (fun i wr => ∃ (k : Nat), k ≤ n ∧ i = .int .i64 (k : Int) ∧ ∃ m, wr = w.drewN m) (fun i _ => n - (intOf i).toNat)
 case atStart => exact ⟨0, Nat.zero_le _, rfl, 0, rfl⟩
 case round =>
  obtain ⟨k, hk, rfl, m, rfl⟩ := hrel
  by_cases hlt : k < n
  ·obtain ⟨g, off, e1, hca⟩ := HA.out k hlt
   obtain ⟨g2, off2, e2, hcb⟩ := HB.out k hlt
   subst e1 e2
   obtain ⟨y, hy⟩ : ∃ y, y = zs[k]?.getD 0 := ⟨_, rfl⟩
   rw [← hy] at hca hcb
   clear hy
   have hlt' : (k : Int) < (n : Int) := by omega
   go_wp2
   go_quiet (fail)
   go_wp2
   exact ⟨⟨k + 1, by omega, by go_num, _, rfl⟩, by simp [intOf]; omega⟩
  ·have hkn : k = n := by omega
   subst hkn
   go_wp2
   go_ret
   exact ⟨rfl, below_drewN (Below.refl _ _) _⟩
theorem RowIn.below {w w' : World} {a : Option Addr} {len : Nat} {zs : List Int} (h : RowIn w a len zs) (hb : Below w.heap.size w w') : RowIn w' a len zs := by
 refine ⟨h.1, fun k hk => ?_⟩
 obtain ⟨b, off, e, hc⟩ := h.2 k hk
 exact ⟨b, off, e, (hb.cell (p := ⟨b, off + k, none⟩) (zL w ⟨b, off + k, none⟩ hc)).trans hc⟩
theorem owned_cells {w : World} {base g len cap : Nat} {zs : List Int} (h : w.ownsRow base 2 1 (.slice (some ⟨g, 0, none⟩) len cap) len ((zs.take len).map (Value.int .i64))) (hz : len ≤ zs.length) :
  ∀ k, k < len → w.cell? ⟨g, k, none⟩ = some (.int .i64 (zs[k]?.getD 0)) := by
 intro k hk
 rw [h.cellAt k (by omega)]
 simp [hk, List.getElem?_eq_getElem (show k < zs.length by omega)]
theorem owned_lt {w : World} {base g len cap : Nat} {xs : List Value} (h : w.ownsRow base 2 1 (.slice (some ⟨g, 0, none⟩) len cap) len xs) : g < w.heap.size := (h.lt g rfl).2

abbrev RoI := Int × Int

structure LkI where
 e : Int
 c : Int
 p : Int
 f : Int
deriving DecidableEq, Inhabited

def inR (v lo hi : Int) : Bool := decide (lo ≤ v) && decide (v ≤ hi)
def cmpJ (x y : Int) : Int := if x < y then -1 else if y < x then 1 else 0
def orJ (c d : Int) : Int := if c = 0 then d else c
def cfL (x y : LkI) : Int := orJ (cmpJ x.e y.e) (orJ (cmpJ x.c y.c) (cmpJ x.p y.p))

structure StI where
 k : Int
 e : Int
 f : Int
 s : Int
 n : Int
deriving DecidableEq, Inhabited
def StAt (w : World) (b o : Nat) (x : StI) : Prop := w.cell? ⟨b, o, none⟩ = some (.int .i64 x.k) ∧ w.cell? ⟨b, o + 1, none⟩ = some (.int .i64 x.e) ∧ w.cell? ⟨b, o + 2, none⟩ = some (.int .i64 x.f) ∧ w.cell? ⟨b, o + 3, none⟩ = some (.int .i64 x.s) ∧ w.cell? ⟨b, o + 4, none⟩ = some (.int .i64 x.n)
theorem StAt.below {w w' : World} {B b o : Nat} {x : StI} (h : StAt w b o x) (hb : Below B w w') (hB : b < B) : StAt w' b o x :=
 ⟨(hb.cell (p := ⟨b, o, none⟩) hB).trans h.1, (hb.cell (p := ⟨b, o + 1, none⟩) hB).trans h.2.1, (hb.cell (p := ⟨b, o + 2, none⟩) hB).trans h.2.2.1, (hb.cell (p := ⟨b, o + 3, none⟩) hB).trans h.2.2.2.1, (hb.cell (p := ⟨b, o + 4, none⟩) hB).trans h.2.2.2.2⟩
theorem toStatement_c (x : StI) (w : World) : Calls Tryz.prog 71 #[.agg #[.int .i64 x.k, .int .i64 x.e, .int .i64 x.f, .int .i64 x.s, .int .i64 x.n]] w fun e w' => e = .returned (.agg #[.int .i64 x.k, .int .i64 x.e, .int .i64 x.f, .int .i64 x.s, .int .i64 x.n]) ∧ Below w.heap.size w w' := by
 go_enter Tryz.func71, Tryz.ntmps71
 go_wp2
 go_returns
 exact ⟨rfl, by go_grown⟩
theorem eqStatement_same (x : StI) (w : World) :
  Calls Tryz.prog 79 #[.agg #[.int .i64 x.k, .int .i64 x.e, .int .i64 x.f, .int .i64 x.s, .int .i64 x.n], .agg #[.int .i64 x.k, .int .i64 x.e, .int .i64 x.f, .int .i64 x.s, .int .i64 x.n]] w fun e w' => e = .returned (.bool true) ∧ Below w.heap.size w w' := by
 go_enter Tryz.func79, Tryz.ntmps79
 go_wp2
 go_ret
 exact ⟨rfl, by go_grown⟩

structure Hold (lo hi : Nat) (P : World → Prop) (W : World) : Prop where
 out : P W
 le : hi ≤ W.heap.size
 kept : ∀ X X' : World, P X → (∀ b, lo ≤ b → b < hi → X'.heap[b]? = X.heap[b]?) → P X'
theorem Hold.below {lo hi : Nat} {P : World → Prop} {W W' : World} (h : Hold lo hi P W) (hb : Below W.heap.size W W') : Hold lo hi P W' :=
 ⟨h.kept _ _ h.out (fun b _ h2 => hb.block b (Nat.lt_of_lt_of_le h2 h.le)), Nat.le_trans h.le hb.size, h.kept⟩
theorem Hold.alloc {lo hi : Nat} {P : World → Prop} {W : World} (h : Hold lo hi P W) (o : Obj) : Hold lo hi P (W.alloc o) := h.below (zN)
structure Chg (lo hi : Nat) (W W' : World) : Prop where
 below : ∀ B, B ≤ lo → B ≤ W.heap.size → Below B W W'
 size : W.heap.size ≤ W'.heap.size
 block : ∀ b, b < W.heap.size → (b < lo ∨ hi ≤ b) → W'.heap[b]? = W.heap[b]?
theorem Chg.grown {lo hi : Nat} {W W' : World} {row : Option Nat} (hg : W.grownBy W' row) (h : ∀ q, row = some q → lo ≤ q ∧ q < hi) : Chg lo hi W W' :=
 ⟨fun B h1 h2 => (Below.refl _ _).grown hg h2 (fun q e => Nat.le_trans h1 (h q e).1), hg.size, fun b h1 h2 => hg.block b h1 (fun e => by have := h b e.symm; omega)⟩
theorem Chg.calls {lo hi : Nat} {W W' : World} (hb : Below W.heap.size W W') : Chg lo hi W W' :=
 ⟨fun B h1 h2 => hb.mono h2, hb.size, fun b h1 h2 => hb.block b h1⟩
theorem Chg.trans {lo hi : Nat} {A B C : World} (h : Chg lo hi A B) (k : Chg lo hi B C) : Chg lo hi A C :=
 ⟨fun b h1 h2 => (h.below b h1 h2).trans (k.below b h1 (Nat.le_trans h2 h.size)), Nat.le_trans h.size k.size, fun b h1 h2 => (k.block b (Nat.lt_of_lt_of_le h1 h.size) h2).trans (h.block b h1 h2)⟩
theorem Hold.chg {lo hi l r : Nat} {P : World → Prop} {W W' : World} (h : Hold lo hi P W) (c : Chg l r W W') (d : hi ≤ l ∨ r ≤ lo) : Hold lo hi P W' :=
 ⟨h.kept _ _ h.out (fun b h1 h2 => c.block b (Nat.lt_of_lt_of_le h2 h.le) (by omega)), Nat.le_trans h.le c.size, h.kept⟩
theorem below_chg {B l r : Nat} {w W W' : World} (h : Below B w W) (c : Chg l r W W') (h1 : B ≤ l) (h2 : B ≤ W.heap.size) : Below B w W' := h.trans (c.below B h1 h2)
theorem kpE_new {W w : World} (h : (∀ b o, b < W.heap.size → w.cell? ⟨b, o, none⟩ = W.cell? ⟨b, o, none⟩) ∧ Below W.heap.size W w) (o : Obj) : (∀ b i, b < W.heap.size → (w.alloc o).cell? ⟨b, i, none⟩ = W.cell? ⟨b, i, none⟩) ∧ Below W.heap.size W (w.alloc o) :=
 ⟨fun b i hb => (((Below.refl w.heap.size w).alloc (Nat.le_refl _) o).cell (p := ⟨b, i, none⟩) (Nat.lt_of_lt_of_le hb h.2.size)).trans (h.1 b i hb), h.2.alloc h.2.size _⟩
theorem ownsE_set {w : World} {base : Nat} {e : TypeId} {size : Nat} {v : Value} {n : Nat} {xs : List Value} (h : w.ownsRow base e size v n xs) {a : Addr} (ha : a.block < base) (u : Value) : (w.setCell a u).ownsRow base e size v n xs := by
 refine ⟨h.1, ?_⟩
 rcases h.2 with q | ⟨g, cap, cur, e1, hg, hb, rest⟩
 ·exact .inl q
 ·exact .inr ⟨g, cap, cur, e1, hg, (Below.heap_setCell _ _ _ _ (by intro q; omega)).trans hb, rest⟩
def BoxV (b : Nat) (vs : List Value) (X : World) : Prop := ∀ j v, vs[j]? = some v → X.cell? ⟨b, j, none⟩ = some v
theorem BoxV.hold {b : Nat} {vs : List Value} {W : World} (h : BoxV b vs W) (hb : b < W.heap.size) : Hold b (b + 1) (BoxV b vs) W :=
 ⟨h, hb, fun X X' hX hk j v e => (World.cell?_of_block (w := X) (w' := X') (a := ⟨b, j, none⟩) (hk b (Nat.le_refl _) (by omega))).trans (hX j v e)⟩
theorem boxV_new (W : World) (cs : Array Value) (t : TypeId) : Hold W.heap.size (W.heap.size + 1) (BoxV W.heap.size cs.toList) (W.alloc (.cells cs t)) := by
 refine BoxV.hold (fun j v e => ?_) (by simp)
 have h : (W.alloc (.cells cs t)).heap[W.heap.size]? = some (.cells cs t) := by show (W.heap.push _)[W.heap.size]? = _; simp
 unfold World.cell?
 simp only
 rw [h]
 simpa using e
def BoxW (b : Nat) (vs : List Value) (X : World) : Prop := BoxV b vs X ∧ (∀ j, X.frozen? ⟨b, j, none⟩ = false)
theorem BoxW.hold {b : Nat} {vs : List Value} {W : World} (h : BoxW b vs W) (hb : b < W.heap.size) : Hold b (b + 1) (BoxW b vs) W :=
 ⟨h, hb, fun X X' hX hk => ⟨(BoxV.hold h.1 hb).kept X X' hX.1 hk, fun j => (World.frozen?_of_block (w := X) (w' := X') (a := ⟨b, j, none⟩) (hk b (Nat.le_refl _) (by omega))).trans (hX.2 j)⟩⟩
theorem BoxW.below {b : Nat} {vs : List Value} {W W' : World} (h : BoxW b vs W) (hb : b < W.heap.size) (hw : Below W.heap.size W W') : BoxW b vs W' := ((h.hold hb).below hw).out
theorem boxW_new (W : World) (cs : Array Value) (t : TypeId) : BoxW W.heap.size cs.toList (W.alloc (.cells cs t)) :=
 ⟨(boxV_new W cs t).out, fun j => by
  have h : (W.alloc (.cells cs t)).heap[W.heap.size]? = some (.cells cs t) := by show (W.heap.push _)[W.heap.size]? = _; simp
  unfold World.frozen?
  simp only
  rw [h]
  simp⟩
theorem BoxW.put {b : Nat} {vs : List Value} {X : World} (h : BoxW b vs X) (j : Nat) (hj : j < vs.length) (v : Value) : BoxW b (vs.set j v) (X.setCell ⟨b, j, none⟩ v) := by
 refine ⟨fun i u e => ?_, fun i => by rw [World.frozen?_setCell]; exact h.2 i⟩
 by_cases q : i = j
 ·subst q
  rw [List.getElem?_set_self hj] at e
  have hc := h.1 i _ (List.getElem?_eq_getElem hj)
  cases e
  simp [go_sem, hc]
 ·rw [List.getElem?_set_ne (Ne.symm q)] at e
  rw [World.cell?_setCell_other (h := fun e => q (by have := congrArg Addr.off e; simp at this; omega))]
  exact h.1 i u e
theorem BoxW.other {b : Nat} {vs : List Value} {X : World} (h : BoxW b vs X) {p : Addr} (hp : p.block ≠ b) (v : Value) : BoxW b vs (X.setCell p v) := by
 refine ⟨fun i u e => ?_, fun i => by rw [World.frozen?_setCell]; exact h.2 i⟩
 rw [World.cell?_setCell_other (h := fun e => hp (by rw [e]))]
 exact h.1 i u e
def IntCp (g n : Nat) (zs : List Int) (X : World) : Prop := (∀ k x, zs[k]? = some x → X.cell? ⟨g, k, none⟩ = some (.int .i64 x)) ∧ (∀ j, j < n → ∃ v, X.cell? ⟨g, j, none⟩ = some v) ∧ ∀ j, X.frozen? ⟨g, j, none⟩ = false
theorem IntCp.hold {g n : Nat} {zs : List Int} {W : World} (h : IntCp g n zs W) (hg : g < W.heap.size) : Hold g (g + 1) (IntCp g n zs) W :=
 ⟨h, hg, fun X X' hX hk => by
  have hb := hk g (Nat.le_refl _) (by omega)
  exact ⟨fun k x e => (World.cell?_of_block (a := ⟨g, k, none⟩) hb).trans (hX.1 k x e), fun j hj => by
   obtain ⟨v, e⟩ := hX.2.1 j hj
   exact ⟨v, (World.cell?_of_block (a := ⟨g, j, none⟩) hb).trans e⟩, fun j => (World.frozen?_of_block (a := ⟨g, j, none⟩) hb).trans (hX.2.2 j)⟩⟩
theorem owns_kept {X X' : World} {B : Nat} {t : TypeId} {sz : Nat} {v : Value} {n : Nat} {xs : List Value} (h : X.ownsRow B t sz v n xs) (hk : ∀ g, v.ownBlock = some g → X'.heap[g]? = X.heap[g]?) : X'.ownsRow B t sz v n xs := by
 refine ⟨h.1, ?_⟩
 rcases h.2 with q | ⟨g, cap, cur, e, hg, hb, rest⟩
 ·exact .inl q
 ·exact .inr ⟨g, cap, cur, e, hg, (hk g (by rw [e]; rfl)).trans hb, rest⟩
theorem owns_hold {W : World} {B : Nat} {t : TypeId} {sz : Nat} {v : Value} {n : Nat} {xs : List Value} (h : W.ownsRow B t sz v n xs) (hi : Nat) (h1 : ∀ g, v.ownBlock = some g → g < hi) (h2 : hi ≤ W.heap.size) : Hold B hi (fun X => X.ownsRow B t sz v n xs) W :=
 ⟨h, h2, fun X X' hX hk => owns_kept hX (fun g e => hk g (hX.lt g e).1 (h1 g e))⟩
theorem owns_hold0 {W : World} {B : Nat} {t : TypeId} {sz : Nat} {v : Value} {n : Nat} {xs : List Value} (h : W.ownsRow B t sz v n xs) : Hold B W.heap.size (fun X => X.ownsRow B t sz v n xs) W := owns_hold h _ (fun g e => (h.lt g e).2) (Nat.le_refl _)

section
open Go.RowKit Go.Maps
theorem sn_map : Tryz.prog.underlying 167 = some (.map 2 188) := by kernel_rfl
theorem sn_keyed : Keyed Tryz.prog 2 := int_keyed Tryz.underlying2
abbrev i64W (i : Int) : Prop := (Lit.int .i64 i).wf = true
theorem sn_key {i : Int} (h : i64W i) : keyOf Tryz.prog 2 (.int .i64 i) = some (.int .i64 i) := keyOf_int_mk Tryz.underlying2 h
theorem i64W_of {i : Int} (h0 : -100 ≤ i) (h1 : i ≤ 100) : i64W i := by
 simp [i64W, Lit.wf, IntKind.min, IntKind.max, IntKind.signed, IntKind.bits]; omega
noncomputable abbrev elS : Value → Option (DataW Unit × List MemPlace) := unitElem
def SM (w : World) (b N : Nat) (p : Int → Bool) : Prop := ∃ D n, n ≤ N ∧ w.ownsMap Tryz.prog 2 elS b n D ∧ ∀ i, i64W i → Maps.has D (.int .i64 i) = p i
theorem SM.lt {w : World} {b N : Nat} {p : Int → Bool} (h : SM w b N p) : b < w.heap.size := by
 obtain ⟨D, n, _, ho, _⟩ := h
 exact ho.lt
theorem sm_heap {w w' : World} {b N : Nat} {p : Int → Bool} (h : SM w b N p) (e : w'.heap[b]? = w.heap[b]?) : SM w' b N p := by
 obtain ⟨D, n, h1, ⟨es, clock, hb, F, hs, hD⟩, hv⟩ := h
 exact ⟨D, n, h1, ⟨es, clock, e.trans hb, F, hs, hD⟩, hv⟩
theorem SM.below {w w' : World} {b N k : Nat} {p : Int → Bool} (h : SM w b N p) (hk : b < k) (hb : Below k w w') : SM w' b N p := sm_heap h (hb.block b hk)
theorem sm_made (w : World) : SM (w.alloc (.map #[] 0)) w.heap.size 0 (fun _ => false) :=
 ⟨.map [], 0, Nat.le_refl _, World.ownsMap_made w _ _ _, fun i _ => rfl⟩
def putP (p : Int → Bool) (i : Int) : Int → Bool := fun j => decide (j = i) || p j
def delP (p : Int → Bool) (i : Int) : Int → Bool := fun j => !decide (j = i) && p j
theorem key_is (i : Int) : WideAt.IsKeyLit (.int .i64 i) := trivial
theorem lit_ne {i j : Int} (h : ¬ j = i) : (Lit.int .i64 j) ≠ (Lit.int .i64 i) := fun e => h (by injection e)
theorem sm_put {w : World} {b N : Nat} {p : Int → Bool} (h : SM w b N p) (hN : N < 1000000) {i : Int} (hi : i64W i) :
  ∃ w', (Instr.mapUpdate 167 (.map (some b)) (.int .i64 i) (.agg #[])).run Tryz.prog w = .ok () w' ∧ SM w' b (N + 1) (putP p i) ∧ w.grownBy w' (some b) := by
 obtain ⟨D, n, h1, ho, hv⟩ := h
 obtain ⟨w', hr, ho', ht⟩ := ho.store sn_keyed sn_map (by unfold maxLen; omega) (sn_key hi) (unitElem_mk (H := Unit))
 refine ⟨w', hr, ⟨_, n + 1, by omega, ho', fun j hj => ?_⟩, ht.grown⟩
 by_cases e : j = i
 ·subst e
  rw [has_put_same ho.isMap (key_is _)]; simp [putP]
 ·rw [has_put_other (lit_ne e), hv j hj]; simp [putP, e]
theorem sm_del {w : World} {b N : Nat} {p : Int → Bool} (h : SM w b N p) {i : Int} (hi : i64W i) (ty : TypeId) :
  ∃ w', (Builtin.delete_ #[167, 2] ty #[.map (some b), .int .i64 i]).run Tryz.prog w = .ok (.tuple #[]) w' ∧ SM w' b N (delP p i) ∧ w.grownBy w' (some b) := by
 obtain ⟨D, n, h1, ho, hv⟩ := h
 obtain ⟨w', hr, ho', ht⟩ := ho.drop sn_keyed sn_map (sn_key hi) ty
 refine ⟨w', hr, ⟨_, n, h1, ho', fun j hj => ?_⟩, ht.grown⟩
 by_cases e : j = i
 ·subst e
  rw [has_del_same]; simp [delP]
 ·rw [has_del_other (lit_ne e), hv j hj]; simp [delP, e]
theorem sm_len {w : World} {b N : Nat} {p : Int → Bool} (h : SM w b N p) (ty : TypeId) :
  ∃ m : Nat, (Builtin.len_ #[167] ty #[.map (some b)]).run Tryz.prog w = .ok (.int .i64 (m : Int)) w ∧ m ≤ N ∧ (m = 0 ↔ ∀ i, i64W i → p i = false) := by
 obtain ⟨D, n, h1, ho, hv⟩ := h
 refine ⟨Maps.size D, ho.len sn_map ty, Nat.le_trans ho.size_le h1, ?_⟩
 obtain ⟨es, hD, hne, hk⟩ := ho.entries sn_keyed
 constructor
 ·intro h0 i hi
  rw [← hv i hi, hD]
  rw [hD, size_eq] at h0
  rw [List.eq_nil_of_length_eq_zero h0]; rfl
 ·intro hp
  cases es with
  | nil => rw [hD]; rfl
  | cons e es =>
   exfalso
   obtain ⟨es0, clock, hb, F, hs, hDD⟩ := ho
   have hm : e ∈ es0.toList.map (WideElems.rg Tryz.prog 2 elS) := by
    rw [hD] at hDD
    have := (DataW.map.inj hDD)
    exact mem_sorted.1 (by rw [← this]; simp)
   obtain ⟨v, hvv⟩ := fit_keys F e hm
   obtain ⟨i, rfl, hw, hkl⟩ : ∃ i, v = .int .i64 i ∧ i64W i ∧ e.1 = .int .i64 i := by
    simp only [keyOf, Tryz.underlying2, mapKey] at hvv
    cases v <;> simp at hvv
    obtain ⟨⟨rfl, hw⟩, hh⟩ := hvv
    exact ⟨_, rfl, hw, hh.symm⟩
   have h2 := hp i hw
   rw [← hv i hw, hD, has_eq] at h2
   simp [hkl, WideAt.sameKey_self (key_is i)] at h2
theorem snPut_c (b N : Nat) (p : Int → Bool) (i : Int) (w : World) (h : SM w b N p) (hN : N < 1000000) (hi : i64W i) :
  Calls Tryz.prog 105 #[.map (some b), .int .i64 i] w fun e w' => e = .returned (.tuple #[]) ∧ SM w' b (N + 1) (putP p i) ∧ w.grownBy w' (some b) := by
 obtain ⟨w', hr, hs, hg⟩ := sm_put h hN hi
 go_enter Tryz.func105, Tryz.ntmps105
 go_wp2
 go_end0
 exact ⟨rfl, hs, hg⟩
end

section
open Go.RowKit Go.Shelf Go.Maps
theorem wide_fnS (k : FuncId) : Fence.wide.fn k = True := eq_true trivial
attribute [local go_sem] Oper.semAt_some
attribute [local go_sem] wide_fnS
attribute [local simp] wide_fnS
set_option linter.unusedVariables false
set_option linter.unusedSimpArgs false
def KeysS (p : Int → Bool) (ys : List Int) : Prop := ys.Nodup ∧ (∀ i ∈ ys, i64W i) ∧ ∀ i, i64W i → (i ∈ ys ↔ p i = true)
structure CollS (D0 : DataW Unit) (left : Lit → Bool) (ss : List Int) : Prop where
 nd : ss.Nodup
 wf : ∀ r ∈ ss, i64W r
 mem : ∀ r, i64W r → (r ∈ ss ↔ Maps.has D0 (.int .i64 r) = true ∧ left (.int .i64 r) = false)
theorem collS_start (D0 : DataW Unit) : CollS D0 (Maps.has D0) [] := by
 refine ⟨List.nodup_nil, fun r h => (by cases h), fun r _ => ⟨fun h => (by cases h), fun h => ?_⟩⟩
 have h2 := h.2
 rw [h.1] at h2
 cases h2
theorem collS_step {D0 : DataW Unit} {left : Lit → Bool} {ss : List Int} (h : CollS D0 left ss) {x : Int} (hx : i64W x) (hl : left (.int .i64 x) = true) (hh : Maps.has D0 (.int .i64 x) = true) :
  CollS D0 (fun z => left z && !z.sameKey (.int .i64 x)) (ss ++ [x]) := by
 have hn : x ∉ ss := fun q => by
  have := ((h.mem x hx).1 q).2
  rw [hl] at this; cases this
 refine ⟨List.nodup_append.2 ⟨h.nd, by simp, fun a ha b hb e => hn (by simp at hb; rw [← hb, ← e]; exact ha)⟩, fun r hr => ?_, fun r hr => ?_⟩
 ·rcases List.mem_append.1 hr with q | q
  ·exact h.wf r q
  ·simp at q; rw [q]; exact hx
 ·rw [List.mem_append, List.mem_singleton]
  by_cases e : r = x
  ·subst e
   simp [hh, WideAt.sameKey_self (key_is r)]
  ·have hs : (Lit.int .i64 r).sameKey (.int .i64 x) = false := sameKey_ne (lit_ne e)
   rw [hs, h.mem r hr]
   simp [e]
theorem collS_end {D0 : DataW Unit} {left : Lit → Bool} {ss : List Int} {p : Int → Bool} (h : CollS D0 left ss) (hl : ∀ kl, left kl = false) (hv : ∀ i, i64W i → Maps.has D0 (.int .i64 i) = p i) : KeysS p ss := by
 refine ⟨h.nd, h.wf, fun r hr => ?_⟩
 rw [h.mem r hr, hv r hr]
 simp [hl]
theorem keyS_inv {v : Value} {kl : Lit} (h : keyOf Tryz.prog 2 v = some kl) : ∃ i, i64W i ∧ v = .int .i64 i ∧ kl = .int .i64 i := by
 simp only [keyOf, Tryz.underlying2, mapKey] at h
 cases v <;> simp at h
 obtain ⟨⟨rfl, hw⟩, hh⟩ := h
 exact ⟨_, hw, rfl, hh.symm⟩
theorem skeys1_in (n : Nat) (hn : 1 ≤ n) (l Bm b nn : Nat) (D0 : DataW Unit) (p : Int → Bool) (hvw : ∀ i, i64W i → Maps.has D0 (.int .i64 i) = p i) (hnn : nn ≤ 1000) (J Jx : List Int → World → Prop)
  (hY : ∀ pre x W, J pre W → pre.length < 1001 → YieldAt Fence.wide (n - 1) Tryz.prog l #[.int .i64 x] W fun e W' =>
   (e = .returned (.bool true) ∧ J (pre ++ [x]) W' ∧ KeepsWalks W W') ∨ (e = .returned (.bool false) ∧ Jx (pre ++ [x]) W'))
  (W : World) (hJ : AbidesFrom W.heap.size J) (hm : W.cell? ⟨Bm, 0, none⟩ = some (.map (some b))) (hown : W.ownsMap Tryz.prog 2 elS b nn D0) (h0 : J [] W) :
  CallsIn Fence.wide n Tryz.prog 142 #[.func (.yield l) #[] #[], .pointer (some ⟨Bm, 0, none⟩)] W fun e W' => (∃ v, e = .returned v) ∧
   ((∃ ys, KeysS p ys ∧ J ys W') ∨ (∃ pre, True ∧ Jx pre W')) := by
 have hsz := Nat.le_trans hown.size_le hnn
 refine callsIn_of_wp Tryz.func142 rfl trivial ?_ rfl
 simp only [Tryz.ntmps142, List.size_toArray, List.length_cons, List.length_nil, Nat.reduceAdd, Nat.reduceSub, Array.replicate_succ, Array.replicate_zero, List.push_toArray, List.append_toArray, List.nil_append, List.cons_append]
 gi_wp2_with (first
  | (gi_at_range; refine wpListIn_range_own _ rfl _ 167 rfl 2 188 sn_keyed sn_map _ b nn _ rfl hown ?_; intro w0 hrg0 hg0 hs0)
  | gi_in)
 go_frame
 gi_loopw [3] (fun _ wr => ∃ (left : Lit → Bool) (cnt : Nat) (ss : List Int), wr.ranges Tryz.prog 2 elS b W.heap.size nn D0 left cnt ∧ ss.length + cnt ≤ Maps.size D0 ∧ CollS D0 left ss ∧ J ss wr)
  (fun _ wr => wr.rangeLeft b W.heap.size)
 case atStart =>
  exact ⟨_, _, [], hrg0, by simp, collS_start D0, hJ [] W w0 none h0 hg0 (fun r e => by cases e)⟩
 case round =>
  obtain ⟨left, cnt, ss, hrg, hcs, hC, hJs⟩ := hrel
  gi_wp2_with (first
   | (gi_at_next; refine wpListIn_next_ranges _ rfl _ rfl 2 sn_keyed elS (fun i : Int => .int .i64 i) id (fun key kl hk => by obtain ⟨r, _, hr, _⟩ := keyS_inv hk; exact ⟨r, hr⟩) (fun v _ _ => ⟨v, rfl⟩) b W.heap.size nn _ _ _ rfl hrg ?_ ?_)
   | gi_in)
  ·intro hc0 hl0
   gi_wp2
   go_end0
   exact ⟨⟨_, rfl⟩, .inl ⟨ss, collS_end hC hl0 hvw, hJs⟩⟩
  ·intro o c kl yd yp w2 cnt2 hkey hlk hv hat hrg2 hlt hg2 hs2 hen
   obtain ⟨r, hr, ex, rfl⟩ := keyS_inv hkey
   obtain rfl : o = r := by simpa using ex
   have hh : Maps.has D0 (.int .i64 o) = true := has_true_of_atKey hat
   have hlen : ss.length < 1001 := by omega
   have hJ2 : J ss w2 := hJ ss wr w2 (some W.heap.size) hJs hg2 (fun r e => by cases e; exact ⟨Nat.le_refl _, hrg.iter_walk⟩)
   obtain ⟨fn, tmps, assign, body, hy, hR⟩ := hY ss o _ hJ2 hlen
   have hR' := hR.mono (R' := fun e W' => ∃ b : Bool, e = .returned (.bool b) ∧ Hid ((b = true ∧ J (ss ++ [o]) W' ∧ KeepsWalks w2 W') ∨ (b = false ∧ Jx (ss ++ [o]) W'))) (by
    rintro e W' (⟨rfl, h⟩ | ⟨rfl, h⟩)
    ·exact ⟨true, rfl, .inl ⟨rfl, h⟩⟩
    ·exact ⟨false, rfl, .inr ⟨rfl, h⟩⟩)
   have HC : Hid (CollS D0 (fun z => left z && !z.sameKey (.int .i64 o)) (ss ++ [o])) := collS_step hC hr hlk hh
   have HM : Hid (wr.rangeLeft b W.heap.size = cnt ∧ cnt2 < cnt) := ⟨hrg.left_eq, hlt⟩
   have HR3 : Hid (w2.ranges Tryz.prog 2 elS b W.heap.size nn D0 (fun z => left z && !z.sameKey (.int .i64 o)) cnt2) := hrg2
   clear hR hY hJ hJ2 hJs h0 hC hrg hrg2 hs2 hat hlk hh hg2 hown hvw
   gi_wp2
   refine hR'.mono ?_
   rintro e W3 ⟨bb, rfl, HD⟩
   rcases HD.out with ⟨rfl, hJ4, hk4⟩ | ⟨rfl, hJx⟩
   ·gi_wp2
    have hrg4 := World.ranges.of_walks HR3.out hk4
    go_roundw
    case rel => exact ⟨_, cnt2, ss ++ [o], hrg4, by simp; omega, HC.out, hJ4⟩
    case measure => rw [hrg4.left_eq, HM.out.1]; exact HM.out.2
   ·gi_wp2
    refine bodyPost_ret (results_none rfl _ _ _) rfl ?_
    exact ⟨⟨_, rfl⟩, .inr ⟨_, trivial, hJx⟩⟩
theorem skeys_in (n : Nat) (b : Nat) (w : World) :
  CallsIn Fence.wide n Tryz.prog 125 #[.map (some b)] w fun e w' => e = .returned (.func (.func 142) #[] #[.pointer (some ⟨w.heap.size, 0, none⟩)]) ∧ w.alloc (.cells #[.map (some b)] 167) = w' := by
 refine callsIn_of_wp Tryz.func125 rfl trivial ?_ rfl
 simp only [Tryz.ntmps125, List.size_toArray, List.length_cons, List.length_nil, Nat.reduceAdd, Nat.reduceSub, Array.replicate_succ, Array.replicate_zero, List.push_toArray, List.append_toArray, List.nil_append, List.cons_append]
 gi_wp2
 go_ret
 exact ⟨rfl, rfl⟩
theorem skeys_stops (n : Nat) (hn : 1 ≤ n) (Bm b N : Nat) (p : Int → Bool) (w : World) (hN : N ≤ 1000) (hBm : Bm < w.heap.size) (hm : w.cell? ⟨Bm, 0, none⟩ = some (.map (some b))) (h : SM w b N p) :
  SeqStopsK Fence.wide n Tryz.prog 142 #[.pointer (some ⟨Bm, 0, none⟩)] (fun x : Int => #[.int .i64 x]) KeepsWalks (KeysS p) (fun _ => True) 1001 w := fun l J Jx W hW hJ _ hY h0 => by
 obtain ⟨D, nn, hnn, ho, hv⟩ := h.below h.lt hW
 exact skeys1_in n hn l Bm b nn D p hv (by omega) J Jx (fun pre x W hj hl => hY pre x W hj hl) W hJ ((hW.cell (p := ⟨Bm, 0, none⟩) hBm).trans hm) ho h0
end

def marks (k n : Nat) : List Int := (List.range n).map (fun i => ((k + i : Nat) : Int))
theorem marks_len (k n : Nat) : (marks k n).length = n := by simp [marks]
theorem marks_at (k n j : Nat) (h : j < n) : (marks k n)[j]?.getD 0 = ((k + j : Nat) : Int) := by simp [marks, h]
theorem owns_parts {w : World} {b : Nat} {t : TypeId} {a : Option Addr} {n cap : Nat} {xs : List Value} (h : w.ownsRow b t 1 (.slice a n cap) n xs) :
  xs.length = n ∧ (n = 0 ∨ ∃ g, a = some ⟨g, 0, none⟩) := by
 refine ⟨by simpa using h.1, ?_⟩
 rcases h.2 with ⟨h', h0⟩ | ⟨g, cap', cur, h', _⟩
 ·exact .inl h0
 ·simp at h'; exact .inr ⟨g, h'.1⟩
theorem mark_c (k b : Nat) (a : Option Addr) (n cap : Nat) (xs : List Value) (w : World) (hk : k ≤ 1048576) (hn : n ≤ 1048576) (hown : w.ownsRow b 2 1 (.slice a n cap) n xs) :
  Calls Tryz.prog 48 #[.slice a n cap, .int .i64 (k : Int)] w fun e w' => e = .returned (.int .i64 ((k + n : Nat) : Int)) ∧ w'.ownsRow b 2 1 (.slice a n cap) n ((marks k n).map (Value.int .i64)) ∧ w.grownBy w' (Value.slice a n cap).ownBlock := by
 obtain ⟨hxl, hcase⟩ := owns_parts hown
 have HO : Hid (w.ownsRow b 2 1 (.slice a n cap) n xs) := hown
 have HC : Hid (n = 0 ∨ ∃ g, a = some ⟨g, 0, none⟩) := hcase
 have HX : Hid (xs.length = n) := hxl
 clear hown hcase hxl
 have hn' : (n : Int) ≤ 1048576 := by omega
 have hk' : (k : Int) ≤ 1048576 := by omega
 go_enter Tryz.func48, Tryz.ntmps48
 go_wp2
 go_loopw [1, 5] (fun q i wr => ∃ (j : Nat) (ys : List Value), j ≤ n ∧ i = .int .i64 (j : Int) ∧ q = .int .i64 ((k + j : Nat) : Int) ∧ wr.ownsRow b 2 1 (.slice a n cap) n ys ∧ (∀ m, m < j → ys[m]? = some (.int .i64 ((k + m : Nat) : Int))) ∧ w.grownBy wr (Value.slice a n cap).ownBlock)
  (fun _ i _ => n - (intOf i).toNat)
 case atStart => exact ⟨0, xs, Nat.zero_le _, rfl, rfl, HO.out, fun m hm => by omega, ⟨rfl, rfl, rfl, Nat.le_refl _, fun _ _ _ => rfl⟩⟩
 case round =>
  obtain ⟨j, ys, hj, rfl, rfl, hown, hys, hgr⟩ := hrel
  by_cases hlt : j < n
  ·obtain ⟨g, ha⟩ : ∃ g, a = some ⟨g, 0, none⟩ := by
    rcases HC.out with h | h
    ·omega
    ·exact h
   subst ha
   have hyl := (owns_parts hown).1
   obtain ⟨v0, hco⟩ : ∃ v0, wr.cell? ⟨g, j, none⟩ = some v0 := ⟨_, (hown.cellAt j (by omega)).trans (List.getElem?_eq_getElem (show j < ys.length by omega))⟩
   have hfo := hown.frozenAt j
   have hst := hown.stored j (.int .i64 ((k + j : Nat) : Int))
   have R : Hid ((wr.setCell ⟨g, j, none⟩ (.int .i64 ((k + j : Nat) : Int))).ownsRow b 2 1 (.slice (some ⟨g, 0, none⟩) n cap) n (ys.set j (.int .i64 ((k + j : Nat) : Int))) ∧ (∀ m, m < j + 1 → (ys.set j (.int .i64 ((k + j : Nat) : Int)))[m]? = some (.int .i64 ((k + m : Nat) : Int))) ∧ w.grownBy (wr.setCell ⟨g, j, none⟩ (.int .i64 ((k + j : Nat) : Int))) (some g)) := by
    refine ⟨hst.1, fun m hm => ?_, ⟨hst.2.os.trans hgr.os, hst.2.tape.trans hgr.tape, hst.2.output.trans hgr.output, Nat.le_trans hgr.size hst.2.size, fun q hq hne => (hst.2.block q (Nat.lt_of_lt_of_le hq hgr.size) hne).trans (hgr.block q hq hne)⟩⟩
    by_cases e : m = j
    ·subst e; rw [List.getElem?_set_self (by omega)]
    ·rw [List.getElem?_set_ne (by omega)]; exact hys m (by omega)
   clear hst hown hys hgr hyl
   have hlt' : (j : Int) < (n : Int) := by omega
   go_wp2
   rw [show ((k : Int) + (j : Int)) = ((k + j : Nat) : Int) from by omega]
   exact ⟨⟨j + 1, _, by omega, by go_num, by go_num, R.out.1, R.out.2.1, R.out.2.2⟩, by simp [intOf]; omega⟩
  ·have hjn : j = n := by omega
   subst hjn
   have E : ys = (marks k j).map (Value.int .i64) := by
    apply List.ext_getElem?
    intro i
    have hyl := (owns_parts hown).1
    by_cases hi : i < j
    ·rw [hys i hi]; simp [marks, hi]
    ·rw [List.getElem?_eq_none (by omega), List.getElem?_eq_none (by simp [marks]; omega)]
   rw [E] at hown
   go_wp2
   go_ret
   exact ⟨rfl, hown, hgr⟩
theorem held_c (k : Nat) (a : Option Addr) (n cap : Nat) (w : World) (hk : k ≤ 1048576) (hn : n ≤ 1048576) (hr : RowIn w a n (marks k n)) :
  Calls Tryz.prog 49 #[.slice a n cap, .int .i64 (k : Int)] w fun e w' => e = .returned (.int .i64 ((k + n : Nat) : Int)) ∧ w = w' := by
 have HR : Hid (RowIn w a n (marks k n)) := hr
 clear hr
 have hn' : (n : Int) ≤ 1048576 := by omega
 have hk' : (k : Int) ≤ 1048576 := by omega
 go_enter Tryz.func49, Tryz.ntmps49
 go_wp2
 go_loop [1, 5] (fun q i => ∃ (j : Nat), j ≤ n ∧ i = .int .i64 (j : Int) ∧ q = .int .i64 ((k + j : Nat) : Int)) (fun _ i => n - (intOf i).toNat)
 case atStart => exact ⟨0, Nat.zero_le _, rfl, rfl⟩
 case round =>
  obtain ⟨j, hj, rfl, rfl⟩ := hrel
  by_cases hlt : j < n
  ·obtain ⟨g, off, ha, hc⟩ := HR.out.2 j hlt
   subst ha
   rw [marks_at k n j hlt, show ((k + j : Nat) : Int) = (k : Int) + (j : Int) from by omega] at hc
   have hlt' : (j : Int) < (n : Int) := by omega
   go_wp2
   exact ⟨⟨j + 1, by omega, by go_num, by go_num⟩, by simp [intOf]; omega⟩
  ·have hjn : j = n := by omega
   subst hjn
   go_wp2
   go_ret
   exact ⟨rfl, rfl⟩
theorem row_of_owns {w : World} {b : Nat} {a : Option Addr} {n cap : Nat} {zs : List Int} (h : w.ownsRow b 2 1 (.slice a n cap) n (zs.map (Value.int .i64))) : RowIn w a n zs := by
 obtain ⟨hl, hc⟩ := owns_parts h
 simp at hl
 refine ⟨by omega, fun k hk => ?_⟩
 rcases hc with h0 | ⟨g, rfl⟩
 ·omega
 ·refine ⟨g, 0, rfl, ?_⟩
  rw [Nat.zero_add, h.cellAt k (by omega)]
  simp [List.getElem?_eq_getElem (show k < zs.length by omega)]

end Go.Proofs.YtfkajnenniapaaaGreat
