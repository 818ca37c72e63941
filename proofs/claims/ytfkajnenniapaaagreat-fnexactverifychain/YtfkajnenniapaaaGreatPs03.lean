/- Contracts. -/
import Derived.Test.YtfkajnenniapaaaGreatPs01
import Derived.Test.YtfkajnenniapaaaGreatChecked
import Derived.Laws.BitsAllLaws
import Derived.WalkSmall
import Derived.BigQuiet
import Derived.Deep.QuietTactic
namespace Go.Proofs.YtfkajnenniapaaaGreat
set_option maxRecDepth 100000
set_option maxHeartbeats 8000000
open Go.RowKit
set_option linter.unusedVariables false
set_option linter.unusedSimpArgs false

def polTo (zs : List RuleI) : Nat → Int
 | 0 => 0
 | k + 1 => if polTo zs k ≠ 0 then polTo zs k else match zs[k]? with
  | none => 0
  | some r => if ruleCode r ≠ 0 then ruleCode r else if r ∈ zs.take k then 6 else 0
def polCode (zs : List RuleI) : Int := if 16 < zs.length then 2 else polTo zs zs.length
theorem polTo_stay (zs : List RuleI) (k m : Nat) (c : Int) (hc : c ≠ 0) (h : polTo zs k = c) (hm : k ≤ m) : polTo zs m = c := by
  induction m with
  | zero => obtain rfl : k = 0 := by omega
            exact h
  | succ m ih =>
    by_cases e : k = m + 1
    · subst e; exact h
    · have := ih (by omega)
      simp only [polTo, this]
      rw [if_pos hc]
theorem polTo_bad (zs : List RuleI) (k : Nat) (r : RuleI) (hk : zs[k]? = some r) (h0 : polTo zs k = 0) (hr : ruleCode r ≠ 0) : polTo zs (k + 1) = ruleCode r := by
 simp [polTo, h0, hk, hr]
theorem polTo_same (zs : List RuleI) (k : Nat) (r : RuleI) (hk : zs[k]? = some r) (h0 : polTo zs k = 0) (hr : ruleCode r = 0) (hm : r ∈ zs.take k) : polTo zs (k + 1) = 6 := by
 simp [polTo, h0, hk, hr, hm]
theorem polTo_good (zs : List RuleI) (k : Nat) (r : RuleI) (hk : zs[k]? = some r) (h0 : polTo zs k = 0) (hr : ruleCode r = 0) (hm : ¬ r ∈ zs.take k) : polTo zs (k + 1) = 0 := by
 simp [polTo, h0, hk, hr, hm]
theorem mem_take_iff (zs : List RuleI) (k : Nat) (r : RuleI) : r ∈ zs.take k ↔ ∃ j, j < k ∧ zs[j]? = some r := by
 rw [List.mem_iff_getElem?]
 constructor
 ·rintro ⟨j, hj⟩
  rw [List.getElem?_take] at hj
  by_cases h : j < k
  ·rw [if_pos h] at hj; exact ⟨j, h, hj⟩
  ·rw [if_neg h] at hj; cases hj
 ·rintro ⟨j, h, hj⟩
  exact ⟨j, by rw [List.getElem?_take, if_pos h]; exact hj⟩
def RulesAt (w : World) (g off : Nat) (zs : List RuleI) : Prop := ∀ k r, zs[k]? = some r → RuleAt w g (off + k * 8) r
theorem RulesAt.below {w w' : World} {g off : Nat} {zs : List RuleI} (h : RulesAt w g off zs) (hb : Below w.heap.size w w') : RulesAt w' g off zs := fun k r e => (h k r e).below hb
def RulesIn (w : World) (a : Option Addr) (len : Nat) (zs : List RuleI) : Prop := zs.length = len ∧ (0 < len → ∃ b off, a = some ⟨b, off, none⟩ ∧ RulesAt w b off zs)
theorem RulesIn.below {w w' : World} {a : Option Addr} {len : Nat} {zs : List RuleI} (h : RulesIn w a len zs) (hb : Below w.heap.size w w') : RulesIn w' a len zs := by
 refine ⟨h.1, fun hl => ?_⟩
 obtain ⟨b, off, e, hr⟩ := h.2 hl
 exact ⟨b, off, e, hr.below hb⟩
theorem RulesIn.at {w : World} {a : Option Addr} {len : Nat} {zs : List RuleI} (h : RulesIn w a len zs) {k : Nat} (hk : k < len) :
  ∃ b off r, a = some ⟨b, off, none⟩ ∧ zs[k]? = some r ∧ RuleAt w b (off + k * 8) r := by
 obtain ⟨b, off, e, hr⟩ := h.2 (by omega)
 have hl := h.1
 exact ⟨b, off, zs[k]'(by omega), e, List.getElem?_eq_getElem (by omega), hr k _ (List.getElem?_eq_getElem (by omega))⟩
theorem RulesIn.here {w : World} {b off len : Nat} {zs : List RuleI} (h : RulesIn w (some ⟨b, off, none⟩) len zs) {k : Nat} (hk : k < len) : ∃ r, zs[k]? = some r ∧ RuleAt w b (off + k * 8) r := by
 obtain ⟨b', off', r, e, h1, h2⟩ := h.at hk
 cases e
 exact ⟨r, h1, h2⟩
theorem RulesIn.cut {w : World} {a : Option Addr} {len : Nat} {zs : List RuleI} (h : RulesIn w a len zs) {k : Nat} (hk : k ≤ len) : RulesIn w a k (zs.take k) := by
 refine ⟨by have := h.1; simp; omega, fun hp => ?_⟩
 obtain ⟨b, off, e, hr⟩ := h.2 (by omega)
 refine ⟨b, off, e, fun j r ej => hr j r ?_⟩
 rw [List.getElem?_take] at ej
 split at ej
 ·exact ej
 ·cases ej
theorem RulesIn.of {w : World} {g len : Nat} {zs : List RuleI} (hl : zs.length = len) (h : RulesAt w g 0 zs) : RulesIn w (some ⟨g, 0, none⟩) len zs :=
 ⟨hl, fun _ => ⟨g, 0, rfl, h⟩⟩
theorem kp_drew (W : World) : (∀ b o, b < W.heap.size → W.drew.cell? ⟨b, o, none⟩ = W.cell? ⟨b, o, none⟩) ∧ Below W.heap.size W W.drew :=
 ⟨fun _ _ _ => rfl, ⟨rfl, rfl, rfl, Nat.le_refl _, fun _ _ => rfl⟩⟩
theorem kp_step {W w w' : World} (h : (∀ b o, b < W.heap.size → w.cell? ⟨b, o, none⟩ = W.cell? ⟨b, o, none⟩) ∧ Below W.heap.size W w) (hb : Below w.heap.size w w') : (∀ b o, b < W.heap.size → w'.cell? ⟨b, o, none⟩ = W.cell? ⟨b, o, none⟩) ∧ Below W.heap.size W w' := by
 have hz := h.2.size
 exact ⟨fun b o hl => (hb.cell (p := ⟨b, o, none⟩) (by show b < w.heap.size; omega)).trans (h.1 b o hl), h.2.trans (hb.mono hz)⟩
def RulesArg (w : World) (a : Option Addr) (len : Nat) (zs : List RuleI) : Prop := RulesIn w a len zs ∧ len ≤ maxLen

theorem Tryz.info2 : (Tryz.prog.info? 2).map (fun i => (i.zero, i.size, i.bytes)) = some (some (.int .i64 0), 1, 8) := by kernel_rfl
theorem bcell {W w1 : World} (hb : Below W.heap.size W w1) : (∀ b o, b < W.heap.size → w1.cell? ⟨b, o, none⟩ = W.cell? ⟨b, o, none⟩) ∧ (∀ b o, b < W.heap.size → w1.frozen? ⟨b, o, none⟩ = W.frozen? ⟨b, o, none⟩) :=
 ⟨fun b o h => hb.cell (p := ⟨b, o, none⟩) h, fun b o h => hb.frozen (p := ⟨b, o, none⟩) h⟩

def RowIn (w : World) (a : Option Addr) (len : Nat) (zs : List Int) : Prop :=
 len ≤ zs.length ∧ ∀ k, k < len → ∃ b off, a = some ⟨b, off, none⟩ ∧ w.cell? ⟨b, off + k, none⟩ = some (.int .i64 (zs[k]?.getD 0))
theorem rows_done {n : Nat} {ys : List Value} {zs : List Int} (hz : n ≤ zs.length) (hl : ys.length = n) (h : ∀ j, j < n → ys[j]? = some (.int .i64 (zs[j]?.getD 0))) : ys = (zs.take n).map (Value.int .i64) := by
 apply List.ext_getElem?
 intro i
 by_cases hi : i < n
 ·rw [h i hi]; simp [hi, List.getElem?_eq_getElem (show i < zs.length by omega)]
 ·rw [List.getElem?_eq_none (by omega), List.getElem?_eq_none (by simp; omega)]
theorem toS_c (a0 : Option Addr) (len cap : Nat) (zs : List Int) (w : World) (hl : len ≤ 1048576) (hr : RowIn w a0 len zs) :
  Calls Tryz.prog 70 #[.slice a0 len cap] w fun e w' => e = .returned (.slice (some ⟨w.heap.size, 0, none⟩) len len) ∧
   w'.ownsRow w.heap.size 2 1 (.slice (some ⟨w.heap.size, 0, none⟩) len len) len ((zs.take len).map (Value.int .i64)) ∧ Below w.heap.size w w' := by
 obtain ⟨i0, hi, hz0, hz1, hz2⟩ := info_parts Tryz.info2
 obtain ⟨wm, hmk, hownm, hgrm⟩ := run_make_full (P := Tryz.prog) (w := w) w.heap.size 26 2 i0 (.int .i64 0) 1 Tryz.underlying26 hi hz0 hz1 .i64 .i64 len (by rw [hz2]; omega) (by unfold maxLen; omega) (Nat.le_refl _)
 obtain ⟨hzl, hcs⟩ := hr
 have HC : Hid (∀ k, k < len → ∃ b off, a0 = some ⟨b, off, none⟩ ∧ w.cell? ⟨b, off + k, none⟩ = some (.int .i64 (zs[k]?.getD 0))) := hcs
 clear hcs
 have HM : Hid (wm.ownsRow w.heap.size 2 1 (.slice (some ⟨w.heap.size, 0, none⟩) len len) len (madeCells (Value.int .i64 0).cells (len * 1)).toList) := hownm
 clear hownm
 have HG : Hid (w.grownBy wm none) := hgrm
 clear hgrm
 have hl' : (len : Int) ≤ 1048576 := by omega
 go_enter Tryz.func70, Tryz.ntmps70
 go_wp2
 go_loopw [4] (fun i wr => ∃ (k : Nat) (ys : List Value), k ≤ len ∧ i = .int .i64 (k : Int) ∧ wr.ownsRow w.heap.size 2 1 (.slice (some ⟨w.heap.size, 0, none⟩) len len) len ys ∧ (∀ j, j < k → ys[j]? = some (.int .i64 (zs[j]?.getD 0))) ∧ Below w.heap.size w wr)
  (fun i _ => len - (intOf i).toNat)
 case atStart => exact ⟨0, _, Nat.zero_le _, rfl, HM.out, fun j hj => by omega, (Below.refl _ _).grown HG.out (Nat.le_refl _) (fun k e => by cases e)⟩
 case round =>
  obtain ⟨k, ys, hk, rfl, hown, hys, hnx⟩ := hrel
  by_cases hlt : k < len
  ·obtain ⟨b, off, ha, hc⟩ := HC.out k hlt
   subst ha
   obtain ⟨y, hy⟩ : ∃ y, y = zs[k]?.getD 0 := ⟨_, rfl⟩
   rw [← hy] at hc
   have hb : b < w.heap.size := zL w ⟨b, off + k, none⟩ hc
   have hcr : wr.cell? ⟨b, off + k, none⟩ = some (.int .i64 y) := (hnx.cell (p := ⟨b, off + k, none⟩) hb).trans hc
   have hlen : ys.length = len := by simpa using hown.1
   obtain ⟨v0, hco⟩ : ∃ v0, wr.cell? ⟨w.heap.size, k, none⟩ = some v0 := ⟨_, (hown.cellAt k (by omega)).trans (List.getElem?_eq_getElem (show k < ys.length by omega))⟩
   have hfo := hown.frozenAt k
   have hst := hown.stored k (.int .i64 y)
   have R : Hid ((wr.setCell ⟨w.heap.size, k, none⟩ (.int .i64 y)).ownsRow w.heap.size 2 1 (.slice (some ⟨w.heap.size, 0, none⟩) len len) len (ys.set k (.int .i64 y)) ∧ (∀ j, j < k + 1 → (ys.set k (.int .i64 y))[j]? = some (.int .i64 (zs[j]?.getD 0))) ∧ Below w.heap.size w (wr.setCell ⟨w.heap.size, k, none⟩ (.int .i64 y))) := by
    refine ⟨hst.1, fun j hj => ?_, hnx.setCell (Nat.le_refl _) _⟩
    by_cases e : j = k
    ·subst e; rw [List.getElem?_set_self (by omega), hy]
    ·rw [List.getElem?_set_ne (by omega)]; exact hys j (by omega)
   clear hst hown hys hy hc hlen
   have hlt' : (k : Int) < (len : Int) := by omega
   go_wp2
   go_roundw
   case rel => exact ⟨k + 1, _, by omega, by go_num, R.out.1, R.out.2.1, R.out.2.2⟩
   case measure => simp [intOf]; omega
  ·have hkn : k = len := by omega
   subst hkn
   have E := rows_done hzl (by simpa using hown.1) hys
   rw [E] at hown
   go_wp2
   go_ret
   exact ⟨rfl, hown, hnx⟩
theorem eqS_same (a b : Option Addr) (n c d : Nat) (zs : List Int) (w : World) (hn : n ≤ 1048576)
  (ha : ∀ k, k < n → ∃ g off, a = some ⟨g, off, none⟩ ∧ w.cell? ⟨g, off + k, none⟩ = some (.int .i64 (zs[k]?.getD 0))) (hb : ∀ k, k < n → ∃ g off, b = some ⟨g, off, none⟩ ∧ w.cell? ⟨g, off + k, none⟩ = some (.int .i64 (zs[k]?.getD 0))) :
  Calls Tryz.prog 43 #[.slice a n c, .slice b n d] w fun e w' => e = .returned (.bool true) ∧ Below w.heap.size w w' := by
 have HA : Hid (∀ k, k < n → ∃ g off, a = some ⟨g, off, none⟩ ∧ w.cell? ⟨g, off + k, none⟩ = some (.int .i64 (zs[k]?.getD 0))) := ha
 have HB : Hid (∀ k, k < n → ∃ g off, b = some ⟨g, off, none⟩ ∧ w.cell? ⟨g, off + k, none⟩ = some (.int .i64 (zs[k]?.getD 0))) := hb
 clear ha hb
 have hn' : (n : Int) ≤ 1048576 := by omega
 go_enter Tryz.func43, Tryz.ntmps43
 go_wp2
 go_loopw [5] (fun i wr => ∃ (k : Nat), k ≤ n ∧ i = .int .i64 (k : Int) ∧ ∃ m, wr = w.drewN m) (fun i _ => n - (intOf i).toNat)
 case atStart => exact ⟨0, Nat.zero_le _, rfl, 0, rfl⟩
 case round =>
  obtain ⟨k, hk, rfl, m, rfl⟩ := hrel
  by_cases hlt : k < n
  ·obtain ⟨g, off, e1, hca⟩ := HA.out k hlt
   obtain ⟨g2, off2, e2, hcb⟩ := HB.out k hlt
   subst e1 e2
   obtain ⟨y, hy⟩ : ∃ y, y = zs[k]?.getD 0 := ⟨_, rfl⟩
   rw [← hy] at hca hcb
   clear hy
   have hlt' : (k : Int) < (n : Int) := by omega
   go_wp2
   go_quiet (fail)
   go_wp2
   exact ⟨⟨k + 1, by omega, by go_num, _, rfl⟩, by simp [intOf]; omega⟩
  ·have hkn : k = n := by omega
   subst hkn
   go_wp2
   go_ret
   exact ⟨rfl, below_drewN (Below.refl _ _) _⟩
theorem RowIn.below {w w' : World} {a : Option Addr} {len : Nat} {zs : List Int} (h : RowIn w a len zs) (hb : Below w.heap.size w w') : RowIn w' a len zs := by
 refine ⟨h.1, fun k hk => ?_⟩
 obtain ⟨b, off, e, hc⟩ := h.2 k hk
 exact ⟨b, off, e, (hb.cell (p := ⟨b, off + k, none⟩) (zL w ⟨b, off + k, none⟩ hc)).trans hc⟩
theorem owned_cells {w : World} {base g len cap : Nat} {zs : List Int} (h : w.ownsRow base 2 1 (.slice (some ⟨g, 0, none⟩) len cap) len ((zs.take len).map (Value.int .i64))) (hz : len ≤ zs.length) :
  ∀ k, k < len → w.cell? ⟨g, k, none⟩ = some (.int .i64 (zs[k]?.getD 0)) := by
 intro k hk
 rw [h.cellAt k (by omega)]
 simp [hk, List.getElem?_eq_getElem (show k < zs.length by omega)]
theorem owned_lt {w : World} {base g len cap : Nat} {xs : List Value} (h : w.ownsRow base 2 1 (.slice (some ⟨g, 0, none⟩) len cap) len xs) : g < w.heap.size := (h.lt g rfl).2

abbrev RoI := Int × Int

structure LkI where
 e : Int
 c : Int
 p : Int
 f : Int
deriving DecidableEq, Inhabited

def inR (v lo hi : Int) : Bool := decide (lo ≤ v) && decide (v ≤ hi)
def cmpJ (x y : Int) : Int := if x < y then -1 else if y < x then 1 else 0
def orJ (c d : Int) : Int := if c = 0 then d else c
def cfL (x y : LkI) : Int := orJ (cmpJ x.e y.e) (orJ (cmpJ x.c y.c) (cmpJ x.p y.p))

structure StI where
 k : Int
 e : Int
 f : Int
 s : Int
 n : Int
deriving DecidableEq, Inhabited
def StAt (w : World) (b o : Nat) (x : StI) : Prop := w.cell? ⟨b, o, none⟩ = some (.int .i64 x.k) ∧ w.cell? ⟨b, o + 1, none⟩ = some (.int .i64 x.e) ∧ w.cell? ⟨b, o + 2, none⟩ = some (.int .i64 x.f) ∧ w.cell? ⟨b, o + 3, none⟩ = some (.int .i64 x.s) ∧ w.cell? ⟨b, o + 4, none⟩ = some (.int .i64 x.n)
theorem StAt.below {w w' : World} {B b o : Nat} {x : StI} (h : StAt w b o x) (hb : Below B w w') (hB : b < B) : StAt w' b o x :=
 ⟨(hb.cell (p := ⟨b, o, none⟩) hB).trans h.1, (hb.cell (p := ⟨b, o + 1, none⟩) hB).trans h.2.1, (hb.cell (p := ⟨b, o + 2, none⟩) hB).trans h.2.2.1, (hb.cell (p := ⟨b, o + 3, none⟩) hB).trans h.2.2.2.1, (hb.cell (p := ⟨b, o + 4, none⟩) hB).trans h.2.2.2.2⟩
theorem toStatement_c (x : StI) (w : World) : Calls Tryz.prog 71 #[.agg #[.int .i64 x.k, .int .i64 x.e, .int .i64 x.f, .int .i64 x.s, .int .i64 x.n]] w fun e w' => e = .returned (.agg #[.int .i64 x.k, .int .i64 x.e, .int .i64 x.f, .int .i64 x.s, .int .i64 x.n]) ∧ Below w.heap.size w w' := by
 go_enter Tryz.func71, Tryz.ntmps71
 go_wp2
 go_returns
 exact ⟨rfl, by go_grown⟩
theorem eqStatement_same (x : StI) (w : World) :
  Calls Tryz.prog 79 #[.agg #[.int .i64 x.k, .int .i64 x.e, .int .i64 x.f, .int .i64 x.s, .int .i64 x.n], .agg #[.int .i64 x.k, .int .i64 x.e, .int .i64 x.f, .int .i64 x.s, .int .i64 x.n]] w fun e w' => e = .returned (.bool true) ∧ Below w.heap.size w w' := by
 go_enter Tryz.func79, Tryz.ntmps79
 go_wp2
 go_ret
 exact ⟨rfl, by go_grown⟩

end Go.Proofs.YtfkajnenniapaaaGreat
