/-
  CONTRACTS: spec.ProofOf where the role is had.
  Conditions: each contract bears its own.
  CONTRACTS of laws.toInt64S (a copy of a slice) and of laws.eqInt64S (two that are alike).
  Conditions: each contract bears its own.
  CONTRACTS of math/bits.OnesCount8, spec.SizeOf, impl.SizeOf and laws.eqIntResult (two that are alike).
  Conditions: each contract bears its own.
-/
import Derived.Test.YtocdclgolhhckaaPk23
import Derived.Test.YtocdclgolhhckaaPk04
import Derived.WalkSmall
import Derived.BigQuiet
import Derived.Deep.QuietTactic
import Derived.Lib.BitFns
namespace Go.Proofs.Ytocdclgolhhckaa
open Go.RowKit
set_option linter.unusedVariables false
set_option linter.unusedSimpArgs false

set_option maxRecDepth 100000 in
set_option maxHeartbeats 2000000 in
theorem specProof_ok (a : Option Addr) (n cap : Nat) (zs : List RuleI) (r : RoI) (p v : Int) (N : Nat) (w : World) (h : RulesIn w a n zs) (hn : n ≤ 16) (hz : ∀ z ∈ zs, okR z ∧ 1 ≤ z.k ∧ z.k ≤ 4) (hp : prinB p = true) (hv : setB v) (hh : hasI v p = true)
    (hN : N ≤ 10200) (h1 : ¬ noneHit zs (ofG (itG zs N)) r p) (h2 : ∀ k, k < N → noneHit zs (ofG (itG zs k)) r p)
    (H : Hid (∀ w', Below w.heap.size w w' → GivesI 13 a n cap r 0 v w')) : GivesP 33 a n cap r p 0 [(N : Int) + 1, hitAt (ofG (itG zs N)) r p zs 0] w := by
  obtain ⟨W, hW⟩ : ∃ W, W = (w.alloc (.cells #[.int .i64 r.1, .int .i64 r.2] 31)).alloc (.cells #[.int .i64 0, .slice none 0 0] 55) := ⟨_, rfl⟩
  have hs : W.heap.size = w.heap.size + 2 := by rw [hW]; simp
  have B0 : Below w.heap.size w W := by rw [hW]; exact ((Below.refl _ _).alloc (Nat.le_refl _) _).alloc (by simp) _
  have r0 : W.cell? ⟨w.heap.size, 0, none⟩ = some (.int .i64 r.1) := by rw [hW]; simp
  have r1 : W.cell? ⟨w.heap.size, 1, none⟩ = some (.int .i64 r.2) := by rw [hW]; simp
  have c0 : W.cell? ⟨w.heap.size + 1, 0, none⟩ = some (.int .i64 0) := by rw [hW]; simp
  have c1 : W.cell? ⟨w.heap.size + 1, 1, none⟩ = some (.slice none 0 0) := by rw [hW]; simp
  have f0 : ∀ j, W.frozen? ⟨w.heap.size + 1, j, none⟩ = false := fun j => by rw [hW]; simp [go_sem]
  have HB0 : Hid (Below w.heap.size w W) := B0
  have hlw : w.heap.size + 1 < W.heap.size := by omega
  have hlw0 : w.heap.size < W.heap.size := by omega
  have hp' : 1 ≤ p ∧ p ≤ 8 := by simpa [prinB] using hp
  have HR : Hid (RulesIn W a n zs) := h.below B0
  have HZ : Hid (∀ z ∈ zs, okR z ∧ 1 ≤ z.k ∧ z.k ≤ 4) := hz
  have HK : Hid (∀ z ∈ zs, okR z) := fun z q => (hz z q).1
  have H1 : Hid (¬ noneHit zs (ofG (itG zs N)) r p) := h1
  have H2 : Hid (∀ k, k < N → noneHit zs (ofG (itG zs k)) r p) := h2
  have HRule : Hid (∀ (k g l c : Nat) (w2 : World), Below W.heap.size W w2 → GrIn w2 (some ⟨g, 0, none⟩) l (itG zs k) → Calls Try.prog 76 #[.slice a n cap, .slice (some ⟨g, 0, none⟩) l c, .agg #[.int .i64 r.1, .int .i64 r.2], .int .i64 p] w2 fun e w' => e = .returned (.int .i64 (hitAt (ofG (itG zs k)) r p zs 0)) ∧ Below w2.heap.size w2 w') := fun k g l c w2 hb hg =>
    l3Rule_c a n cap zs _ l c (itG zs k) r p w2 (HR.out.below hb) (by omega) hg (sg_it HK.out k) hp'.1 hp'.2 HZ.out
  obtain ⟨x, hx⟩ : ∃ x, hitAt (ofG (itG zs N)) r p zs 0 = x := ⟨_, rfl⟩
  have HX : Hid (hitAt (ofG (itG zs N)) r p zs 0 = x) := hx
  have hx0 : 0 ≤ x := by
    have := hitAt_neg (ofG (itG zs N)) r p zs 0 (Int.le_refl _)
    rw [hx] at this
    by_cases q : x < 0
    · exact absurd (this.1 q) h1
    · omega
  rw [hx]
  have hN' : (N : Int) ≤ 10200 := by omega
  clear h hz h1 h2 hx
  unfold GivesP
  go_enter Try.func33, Try.ntmps33
  go_wp2_with fail
  rw [← hW]
  clear hW hs
  refine (H.out _ HB0.out).mono ?_
  rintro e w1 ⟨rfl, hb1⟩
  have hA1 : Below W.heap.size W (w1.alloc (.cells #[.int .i64 0, .int .i64 v] 27)) := hb1.alloc hb1.size _
  go_wp2_with (first | (go_at_call 74; refine (l1Principal_c p _).mono ?_; rintro e w' ⟨rfl, rfl⟩; rw [hp]) | (go_at_call 75; refine (l1Has_c v p hv.1 hv.2 hp'.1 hp'.2 _).mono ?_; rintro e w' ⟨rfl, rfl⟩; rw [hh]) | fail)
  go_loopw [8, 9] (fun u s wr => ∃ k l g cap' : Nat, k ≤ N ∧ s = .int .i64 ((k : Int) + 1) ∧ u = .slice (some ⟨g, 0, none⟩) l cap' ∧ (itG zs k).length = l ∧ Own3 wr W.heap.size (.slice (some ⟨g, 0, none⟩) l cap') (itG zs k) ∧ Below W.heap.size W wr) (fun _ s _ => N + 1 - (intOf s).toNat)
  case atStart => exact ⟨0, 0, (w1.alloc (.cells #[.int .i64 0, .int .i64 v] 27)).heap.size, 0, Nat.zero_le _, rfl, by simp, rfl, World.ownsRow_lit _ #[] 0 hA1.size (Nat.zero_le _) rfl, hA1.alloc hA1.size _⟩
  case round =>
    obtain ⟨k, l, g, cap', hk, rfl, rfl, hl, hown, hnx⟩ := hrel
    have HO : Hid (Own3 wr W.heap.size (.slice (some ⟨g, 0, none⟩) l cap') (itG zs k)) := hown
    have HL : Hid ((itG zs k).length = l) := hl
    have hl40 : l ≤ 40 := by rw [← hl]; exact sg_len (sg_it HK.out k)
    clear hown hl
    have q0 := (hnx.cell (p := ⟨w.heap.size, 0, none⟩) hlw0).trans r0
    have q1 := (hnx.cell (p := ⟨w.heap.size, 1, none⟩) hlw0).trans r1
    by_cases hkN : k < N
    · have HNG : Hid (hitAt (ofG (itG zs k)) r p zs 0 < 0) := (hitAt_neg _ _ _ _ 0 (Int.le_refl _)).2 (H2.out k hkN)
      go_wp2_with fail
      refine (HRule.out k g l cap' _ hnx (HO.out.read HL.out)).mono ?_
      rintro e w2 ⟨rfl, hb2'⟩
      have hneg := HNG.out
      generalize hitAt (ofG (itG zs k)) r p zs 0 = y at hneg ⊢
      have hb2 : Below W.heap.size W w2 := hnx.trans (hb2'.mono hnx.size)
      have HO2 : Hid (Own3 w2 W.heap.size (.slice (some ⟨g, 0, none⟩) l cap') (itG zs k)) := HO.out.below hb2'
      clear hb2'
      go_wp2_with fail
      refine (l3Step_c g 0 l cap' (itG zs k) a n cap zs _ (HO2.out.read HL.out) (sg_it HK.out k) (HR.out.below hb2) (by omega) HZ.out).mono ?_
      rintro e w3 ⟨g3, l3, cap3, rfl, hl3, hown3, hb3⟩
      have HO3 : Hid ((itG zs (k + 1)).length = l3 ∧ Own3 w3 W.heap.size (.slice (some ⟨g3, 0, none⟩) l3 cap3) (itG zs (k + 1))) := ⟨hl3, own3_lower hown3 hb2.size⟩
      clear hown3 hl3
      go_wp2
      exact ⟨⟨k + 1, l3, g3, cap3, by omega, by go_num, rfl, HO3.out.1, HO3.out.2, hb2.trans (hb3.mono hb2.size)⟩, by simp [intOf]; omega⟩
    · have hke : k = N := by omega
      subst hke
      go_wp2_with fail
      refine (HRule.out k g l cap' _ hnx (HO.out.read HL.out)).mono ?_
      rintro e w2 ⟨rfl, hb2'⟩
      rw [HX.out]
      have hb2 : Below W.heap.size W w2 := hnx.trans (hb2'.mono hnx.size)
      have HO2 : Hid (Own3 w2 W.heap.size (.slice (some ⟨g, 0, none⟩) l cap') (itG zs k)) := HO.out.below hb2'
      have q0 := (hb2.cell (p := ⟨w.heap.size, 0, none⟩) hlw0).trans r0
      have q1 := (hb2.cell (p := ⟨w.heap.size, 1, none⟩) hlw0).trans r1
      clear hb2'
      go_wp2_with fail
      refine (HRule.out k g l cap' _ hb2 (HO2.out.read HL.out)).mono ?_
      rintro e w3 ⟨rfl, hb3'⟩
      rw [HX.out]
      have hb3 : Below W.heap.size W w3 := hb2.trans (hb3'.mono hb2.size)
      have d0 := (hb3.cell (p := ⟨w.heap.size + 1, 0, none⟩) hlw).trans c0
      have d1 := (hb3.cell (p := ⟨w.heap.size + 1, 1, none⟩) hlw).trans c1
      have g0 := (hb3.frozen (p := ⟨w.heap.size + 1, 0, none⟩) hlw).trans (f0 0)
      have g1 := (hb3.frozen (p := ⟨w.heap.size + 1, 1, none⟩) hlw).trans (f0 1)
      have hw : w.heap.size + 1 < w3.heap.size := Nat.lt_of_lt_of_le hlw hb3.size
      have hBx : Below w.heap.size w w3 := HB0.out.trans (hb3.mono HB0.out.size)
      clear hb3'
      go_wp2
      refine bodyPost_ret (v := .agg #[.int .i64 0, .slice (some ⟨w3.heap.size, 0, none⟩) 2 2]) (by simp [results, Try.results33, go_sem, d0, d1, hw]) rfl ⟨some ⟨w3.heap.size, 0, none⟩, 2, rfl, ?_, ?_⟩
      · have h0 := World.ownsRow_lit (base := w.heap.size) (e := 2) (size := 1) ((w3.setCell ⟨w.heap.size + 1, 0, none⟩ (.int .i64 0)).setCell ⟨w.heap.size + 1, 1, none⟩ (.slice (some ⟨w3.heap.size, 0, none⟩) 2 2)) #[.int .i64 ((k : Int) + 1), .int .i64 x] 2 (by simp only [World.size_setCell]; omega) (by unfold maxLen; omega) rfl
        simp only [World.size_setCell] at h0
        exact h0
      · refine Below.alloc (Below.setCell (Below.setCell hBx ?_ _) ?_ _) ?_ _
        · show w.heap.size ≤ w.heap.size + 1; omega
        · show w.heap.size ≤ w.heap.size + 1; omega
        · simp only [World.size_setCell]; exact hBx.size

end Go.Proofs.Ytocdclgolhhckaa

namespace Go.Proofs.Ytocdclgolhhckaa
open Go.RowKit
set_option linter.unusedVariables false

/-- What laws.toInt64S needs of the slice that it copies. -/
def RowIn (w : World) (a : Option Addr) (len : Nat) (zs : List Int) : Prop :=
  len ≤ zs.length ∧ ∀ k, k < len → ∃ b off, a = some ⟨b, off, none⟩ ∧ w.cell? ⟨b, off + k, none⟩ = some (.int .i64 (zs[k]?.getD 0))

theorem made_len (n : Nat) : ((madeCells (Value.int .i64 0).cells (n * 1)).toList).length = n := by simp [madeCells, Value.cells]

theorem rows_done {n : Nat} {ys : List Value} {zs : List Int} (hz : n ≤ zs.length) (hl : ys.length = n) (h : ∀ j, j < n → ys[j]? = some (.int .i64 (zs[j]?.getD 0))) : ys = (zs.take n).map (Value.int .i64) := by
  apply List.ext_getElem?
  intro i
  by_cases hi : i < n
  · rw [h i hi]; simp [hi, List.getElem?_eq_getElem (show i < zs.length by omega)]
  · rw [List.getElem?_eq_none (by omega), List.getElem?_eq_none (by simp; omega)]

set_option maxHeartbeats 400000 in
theorem eqS_same (a b : Option Addr) (n c d : Nat) (zs : List Int) (w : World) (hn : n ≤ 1048576)
    (ha : ∀ k, k < n → ∃ g off, a = some ⟨g, off, none⟩ ∧ w.cell? ⟨g, off + k, none⟩ = some (.int .i64 (zs[k]?.getD 0))) (hb : ∀ k, k < n → ∃ g off, b = some ⟨g, off, none⟩ ∧ w.cell? ⟨g, off + k, none⟩ = some (.int .i64 (zs[k]?.getD 0))) :
    Calls Try.prog 80 #[.slice a n c, .slice b n d] w fun e w' => e = .returned (.bool true) ∧ Below w.heap.size w w' := by
  have HA : Hid (∀ k, k < n → ∃ g off, a = some ⟨g, off, none⟩ ∧ w.cell? ⟨g, off + k, none⟩ = some (.int .i64 (zs[k]?.getD 0))) := ha
  have HB : Hid (∀ k, k < n → ∃ g off, b = some ⟨g, off, none⟩ ∧ w.cell? ⟨g, off + k, none⟩ = some (.int .i64 (zs[k]?.getD 0))) := hb
  clear ha hb
  have hn' : (n : Int) ≤ 1048576 := by omega
  go_enter Try.func80, Try.ntmps80
  go_wp2
  go_loopw [5] (fun i wr => ∃ (k : Nat), k ≤ n ∧ i = .int .i64 (k : Int) ∧ ∃ m, wr = w.drewN m) (fun i _ => n - (intOf i).toNat)
  case atStart => exact ⟨0, Nat.zero_le _, rfl, 0, rfl⟩
  case round =>
    obtain ⟨k, hk, rfl, m, rfl⟩ := hrel
    by_cases hlt : k < n
    · obtain ⟨g, off, e1, hca⟩ := HA.out k hlt
      obtain ⟨g2, off2, e2, hcb⟩ := HB.out k hlt
      subst e1 e2
      obtain ⟨y, hy⟩ : ∃ y, y = zs[k]?.getD 0 := ⟨_, rfl⟩
      rw [← hy] at hca hcb
      clear hy
      have hlt' : (k : Int) < (n : Int) := by omega
      go_wp2
      go_quiet (fail)
      go_wp2
      exact ⟨⟨k + 1, by omega, by go_num, _, rfl⟩, by simp [intOf]; omega⟩
    · have hkn : k = n := by omega
      subst hkn
      go_wp2
      go_ret
      exact ⟨rfl, below_drewN (Below.refl _ _) _⟩

theorem RowIn.below {w w' : World} {a : Option Addr} {len : Nat} {zs : List Int} (h : RowIn w a len zs) (hb : Below w.heap.size w w') : RowIn w' a len zs := by
  refine ⟨h.1, fun k hk => ?_⟩
  obtain ⟨b, off, e, hc⟩ := h.2 k hk
  exact ⟨b, off, e, (hb.cell (p := ⟨b, off + k, none⟩) (World.block_lt_of_cell? w ⟨b, off + k, none⟩ hc)).trans hc⟩

theorem owned_cells {w : World} {base g len cap : Nat} {zs : List Int} (h : w.ownsRow base 2 1 (.slice (some ⟨g, 0, none⟩) len cap) len ((zs.take len).map (Value.int .i64))) (hz : len ≤ zs.length) :
    ∀ k, k < len → w.cell? ⟨g, k, none⟩ = some (.int .i64 (zs[k]?.getD 0)) := by
  intro k hk
  rw [h.cellAt k (by omega)]
  simp [hk, List.getElem?_eq_getElem (show k < zs.length by omega)]

theorem owned_lt {w : World} {base g len cap : Nat} {xs : List Value} (h : w.ownsRow base 2 1 (.slice (some ⟨g, 0, none⟩) len cap) len xs) : g < w.heap.size := (h.lt g rfl).2

end Go.Proofs.Ytocdclgolhhckaa

namespace Go.Proofs.Ytocdclgolhhckaa
open Go.RowKit
set_option linter.unusedVariables false

theorem ones_eq : ∀ n : Fin 256, Lib.onesCount n.val = (listTo (n.val : Int) 8).length := by decide +kernel

set_option maxHeartbeats 400000 in
theorem eqInt_same (a b : Int) (w : World) :
    Calls Try.prog 17 #[.agg #[.int .i64 a, .int .i64 b], .agg #[.int .i64 a, .int .i64 b]] w fun e w' => e = .returned (.bool true) ∧ Below w.heap.size w w' := by
  go_enter Try.func17, Try.ntmps17
  go_wp2
  go_ret
  exact ⟨rfl, ((Below.refl _ _).alloc (Nat.le_refl _) _).alloc (by simp) _⟩

end Go.Proofs.Ytocdclgolhhckaa
