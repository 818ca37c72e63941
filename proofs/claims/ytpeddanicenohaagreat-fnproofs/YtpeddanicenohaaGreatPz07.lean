/-
  CONTRACTS: spec.ProofOf where the role is had.
  Conditions: each contract bears its own.
  CONTRACTS: what both programs' MembersOf answers; results of one number compared.
  Conditions: each contract bears its own.
  CONTRACTS of laws.toInt64S (a copy of a slice) and of laws.eqInt64S (two that are alike).
  Conditions: each contract bears its own.
  CONTRACTS of math/bits.OnesCount8, spec.SizeOf, impl.SizeOf and laws.eqIntResult (two that are alike).
  Conditions: each contract bears its own.
-/
import Derived.Test.YtpeddanicenohaaGreatPz06
import Derived.Test.YtpeddanicenohaaGreatBx0
import Derived.Test.YtpeddanicenohaaGreatSpec1
import Derived.WalkSmall
import Derived.BigQuiet
import Derived.Deep.QuietTactic
import Derived.Lib.BitFns
namespace Go.Proofs.YtpeddanicenohaaGreat
open Go.RowKit
set_option linter.unusedVariables false
set_option linter.unusedSimpArgs false

set_option maxRecDepth 100000 in
set_option maxHeartbeats 2000000 in
theorem specProof_ok (a : Option Addr) (n cap : Nat) (zs : List RuleI) (r : RoI) (p v : Int) (N : Nat) (w : World) (h : RulesIn w a n zs) (hn : n ≤ 16) (hz : ∀ z ∈ zs, okR z ∧ 1 ≤ z.k ∧ z.k ≤ 4) (hp : prinB p = true) (hv : setB v) (hh : hasI v p = true)
    (hN : N ≤ 10200) (h1 : ¬ noneHit zs (ofG (itG zs N)) r p) (h2 : ∀ k, k < N → noneHit zs (ofG (itG zs k)) r p)
    (H : Hid (∀ w', Below w.heap.size w w' → GivesI 18 a n cap r 0 v w')) : GivesP 7 a n cap r p 0 [(N : Int) + 1, hitAt (ofG (itG zs N)) r p zs 0] w := by
  obtain ⟨W, hW⟩ : ∃ W, W = (w.alloc (.cells #[.int .i64 r.1, .int .i64 r.2] 26)).alloc (.cells #[.int .i64 0, .slice none 0 0] 31) := ⟨_, rfl⟩
  have hs : W.heap.size = w.heap.size + 2 := by rw [hW]; simp
  have B0 : Below w.heap.size w W := by rw [hW]; exact ((Below.refl _ _).alloc (Nat.le_refl _) _).alloc (by simp) _
  have r0 : W.cell? ⟨w.heap.size, 0, none⟩ = some (.int .i64 r.1) := by rw [hW]; simp
  have r1 : W.cell? ⟨w.heap.size, 1, none⟩ = some (.int .i64 r.2) := by rw [hW]; simp
  have c0 : W.cell? ⟨w.heap.size + 1, 0, none⟩ = some (.int .i64 0) := by rw [hW]; simp
  have c1 : W.cell? ⟨w.heap.size + 1, 1, none⟩ = some (.slice none 0 0) := by rw [hW]; simp
  have f0 : ∀ j, W.frozen? ⟨w.heap.size + 1, j, none⟩ = false := fun j => by rw [hW]; simp [go_sem]
  have HB0 : Hid (Below w.heap.size w W) := B0
  have hlw : w.heap.size + 1 < W.heap.size := by omega
  have hlw0 : w.heap.size < W.heap.size := by omega
  have hp' : 1 ≤ p ∧ p ≤ 8 := by simpa [prinB] using hp
  have HR : Hid (RulesIn W a n zs) := h.below B0
  have HZ : Hid (∀ z ∈ zs, okR z ∧ 1 ≤ z.k ∧ z.k ≤ 4) := hz
  have HK : Hid (∀ z ∈ zs, okR z) := fun z q => (hz z q).1
  have H1 : Hid (¬ noneHit zs (ofG (itG zs N)) r p) := h1
  have H2 : Hid (∀ k, k < N → noneHit zs (ofG (itG zs k)) r p) := h2
  have HRule : Hid (∀ (k g l c : Nat) (w2 : World), Below W.heap.size W w2 → GrIn w2 (some ⟨g, 0, none⟩) l (itG zs k) → Calls Tryz.prog 21 #[.slice a n cap, .slice (some ⟨g, 0, none⟩) l c, .agg #[.int .i64 r.1, .int .i64 r.2], .int .i64 p] w2 fun e w' => e = .returned (.int .i64 (hitAt (ofG (itG zs k)) r p zs 0)) ∧ Below w2.heap.size w2 w') := fun k g l c w2 hb hg =>
    l3Rule_c a n cap zs _ l c (itG zs k) r p w2 (HR.out.below hb) (by omega) hg (sg_it HK.out k) hp'.1 hp'.2 HZ.out
  obtain ⟨x, hx⟩ : ∃ x, hitAt (ofG (itG zs N)) r p zs 0 = x := ⟨_, rfl⟩
  have HX : Hid (hitAt (ofG (itG zs N)) r p zs 0 = x) := hx
  have hx0 : 0 ≤ x := by
    have := hitAt_neg (ofG (itG zs N)) r p zs 0 (Int.le_refl _)
    rw [hx] at this
    by_cases q : x < 0
    · exact absurd (this.1 q) h1
    · omega
  rw [hx]
  have hN' : (N : Int) ≤ 10200 := by omega
  clear h hz h1 h2 hx
  unfold GivesP
  go_enter Tryz.func7, Tryz.ntmps7
  go_wp2_with fail
  rw [← hW]
  clear hW hs
  refine (H.out _ HB0.out).mono ?_
  rintro e w1 ⟨rfl, hb1⟩
  have hA1 : Below W.heap.size W (w1.alloc (.cells #[.int .i64 0, .int .i64 v] 51)) := hb1.alloc hb1.size _
  go_wp2_with (first | (go_at_call 19; refine (l1Principal_c p _).mono ?_; rintro e w' ⟨rfl, rfl⟩; rw [hp]) | (go_at_call 20; refine (l1Has_c v p hv.1 hv.2 hp'.1 hp'.2 _).mono ?_; rintro e w' ⟨rfl, rfl⟩; rw [hh]) | fail)
  go_loopw [8, 9] (fun u s wr => ∃ k l g cap' : Nat, k ≤ N ∧ s = .int .i64 ((k : Int) + 1) ∧ u = .slice (some ⟨g, 0, none⟩) l cap' ∧ (itG zs k).length = l ∧ Own3 wr W.heap.size (.slice (some ⟨g, 0, none⟩) l cap') (itG zs k) ∧ Below W.heap.size W wr) (fun _ s _ => N + 1 - (intOf s).toNat)
  case atStart => exact ⟨0, 0, (w1.alloc (.cells #[.int .i64 0, .int .i64 v] 51)).heap.size, 0, Nat.zero_le _, rfl, by simp, rfl, World.ownsRow_lit _ #[] 0 hA1.size (Nat.zero_le _) rfl, hA1.alloc hA1.size _⟩
  case round =>
    obtain ⟨k, l, g, cap', hk, rfl, rfl, hl, hown, hnx⟩ := hrel
    have HO : Hid (Own3 wr W.heap.size (.slice (some ⟨g, 0, none⟩) l cap') (itG zs k)) := hown
    have HL : Hid ((itG zs k).length = l) := hl
    have hl40 : l ≤ 40 := by rw [← hl]; exact sg_len (sg_it HK.out k)
    clear hown hl
    have q0 := (hnx.cell (p := ⟨w.heap.size, 0, none⟩) hlw0).trans r0
    have q1 := (hnx.cell (p := ⟨w.heap.size, 1, none⟩) hlw0).trans r1
    by_cases hkN : k < N
    · have HNG : Hid (hitAt (ofG (itG zs k)) r p zs 0 < 0) := (hitAt_neg _ _ _ _ 0 (Int.le_refl _)).2 (H2.out k hkN)
      go_wp2_with fail
      refine (HRule.out k g l cap' _ hnx (HO.out.read HL.out)).mono ?_
      rintro e w2 ⟨rfl, hb2'⟩
      have hneg := HNG.out
      generalize hitAt (ofG (itG zs k)) r p zs 0 = y at hneg ⊢
      have hb2 : Below W.heap.size W w2 := hnx.trans (hb2'.mono hnx.size)
      have HO2 : Hid (Own3 w2 W.heap.size (.slice (some ⟨g, 0, none⟩) l cap') (itG zs k)) := HO.out.below hb2'
      clear hb2'
      go_wp2_with fail
      refine (l3Step_c g 0 l cap' (itG zs k) a n cap zs _ (HO2.out.read HL.out) (sg_it HK.out k) (HR.out.below hb2) (by omega) HZ.out).mono ?_
      rintro e w3 ⟨g3, l3, cap3, rfl, hl3, hown3, hb3⟩
      have HO3 : Hid ((itG zs (k + 1)).length = l3 ∧ Own3 w3 W.heap.size (.slice (some ⟨g3, 0, none⟩) l3 cap3) (itG zs (k + 1))) := ⟨hl3, own3_lower hown3 hb2.size⟩
      clear hown3 hl3
      go_wp2
      exact ⟨⟨k + 1, l3, g3, cap3, by omega, by go_num, rfl, HO3.out.1, HO3.out.2, hb2.trans (hb3.mono hb2.size)⟩, by simp [intOf]; omega⟩
    · have hke : k = N := by omega
      subst hke
      go_wp2_with fail
      refine (HRule.out k g l cap' _ hnx (HO.out.read HL.out)).mono ?_
      rintro e w2 ⟨rfl, hb2'⟩
      rw [HX.out]
      have hb2 : Below W.heap.size W w2 := hnx.trans (hb2'.mono hnx.size)
      have HO2 : Hid (Own3 w2 W.heap.size (.slice (some ⟨g, 0, none⟩) l cap') (itG zs k)) := HO.out.below hb2'
      have q0 := (hb2.cell (p := ⟨w.heap.size, 0, none⟩) hlw0).trans r0
      have q1 := (hb2.cell (p := ⟨w.heap.size, 1, none⟩) hlw0).trans r1
      clear hb2'
      go_wp2_with fail
      refine (HRule.out k g l cap' _ hb2 (HO2.out.read HL.out)).mono ?_
      rintro e w3 ⟨rfl, hb3'⟩
      rw [HX.out]
      have hb3 : Below W.heap.size W w3 := hb2.trans (hb3'.mono hb2.size)
      have d0 := (hb3.cell (p := ⟨w.heap.size + 1, 0, none⟩) hlw).trans c0
      have d1 := (hb3.cell (p := ⟨w.heap.size + 1, 1, none⟩) hlw).trans c1
      have g0 := (hb3.frozen (p := ⟨w.heap.size + 1, 0, none⟩) hlw).trans (f0 0)
      have g1 := (hb3.frozen (p := ⟨w.heap.size + 1, 1, none⟩) hlw).trans (f0 1)
      have hw : w.heap.size + 1 < w3.heap.size := Nat.lt_of_lt_of_le hlw hb3.size
      have hBx : Below w.heap.size w w3 := HB0.out.trans (hb3.mono HB0.out.size)
      clear hb3'
      go_wp2
      refine bodyPost_ret (v := .agg #[.int .i64 0, .slice (some ⟨w3.heap.size, 0, none⟩) 2 2]) (by simp [results, Tryz.results7, go_sem, d0, d1, hw]) rfl ⟨some ⟨w3.heap.size, 0, none⟩, 2, rfl, ?_, ?_⟩
      · have h0 := World.ownsRow_lit (base := w.heap.size) (e := 2) (size := 1) ((w3.setCell ⟨w.heap.size + 1, 0, none⟩ (.int .i64 0)).setCell ⟨w.heap.size + 1, 1, none⟩ (.slice (some ⟨w3.heap.size, 0, none⟩) 2 2)) #[.int .i64 ((k : Int) + 1), .int .i64 x] 2 (by simp only [World.size_setCell]; omega) (by unfold maxLen; omega) rfl
        simp only [World.size_setCell] at h0
        exact h0
      · refine Below.alloc (Below.setCell (Below.setCell hBx ?_ _) ?_ _) ?_ _
        · show w.heap.size ≤ w.heap.size + 1; omega
        · show w.heap.size ≤ w.heap.size + 1; omega
        · simp only [World.size_setCell]; exact hBx.size

end Go.Proofs.YtpeddanicenohaaGreat

namespace Go.Proofs.YtpeddanicenohaaGreat
open Go.RowKit
set_option linter.unusedVariables false
set_option linter.unusedSimpArgs false

theorem members_both (zs : List RuleI) (r : RoI) (n : Nat) (hn : n ≤ 1048576) (hz : zs.length = n) : ∃ c v : Int, (c = 0 → setB v) ∧
    (∀ (g : Nat) (w : World), RulesAt w g 0 zs → GivesI 18 (some ⟨g, 0, none⟩) n n r c v w) ∧
    (∀ (g : Nat) (w : World), RulesAt w g 0 zs → GivesI 23 (some ⟨g, 0, none⟩) n n r c v w) := by
  have hm : n ≤ maxLen := by unfold maxLen; omega
  by_cases hc : polCode zs = 0
  · cases hr : roleB r.1 r.2
    · have e : memCode zs r = 3 := by simp [memCode, orC, hc, roleCode, hr]
      exact ⟨3, 0, fun e => absurd e (by decide), fun g w h => specMembersOf_role _ _ _ _ _ _ hn (RulesIn.of hz h) hc hr, fun g w h => implMembersOf_bad _ _ _ _ _ _ _ hn (Nat.le_refl _) hm (RulesIn.of hz h) e (by decide)⟩
    · obtain ⟨gs, hg⟩ := all_some zs hc
      exact ⟨0, ofG gs r, fun _ => ofG_set hg.sg r, fun g w h => specMembersOf_ok _ _ _ _ _ _ _ (RulesIn.of hz h) hc hr hg, fun g w h => implMembersOf_ok _ _ _ _ _ _ _ (Nat.le_refl _) hm (RulesIn.of hz h) hc hr hg⟩
  · have e : memCode zs r = polCode zs := by simp [memCode, orC, hc]
    exact ⟨polCode zs, 0, fun e => absurd e hc, fun g w h => specMembersOf_pol _ _ _ _ _ _ _ hn (RulesIn.of hz h) rfl hc, fun g w h => implMembersOf_bad _ _ _ _ _ _ _ hn (Nat.le_refl _) hm (RulesIn.of hz h) e hc⟩

end Go.Proofs.YtpeddanicenohaaGreat

namespace Go.Proofs.YtpeddanicenohaaGreat
open Go.RowKit
set_option linter.unusedVariables false

/-- What laws.toInt64S needs of the slice that it copies. -/
def RowIn (w : World) (a : Option Addr) (len : Nat) (zs : List Int) : Prop :=
  len ≤ zs.length ∧ ∀ k, k < len → ∃ b off, a = some ⟨b, off, none⟩ ∧ w.cell? ⟨b, off + k, none⟩ = some (.int .i64 (zs[k]?.getD 0))

theorem made_len (n : Nat) : ((madeCells (Value.int .i64 0).cells (n * 1)).toList).length = n := by simp [madeCells, Value.cells]

theorem rows_done {n : Nat} {ys : List Value} {zs : List Int} (hz : n ≤ zs.length) (hl : ys.length = n) (h : ∀ j, j < n → ys[j]? = some (.int .i64 (zs[j]?.getD 0))) : ys = (zs.take n).map (Value.int .i64) := by
  apply List.ext_getElem?
  intro i
  by_cases hi : i < n
  · rw [h i hi]; simp [hi, List.getElem?_eq_getElem (show i < zs.length by omega)]
  · rw [List.getElem?_eq_none (by omega), List.getElem?_eq_none (by simp; omega)]

theorem RowIn.below {w w' : World} {a : Option Addr} {len : Nat} {zs : List Int} (h : RowIn w a len zs) (hb : Below w.heap.size w w') : RowIn w' a len zs := by
  refine ⟨h.1, fun k hk => ?_⟩
  obtain ⟨b, off, e, hc⟩ := h.2 k hk
  exact ⟨b, off, e, (hb.cell (p := ⟨b, off + k, none⟩) (World.block_lt_of_cell? w ⟨b, off + k, none⟩ hc)).trans hc⟩

theorem owned_cells {w : World} {base g len cap : Nat} {zs : List Int} (h : w.ownsRow base 2 1 (.slice (some ⟨g, 0, none⟩) len cap) len ((zs.take len).map (Value.int .i64))) (hz : len ≤ zs.length) :
    ∀ k, k < len → w.cell? ⟨g, k, none⟩ = some (.int .i64 (zs[k]?.getD 0)) := by
  intro k hk
  rw [h.cellAt k (by omega)]
  simp [hk, List.getElem?_eq_getElem (show k < zs.length by omega)]

theorem owned_lt {w : World} {base g len cap : Nat} {xs : List Value} (h : w.ownsRow base 2 1 (.slice (some ⟨g, 0, none⟩) len cap) len xs) : g < w.heap.size := (h.lt g rfl).2

end Go.Proofs.YtpeddanicenohaaGreat

namespace Go.Proofs.YtpeddanicenohaaGreat
open Go.RowKit
set_option linter.unusedVariables false

theorem ones_eq : ∀ n : Fin 256, Lib.onesCount n.val = (listTo (n.val : Int) 8).length := by decide +kernel

end Go.Proofs.YtpeddanicenohaaGreat
