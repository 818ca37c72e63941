/-
  CONTRACTS: spec.ProofOf.
  Conditions: each contract bears its own.
  CONTRACTS: impl.proofOf, out of what maps.Equal answers.
  Conditions: each contract bears its own.
  CONTRACT: maps.Equal over two maps of grants.
  Conditions: each contract bears its own.
-/
import Derived.Test.YtocdclgolhhckaaPk22
import Derived.Test.YtocdclgolhhckaaPk18
import Derived.Test.YtocdclgolhhckaaPk19
import Derived.Test.YtocdclgolhhckaaPk07
import Derived.Test.YtocdclgolhhckaaPk15
import Derived.Lib.SlMapEqual
import Derived.WalkKit
import Derived.Maps.RangeWalk
import Derived.Laws.IdiomRangeMap
namespace Go.Proofs.Ytocdclgolhhckaa
open Go.RowKit
set_option linter.unusedVariables false
set_option linter.unusedSimpArgs false

theorem hitAt_neg (f : RoI → Int) (r : RoI) (p : Int) : ∀ (zs : List RuleI) (i : Int), 0 ≤ i → (hitAt f r p zs i < 0 ↔ noneHit zs f r p)
  | [], i, _ => by
    constructor
    · intro _ z h; simp at h
    · intro _; show (-1 : Int) < 0; decide
  | z :: zs, i, h => by
    have ih := hitAt_neg f r p zs (i + 1) (by omega)
    show (if hitB f r p z = true then i else hitAt f r p zs (i + 1)) < 0 ↔ _
    cases e : hitB f r p z
    · rw [if_neg (by simp), ih]
      constructor
      · intro q y hy
        rcases List.mem_cons.1 hy with rfl | hy
        · exact e
        · exact q y hy
      · intro q y hy
        exact q y (by simp [hy])
    · rw [if_pos rfl]
      constructor
      · intro q; omega
      · intro q; have := q z (by simp); rw [e] at this; cases this

theorem it_const {zs : List RuleI} {M : Nat} (h : stepG zs (itG zs M) = itG zs M) : ∀ j, itG zs (M + j) = itG zs M
  | 0 => rfl
  | j + 1 => by
    show stepG zs (itG zs (M + j)) = _
    rw [it_const h j, h]

/-- The first step at which a grant follows, and it is among few. -/
theorem first_few {zs : List RuleI} (hz : ∀ z ∈ zs, okR z) {r : RoI} {p : Int} (h : Has zs r p) : ∃ n, n ≤ 10200 ∧ ¬ noneHit zs (ofG (itG zs n)) r p ∧ ∀ k, k < n → noneHit zs (ofG (itG zs k)) r p := by
  obtain ⟨n, h1, h2⟩ := first_of hz h
  refine ⟨n, ?_, h1, h2⟩
  obtain ⟨M, hM, hs⟩ := it_ends hz
  by_cases q : n ≤ M
  · omega
  · have e : itG zs n = itG zs M := by
      have := it_const hs (n - M)
      rwa [show M + (n - M) = n by omega] at this
    rw [e] at h1
    exact absurd (h2 M (by omega)) h1

def GivesP (f : Nat) (a : Option Addr) (n cap : Nat) (r : RoI) (p : Int) (c : Int) (ls : List Int) (w : World) : Prop := Calls Try.prog f #[.slice a n cap, .agg #[.int .i64 r.1, .int .i64 r.2], .int .i64 p] w fun e w' => ∃ (a' : Option Addr) (cap' : Nat), e = .returned (.agg #[.int .i64 c, .slice a' ls.length cap']) ∧ w'.ownsRow w.heap.size 2 1 (.slice a' ls.length cap') ls.length (ls.map (Value.int .i64)) ∧ Below w.heap.size w w'

set_option maxRecDepth 100000 in
set_option maxHeartbeats 2000000 in
theorem specProof_bad (a : Option Addr) (n cap : Nat) (r : RoI) (p c v d : Int) (w : World) (hd : (c ≠ 0 ∧ d = c) ∨ (c = 0 ∧ prinB p = false ∧ d = 3) ∨ (c = 0 ∧ prinB p = true ∧ setB v ∧ hasI v p = false ∧ d = 4))
    (H : Hid (∀ w', Below w.heap.size w w' → GivesI 13 a n cap r c v w')) : GivesP 33 a n cap r p d [] w := by
  obtain ⟨W, hW⟩ : ∃ W, W = (w.alloc (.cells #[.int .i64 r.1, .int .i64 r.2] 31)).alloc (.cells #[.int .i64 0, .slice none 0 0] 55) := ⟨_, rfl⟩
  have hs : W.heap.size = w.heap.size + 2 := by rw [hW]; simp
  have B0 : Below w.heap.size w W := by rw [hW]; exact ((Below.refl _ _).alloc (Nat.le_refl _) _).alloc (by simp) _
  have r0 : W.cell? ⟨w.heap.size, 0, none⟩ = some (.int .i64 r.1) := by rw [hW]; simp
  have r1 : W.cell? ⟨w.heap.size, 1, none⟩ = some (.int .i64 r.2) := by rw [hW]; simp
  have c0 : W.cell? ⟨w.heap.size + 1, 0, none⟩ = some (.int .i64 0) := by rw [hW]; simp
  have c1 : W.cell? ⟨w.heap.size + 1, 1, none⟩ = some (.slice none 0 0) := by rw [hW]; simp
  have f0 : ∀ j, W.frozen? ⟨w.heap.size + 1, j, none⟩ = false := fun j => by rw [hW]; simp [go_sem]
  have HB0 : Hid (Below w.heap.size w W) := B0
  have hlw : w.heap.size + 1 < W.heap.size := by omega
  rcases hd with ⟨h0, rfl⟩ | ⟨rfl, hp, rfl⟩ | ⟨rfl, hp, hv, hh, rfl⟩
  · have hcn : (d != 0) = true := by simpa using h0
    unfold GivesP
    go_enter Try.func33, Try.ntmps33
    go_wp2_with fail
    rw [← hW]
    clear hW hs
    refine (H.out _ HB0.out).mono ?_
    rintro e w1 ⟨rfl, hb1⟩
    have d0 := (hb1.cell (p := ⟨w.heap.size + 1, 0, none⟩) hlw).trans c0
    have d1 := (hb1.cell (p := ⟨w.heap.size + 1, 1, none⟩) hlw).trans c1
    have g0 := (hb1.frozen (p := ⟨w.heap.size + 1, 0, none⟩) hlw).trans (f0 0)
    have g1 := (hb1.frozen (p := ⟨w.heap.size + 1, 1, none⟩) hlw).trans (f0 1)
    have hw : w.heap.size + 1 < w1.heap.size := Nat.lt_of_lt_of_le hlw hb1.size
    have hBx : Below w.heap.size w w1 := HB0.out.trans (hb1.mono HB0.out.size)
    go_wp2
    refine bodyPost_ret (v := .agg #[.int .i64 d, .slice none 0 0]) (by simp [results, Try.results33, go_sem, d0, d1, hw]) rfl ⟨none, 0, rfl, World.ownsRow_nil _ _ _ _, ?_⟩
    refine Below.alloc (Below.setCell (Below.setCell hBx ?_ _) ?_ _) ?_ _
    · show w.heap.size ≤ w.heap.size + 1; omega
    · show w.heap.size ≤ w.heap.size + 1; omega
    · simp only [World.size_setCell]; exact hBx.size
  · unfold GivesP
    go_enter Try.func33, Try.ntmps33
    go_wp2_with fail
    rw [← hW]
    clear hW hs
    refine (H.out _ HB0.out).mono ?_
    rintro e w1 ⟨rfl, hb1⟩
    have d0 := (hb1.cell (p := ⟨w.heap.size + 1, 0, none⟩) hlw).trans c0
    have d1 := (hb1.cell (p := ⟨w.heap.size + 1, 1, none⟩) hlw).trans c1
    have g0 := (hb1.frozen (p := ⟨w.heap.size + 1, 0, none⟩) hlw).trans (f0 0)
    have g1 := (hb1.frozen (p := ⟨w.heap.size + 1, 1, none⟩) hlw).trans (f0 1)
    have hw : w.heap.size + 1 < w1.heap.size := Nat.lt_of_lt_of_le hlw hb1.size
    have hBx : Below w.heap.size w w1 := HB0.out.trans (hb1.mono HB0.out.size)
    go_wp2_with (first | (go_at_call 74; refine (l1Principal_c p _).mono ?_; rintro e w' ⟨rfl, rfl⟩; rw [hp]) | fail)
    refine bodyPost_ret (v := .agg #[.int .i64 3, .slice none 0 0]) (by simp [results, Try.results33, go_sem, d0, d1, hw]) rfl ⟨none, 0, rfl, World.ownsRow_nil _ _ _ _, ?_⟩
    refine Below.alloc (Below.setCell (Below.setCell hBx ?_ _) ?_ _) ?_ _
    · show w.heap.size ≤ w.heap.size + 1; omega
    · show w.heap.size ≤ w.heap.size + 1; omega
    · simp only [World.size_setCell]; exact hBx.size
  · have hp' : 1 ≤ p ∧ p ≤ 8 := by simpa [prinB] using hp
    unfold GivesP
    go_enter Try.func33, Try.ntmps33
    go_wp2_with fail
    rw [← hW]
    clear hW hs
    refine (H.out _ HB0.out).mono ?_
    rintro e w1 ⟨rfl, hb1⟩
    have d0 := (hb1.cell (p := ⟨w.heap.size + 1, 0, none⟩) hlw).trans c0
    have d1 := (hb1.cell (p := ⟨w.heap.size + 1, 1, none⟩) hlw).trans c1
    have g0 := (hb1.frozen (p := ⟨w.heap.size + 1, 0, none⟩) hlw).trans (f0 0)
    have g1 := (hb1.frozen (p := ⟨w.heap.size + 1, 1, none⟩) hlw).trans (f0 1)
    have hw : w.heap.size + 1 < w1.heap.size := Nat.lt_of_lt_of_le hlw hb1.size
    have hBx : Below w.heap.size w w1 := HB0.out.trans (hb1.mono HB0.out.size)
    go_wp2_with (first | (go_at_call 74; refine (l1Principal_c p _).mono ?_; rintro e w' ⟨rfl, rfl⟩; rw [hp]) | (go_at_call 75; refine (l1Has_c v p hv.1 hv.2 hp'.1 hp'.2 _).mono ?_; rintro e w' ⟨rfl, rfl⟩; rw [hh]) | fail)
    refine bodyPost_ret (v := .agg #[.int .i64 4, .slice none 0 0]) (by simp [results, Try.results33, go_sem, d0, d1, hw]) rfl ⟨none, 0, rfl, World.ownsRow_nil _ _ _ _, ?_⟩
    refine Below.alloc (Below.setCell (Below.setCell hBx ?_ _) ?_ _) ?_ _
    · show w.heap.size ≤ w.heap.size + 1; omega
    · show w.heap.size ≤ w.heap.size + 1; omega
    · simp only [World.size_setCell]; exact hBx.size

end Go.Proofs.Ytocdclgolhhckaa

namespace Go.Proofs.Ytocdclgolhhckaa
open Go.RowKit
set_option linter.unusedVariables false
set_option linter.unusedSimpArgs false
attribute [local go_sem ↓] ro_eql

/-- maps.Equal over two maps by roles. -/
def EqMaps : Prop := ∀ (b1 b2 : Nat) (f1 f2 : RoI → Int) (w : World), GM w b1 f1 → GM w b2 f2 → ∀ t : Bool, (t = true ↔ f1 = f2) → Calls Try.prog 112 #[.map (some b1), .map (some b2)] w fun e w' => e = .returned (.bool t) ∧ Below w.heap.size w w'

theorem hit_here {zs : List RuleI} {f : RoI → Int} {r : RoI} {p : Int} : ∀ (k : Nat) (z : RuleI), zs[k]? = some z → (∀ j y, j < k → zs[j]? = some y → hitB f r p y = false) → hitB f r p z = true → ∀ i : Int, hitAt f r p zs i = i + k := by
  induction zs with
  | nil => intro k z h; simp at h
  | cons y ys ih =>
    intro k z h hb ht i
    show (if hitB f r p y = true then i else hitAt f r p ys (i + 1)) = _
    cases k with
    | zero =>
      simp at h
      subst h
      rw [if_pos ht]; simp
    | succ k =>
      rw [if_neg (by rw [hb 0 y (by omega) (by simp)]; simp), ih k z (by simpa using h) (fun j x hj hx => hb (j + 1) x (by omega) (by simpa using hx)) ht]
      simp; omega

theorem none_all {zs : List RuleI} {f : RoI → Int} {r : RoI} {p : Int} {n : Nat} (hn : zs.length = n) (h : ∀ j y, j < n → zs[j]? = some y → hitB f r p y = false) : noneHit zs f r p := by
  intro z hz
  obtain ⟨j, hj⟩ := List.mem_iff_getElem?.1 hz
  have : j < n := by
    by_cases q : j < zs.length
    · omega
    · rw [List.getElem?_eq_none (by omega)] at hj; cases hj
  exact h j z this hj

set_option maxRecDepth 100000 in
set_option maxHeartbeats 4000000 in
theorem proofOf_c (HQ : Hid EqMaps) (a : Option Addr) (n cap : Nat) (zs : List RuleI) (r : RoI) (p d : Int) (ls : List Int) (w : World) (h : RulesIn w a n zs) (hn : n ≤ 16) (hz : ∀ z ∈ zs, ruleCode z = 0) (hp0 : 1 ≤ p) (hp1 : p ≤ 8)
    (HA : Hid (∀ k : Nat, (∀ j, j < k → noneHit zs (ofG (itG zs j)) r p) → (∀ x : Int, ¬ noneHit zs (ofG (itG zs k)) r p → hitAt (ofG (itG zs k)) r p zs 0 = x → d = 0 ∧ ls = [(k : Int) + 1, x]) ∧ (noneHit zs (ofG (itG zs k)) r p → stepG zs (itG zs k) = itG zs k → d = 4 ∧ ls = []))) :
    Calls Try.prog 78 #[.slice a n cap, .agg #[.int .i64 r.1, .int .i64 r.2], .int .u8 (bitI p)] w fun e w' => ∃ (a' : Option Addr) (cap' : Nat), e = .returned (.agg #[.int .i64 d, .slice a' ls.length cap']) ∧ w'.ownsRow w.heap.size 2 1 (.slice a' ls.length cap') ls.length (ls.map (Value.int .i64)) ∧ Below w.heap.size w w' := by
  obtain ⟨W, hW⟩ : ∃ W, W = ((w.alloc (.cells #[.int .i64 r.1, .int .i64 r.2] 31)).alloc (.cells #[.int .i64 0, .slice none 0 0] 55)).alloc (.map #[] 0) := ⟨_, rfl⟩
  have hs : W.heap.size = w.heap.size + 3 := by rw [hW]; simp
  have B0 : Below w.heap.size w W := by rw [hW]; exact (((Below.refl _ _).alloc (Nat.le_refl _) _).alloc (by simp) _).alloc (by simp; omega) _
  have hG0 : GM W (w.heap.size + 2) zeroF := by
    have := gm_made ((w.alloc (.cells #[.int .i64 r.1, .int .i64 r.2] 31)).alloc (.cells #[.int .i64 0, .slice none 0 0] 55))
    simp only [World.size_alloc] at this
    rw [hW]
    exact this
  have hmk : (Instr.makeMap 88 none).run Try.prog ((w.alloc (.cells #[.int .i64 r.1, .int .i64 r.2] 31)).alloc (.cells #[.int .i64 0, .slice none 0 0] 55)) = .ok (.map (some (w.heap.size + 2))) W := by
    rw [hW]
    have := run_makeMap (P := Try.prog) 88 ((w.alloc (.cells #[.int .i64 r.1, .int .i64 r.2] 31)).alloc (.cells #[.int .i64 0, .slice none 0 0] 55))
    simp only [World.size_alloc] at this
    exact this
  have hBm : Below ((w.alloc (.cells #[.int .i64 r.1, .int .i64 r.2] 31)).alloc (.cells #[.int .i64 0, .slice none 0 0] 55)).heap.size ((w.alloc (.cells #[.int .i64 r.1, .int .i64 r.2] 31)).alloc (.cells #[.int .i64 0, .slice none 0 0] 55)) W := by rw [hW]; exact (Below.refl _ _).alloc (Nat.le_refl _) _
  have r0 : W.cell? ⟨w.heap.size, 0, none⟩ = some (.int .i64 r.1) := (hBm.cell (p := ⟨w.heap.size, 0, none⟩) (by simp; omega)).trans (by simp)
  have r1 : W.cell? ⟨w.heap.size, 1, none⟩ = some (.int .i64 r.2) := (hBm.cell (p := ⟨w.heap.size, 1, none⟩) (by simp; omega)).trans (by simp)
  have c0 : W.cell? ⟨w.heap.size + 1, 0, none⟩ = some (.int .i64 0) := (hBm.cell (p := ⟨w.heap.size + 1, 0, none⟩) (by simp)).trans (by simp)
  have c1 : W.cell? ⟨w.heap.size + 1, 1, none⟩ = some (.slice none 0 0) := (hBm.cell (p := ⟨w.heap.size + 1, 1, none⟩) (by simp)).trans (by simp)
  have f0 : ∀ j, W.frozen? ⟨w.heap.size + 1, j, none⟩ = false := fun j => (hBm.frozen (p := ⟨w.heap.size + 1, j, none⟩) (by simp)).trans (by simp [go_sem])
  clear hBm
  have hlw : w.heap.size + 1 < W.heap.size := by omega
  have hlw0 : w.heap.size < W.heap.size := by omega
  have HB0 : Hid (Below w.heap.size w W) := B0
  have HR : Hid (RulesIn W a n zs) := h.below B0
  have HN : Hid (zs.length = n) := h.1
  have HZ : Hid (∀ z ∈ zs, ruleCode z = 0) := hz
  have HK : Hid (∀ z ∈ zs, okR z) := fun z q => (okR_of (hz z q)).1
  have HG0 : Hid (GM W (w.heap.size + 2) zeroF) := hG0
  have hn' : (n : Int) ≤ 16 := by omega
  clear h hz hG0
  go_enter Try.func78, Try.ntmps78
  go_wp2
  rw [← hW]
  clear hW hmk hs
  go_loopw [7, 8] (fun mp s wr => ∃ k b : Nat, mp = .map (some b) ∧ s = .int .i64 ((k : Int) + 1) ∧ GM wr b (ofG (itG zs k)) ∧ (∀ j, j < k → noneHit zs (ofG (itG zs j)) r p) ∧ (∀ j, j < k → stepG zs (itG zs j) ≠ itG zs j) ∧ Below W.heap.size W wr) (fun _ s _ => 10202 - (intOf s).toNat)
  case atStart => exact ⟨0, w.heap.size + 2, rfl, rfl, HG0.out, fun j hj => by omega, fun j hj => by omega, Below.refl _ _⟩
  case round =>
    obtain ⟨k, b, rfl, rfl, hG, hno, hst, hnx⟩ := hrel
    have hkb : k ≤ 10200 := it_bd HK.out hst
    have hkb' : (k : Int) ≤ 10200 := by omega
    have HG : Hid (GM wr b (ofG (itG zs k))) := hG
    have HNo : Hid (∀ j, j < k → noneHit zs (ofG (itG zs j)) r p) := hno
    have HSt : Hid (∀ j, j < k → stepG zs (itG zs j) ≠ itG zs j) := hst
    clear hG hno hst
    obtain ⟨V, rfl⟩ : ∃ V, V = wr := ⟨_, rfl⟩
    go_wp2
    go_loopw [17] (fun i wi => ∃ j : Nat, j ≤ n ∧ i = .int .i64 (j : Int) ∧ (∀ j' y, j' < j → zs[j']? = some y → hitB (ofG (itG zs k)) r p y = false) ∧ Below V.heap.size V wi) (fun i _ => n - (intOf i).toNat)
    case atStart => exact ⟨0, Nat.zero_le _, rfl, fun j' y hj => by omega, Below.refl _ _⟩
    case round =>
      obtain ⟨j, hj, rfl, hbef, hni⟩ := hrel
      have HBf : Hid (∀ j' y, j' < j → zs[j']? = some y → hitB (ofG (itG zs k)) r p y = false) := hbef
      have hWi : Below W.heap.size W wr := hnx.trans (hni.mono hnx.size)
      clear hbef
      by_cases hlt : j < n
      · obtain ⟨g, off, z, e, hzk, hra⟩ := (HR.out.below hWi).at hlt
        subst e
        have hzc : ruleCode z = 0 := HZ.out z (List.mem_of_getElem? hzk)
        have hby : setB (byF (ofG (itG zs k)) z) := byF_set (ofG_set (sg_it HK.out k)) (HK.out z (List.mem_of_getElem? hzk))
        have HT : Hid (∀ X : World, Below wr.heap.size wr X → Calls Try.prog 101 #[.map (some b), .agg #[.int .i64 z.k, .int .i64 z.ho, .int .i64 z.hn, .int .i64 z.w, .int .i64 z.oo, .int .i64 z.on, .int .i64 z.to, .int .i64 z.tn]] X fun e w' => e = .returned (.int .u8 (byF (ofG (itG zs k)) z)) ∧ Below X.heap.size X w') := fun X hX => told_c b _ z X ((HG.out.below HG.out.lt hni).below (by have := HG.out.lt; have := hni.size; omega) hX) hzc
        have HH := hitB_eq (ofG (itG zs k)) r p z
        have e2 : (bits .and .u8 (byF (ofG (itG zs k)) z) (bitI p) != 0) = hasI (byF (ofG (itG zs k)) z) p := and_u8 _ p hby.1 hby.2 hp0 hp1
        generalize byF (ofG (itG zs k)) z = bz at HT HH e2
        have HZk : Hid (zs[j]? = some z) := hzk
        have HNX : Hid (hitB (ofG (itG zs k)) r p z = false → ∀ j' y, j' < j + 1 → zs[j']? = some y → hitB (ofG (itG zs k)) r p y = false) := fun q j' y hj' hy => by
          by_cases ej : j' = j
          · subst ej; rw [HZk.out] at hy; cases hy; exact q
          · exact HBf.out j' y (by omega) hy
        obtain ⟨h0, h1, h2, h3, h4, h5, h6, h7⟩ := hra
        have hlt' : (j : Int) < (n : Int) := by omega
        have heq : ∀ w, (binOp .eql 31 (.agg #[.int .i64 z.ho, .int .i64 z.hn]) (.agg #[.int .i64 r.1, .int .i64 r.2])).run Try.prog w = .ok (.bool (eqRo (z.ho, z.hn) r)) w := fun w => ro_eql (z.ho, z.hn) r w
        have hA : Below wr.heap.size wr (wr.alloc (.cells #[.int .i64 z.k, .int .i64 z.ho, .int .i64 z.hn, .int .i64 z.w, .int .i64 z.oo, .int .i64 z.on, .int .i64 z.to, .int .i64 z.tn] 80)) := (Below.refl _ _).alloc (Nat.le_refl _) _
        have q0 := (hWi.cell (p := ⟨w.heap.size, 0, none⟩) hlw0).trans r0
        have q1 := (hWi.cell (p := ⟨w.heap.size, 1, none⟩) hlw0).trans r1
        have hlz : w.heap.size < wr.heap.size := Nat.lt_of_lt_of_le hlw0 hWi.size
        have hVs := hni.size
        clear hzk hzc hby
        cases he : eqRo (z.ho, z.hn) r
        · rw [he] at heq
          have HN1 := HNX.out (by rw [HH, he]; rfl)
          have HN2 : Hid _ := HN1
          clear HN1 HH e2
          go_wp2_with fail
          exact ⟨⟨j + 1, by omega, by go_num, HN2.out, hni.trans (hA.mono hVs)⟩, by simp [intOf]; omega⟩
        · rw [he] at heq
          obtain ⟨t, ht⟩ : ∃ t, hasI bz p = t := ⟨_, rfl⟩
          rw [ht] at e2
          rw [he, ht, Bool.true_and] at HH
          clear ht
          cases t
          · have HN2 : Hid _ := HNX.out HH
            clear HH
            go_wp2_with (first | (go_at_call 101; refine (HT.out _ hA).mono ?_; rintro e w3 ⟨rfl, hb3⟩) | fail)
            exact ⟨⟨j + 1, by omega, by go_num, HN2.out, (hni.trans (hA.mono hVs)).trans (hb3.mono (by simp; omega))⟩, by simp [intOf]; omega⟩
          · have HD : Hid (d = 0 ∧ ls = [(k : Int) + 1, (j : Int)]) := by
              refine (HA.out k HNo.out).1 (j : Int) (fun q => ?_) ?_
              · have := q z (List.mem_of_getElem? HZk.out); rw [HH] at this; cases this
              · have := hit_here j z HZk.out HBf.out HH 0
                rw [this]; simp
            clear HH
            go_upto_region 8 with (first | (go_at_call 101; refine (HT.out _ hA).mono ?_; rintro e w3 ⟨rfl, hb3⟩) | fail)
            have hAW := hWi.trans (hA.mono hWi.size)
            have hb4 : Below W.heap.size W w3 := hAW.trans (hb3.mono hAW.size)
            have d0 := (hb4.cell (p := ⟨w.heap.size + 1, 0, none⟩) hlw).trans c0
            have d1 := (hb4.cell (p := ⟨w.heap.size + 1, 1, none⟩) hlw).trans c1
            have g0 := (hb4.frozen (p := ⟨w.heap.size + 1, 0, none⟩) hlw).trans (f0 0)
            have g1 := (hb4.frozen (p := ⟨w.heap.size + 1, 1, none⟩) hlw).trans (f0 1)
            have hw : w.heap.size + 1 < w3.heap.size := Nat.lt_of_lt_of_le hlw hb4.size
            have hBx : Below w.heap.size w w3 := HB0.out.trans (hb4.mono HB0.out.size)
            clear hb3 hAW hA h0 h1 h2 h3 h4 h5 h6 h7 heq e2 q0 q1
            go_wp2
            refine bodyPost_ret (v := .agg #[.int .i64 0, .slice (some ⟨w3.heap.size, 0, none⟩) 2 2]) (by simp [results, Try.results78, go_sem, d0, d1, hw]) rfl ⟨some ⟨w3.heap.size, 0, none⟩, 2, by rw [HD.out.1, HD.out.2]; rfl, ?_, ?_⟩
            · have h0 := World.ownsRow_lit (base := w.heap.size) (e := 2) (size := 1) ((w3.setCell ⟨w.heap.size + 1, 0, none⟩ (.int .i64 0)).setCell ⟨w.heap.size + 1, 1, none⟩ (.slice (some ⟨w3.heap.size, 0, none⟩) 2 2)) #[.int .i64 ((k : Int) + 1), .int .i64 (j : Int)] 2 (by simp only [World.size_setCell]; omega) (by unfold maxLen; omega) rfl
              simp only [World.size_setCell] at h0
              rw [HD.out.2]
              exact h0
            · refine Below.alloc (Below.setCell (Below.setCell hBx ?_ _) ?_ _) ?_ _
              · show w.heap.size ≤ w.heap.size + 1; omega
              · show w.heap.size ≤ w.heap.size + 1; omega
              · simp only [World.size_setCell]; exact hBx.size
      · have hjn : j = n := by omega
        subst hjn
        have HNone : Hid (noneHit zs (ofG (itG zs k)) r p) := none_all HN.out HBf.out
        have hGi : GM wr b (ofG (itG zs k)) := HG.out.below HG.out.lt hni
        have HGi : Hid (GM wr b (ofG (itG zs k))) := hGi
        have hbl := hGi.lt
        have HRi : Hid (RulesIn wr a j zs) := HR.out.below hWi
        clear hGi
        go_wp2_with fail
        refine (step_c b _ a j cap zs _ HGi.out HRi.out (by omega) HZ.out).mono ?_
        rintro e w2 ⟨b2, rfl, hG2, hb2g, hb2⟩
        have HE : Hid (stepF zs (ofG (itG zs k)) = ofG (itG zs (k + 1))) := (ofG_step HK.out (sg_it HK.out k)).symm
        have HG2 : Hid (GM w2 b2 (ofG (itG zs (k + 1)))) := by rw [← HE.out]; exact hG2
        have HGo : Hid (GM w2 b (ofG (itG zs k))) := HGi.out.below hbl hb2
        have hW2 : Below W.heap.size W w2 := hWi.trans (hb2.mono hWi.size)
        clear hG2
        go_wp2_with fail
        by_cases hfix : stepG zs (itG zs k) = itG zs k
        · have HD : Hid (d = 4 ∧ ls = []) := (HA.out k HNo.out).2 HNone.out hfix
          refine (HQ.out b2 b _ _ _ HG2.out HGo.out true ⟨fun _ => by show ofG (stepG zs (itG zs k)) = _; rw [hfix], fun _ => rfl⟩).mono ?_
          rintro e w3 ⟨rfl, hb3⟩
          have hb4 : Below W.heap.size W w3 := hW2.trans (hb3.mono hW2.size)
          have d0 := (hb4.cell (p := ⟨w.heap.size + 1, 0, none⟩) hlw).trans c0
          have d1 := (hb4.cell (p := ⟨w.heap.size + 1, 1, none⟩) hlw).trans c1
          have g0 := (hb4.frozen (p := ⟨w.heap.size + 1, 0, none⟩) hlw).trans (f0 0)
          have g1 := (hb4.frozen (p := ⟨w.heap.size + 1, 1, none⟩) hlw).trans (f0 1)
          have hw : w.heap.size + 1 < w3.heap.size := Nat.lt_of_lt_of_le hlw hb4.size
          have hBx : Below w.heap.size w w3 := HB0.out.trans (hb4.mono HB0.out.size)
          clear hb3 hfix
          go_wp2
          refine bodyPost_ret (v := .agg #[.int .i64 4, .slice none 0 0]) (by simp [results, Try.results78, go_sem, d0, d1, hw]) rfl ⟨none, 0, by rw [HD.out.1, HD.out.2]; rfl, by rw [HD.out.2]; exact World.ownsRow_nil _ _ _ _, ?_⟩
          refine Below.setCell (Below.setCell hBx ?_ _) ?_ _
          · show w.heap.size ≤ w.heap.size + 1; omega
          · show w.heap.size ≤ w.heap.size + 1; omega
        · refine (HQ.out b2 b _ _ _ HG2.out HGo.out false ⟨fun q => absurd q (by decide), fun q => absurd (sg_ext (sg_step HK.out (sg_it HK.out k)) (sg_it HK.out k) (fun r => congrFun q r)) hfix⟩).mono ?_
          rintro e w3 ⟨rfl, hb3⟩
          have HFx : Hid (stepG zs (itG zs k) ≠ itG zs k) := hfix
          have HG3 : Hid (GM w3 b2 (ofG (itG zs (k + 1)))) := HG2.out.below HG2.out.lt hb3
          have hb4 : Below W.heap.size W w3 := hW2.trans (hb3.mono hW2.size)
          have hk2 : k + 1 ≤ 10200 := it_bd HK.out (fun i hi => by
            by_cases ei : i = k
            · subst ei; exact hfix
            · exact HSt.out i (by omega))
          clear hb3 hfix
          go_wp2
          refine ⟨⟨k + 1, b2, rfl, by go_num, HG3.out, fun i hi => ?_, fun i hi => ?_, hb4⟩, by simp [intOf]; omega⟩
          · by_cases ei : i = k
            · subst ei; exact HNone.out
            · exact HNo.out i (by omega)
          · by_cases ei : i = k
            · subst ei; exact HFx.out
            · exact HSt.out i (by omega)

end Go.Proofs.Ytocdclgolhhckaa

namespace Go.Proofs.Ytocdclgolhhckaa
open Go.RowKit Go.Maps
set_option linter.unusedVariables false
set_option linter.unusedSimpArgs false

/-- The entries of a map of grants: one for each role that somebody has. -/
theorem own_es {w : World} {b n : Nat} {D : DataW Unit} {f : RoI → Int} (hf : FN f) (ho : w.ownsMap Try.prog 31 elU b n D) (hv : View D f) : ∃ es : List (Lit × DataW Unit), D = .map es ∧ es.Pairwise (fun p q => p.1 ≠ q.1) ∧ (∀ p ∈ es, WideAt.IsKeyLit p.1) ∧ (∀ p ∈ es, ∃ r, f r ≠ 0 ∧ p = (keyL r, .lit (.int .u8 (f r)))) ∧ (∀ r, f r ≠ 0 → (keyL r, (.lit (.int .u8 (f r)) : DataW Unit)) ∈ es) := by
  obtain ⟨es', hD', hne, hks⟩ := ho.entries mp_keyed
  obtain ⟨es, clock, hb, F, hs, hD⟩ := ho
  have hkeys : ∀ p ∈ es', ∃ r, roW r ∧ p.1 = keyL r := by
    intro p hp
    have hp' : p ∈ es.toList.map (WideElems.rg Try.prog 31 elU) := by
      rw [hD] at hD'
      have := (DataW.map.inj hD').symm
      rw [this] at hp
      exact mem_sorted.1 hp
    obtain ⟨v, hvv⟩ := fit_keys F p hp'
    obtain ⟨r, hr, _, e⟩ := key_inv hvv
    exact ⟨r, hr, e⟩
  clear hb F hs hD
  have hval : ∀ p ∈ es', ∀ r, roW r → p.1 = keyL r → p.2 = .lit (.int .u8 (f r)) := by
    intro p hp r hr e
    have h1 := WideAt.atKey_mem (.lit (.int .u8 0)) (hks p hp) hne (show (p.1, p.2) ∈ es' from hp)
    have h2 := hv.at' r hr
    rw [hD', ← e] at h2
    rw [← h1]
    exact h2
  refine ⟨es', hD', hne, hks, fun p hp => ?_, fun r hr => ?_⟩
  · obtain ⟨r, hr, e⟩ := hkeys p hp
    refine ⟨r, ?_, Prod.ext e (hval p hp r hr e)⟩
    have h1 := hv.has r hr
    rw [hD', has_eq] at h1
    have : (es'.any fun p => p.1.sameKey (keyL r)) = true := List.any_eq_true.2 ⟨p, hp, by rw [e]; exact WideAt.sameKey_self (keyL_key r)⟩
    rw [this] at h1
    exact of_decide_eq_true h1.symm
  · have hw := roW_of (hf.ro r hr)
    have h1 := hv.has r hw
    rw [hD', has_eq, show decide (f r ≠ 0) = true from decide_eq_true hr] at h1
    obtain ⟨p, hp, hsk⟩ := List.any_eq_true.1 h1
    have e : p.1 = keyL r := WideAt.sameKey_eq hsk
    have := hval p hp r hw e
    rw [← e, ← this]
    exact hp

def eqd8 : DataW Unit → DataW Unit → Bool
  | .lit (.int .u8 a), .lit (.int .u8 b) => decide (a = b)
  | _, _ => false

theorem equal_iff {w w' : World} {b1 b2 n1 n2 : Nat} {D1 D2 : DataW Unit} {f1 f2 : RoI → Int} (hf1 : FN f1) (hf2 : FN f2) (h1 : w.ownsMap Try.prog 31 elU b1 n1 D1) (h2 : w'.ownsMap Try.prog 31 elU b2 n2 D2) (hv1 : View D1 f1) (hv2 : View D2 f2) : Lib.equalFuncD eqd8 D1 D2 = true ↔ f1 = f2 := by
  obtain ⟨es1, rfl, hap1, hk1, hm1, hc1⟩ := own_es hf1 h1 hv1
  obtain ⟨es2, rfl, hap2, hk2, hm2, hc2⟩ := own_es hf2 h2 hv2
  have hn1 : (es1.map Prod.fst).Nodup := List.pairwise_map.2 hap1
  have hn2 : (es2.map Prod.fst).Nodup := List.pairwise_map.2 hap2
  have good : ∀ r, f1 r ≠ 0 → (Lib.goodD eqd8 (.map es2) (keyL r, .lit (.int .u8 (f1 r))) = true ↔ f2 r = f1 r) := by
    intro r hr
    have hw := roW_of (hf1.ro r hr)
    unfold Lib.goodD
    rw [hv2.has r hw]
    by_cases e : f2 r = 0
    · rw [show decide (f2 r ≠ 0) = false by simp [e]]
      simp
      intro q; rw [q] at e; exact hr e
    · rw [show decide (f2 r ≠ 0) = true from decide_eq_true e]
      rw [atKey_indep (z := .nil) (z' := .lit (.int .u8 0)) (by rw [hv2.has r hw]; exact decide_eq_true e), hv2.at' r hw]
      simp [eqd8, eq_comm]
  unfold Lib.equalFuncD
  rw [Bool.and_eq_true, decide_eq_true_iff, size_eq, size_eq, List.all_eq_true]
  constructor
  · rintro ⟨hs, hall⟩
    have h12 : ∀ r, f1 r ≠ 0 → f2 r = f1 r := fun r hr => (good r hr).1 (hall _ (hc1 r hr))
    funext r
    by_cases h : f1 r = 0
    · by_cases e : f2 r = 0
      · rw [h, e]
      · exfalso
        have hnd : (keyL r :: es1.map Prod.fst).Nodup := by
          refine List.nodup_cons.2 ⟨fun q => ?_, hn1⟩
          obtain ⟨p, hp, ep⟩ := List.mem_map.1 q
          obtain ⟨r', hr', rfl⟩ := hm1 p hp
          have := keyL_inj (roW_of (hf1.ro r' hr')) (roW_of (hf2.ro r e)) ep
          rw [this] at hr'
          exact hr' h
        have := @nodup_len Lit (fun _ _ => Classical.propDecidable _) (keyL r :: es1.map Prod.fst) (es2.map Prod.fst) hnd (fun x hx => by
          rcases List.mem_cons.1 hx with rfl | hx
          · exact List.mem_map.2 ⟨_, hc2 r e, rfl⟩
          · obtain ⟨p, hp, rfl⟩ := List.mem_map.1 hx
            obtain ⟨r', hr', rfl⟩ := hm1 p hp
            exact List.mem_map.2 ⟨_, hc2 r' (by rw [h12 r' hr']; exact hr'), rfl⟩)
        simp at this
        omega
    · exact (h12 r h).symm
  · rintro rfl
    refine ⟨Nat.le_antisymm ?_ ?_, fun p hp => ?_⟩
    · have := @nodup_len Lit (fun _ _ => Classical.propDecidable _) (es1.map Prod.fst) (es2.map Prod.fst) hn1 (fun x hx => by
        obtain ⟨p, hp, rfl⟩ := List.mem_map.1 hx
        obtain ⟨r', hr', rfl⟩ := hm1 p hp
        exact List.mem_map.2 ⟨_, hc2 r' hr', rfl⟩)
      simpa using this
    · have := @nodup_len Lit (fun _ _ => Classical.propDecidable _) (es2.map Prod.fst) (es1.map Prod.fst) hn2 (fun x hx => by
        obtain ⟨p, hp, rfl⟩ := List.mem_map.1 hx
        obtain ⟨r', hr', rfl⟩ := hm2 p hp
        exact List.mem_map.2 ⟨_, hc1 r' hr', rfl⟩)
      simpa using this
    · obtain ⟨r, hr, rfl⟩ := hm1 p hp
      exact (good r hr).2 rfl

set_option maxHeartbeats 4000000 in
set_option maxRecDepth 100000 in
theorem eqMaps_c : EqMaps := by
  intro b1 b2 f1 f2 w h1 h2 t ht
  obtain ⟨hf1, D1, n1, ho1, hv1⟩ := h1
  obtain ⟨hf2, D2, n2, ho2, hv2⟩ := h2
  have hres : Lib.equalFuncD eqd8 D1 D2 = t := by
    rw [Bool.eq_iff_iff, ht]; exact equal_iff hf1 hf2 ho1 ho2 hv1 hv2
  have l1 := fun ty => ho1.len (t := 88) mp_map ty
  have l2 := fun ty => ho2.len (t := 88) mp_map ty
  obtain ⟨es1, rfl, hap, hkeys⟩ := ho1.entries mp_keyed
  have hb2 := ho2.lt
  have RES : Hid (Lib.equalFuncD eqd8 (.map es1) D2 = t) := hres
  have HAP : Hid (es1.Pairwise (fun p q => p.1 ≠ q.1) ∧ ∀ p ∈ es1, WideAt.IsKeyLit p.1) := ⟨hap, hkeys⟩
  have HV2 : Hid (View D2 f2) := hv2
  clear hres ht hv1 hv2 hf1 hf2 hap hkeys
  by_cases hsz : Maps.size (.map es1 : DataW Unit) = Maps.size D2
  · go_enter Try.func112, Try.ntmps112
    go_wp2_with (first
      | (at_range; refine wpList_range_own _ rfl _ 88 rfl 31 86 mp_keyed mp_map elU b1 n1 _ rfl ho1 ?_; intro w0 hrg0 hg0 hs0)
      | go_in)
    go_frame
    go_loopw [16] (fun _ wr => ∃ (left : Lit → Bool) (cnt : Nat), wr.ranges Try.prog 31 elU b1 w.heap.size n1 (.map es1) left cnt ∧ wr.ownsMap Try.prog 31 elU b2 n2 D2 ∧ w.grownBy wr none ∧ Hid (GoodAt eqd8 es1 D2 left))
      (fun _ wr => wr.rangeLeft b1 w.heap.size)
    case atStart => exact ⟨_, _, hrg0, ho2.kept hg0 (by simp), hg0, good_start HAP.out.2 D2⟩
    case round =>
      obtain ⟨left, cnt, hrg, h2r, hgw, G⟩ := hrel
      go_wp2_with (first
        | (at_next; refine wpList_next_ranges _ rfl _ rfl 31 mp_keyed elU roV (Value.int .u8) (fun key kl hk => by obtain ⟨r, _, hr, _⟩ := key_inv hk; exact ⟨r, hr⟩) (fun v y hv => by obtain ⟨c, rfl, _⟩ := plainElem_int_inv mp_set hv; exact ⟨c, rfl⟩) b1 w.heap.size n1 _ _ _ rfl hrg ?_ ?_)
        | go_in)
      · intro _ hl0
        go_wp2
        go_ret
        exact ⟨by rw [← RES.out, all_good G.out hl0 hsz]; rfl, (Below.refl _ _).grown hgw (Nat.le_refl _) (fun k e => by cases e)⟩
      · intro o nm c kl yd yp w1 cnt1 hkey hlx hv hat hrg1 hlt hg1 hs1 hen
        obtain ⟨r, hr, ex, rfl⟩ := key_inv hkey
        obtain rfl : (o, nm) = r := by simp at ex; exact Prod.ext ex.1 ex.2
        obtain ⟨c', ec, ez, hwc⟩ := plainElem_int_inv mp_set hv
        cases ec
        obtain ⟨rfl, rfl⟩ : yd = .lit (.int .u8 c) ∧ yp = [] := by cases ez; exact ⟨rfl, rfl⟩
        simp only [roV] at hen
        have hgw1 : w.grownBy w1 none := hgw.andThen hg1 (fun j hj => by cases hj; exact Or.inl (Nat.le_refl _))
        have h2w1 := h2r.kept hg1 (fun e => by have := Option.some.inj e; omega)
        have hgw2 : w.grownBy (w1.alloc (.cells #[.int .i64 o, .int .i64 nm] 31)) none := hgw1.andThen (World.grownBy_alloc _ _ none) (fun j hj => by cases hj)
        have h2w2 : (w1.alloc (.cells #[.int .i64 o, .int .i64 nm] 31)).ownsMap Try.prog 31 elU b2 n2 D2 := h2w1.kept (World.grownBy_alloc _ _ none) (by simp)
        have hrg2 := hrg1.alloc (.cells #[.int .i64 o, .int .i64 nm] 31)
        have HAT : Hid (∀ zd, (DataW.map es1).atKey (keyL (o, nm)) zd = .lit (.int .u8 c)) := hat
        have HM : Hid (wr.rangeLeft b1 w.heap.size = cnt ∧ cnt1 < cnt) := ⟨hrg.left_eq, hlt⟩
        have HR2 : Hid ((w1.alloc (.cells #[.int .i64 o, .int .i64 nm] 31)).ranges Try.prog 31 elU b1 w.heap.size n1 (.map es1) (fun z => left z && !z.sameKey (keyL (o, nm))) cnt1) := hrg2
        have HG2 : Hid (w.grownBy (w1.alloc (.cells #[.int .i64 o, .int .i64 nm] 31)) none) := hgw2
        clear hat hv ez hwc hg1 hgw hgw1 hgw2 hrg hrg1 hrg2 h2r h2w1 hs1 hlx
        cases hh : Maps.has D2 (keyL (o, nm))
        · have hbad : Lib.goodD eqd8 D2 (keyL (o, nm), .lit (.int .u8 c)) = false := by unfold Lib.goodD; rw [hh]; rfl
          go_wp2_with (first
            | (at_lookup; refine wpList_lookup_own_ok_int _ rfl _ _ 88 rfl 31 86 .u8 mp_keyed mp_map mp_set (mp_zero _) b2 n2 D2 rfl h2w2 _ (keyL (o, nm)) rfl (key_of hr) ?_; intro c2 hc2 hwc2; rw [hh]; go_frame)
            | go_in)
          go_ret
          exact ⟨by rw [← RES.out, bad_false HAP.out.1 HAP.out.2 HAT.out hbad]; rfl, (Below.refl _ _).grown HG2.out (Nat.le_refl _) (fun k e => by cases e)⟩
        · obtain ⟨d, hd⟩ : ∃ d, f2 (o, nm) = d := ⟨_, rfl⟩
          have HD2 : Hid (D2.atKey (keyL (o, nm)) (.lit (.int .u8 0)) = .lit (.int .u8 d)) := by rw [← hd]; exact HV2.out.at' _ hr
          have HGD : Hid (Lib.goodD eqd8 D2 (keyL (o, nm), .lit (.int .u8 c)) = decide (c = d)) := by
            unfold Lib.goodD; rw [hh, atKey_indep hh .nil (.lit (.int .u8 0)), HD2.out]; rfl
          clear hd
          by_cases he : c = d
          · have hb : (c != d) = false := by simp [he]
            have HGO : Hid (Lib.goodD eqd8 D2 (keyL (o, nm), .lit (.int .u8 c)) = true) := by rw [HGD.out]; exact decide_eq_true he
            clear he
            go_wp2_with (first
              | (at_lookup; refine wpList_lookup_own_ok_int _ rfl _ _ 88 rfl 31 86 .u8 mp_keyed mp_map mp_set (mp_zero _) b2 n2 D2 rfl h2w2 _ (keyL (o, nm)) rfl (key_of hr) ?_; intro c2 hc2 hwc2; obtain rfl : d = c2 := (by have := HD2.out.symm.trans hc2; cases this; rfl); clear hc2; rw [hh]; go_frame)
              | go_in)
            refine ⟨⟨_, cnt1, HR2.out, h2w2, HG2.out, good_step HAP.out.1 HAP.out.2 HAT.out G.out HGO.out⟩, ?_⟩
            rw [HR2.out.left_eq, HM.out.1]; exact HM.out.2
          · have hb : (c != d) = true := by simp [he]
            have HBD : Hid (Lib.goodD eqd8 D2 (keyL (o, nm), .lit (.int .u8 c)) = false) := by rw [HGD.out]; exact decide_eq_false he
            clear he
            go_wp2_with (first
              | (at_lookup; refine wpList_lookup_own_ok_int _ rfl _ _ 88 rfl 31 86 .u8 mp_keyed mp_map mp_set (mp_zero _) b2 n2 D2 rfl h2w2 _ (keyL (o, nm)) rfl (key_of hr) ?_; intro c2 hc2 hwc2; obtain rfl : d = c2 := (by have := HD2.out.symm.trans hc2; cases this; rfl); clear hc2; rw [hh]; go_frame)
              | go_in)
            go_ret
            exact ⟨by rw [← RES.out, bad_false HAP.out.1 HAP.out.2 HAT.out HBD.out]; rfl, (Below.refl _ _).grown HG2.out (Nat.le_refl _) (fun k e => by cases e)⟩
  · have hne : ¬ ((Maps.size (.map es1 : DataW Unit) : Int) = (Maps.size D2 : Int)) := fun e => hsz (by exact_mod_cast e)
    go_enter Try.func112, Try.ntmps112
    go_wp2
    go_ret
    exact ⟨by rw [← RES.out, sizes_false hsz]; rfl, Below.refl _ _⟩

end Go.Proofs.Ytocdclgolhhckaa
