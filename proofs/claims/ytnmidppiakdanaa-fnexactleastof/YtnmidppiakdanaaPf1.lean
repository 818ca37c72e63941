/-
  CONTRACTS: spec.ProofOf.
  Conditions: each contract bears its own.
-/
import Derived.Test.YtnmidppiakdanaaPf0
import Derived.Test.YtnmidppiakdanaaMo0
import Derived.Test.YtnmidppiakdanaaBx0
import Derived.Test.YtnmidppiakdanaaGr5
namespace Go.Proofs.Ytnmidppiakdanaa
open Go.RowKit
set_option linter.unusedVariables false
set_option linter.unusedSimpArgs false

theorem hitAt_neg (f : RoI → Int) (r : RoI) (p : Int) : ∀ (zs : List RuleI) (i : Int), 0 ≤ i → (hitAt f r p zs i < 0 ↔ noneHit zs f r p)
  | [], i, _ => by
    constructor
    · intro _ z h; simp at h
    · intro _; show (-1 : Int) < 0; decide
  | z :: zs, i, h => by
    have ih := hitAt_neg f r p zs (i + 1) (by omega)
    show (if hitB f r p z = true then i else hitAt f r p zs (i + 1)) < 0 ↔ _
    cases e : hitB f r p z
    · rw [if_neg (by simp), ih]
      constructor
      · intro q y hy
        rcases List.mem_cons.1 hy with rfl | hy
        · exact e
        · exact q y hy
      · intro q y hy
        exact q y (by simp [hy])
    · rw [if_pos rfl]
      constructor
      · intro q; omega
      · intro q; have := q z (by simp); rw [e] at this; cases this

theorem it_const {zs : List RuleI} {M : Nat} (h : stepG zs (itG zs M) = itG zs M) : ∀ j, itG zs (M + j) = itG zs M
  | 0 => rfl
  | j + 1 => by
    show stepG zs (itG zs (M + j)) = _
    rw [it_const h j, h]

/-- The first step at which a grant follows, and it is among few. -/
theorem first_few {zs : List RuleI} (hz : ∀ z ∈ zs, okR z) {r : RoI} {p : Int} (h : Has zs r p) : ∃ n, n ≤ 10200 ∧ ¬ noneHit zs (ofG (itG zs n)) r p ∧ ∀ k, k < n → noneHit zs (ofG (itG zs k)) r p := by
  obtain ⟨n, h1, h2⟩ := first_of hz h
  refine ⟨n, ?_, h1, h2⟩
  obtain ⟨M, hM, hs⟩ := it_ends hz
  by_cases q : n ≤ M
  · omega
  · have e : itG zs n = itG zs M := by
      have := it_const hs (n - M)
      rwa [show M + (n - M) = n by omega] at this
    rw [e] at h1
    exact absurd (h2 M (by omega)) h1

def GivesP (f : Nat) (a : Option Addr) (n cap : Nat) (r : RoI) (p : Int) (c : Int) (ls : List Int) (w : World) : Prop := Calls Try.prog f #[.slice a n cap, .agg #[.int .i64 r.1, .int .i64 r.2], .int .i64 p] w fun e w' => ∃ (a' : Option Addr) (cap' : Nat), e = .returned (.agg #[.int .i64 c, .slice a' ls.length cap']) ∧ w'.ownsRow w.heap.size 2 1 (.slice a' ls.length cap') ls.length (ls.map (Value.int .i64)) ∧ Below w.heap.size w w'

set_option maxRecDepth 100000 in
set_option maxHeartbeats 2000000 in
theorem specProof_bad (a : Option Addr) (n cap : Nat) (r : RoI) (p c v d : Int) (w : World) (hd : (c ≠ 0 ∧ d = c) ∨ (c = 0 ∧ prinB p = false ∧ d = 3) ∨ (c = 0 ∧ prinB p = true ∧ setB v ∧ hasI v p = false ∧ d = 4))
    (H : Hid (∀ w', Below w.heap.size w w' → GivesI 86 a n cap r c v w')) : GivesP 33 a n cap r p d [] w := by
  obtain ⟨W, hW⟩ : ∃ W, W = (w.alloc (.cells #[.int .i64 r.1, .int .i64 r.2] 35)).alloc (.cells #[.int .i64 0, .slice none 0 0] 64) := ⟨_, rfl⟩
  have hs : W.heap.size = w.heap.size + 2 := by rw [hW]; simp
  have B0 : Below w.heap.size w W := by rw [hW]; exact ((Below.refl _ _).alloc (Nat.le_refl _) _).alloc (by simp) _
  have r0 : W.cell? ⟨w.heap.size, 0, none⟩ = some (.int .i64 r.1) := by rw [hW]; simp
  have r1 : W.cell? ⟨w.heap.size, 1, none⟩ = some (.int .i64 r.2) := by rw [hW]; simp
  have c0 : W.cell? ⟨w.heap.size + 1, 0, none⟩ = some (.int .i64 0) := by rw [hW]; simp
  have c1 : W.cell? ⟨w.heap.size + 1, 1, none⟩ = some (.slice none 0 0) := by rw [hW]; simp
  have f0 : ∀ j, W.frozen? ⟨w.heap.size + 1, j, none⟩ = false := fun j => by rw [hW]; simp [go_sem]
  have HB0 : Hid (Below w.heap.size w W) := B0
  have hlw : w.heap.size + 1 < W.heap.size := by omega
  rcases hd with ⟨h0, rfl⟩ | ⟨rfl, hp, rfl⟩ | ⟨rfl, hp, hv, hh, rfl⟩
  · have hcn : (d != 0) = true := by simpa using h0
    unfold GivesP
    go_enter Try.func33, Try.ntmps33
    go_wp2_with fail
    rw [← hW]
    clear hW hs
    refine (H.out _ HB0.out).mono ?_
    rintro e w1 ⟨rfl, hb1⟩
    have d0 := (hb1.cell (p := ⟨w.heap.size + 1, 0, none⟩) hlw).trans c0
    have d1 := (hb1.cell (p := ⟨w.heap.size + 1, 1, none⟩) hlw).trans c1
    have g0 := (hb1.frozen (p := ⟨w.heap.size + 1, 0, none⟩) hlw).trans (f0 0)
    have g1 := (hb1.frozen (p := ⟨w.heap.size + 1, 1, none⟩) hlw).trans (f0 1)
    have hw : w.heap.size + 1 < w1.heap.size := Nat.lt_of_lt_of_le hlw hb1.size
    have hBx : Below w.heap.size w w1 := HB0.out.trans (hb1.mono HB0.out.size)
    go_wp2
    refine bodyPost_ret (v := .agg #[.int .i64 d, .slice none 0 0]) (by simp [results, Try.results33, go_sem, d0, d1, hw]) rfl ⟨none, 0, rfl, World.ownsRow_nil _ _ _ _, ?_⟩
    refine Below.alloc (Below.setCell (Below.setCell hBx ?_ _) ?_ _) ?_ _
    · show w.heap.size ≤ w.heap.size + 1; omega
    · show w.heap.size ≤ w.heap.size + 1; omega
    · simp only [World.size_setCell]; exact hBx.size
  · unfold GivesP
    go_enter Try.func33, Try.ntmps33
    go_wp2_with fail
    rw [← hW]
    clear hW hs
    refine (H.out _ HB0.out).mono ?_
    rintro e w1 ⟨rfl, hb1⟩
    have d0 := (hb1.cell (p := ⟨w.heap.size + 1, 0, none⟩) hlw).trans c0
    have d1 := (hb1.cell (p := ⟨w.heap.size + 1, 1, none⟩) hlw).trans c1
    have g0 := (hb1.frozen (p := ⟨w.heap.size + 1, 0, none⟩) hlw).trans (f0 0)
    have g1 := (hb1.frozen (p := ⟨w.heap.size + 1, 1, none⟩) hlw).trans (f0 1)
    have hw : w.heap.size + 1 < w1.heap.size := Nat.lt_of_lt_of_le hlw hb1.size
    have hBx : Below w.heap.size w w1 := HB0.out.trans (hb1.mono HB0.out.size)
    go_wp2_with (first | (go_at_call 87; refine (l1Principal_c p _).mono ?_; rintro e w' ⟨rfl, rfl⟩; rw [hp]) | fail)
    refine bodyPost_ret (v := .agg #[.int .i64 3, .slice none 0 0]) (by simp [results, Try.results33, go_sem, d0, d1, hw]) rfl ⟨none, 0, rfl, World.ownsRow_nil _ _ _ _, ?_⟩
    refine Below.alloc (Below.setCell (Below.setCell hBx ?_ _) ?_ _) ?_ _
    · show w.heap.size ≤ w.heap.size + 1; omega
    · show w.heap.size ≤ w.heap.size + 1; omega
    · simp only [World.size_setCell]; exact hBx.size
  · have hp' : 1 ≤ p ∧ p ≤ 8 := by simpa [prinB] using hp
    unfold GivesP
    go_enter Try.func33, Try.ntmps33
    go_wp2_with fail
    rw [← hW]
    clear hW hs
    refine (H.out _ HB0.out).mono ?_
    rintro e w1 ⟨rfl, hb1⟩
    have d0 := (hb1.cell (p := ⟨w.heap.size + 1, 0, none⟩) hlw).trans c0
    have d1 := (hb1.cell (p := ⟨w.heap.size + 1, 1, none⟩) hlw).trans c1
    have g0 := (hb1.frozen (p := ⟨w.heap.size + 1, 0, none⟩) hlw).trans (f0 0)
    have g1 := (hb1.frozen (p := ⟨w.heap.size + 1, 1, none⟩) hlw).trans (f0 1)
    have hw : w.heap.size + 1 < w1.heap.size := Nat.lt_of_lt_of_le hlw hb1.size
    have hBx : Below w.heap.size w w1 := HB0.out.trans (hb1.mono HB0.out.size)
    go_wp2_with (first | (go_at_call 87; refine (l1Principal_c p _).mono ?_; rintro e w' ⟨rfl, rfl⟩; rw [hp]) | (go_at_call 88; refine (l1Has_c v p hv.1 hv.2 hp'.1 hp'.2 _).mono ?_; rintro e w' ⟨rfl, rfl⟩; rw [hh]) | fail)
    refine bodyPost_ret (v := .agg #[.int .i64 4, .slice none 0 0]) (by simp [results, Try.results33, go_sem, d0, d1, hw]) rfl ⟨none, 0, rfl, World.ownsRow_nil _ _ _ _, ?_⟩
    refine Below.alloc (Below.setCell (Below.setCell hBx ?_ _) ?_ _) ?_ _
    · show w.heap.size ≤ w.heap.size + 1; omega
    · show w.heap.size ≤ w.heap.size + 1; omega
    · simp only [World.size_setCell]; exact hBx.size

end Go.Proofs.Ytnmidppiakdanaa
