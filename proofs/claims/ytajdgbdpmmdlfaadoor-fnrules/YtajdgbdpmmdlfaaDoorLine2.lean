/-
  CONTRACTS on the line of a rule: spec.l2Line.
  Conditions: each contract bears its own.
-/
import Derived.Test.YtajdgbdpmmdlfaaDoorLine0
namespace Go.Proofs.YtajdgbdpmmdlfaaDoor
open Go.RowKit
set_option linter.unusedVariables false
set_option linter.unusedSimpArgs false

theorem keepR {g off : Nat} {r : RuleI} {w0 w w' : World} (h : w.cell? ⟨g, off, none⟩ = some (.int .i64 r.k) ∧ w.cell? ⟨g, off + 1, none⟩ = some (.int .i64 r.ho) ∧ w.cell? ⟨g, off + 2, none⟩ = some (.int .i64 r.hn) ∧ w.cell? ⟨g, off + 3, none⟩ = some (.int .i64 r.w) ∧ w.cell? ⟨g, off + 4, none⟩ = some (.int .i64 r.oo) ∧ w.cell? ⟨g, off + 5, none⟩ = some (.int .i64 r.on) ∧ w.cell? ⟨g, off + 6, none⟩ = some (.int .i64 r.to) ∧ w.cell? ⟨g, off + 7, none⟩ = some (.int .i64 r.tn) ∧ Below w0.heap.size w0 w) (hb : Below w.heap.size w w') : w'.cell? ⟨g, off, none⟩ = some (.int .i64 r.k) ∧ w'.cell? ⟨g, off + 1, none⟩ = some (.int .i64 r.ho) ∧ w'.cell? ⟨g, off + 2, none⟩ = some (.int .i64 r.hn) ∧ w'.cell? ⟨g, off + 3, none⟩ = some (.int .i64 r.w) ∧ w'.cell? ⟨g, off + 4, none⟩ = some (.int .i64 r.oo) ∧ w'.cell? ⟨g, off + 5, none⟩ = some (.int .i64 r.on) ∧ w'.cell? ⟨g, off + 6, none⟩ = some (.int .i64 r.to) ∧ w'.cell? ⟨g, off + 7, none⟩ = some (.int .i64 r.tn) ∧ Below w0.heap.size w0 w' := by
  have key : ∀ (o : Nat) (v : Value), w.cell? ⟨g, o, none⟩ = some v → w'.cell? ⟨g, o, none⟩ = some v := fun o v e => (hb.cell (p := ⟨g, o, none⟩) (World.block_lt_of_cell? w ⟨g, o, none⟩ e)).trans e
  obtain ⟨h0, h1, h2, h3, h4, h5, h6, h7, hB⟩ := h
  exact ⟨key _ _ h0, key _ _ h1, key _ _ h2, key _ _ h3, key _ _ h4, key _ _ h5, key _ _ h6, key _ _ h7, hB.trans (hb.mono hB.size)⟩

set_option maxHeartbeats 1000000 in
theorem l2Line_1 (g off : Nat) (r : RuleI) (w : World) (hx : RuleAt w g off r) (h : r.k = 1) (hr : roleB r.ho r.hn = true) (hw : prinB r.w = true) :
    Calls Tryd.prog 54 #[.pointer (some ⟨g, off, none⟩)] w fun e w' => e = .returned (.string (lineT r)) ∧ Below w.heap.size w w' := by
  have E : Hid (lineT r = roleT r.ho r.hn ++ ⟨#[32, 60, 45, 32]⟩ ++ ⟨#[digitB r.w]⟩) := by show lineT r = _; rw [line_eq, tail_1 r h]
  have hs0 : (roleT r.ho r.hn).size = 3 := rfl
  have hs1 : (roleT r.oo r.on).size = 3 := rfl
  have hs2 : (roleT r.to r.tn).size = 3 := rfl
  have hw' : 1 ≤ r.w ∧ r.w ≤ 8 := by simpa [prinB] using hw
  obtain ⟨w1, w8⟩ := hw'
  have hX : Hid (RuleAt w g off r) := hx
  have hb : Below w.heap.size w w := Below.refl _ _
  obtain ⟨h0, h1, h2, h3, h4, h5, h6, h7⟩ := hx
  have hk : w.cell? ⟨g, off, none⟩ = some (.int .i64 1) := by rw [h0, h]
  go_enter Tryd.func54, Tryd.ntmps54
  go_wp2_with fail
  refine (l2Text_c r.ho r.hn hr _).mono ?_
  rintro e w1 ⟨rfl, hb1⟩
  replace hb := hb.trans (hb1.mono hb.size)
  clear h0 h1 h2 h3 h4 h5 h6 h7 hb1 hk
  obtain ⟨h0, h1, h2, h3, h4, h5, h6, h7⟩ := hX.out.below hb
  go_wp2_with fail
  refine (l1Digits_c r.w (by omega) (by omega) _).mono ?_
  rintro e w2 ⟨rfl, hb2⟩
  go_wp2
  go_ret
  exact ⟨by rw [E.out]; rfl, hb.trans (hb2.mono hb.size)⟩

set_option maxHeartbeats 1000000 in
theorem l2Line_2 (g off : Nat) (r : RuleI) (w : World) (hx : RuleAt w g off r) (h : r.k = 2) (hr : roleB r.ho r.hn = true) (ho : roleB r.oo r.on = true) :
    Calls Tryd.prog 54 #[.pointer (some ⟨g, off, none⟩)] w fun e w' => e = .returned (.string (lineT r)) ∧ Below w.heap.size w w' := by
  have E : Hid (lineT r = roleT r.ho r.hn ++ ⟨#[32, 60, 45, 32]⟩ ++ roleT r.oo r.on) := by show lineT r = _; rw [line_eq, tail_2 r h]
  have hs0 : (roleT r.ho r.hn).size = 3 := rfl
  have hs1 : (roleT r.oo r.on).size = 3 := rfl
  have hs2 : (roleT r.to r.tn).size = 3 := rfl
  have hX : Hid (RuleAt w g off r) := hx
  have hb : Below w.heap.size w w := Below.refl _ _
  obtain ⟨h0, h1, h2, h3, h4, h5, h6, h7⟩ := hx
  have hk : w.cell? ⟨g, off, none⟩ = some (.int .i64 2) := by rw [h0, h]
  go_enter Tryd.func54, Tryd.ntmps54
  go_wp2_with fail
  refine (l2Text_c r.ho r.hn hr _).mono ?_
  rintro e w1 ⟨rfl, hb1⟩
  replace hb := hb.trans (hb1.mono hb.size)
  clear h0 h1 h2 h3 h4 h5 h6 h7 hb1 hk
  obtain ⟨h0, h1, h2, h3, h4, h5, h6, h7⟩ := hX.out.below hb
  go_wp2_with fail
  refine (l2Text_c r.oo r.on ho _).mono ?_
  rintro e w2 ⟨rfl, hb2⟩
  go_wp2
  go_ret
  exact ⟨by rw [E.out]; rfl, hb.trans (hb2.mono hb.size)⟩

set_option maxRecDepth 20000 in
set_option maxHeartbeats 2000000 in
theorem l2Line_3 (g off : Nat) (r : RuleI) (w : World) (hx : RuleAt w g off r) (h : r.k = 3) (hr : roleB r.ho r.hn = true) (ho : roleB r.oo r.on = true) (hn : nameB r.tn = true) :
    Calls Tryd.prog 54 #[.pointer (some ⟨g, off, none⟩)] w fun e w' => e = .returned (.string (lineT r)) ∧ Below w.heap.size w w' := by
  have E : Hid (lineT r = roleT r.ho r.hn ++ ⟨#[32, 60, 45, 32]⟩ ++ roleT r.oo r.on ++ ⟨#[46]⟩ ++ ⟨#[digitB r.tn]⟩) := by show lineT r = _; rw [line_eq, tail_3 r h]; simp only [cat_assoc]
  have hs0 : (roleT r.ho r.hn).size = 3 := rfl
  have hs1 : (roleT r.oo r.on).size = 3 := rfl
  have hs2 : (roleT r.to r.tn).size = 3 := rfl
  have hn' : 1 ≤ r.tn ∧ r.tn ≤ 5 := by simpa [nameB] using hn
  obtain ⟨n1, n5⟩ := hn'
  have hX : Hid (RuleAt w g off r) := hx
  have hb : Below w.heap.size w w := Below.refl _ _
  obtain ⟨h0, h1, h2, h3, h4, h5, h6, h7⟩ := hx
  have hk : w.cell? ⟨g, off, none⟩ = some (.int .i64 3) := by rw [h0, h]
  go_enter Tryd.func54, Tryd.ntmps54
  go_wp2_with fail
  refine (l2Text_c r.ho r.hn hr _).mono ?_
  rintro e w1 ⟨rfl, hb1⟩
  replace hb := hb.trans (hb1.mono hb.size)
  clear h0 h1 h2 h3 h4 h5 h6 h7 hb1 hk
  obtain ⟨h0, h1, h2, h3, h4, h5, h6, h7⟩ := hX.out.below hb
  go_wp2_with fail
  go_region_held3 (fun w' => w'.cell? ⟨g, off, none⟩ = some (.int .i64 r.k) ∧ w'.cell? ⟨g, off + 1, none⟩ = some (.int .i64 r.ho) ∧ w'.cell? ⟨g, off + 2, none⟩ = some (.int .i64 r.hn) ∧ w'.cell? ⟨g, off + 3, none⟩ = some (.int .i64 r.w) ∧ w'.cell? ⟨g, off + 4, none⟩ = some (.int .i64 r.oo) ∧ w'.cell? ⟨g, off + 5, none⟩ = some (.int .i64 r.on) ∧ w'.cell? ⟨g, off + 6, none⟩ = some (.int .i64 r.to) ∧ w'.cell? ⟨g, off + 7, none⟩ = some (.int .i64 r.tn) ∧ Below w.heap.size w w') (first | exact hS | exact ⟨h0, h1, h2, h3, h4, h5, h6, h7, hb⟩ | exact ⟨by go_cell, by go_cell, by go_cell, by go_cell, by go_cell, by go_cell, by go_cell, by go_cell, hb.drew⟩)
    (first
      | (go_at_call 69; refine (withS (S := fun w' => w'.cell? ⟨g, off, none⟩ = some (.int .i64 r.k) ∧ w'.cell? ⟨g, off + 1, none⟩ = some (.int .i64 r.ho) ∧ w'.cell? ⟨g, off + 2, none⟩ = some (.int .i64 r.hn) ∧ w'.cell? ⟨g, off + 3, none⟩ = some (.int .i64 r.w) ∧ w'.cell? ⟨g, off + 4, none⟩ = some (.int .i64 r.oo) ∧ w'.cell? ⟨g, off + 5, none⟩ = some (.int .i64 r.on) ∧ w'.cell? ⟨g, off + 6, none⟩ = some (.int .i64 r.to) ∧ w'.cell? ⟨g, off + 7, none⟩ = some (.int .i64 r.tn) ∧ Below w.heap.size w w') (fun w' hb => keepR ?_ hb) (l1Digits_c r.tn (by omega) (by omega) _)).mono ?_; (first | assumption | exact ⟨h0, h1, h2, h3, h4, h5, h6, h7, hb⟩ | exact ⟨by go_cell, by go_cell, by go_cell, by go_cell, by go_cell, by go_cell, by go_cell, by go_cell, hb.drew⟩); rintro e w1 ⟨rfl, hS⟩)
      | (go_at_call 67; refine (withS (S := fun w' => w'.cell? ⟨g, off, none⟩ = some (.int .i64 r.k) ∧ w'.cell? ⟨g, off + 1, none⟩ = some (.int .i64 r.ho) ∧ w'.cell? ⟨g, off + 2, none⟩ = some (.int .i64 r.hn) ∧ w'.cell? ⟨g, off + 3, none⟩ = some (.int .i64 r.w) ∧ w'.cell? ⟨g, off + 4, none⟩ = some (.int .i64 r.oo) ∧ w'.cell? ⟨g, off + 5, none⟩ = some (.int .i64 r.on) ∧ w'.cell? ⟨g, off + 6, none⟩ = some (.int .i64 r.to) ∧ w'.cell? ⟨g, off + 7, none⟩ = some (.int .i64 r.tn) ∧ Below w.heap.size w w') (fun w' hb => keepR ?_ hb) (l2Text_c r.oo r.on ho _)).mono ?_; (first | assumption | exact ⟨h0, h1, h2, h3, h4, h5, h6, h7, hb⟩ | exact ⟨by go_cell, by go_cell, by go_cell, by go_cell, by go_cell, by go_cell, by go_cell, by go_cell, hb.drew⟩); rintro e w1 ⟨rfl, hS⟩))
  go_wp2
  go_ret
  exact ⟨by rw [E.out]; rfl, hS.2.2.2.2.2.2.2.2⟩

set_option maxRecDepth 20000 in
set_option maxHeartbeats 2000000 in
theorem l2Line_4 (g off : Nat) (r : RuleI) (w : World) (hx : RuleAt w g off r) (h : r.k = 4) (hr : roleB r.ho r.hn = true) (ho : roleB r.oo r.on = true) (ht : roleB r.to r.tn = true) :
    Calls Tryd.prog 54 #[.pointer (some ⟨g, off, none⟩)] w fun e w' => e = .returned (.string (lineT r)) ∧ Below w.heap.size w w' := by
  have E : Hid (lineT r = roleT r.ho r.hn ++ ⟨#[32, 60, 45, 32]⟩ ++ roleT r.oo r.on ++ ⟨#[32, 38, 32]⟩ ++ roleT r.to r.tn) := by show lineT r = _; rw [line_eq, tail_4 r h]; simp only [cat_assoc]
  have hs0 : (roleT r.ho r.hn).size = 3 := rfl
  have hs1 : (roleT r.oo r.on).size = 3 := rfl
  have hs2 : (roleT r.to r.tn).size = 3 := rfl
  have hX : Hid (RuleAt w g off r) := hx
  have hb : Below w.heap.size w w := Below.refl _ _
  obtain ⟨h0, h1, h2, h3, h4, h5, h6, h7⟩ := hx
  have hk : w.cell? ⟨g, off, none⟩ = some (.int .i64 4) := by rw [h0, h]
  go_enter Tryd.func54, Tryd.ntmps54
  go_wp2_with fail
  refine (l2Text_c r.ho r.hn hr _).mono ?_
  rintro e w1 ⟨rfl, hb1⟩
  replace hb := hb.trans (hb1.mono hb.size)
  clear h0 h1 h2 h3 h4 h5 h6 h7 hb1 hk
  obtain ⟨h0, h1, h2, h3, h4, h5, h6, h7⟩ := hX.out.below hb
  go_wp2_with fail
  go_region_held3 (fun w' => w'.cell? ⟨g, off, none⟩ = some (.int .i64 r.k) ∧ w'.cell? ⟨g, off + 1, none⟩ = some (.int .i64 r.ho) ∧ w'.cell? ⟨g, off + 2, none⟩ = some (.int .i64 r.hn) ∧ w'.cell? ⟨g, off + 3, none⟩ = some (.int .i64 r.w) ∧ w'.cell? ⟨g, off + 4, none⟩ = some (.int .i64 r.oo) ∧ w'.cell? ⟨g, off + 5, none⟩ = some (.int .i64 r.on) ∧ w'.cell? ⟨g, off + 6, none⟩ = some (.int .i64 r.to) ∧ w'.cell? ⟨g, off + 7, none⟩ = some (.int .i64 r.tn) ∧ Below w.heap.size w w') (first | exact hS | exact ⟨h0, h1, h2, h3, h4, h5, h6, h7, hb⟩ | exact ⟨by go_cell, by go_cell, by go_cell, by go_cell, by go_cell, by go_cell, by go_cell, by go_cell, hb.drew⟩)
    (first
      | (go_at_call 67; refine (withS (S := fun w' => w'.cell? ⟨g, off, none⟩ = some (.int .i64 r.k) ∧ w'.cell? ⟨g, off + 1, none⟩ = some (.int .i64 r.ho) ∧ w'.cell? ⟨g, off + 2, none⟩ = some (.int .i64 r.hn) ∧ w'.cell? ⟨g, off + 3, none⟩ = some (.int .i64 r.w) ∧ w'.cell? ⟨g, off + 4, none⟩ = some (.int .i64 r.oo) ∧ w'.cell? ⟨g, off + 5, none⟩ = some (.int .i64 r.on) ∧ w'.cell? ⟨g, off + 6, none⟩ = some (.int .i64 r.to) ∧ w'.cell? ⟨g, off + 7, none⟩ = some (.int .i64 r.tn) ∧ Below w.heap.size w w') (fun w' hb => keepR ?_ hb) (l2Text_c _ _ (by assumption) _)).mono ?_; (first | assumption | exact ⟨h0, h1, h2, h3, h4, h5, h6, h7, hb⟩ | exact ⟨by go_cell, by go_cell, by go_cell, by go_cell, by go_cell, by go_cell, by go_cell, by go_cell, hb.drew⟩); rintro e w1 ⟨rfl, hS⟩))
  go_wp2
  go_ret
  exact ⟨by rw [E.out]; rfl, hS.2.2.2.2.2.2.2.2⟩

end Go.Proofs.YtajdgbdpmmdlfaaDoor
