/-
  CONTRACTS on the line of a rule: impl's bodyText.
  Conditions: each contract bears its own.
  CONTRACTS on the line of a rule: spec.l2Line.
  Conditions: each contract bears its own.
  CONTRACTS: spec.l2Line of a rule without fault, RuleText of both programs.
  Conditions: each contract bears its own.
  CONTRACT: impl.RuleText of a rule without fault.
  Conditions: the rule has no fault.
-/
import Derived.Test.YtnfolmjdicfobaaGreatDoorPc08
namespace Go.Proofs.YtnfolmjdicfobaaGreatDoor
open Go.RowKit
set_option linter.unusedVariables false
set_option linter.unusedSimpArgs false
attribute [local go_sem] ta11 ta12 ta13 ta14 ta21 ta22 ta23 ta24 ta31 ta32 ta33 ta34 ta41 ta42 ta43 ta44

set_option maxHeartbeats 400000 in
theorem bodyText_1 (r : RuleI) (h : r.k = 1) (hw : prinB r.w = true) (w : World) :
    Calls Tryz.prog 117 #[.iface 200 (.agg #[.int .i64 r.w])] w fun e w' => e = .returned (.string (tailT r)) ∧ Below w.heap.size w w' := by
  have E : Hid (tailT r = ⟨#[digitB r.w]⟩) := tail_1 r h
  have hw' : 1 ≤ r.w ∧ r.w ≤ 8 := by simpa [prinB] using hw
  obtain ⟨w1, w8⟩ := hw'
  go_enter Tryz.func117, Tryz.ntmps117
  go_wp2_with (first | (go_at_call 76; refine (num_c _ (by omega) (by omega) _).mono ?_; rintro e w1 ⟨rfl, rfl⟩))
  go_ret
  exact ⟨by rw [E.out]; rfl, by go_grown⟩

set_option maxHeartbeats 400000 in
theorem bodyText_2 (r : RuleI) (h : r.k = 2) (hr : roleB r.oo r.on = true) (w : World) :
    Calls Tryz.prog 117 #[.iface 202 (.agg #[.int .i64 r.oo, .int .i64 r.on])] w fun e w' => e = .returned (.string (tailT r)) ∧ Below w.heap.size w w' := by
  have E : Hid (tailT r = roleT r.oo r.on) := tail_2 r h
  go_enter Tryz.func117, Tryz.ntmps117
  go_wp2_with (first | (go_at_call 104; refine (roleText_c _ _ hr _).mono ?_; rintro e w1 ⟨rfl, hb1⟩))
  go_ret
  exact ⟨by rw [E.out]; rfl, below_new hb1⟩

set_option maxHeartbeats 400000 in
theorem bodyText_3 (r : RuleI) (h : r.k = 3) (hr : roleB r.oo r.on = true) (hn : nameB r.tn = true) (w : World) :
    Calls Tryz.prog 117 #[.iface 204 (.agg #[.int .i64 r.oo, .int .i64 r.on, .int .i64 r.tn])] w fun e w' => e = .returned (.string (tailT r)) ∧ Below w.heap.size w w' := by
  have E : Hid (tailT r = roleT r.oo r.on ++ ⟨#[46]⟩ ++ ⟨#[digitB r.tn]⟩) := tail_3 r h
  have hs1 : (roleT r.oo r.on).size = 3 := rfl
  have hn' : 1 ≤ r.tn ∧ r.tn ≤ 5 := by simpa [nameB] using hn
  obtain ⟨n1, n5⟩ := hn'
  go_enter Tryz.func117, Tryz.ntmps117
  go_wp2
  go_region_held3 (fun w' => w'.cell? ⟨w.heap.size, 0, none⟩ = some (.int .i64 r.oo) ∧ w'.cell? ⟨w.heap.size, 1, none⟩ = some (.int .i64 r.on) ∧ w'.cell? ⟨w.heap.size, 2, none⟩ = some (.int .i64 r.tn) ∧ Below w.heap.size w w') (first | exact hS | (refine ⟨by go_cell, by go_cell, by go_cell, by go_grown⟩))
    (first
      | (go_at_call 76; refine (withS (S := fun w' => w'.cell? ⟨w.heap.size, 0, none⟩ = some (.int .i64 r.oo) ∧ w'.cell? ⟨w.heap.size, 1, none⟩ = some (.int .i64 r.on) ∧ w'.cell? ⟨w.heap.size, 2, none⟩ = some (.int .i64 r.tn) ∧ Below w.heap.size w w') (fun w' hb => keepS3 ?_ hb) ((num_c _ (by omega) (by omega) _).mono fun e w' hh => ⟨hh.1, hh.2 ▸ Below.refl _ _⟩)).mono ?_; (first | assumption | exact ⟨by go_cell, by go_cell, by go_cell, by go_grown⟩); rintro e w1 ⟨rfl, hS⟩)
      | (go_at_call 104; refine (withS (S := fun w' => w'.cell? ⟨w.heap.size, 0, none⟩ = some (.int .i64 r.oo) ∧ w'.cell? ⟨w.heap.size, 1, none⟩ = some (.int .i64 r.on) ∧ w'.cell? ⟨w.heap.size, 2, none⟩ = some (.int .i64 r.tn) ∧ Below w.heap.size w w') (fun w' hb => keepS3 ?_ hb) (roleText_c _ _ hr _)).mono ?_; (first | assumption | exact ⟨by go_cell, by go_cell, by go_cell, by go_grown⟩); rintro e w1 ⟨rfl, hS⟩))
  go_wp2
  go_ret
  exact ⟨by rw [E.out]; rfl, hS.2.2.2⟩

set_option maxRecDepth 20000 in
set_option maxHeartbeats 1000000 in
theorem bodyText_4 (r : RuleI) (h : r.k = 4) (hr : roleB r.oo r.on = true) (ht : roleB r.to r.tn = true) (w : World) :
    Calls Tryz.prog 117 #[.iface 206 (.agg #[.int .i64 r.oo, .int .i64 r.on, .int .i64 r.to, .int .i64 r.tn])] w fun e w' => e = .returned (.string (tailT r)) ∧ Below w.heap.size w w' := by
  have E : Hid (tailT r = roleT r.oo r.on ++ ⟨#[32, 38, 32]⟩ ++ roleT r.to r.tn) := tail_4 r h
  have hs1 : (roleT r.oo r.on).size = 3 := rfl
  have hs2 : (roleT r.to r.tn).size = 3 := rfl
  go_enter Tryz.func117, Tryz.ntmps117
  go_wp2
  go_region_held3 (fun w' => w'.cell? ⟨w.heap.size, 0, none⟩ = some (.int .i64 r.oo) ∧ w'.cell? ⟨w.heap.size, 1, none⟩ = some (.int .i64 r.on) ∧ w'.cell? ⟨w.heap.size, 2, none⟩ = some (.int .i64 r.to) ∧ w'.cell? ⟨w.heap.size, 3, none⟩ = some (.int .i64 r.tn) ∧ Below w.heap.size w w') (first | exact hS | (refine ⟨by go_cell, by go_cell, by go_cell, by go_cell, by go_grown⟩))
    (first
      | (go_at_call 104; refine (withS (S := fun w' => w'.cell? ⟨w.heap.size, 0, none⟩ = some (.int .i64 r.oo) ∧ w'.cell? ⟨w.heap.size, 1, none⟩ = some (.int .i64 r.on) ∧ w'.cell? ⟨w.heap.size, 2, none⟩ = some (.int .i64 r.to) ∧ w'.cell? ⟨w.heap.size, 3, none⟩ = some (.int .i64 r.tn) ∧ Below w.heap.size w w') (fun w' hb => keepS4 ?_ hb) (roleText_c _ _ (by assumption) _)).mono ?_; (first | assumption | exact ⟨by go_cell, by go_cell, by go_cell, by go_cell, by go_grown⟩); rintro e w1 ⟨rfl, hS⟩))
  go_wp2
  go_ret
  exact ⟨by rw [E.out]; rfl, hS.2.2.2.2⟩

end Go.Proofs.YtnfolmjdicfobaaGreatDoor

namespace Go.Proofs.YtnfolmjdicfobaaGreatDoor
open Go.RowKit
set_option linter.unusedVariables false
set_option linter.unusedSimpArgs false

theorem keepR {g off : Nat} {r : RuleI} {w0 w w' : World} (h : w.cell? ⟨g, off, none⟩ = some (.int .i64 r.k) ∧ w.cell? ⟨g, off + 1, none⟩ = some (.int .i64 r.ho) ∧ w.cell? ⟨g, off + 2, none⟩ = some (.int .i64 r.hn) ∧ w.cell? ⟨g, off + 3, none⟩ = some (.int .i64 r.w) ∧ w.cell? ⟨g, off + 4, none⟩ = some (.int .i64 r.oo) ∧ w.cell? ⟨g, off + 5, none⟩ = some (.int .i64 r.on) ∧ w.cell? ⟨g, off + 6, none⟩ = some (.int .i64 r.to) ∧ w.cell? ⟨g, off + 7, none⟩ = some (.int .i64 r.tn) ∧ Below w0.heap.size w0 w) (hb : Below w.heap.size w w') : w'.cell? ⟨g, off, none⟩ = some (.int .i64 r.k) ∧ w'.cell? ⟨g, off + 1, none⟩ = some (.int .i64 r.ho) ∧ w'.cell? ⟨g, off + 2, none⟩ = some (.int .i64 r.hn) ∧ w'.cell? ⟨g, off + 3, none⟩ = some (.int .i64 r.w) ∧ w'.cell? ⟨g, off + 4, none⟩ = some (.int .i64 r.oo) ∧ w'.cell? ⟨g, off + 5, none⟩ = some (.int .i64 r.on) ∧ w'.cell? ⟨g, off + 6, none⟩ = some (.int .i64 r.to) ∧ w'.cell? ⟨g, off + 7, none⟩ = some (.int .i64 r.tn) ∧ Below w0.heap.size w0 w' := by
  have key : ∀ (o : Nat) (v : Value), w.cell? ⟨g, o, none⟩ = some v → w'.cell? ⟨g, o, none⟩ = some v := fun o v e => (hb.cell (p := ⟨g, o, none⟩) (World.block_lt_of_cell? w ⟨g, o, none⟩ e)).trans e
  obtain ⟨h0, h1, h2, h3, h4, h5, h6, h7, hB⟩ := h
  exact ⟨key _ _ h0, key _ _ h1, key _ _ h2, key _ _ h3, key _ _ h4, key _ _ h5, key _ _ h6, key _ _ h7, hB.trans (hb.mono hB.size)⟩

set_option maxHeartbeats 1000000 in
theorem l2Line_1 (g off : Nat) (r : RuleI) (w : World) (hx : RuleAt w g off r) (h : r.k = 1) (hr : roleB r.ho r.hn = true) (hw : prinB r.w = true) :
    Calls Tryz.prog 41 #[.pointer (some ⟨g, off, none⟩)] w fun e w' => e = .returned (.string (lineT r)) ∧ Below w.heap.size w w' := by
  have E : Hid (lineT r = roleT r.ho r.hn ++ ⟨#[32, 60, 45, 32]⟩ ++ ⟨#[digitB r.w]⟩) := by show lineT r = _; rw [line_eq, tail_1 r h]
  have hs0 : (roleT r.ho r.hn).size = 3 := rfl
  have hs1 : (roleT r.oo r.on).size = 3 := rfl
  have hs2 : (roleT r.to r.tn).size = 3 := rfl
  have hw' : 1 ≤ r.w ∧ r.w ≤ 8 := by simpa [prinB] using hw
  obtain ⟨w1, w8⟩ := hw'
  have hX : Hid (RuleAt w g off r) := hx
  have hb : Below w.heap.size w w := Below.refl _ _
  obtain ⟨h0, h1, h2, h3, h4, h5, h6, h7⟩ := hx
  have hk : w.cell? ⟨g, off, none⟩ = some (.int .i64 1) := by rw [h0, h]
  go_enter Tryz.func41, Tryz.ntmps41
  go_wp2_with fail
  refine (l2Text_c r.ho r.hn hr _).mono ?_
  rintro e w1 ⟨rfl, hb1⟩
  replace hb := hb.trans (hb1.mono hb.size)
  clear h0 h1 h2 h3 h4 h5 h6 h7 hb1 hk
  obtain ⟨h0, h1, h2, h3, h4, h5, h6, h7⟩ := hX.out.below hb
  go_wp2_with fail
  refine (l1Digits_c r.w (by omega) (by omega) _).mono ?_
  rintro e w2 ⟨rfl, hb2⟩
  go_wp2
  go_ret
  exact ⟨by rw [E.out]; rfl, hb.trans (hb2.mono hb.size)⟩

set_option maxHeartbeats 1000000 in
theorem l2Line_2 (g off : Nat) (r : RuleI) (w : World) (hx : RuleAt w g off r) (h : r.k = 2) (hr : roleB r.ho r.hn = true) (ho : roleB r.oo r.on = true) :
    Calls Tryz.prog 41 #[.pointer (some ⟨g, off, none⟩)] w fun e w' => e = .returned (.string (lineT r)) ∧ Below w.heap.size w w' := by
  have E : Hid (lineT r = roleT r.ho r.hn ++ ⟨#[32, 60, 45, 32]⟩ ++ roleT r.oo r.on) := by show lineT r = _; rw [line_eq, tail_2 r h]
  have hs0 : (roleT r.ho r.hn).size = 3 := rfl
  have hs1 : (roleT r.oo r.on).size = 3 := rfl
  have hs2 : (roleT r.to r.tn).size = 3 := rfl
  have hX : Hid (RuleAt w g off r) := hx
  have hb : Below w.heap.size w w := Below.refl _ _
  obtain ⟨h0, h1, h2, h3, h4, h5, h6, h7⟩ := hx
  have hk : w.cell? ⟨g, off, none⟩ = some (.int .i64 2) := by rw [h0, h]
  go_enter Tryz.func41, Tryz.ntmps41
  go_wp2_with fail
  refine (l2Text_c r.ho r.hn hr _).mono ?_
  rintro e w1 ⟨rfl, hb1⟩
  replace hb := hb.trans (hb1.mono hb.size)
  clear h0 h1 h2 h3 h4 h5 h6 h7 hb1 hk
  obtain ⟨h0, h1, h2, h3, h4, h5, h6, h7⟩ := hX.out.below hb
  go_wp2_with fail
  refine (l2Text_c r.oo r.on ho _).mono ?_
  rintro e w2 ⟨rfl, hb2⟩
  go_wp2
  go_ret
  exact ⟨by rw [E.out]; rfl, hb.trans (hb2.mono hb.size)⟩

set_option maxRecDepth 20000 in
set_option maxHeartbeats 2000000 in
theorem l2Line_3 (g off : Nat) (r : RuleI) (w : World) (hx : RuleAt w g off r) (h : r.k = 3) (hr : roleB r.ho r.hn = true) (ho : roleB r.oo r.on = true) (hn : nameB r.tn = true) :
    Calls Tryz.prog 41 #[.pointer (some ⟨g, off, none⟩)] w fun e w' => e = .returned (.string (lineT r)) ∧ Below w.heap.size w w' := by
  have E : Hid (lineT r = roleT r.ho r.hn ++ ⟨#[32, 60, 45, 32]⟩ ++ roleT r.oo r.on ++ ⟨#[46]⟩ ++ ⟨#[digitB r.tn]⟩) := by show lineT r = _; rw [line_eq, tail_3 r h]; simp only [cat_assoc]
  have hs0 : (roleT r.ho r.hn).size = 3 := rfl
  have hs1 : (roleT r.oo r.on).size = 3 := rfl
  have hs2 : (roleT r.to r.tn).size = 3 := rfl
  have hn' : 1 ≤ r.tn ∧ r.tn ≤ 5 := by simpa [nameB] using hn
  obtain ⟨n1, n5⟩ := hn'
  have hX : Hid (RuleAt w g off r) := hx
  have hb : Below w.heap.size w w := Below.refl _ _
  obtain ⟨h0, h1, h2, h3, h4, h5, h6, h7⟩ := hx
  have hk : w.cell? ⟨g, off, none⟩ = some (.int .i64 3) := by rw [h0, h]
  go_enter Tryz.func41, Tryz.ntmps41
  go_wp2_with fail
  refine (l2Text_c r.ho r.hn hr _).mono ?_
  rintro e w1 ⟨rfl, hb1⟩
  replace hb := hb.trans (hb1.mono hb.size)
  clear h0 h1 h2 h3 h4 h5 h6 h7 hb1 hk
  obtain ⟨h0, h1, h2, h3, h4, h5, h6, h7⟩ := hX.out.below hb
  go_wp2_with fail
  go_region_held3 (fun w' => w'.cell? ⟨g, off, none⟩ = some (.int .i64 r.k) ∧ w'.cell? ⟨g, off + 1, none⟩ = some (.int .i64 r.ho) ∧ w'.cell? ⟨g, off + 2, none⟩ = some (.int .i64 r.hn) ∧ w'.cell? ⟨g, off + 3, none⟩ = some (.int .i64 r.w) ∧ w'.cell? ⟨g, off + 4, none⟩ = some (.int .i64 r.oo) ∧ w'.cell? ⟨g, off + 5, none⟩ = some (.int .i64 r.on) ∧ w'.cell? ⟨g, off + 6, none⟩ = some (.int .i64 r.to) ∧ w'.cell? ⟨g, off + 7, none⟩ = some (.int .i64 r.tn) ∧ Below w.heap.size w w') (first | exact hS | exact ⟨h0, h1, h2, h3, h4, h5, h6, h7, hb⟩ | exact ⟨by go_cell, by go_cell, by go_cell, by go_cell, by go_cell, by go_cell, by go_cell, by go_cell, hb.drew⟩)
    (first
      | (go_at_call 40; refine (withS (S := fun w' => w'.cell? ⟨g, off, none⟩ = some (.int .i64 r.k) ∧ w'.cell? ⟨g, off + 1, none⟩ = some (.int .i64 r.ho) ∧ w'.cell? ⟨g, off + 2, none⟩ = some (.int .i64 r.hn) ∧ w'.cell? ⟨g, off + 3, none⟩ = some (.int .i64 r.w) ∧ w'.cell? ⟨g, off + 4, none⟩ = some (.int .i64 r.oo) ∧ w'.cell? ⟨g, off + 5, none⟩ = some (.int .i64 r.on) ∧ w'.cell? ⟨g, off + 6, none⟩ = some (.int .i64 r.to) ∧ w'.cell? ⟨g, off + 7, none⟩ = some (.int .i64 r.tn) ∧ Below w.heap.size w w') (fun w' hb => keepR ?_ hb) (l1Digits_c r.tn (by omega) (by omega) _)).mono ?_; (first | assumption | exact ⟨h0, h1, h2, h3, h4, h5, h6, h7, hb⟩ | exact ⟨by go_cell, by go_cell, by go_cell, by go_cell, by go_cell, by go_cell, by go_cell, by go_cell, hb.drew⟩); rintro e w1 ⟨rfl, hS⟩)
      | (go_at_call 82; refine (withS (S := fun w' => w'.cell? ⟨g, off, none⟩ = some (.int .i64 r.k) ∧ w'.cell? ⟨g, off + 1, none⟩ = some (.int .i64 r.ho) ∧ w'.cell? ⟨g, off + 2, none⟩ = some (.int .i64 r.hn) ∧ w'.cell? ⟨g, off + 3, none⟩ = some (.int .i64 r.w) ∧ w'.cell? ⟨g, off + 4, none⟩ = some (.int .i64 r.oo) ∧ w'.cell? ⟨g, off + 5, none⟩ = some (.int .i64 r.on) ∧ w'.cell? ⟨g, off + 6, none⟩ = some (.int .i64 r.to) ∧ w'.cell? ⟨g, off + 7, none⟩ = some (.int .i64 r.tn) ∧ Below w.heap.size w w') (fun w' hb => keepR ?_ hb) (l2Text_c r.oo r.on ho _)).mono ?_; (first | assumption | exact ⟨h0, h1, h2, h3, h4, h5, h6, h7, hb⟩ | exact ⟨by go_cell, by go_cell, by go_cell, by go_cell, by go_cell, by go_cell, by go_cell, by go_cell, hb.drew⟩); rintro e w1 ⟨rfl, hS⟩))
  go_wp2
  go_ret
  exact ⟨by rw [E.out]; rfl, hS.2.2.2.2.2.2.2.2⟩

set_option maxRecDepth 20000 in
set_option maxHeartbeats 2000000 in
theorem l2Line_4 (g off : Nat) (r : RuleI) (w : World) (hx : RuleAt w g off r) (h : r.k = 4) (hr : roleB r.ho r.hn = true) (ho : roleB r.oo r.on = true) (ht : roleB r.to r.tn = true) :
    Calls Tryz.prog 41 #[.pointer (some ⟨g, off, none⟩)] w fun e w' => e = .returned (.string (lineT r)) ∧ Below w.heap.size w w' := by
  have E : Hid (lineT r = roleT r.ho r.hn ++ ⟨#[32, 60, 45, 32]⟩ ++ roleT r.oo r.on ++ ⟨#[32, 38, 32]⟩ ++ roleT r.to r.tn) := by show lineT r = _; rw [line_eq, tail_4 r h]; simp only [cat_assoc]
  have hs0 : (roleT r.ho r.hn).size = 3 := rfl
  have hs1 : (roleT r.oo r.on).size = 3 := rfl
  have hs2 : (roleT r.to r.tn).size = 3 := rfl
  have hX : Hid (RuleAt w g off r) := hx
  have hb : Below w.heap.size w w := Below.refl _ _
  obtain ⟨h0, h1, h2, h3, h4, h5, h6, h7⟩ := hx
  have hk : w.cell? ⟨g, off, none⟩ = some (.int .i64 4) := by rw [h0, h]
  go_enter Tryz.func41, Tryz.ntmps41
  go_wp2_with fail
  refine (l2Text_c r.ho r.hn hr _).mono ?_
  rintro e w1 ⟨rfl, hb1⟩
  replace hb := hb.trans (hb1.mono hb.size)
  clear h0 h1 h2 h3 h4 h5 h6 h7 hb1 hk
  obtain ⟨h0, h1, h2, h3, h4, h5, h6, h7⟩ := hX.out.below hb
  go_wp2_with fail
  go_region_held3 (fun w' => w'.cell? ⟨g, off, none⟩ = some (.int .i64 r.k) ∧ w'.cell? ⟨g, off + 1, none⟩ = some (.int .i64 r.ho) ∧ w'.cell? ⟨g, off + 2, none⟩ = some (.int .i64 r.hn) ∧ w'.cell? ⟨g, off + 3, none⟩ = some (.int .i64 r.w) ∧ w'.cell? ⟨g, off + 4, none⟩ = some (.int .i64 r.oo) ∧ w'.cell? ⟨g, off + 5, none⟩ = some (.int .i64 r.on) ∧ w'.cell? ⟨g, off + 6, none⟩ = some (.int .i64 r.to) ∧ w'.cell? ⟨g, off + 7, none⟩ = some (.int .i64 r.tn) ∧ Below w.heap.size w w') (first | exact hS | exact ⟨h0, h1, h2, h3, h4, h5, h6, h7, hb⟩ | exact ⟨by go_cell, by go_cell, by go_cell, by go_cell, by go_cell, by go_cell, by go_cell, by go_cell, hb.drew⟩)
    (first
      | (go_at_call 82; refine (withS (S := fun w' => w'.cell? ⟨g, off, none⟩ = some (.int .i64 r.k) ∧ w'.cell? ⟨g, off + 1, none⟩ = some (.int .i64 r.ho) ∧ w'.cell? ⟨g, off + 2, none⟩ = some (.int .i64 r.hn) ∧ w'.cell? ⟨g, off + 3, none⟩ = some (.int .i64 r.w) ∧ w'.cell? ⟨g, off + 4, none⟩ = some (.int .i64 r.oo) ∧ w'.cell? ⟨g, off + 5, none⟩ = some (.int .i64 r.on) ∧ w'.cell? ⟨g, off + 6, none⟩ = some (.int .i64 r.to) ∧ w'.cell? ⟨g, off + 7, none⟩ = some (.int .i64 r.tn) ∧ Below w.heap.size w w') (fun w' hb => keepR ?_ hb) (l2Text_c _ _ (by assumption) _)).mono ?_; (first | assumption | exact ⟨h0, h1, h2, h3, h4, h5, h6, h7, hb⟩ | exact ⟨by go_cell, by go_cell, by go_cell, by go_cell, by go_cell, by go_cell, by go_cell, by go_cell, hb.drew⟩); rintro e w1 ⟨rfl, hS⟩))
  go_wp2
  go_ret
  exact ⟨by rw [E.out]; rfl, hS.2.2.2.2.2.2.2.2⟩

end Go.Proofs.YtnfolmjdicfobaaGreatDoor

namespace Go.Proofs.YtnfolmjdicfobaaGreatDoor
open Go.RowKit
set_option linter.unusedVariables false
set_option linter.unusedSimpArgs false

theorem l2Line_c (g off : Nat) (r : RuleI) (w : World) (hx : RuleAt w g off r) (hc : ruleCode r = 0) :
    Calls Tryz.prog 41 #[.pointer (some ⟨g, off, none⟩)] w fun e w' => e = .returned (.string (lineT r)) ∧ Below w.heap.size w w' := by
  obtain ⟨hk, hr, hb, hh⟩ := code0 hc
  have hk' : r.k = 1 ∨ r.k = 2 ∨ r.k = 3 ∨ r.k = 4 := by omega
  rcases hk' with e | e | e | e
  · exact l2Line_1 g off r w hx e hr (by simpa [hasB, e] using hh)
  · exact l2Line_2 g off r w hx e hr (by simpa [hasB, e] using hh)
  · have : roleB r.oo r.on = true ∧ nameB r.tn = true := by simpa [hasB, e] using hh
    exact l2Line_3 g off r w hx e hr this.1 this.2
  · have : roleB r.oo r.on = true ∧ roleB r.to r.tn = true := by simpa [hasB, e] using hh
    exact l2Line_4 g off r w hx e hr this.1 this.2

/-- What bodyOf and bodyText do together, of a rule without fault. -/
theorem body_both (r : RuleI) (hc : ruleCode r = 0) : ∃ t v, (∀ w : World, Calls Tryz.prog 118 #[.agg #[.int .i64 r.k, .int .i64 r.ho, .int .i64 r.hn, .int .i64 r.w, .int .i64 r.oo, .int .i64 r.on, .int .i64 r.to, .int .i64 r.tn]] w fun e w' => e = .returned (.iface t v) ∧ Below w.heap.size w w') ∧
    (∀ w : World, Calls Tryz.prog 117 #[.iface t v] w fun e w' => e = .returned (.string (tailT r)) ∧ Below w.heap.size w w') := by
  obtain ⟨hk, hr, hb, hh⟩ := code0 hc
  have hk' : r.k = 1 ∨ r.k = 2 ∨ r.k = 3 ∨ r.k = 4 := by omega
  rcases hk' with e | e | e | e
  · exact ⟨_, _, bodyOf_1 r e, bodyText_1 r e (by simpa [hasB, e] using hh)⟩
  · exact ⟨_, _, bodyOf_2 r e, bodyText_2 r e (by simpa [hasB, e] using hh)⟩
  · have : roleB r.oo r.on = true ∧ nameB r.tn = true := by simpa [hasB, e] using hh
    exact ⟨_, _, bodyOf_3 r e, bodyText_3 r e this.1 this.2⟩
  · have : roleB r.oo r.on = true ∧ roleB r.to r.tn = true := by simpa [hasB, e] using hh
    exact ⟨_, _, bodyOf_4 r e, bodyText_4 r e this.1 this.2⟩

set_option maxHeartbeats 400000 in
theorem implRuleText_out (r : RuleI) (c : Int) (hcr : ruleCode r = c) (h0 : c ≠ 0) (w : World) :
    Calls Tryz.prog 77 #[.agg #[.int .i64 r.k, .int .i64 r.ho, .int .i64 r.hn, .int .i64 r.w, .int .i64 r.oo, .int .i64 r.on, .int .i64 r.to, .int .i64 r.tn]] w fun e w' => e = .returned (.agg #[.int .i64 c, .string ⟨#[]⟩]) ∧ Below w.heap.size w w' := by
  have hc0 : (c != 0) = true := by simpa using h0
  go_enter Tryz.func77, Tryz.ntmps77
  go_wp2_with fail
  refine (implRuleFault_c r _).mono ?_
  rintro e w1 ⟨rfl, hb1⟩
  rw [hcr]
  clear h0 hcr
  obtain ⟨hc1, hf1⟩ := bcell hb1
  have hz1 := hb1.size
  simp only [World.size_alloc] at hc1 hf1 hz1
  have hlt1 : w.heap.size + 1 < w1.heap.size := by omega
  have c0 : w1.cell? ⟨w.heap.size + 1, 0, none⟩ = some (.int .i64 0) := (hc1 _ _ (by omega)).trans (by go_cell)
  have c1 : w1.cell? ⟨w.heap.size + 1, 1, none⟩ = some (.string ⟨#[]⟩) := (hc1 _ _ (by omega)).trans (by go_cell)
  have f0 : w1.frozen? ⟨w.heap.size + 1, 0, none⟩ = false := (hf1 _ _ (by omega)).trans (by simp [go_sem])
  have f1 : w1.frozen? ⟨w.heap.size + 1, 1, none⟩ = false := (hf1 _ _ (by omega)).trans (by simp [go_sem])
  clear hc1 hf1
  go_wp2
  refine bodyPost_ret (v := .agg #[.int .i64 c, .string ⟨#[]⟩]) (by simp [results, Tryz.results77, go_sem, c0, c1]) rfl ⟨rfl, ?_⟩
  exact ((below_new (below_new hb1)).setCell (by simp) _).setCell (by simp) _

end Go.Proofs.YtnfolmjdicfobaaGreatDoor

namespace Go.Proofs.YtnfolmjdicfobaaGreatDoor
open Go.RowKit
set_option linter.unusedVariables false
set_option linter.unusedSimpArgs false

theorem keepF {g q : Nat} {r : RuleI} {w0 w w' : World} (h : w.cell? ⟨g, 0, none⟩ = some (.int .i64 r.k) ∧ w.cell? ⟨g, 1, none⟩ = some (.int .i64 r.ho) ∧ w.cell? ⟨g, 2, none⟩ = some (.int .i64 r.hn) ∧ w.cell? ⟨g, 3, none⟩ = some (.int .i64 r.w) ∧ w.cell? ⟨g, 4, none⟩ = some (.int .i64 r.oo) ∧ w.cell? ⟨g, 5, none⟩ = some (.int .i64 r.on) ∧ w.cell? ⟨g, 6, none⟩ = some (.int .i64 r.to) ∧ w.cell? ⟨g, 7, none⟩ = some (.int .i64 r.tn) ∧ w.cell? ⟨q, 0, none⟩ = some (.int .i64 0) ∧ w.cell? ⟨q, 1, none⟩ = some (.string ⟨#[]⟩) ∧ w.frozen? ⟨q, 0, none⟩ = false ∧ w.frozen? ⟨q, 1, none⟩ = false ∧ Below w0.heap.size w0 w) (hb : Below w.heap.size w w') : w'.cell? ⟨g, 0, none⟩ = some (.int .i64 r.k) ∧ w'.cell? ⟨g, 1, none⟩ = some (.int .i64 r.ho) ∧ w'.cell? ⟨g, 2, none⟩ = some (.int .i64 r.hn) ∧ w'.cell? ⟨g, 3, none⟩ = some (.int .i64 r.w) ∧ w'.cell? ⟨g, 4, none⟩ = some (.int .i64 r.oo) ∧ w'.cell? ⟨g, 5, none⟩ = some (.int .i64 r.on) ∧ w'.cell? ⟨g, 6, none⟩ = some (.int .i64 r.to) ∧ w'.cell? ⟨g, 7, none⟩ = some (.int .i64 r.tn) ∧ w'.cell? ⟨q, 0, none⟩ = some (.int .i64 0) ∧ w'.cell? ⟨q, 1, none⟩ = some (.string ⟨#[]⟩) ∧ w'.frozen? ⟨q, 0, none⟩ = false ∧ w'.frozen? ⟨q, 1, none⟩ = false ∧ Below w0.heap.size w0 w' := by
  have key : ∀ (g o : Nat) (v : Value), w.cell? ⟨g, o, none⟩ = some v → w'.cell? ⟨g, o, none⟩ = some v := fun g o v e => (hb.cell (p := ⟨g, o, none⟩) (World.block_lt_of_cell? w ⟨g, o, none⟩ e)).trans e
  obtain ⟨h0, h1, h2, h3, h4, h5, h6, h7, c0, c1, f0, f1, hB⟩ := h
  have hq := World.block_lt_of_cell? w ⟨q, 0, none⟩ c0
  exact ⟨key _ _ _ h0, key _ _ _ h1, key _ _ _ h2, key _ _ _ h3, key _ _ _ h4, key _ _ _ h5, key _ _ _ h6, key _ _ _ h7, key _ _ _ c0, key _ _ _ c1, (hb.frozen (p := ⟨q, 0, none⟩) hq).trans f0, (hb.frozen (p := ⟨q, 1, none⟩) hq).trans f1, hB.trans (hb.mono hB.size)⟩

theorem tail_size4 (r : RuleI) (h : 1 ≤ r.k ∧ r.k ≤ 4) : (tailT r).size = 1 ∨ (tailT r).size = 3 ∨ (tailT r).size = 5 ∨ (tailT r).size = 9 := by
  have hk' : r.k = 1 ∨ r.k = 2 ∨ r.k = 3 ∨ r.k = 4 := by omega
  rcases hk' with e | e | e | e
  · left; simp [tailT, tailL, e, ByteArray.size]
  · right; left; simp [tailT, tailL, e, ByteArray.size]
  · right; right; left; simp [tailT, tailL, e, ByteArray.size]
  · right; right; right; simp [tailT, tailL, e, ByteArray.size]

set_option maxRecDepth 20000 in
set_option maxHeartbeats 2000000 in
theorem ruleText_n (n : Nat) (hn : n = 1 ∨ n = 3 ∨ n = 5 ∨ n = 9) (r : RuleI) (hs1 : (tailT r).size = n) (hc : ruleCode r = 0) (w : World) :
    Calls Tryz.prog 77 #[.agg #[.int .i64 r.k, .int .i64 r.ho, .int .i64 r.hn, .int .i64 r.w, .int .i64 r.oo, .int .i64 r.on, .int .i64 r.to, .int .i64 r.tn]] w fun e w' => e = .returned (.agg #[.int .i64 0, .string (lineT r)]) ∧ Below w.heap.size w w' := by
  obtain ⟨t, v, HO, HT⟩ := body_both r hc
  have HO' : Hid (∀ w : World, Calls Tryz.prog 118 #[.agg #[.int .i64 r.k, .int .i64 r.ho, .int .i64 r.hn, .int .i64 r.w, .int .i64 r.oo, .int .i64 r.on, .int .i64 r.to, .int .i64 r.tn]] w fun e w' => e = .returned (.iface t v) ∧ Below w.heap.size w w') := HO
  have HT' : Hid (∀ w : World, Calls Tryz.prog 117 #[.iface t v] w fun e w' => e = .returned (.string (tailT r)) ∧ Below w.heap.size w w') := HT
  clear HO HT
  have hr := (code0 hc).2.1
  have E : Hid (lineT r = roleT r.ho r.hn ++ ⟨#[32, 60, 45, 32]⟩ ++ tailT r) := line_eq r
  have hs0 : (roleT r.ho r.hn).size = 3 := rfl
  rcases hn with rfl | rfl | rfl | rfl
  all_goals
    go_enter Tryz.func77, Tryz.ntmps77
    go_wp2_with fail
    refine (implRuleFault_c r _).mono ?_
    rintro e w1 ⟨rfl, hb1⟩
    rw [hc]
    obtain ⟨d0, d1, d2, d3, d4, d5, d6, d7⟩ := ((RuleAt.new w r _).below ((Below.refl _ _).alloc (Nat.le_refl _) _)).below hb1
    simp only [Nat.zero_add] at d0 d1 d2 d3 d4 d5 d6 d7
    obtain ⟨hc1, hf1⟩ := bcell hb1
    have hz1 := hb1.size
    simp only [World.size_alloc] at hc1 hf1 hz1
    have hlt1 : w.heap.size + 1 < w1.heap.size := by omega
    have c0 : w1.cell? ⟨w.heap.size + 1, 0, none⟩ = some (.int .i64 0) := (hc1 _ _ (by omega)).trans (by go_cell)
    have c1 : w1.cell? ⟨w.heap.size + 1, 1, none⟩ = some (.string ⟨#[]⟩) := (hc1 _ _ (by omega)).trans (by go_cell)
    have f0 : w1.frozen? ⟨w.heap.size + 1, 0, none⟩ = false := (hf1 _ _ (by omega)).trans (by simp [go_sem])
    have f1 : w1.frozen? ⟨w.heap.size + 1, 1, none⟩ = false := (hf1 _ _ (by omega)).trans (by simp [go_sem])
    have B1 : Below w.heap.size w w1 := below_new (below_new hb1)
    clear hc1 hf1
    go_wp2_with fail
    go_region_held3 (fun w' => w'.cell? ⟨w.heap.size, 0, none⟩ = some (.int .i64 r.k) ∧ w'.cell? ⟨w.heap.size, 1, none⟩ = some (.int .i64 r.ho) ∧ w'.cell? ⟨w.heap.size, 2, none⟩ = some (.int .i64 r.hn) ∧ w'.cell? ⟨w.heap.size, 3, none⟩ = some (.int .i64 r.w) ∧ w'.cell? ⟨w.heap.size, 4, none⟩ = some (.int .i64 r.oo) ∧ w'.cell? ⟨w.heap.size, 5, none⟩ = some (.int .i64 r.on) ∧ w'.cell? ⟨w.heap.size, 6, none⟩ = some (.int .i64 r.to) ∧ w'.cell? ⟨w.heap.size, 7, none⟩ = some (.int .i64 r.tn) ∧ Below w.heap.size w w') (first | exact ⟨hS.1, hS.2.1, hS.2.2.1, hS.2.2.2.1, hS.2.2.2.2.1, hS.2.2.2.2.2.1, hS.2.2.2.2.2.2.1, hS.2.2.2.2.2.2.2.1, hS.2.2.2.2.2.2.2.2.2.2.2.2⟩ | exact ⟨d0, d1, d2, d3, d4, d5, d6, d7, B1⟩ | exact ⟨d0, d1, d2, d3, d4, d5, d6, d7, B1.drew⟩ | (obtain ⟨e0, e1, e2, e3, e4, e5, e6, e7, _, _, _, _, eB⟩ := hS; exact ⟨by go_cell, by go_cell, by go_cell, by go_cell, by go_cell, by go_cell, by go_cell, by go_cell, (eB.setCell (by simp) _).setCell (by simp) _⟩))
      (first
        | (go_at_call 104; refine (withS (S := fun w' => w'.cell? ⟨w.heap.size, 0, none⟩ = some (.int .i64 r.k) ∧ w'.cell? ⟨w.heap.size, 1, none⟩ = some (.int .i64 r.ho) ∧ w'.cell? ⟨w.heap.size, 2, none⟩ = some (.int .i64 r.hn) ∧ w'.cell? ⟨w.heap.size, 3, none⟩ = some (.int .i64 r.w) ∧ w'.cell? ⟨w.heap.size, 4, none⟩ = some (.int .i64 r.oo) ∧ w'.cell? ⟨w.heap.size, 5, none⟩ = some (.int .i64 r.on) ∧ w'.cell? ⟨w.heap.size, 6, none⟩ = some (.int .i64 r.to) ∧ w'.cell? ⟨w.heap.size, 7, none⟩ = some (.int .i64 r.tn) ∧ w'.cell? ⟨w.heap.size + 1, 0, none⟩ = some (.int .i64 0) ∧ w'.cell? ⟨w.heap.size + 1, 1, none⟩ = some (.string ⟨#[]⟩) ∧ w'.frozen? ⟨w.heap.size + 1, 0, none⟩ = false ∧ w'.frozen? ⟨w.heap.size + 1, 1, none⟩ = false ∧ Below w.heap.size w w') (fun w' hb => keepF ?_ hb) (roleText_c _ _ hr _)).mono ?_; (first | exact hS | exact ⟨d0, d1, d2, d3, d4, d5, d6, d7, c0, c1, f0, f1, B1⟩ | exact ⟨d0, d1, d2, d3, d4, d5, d6, d7, c0, c1, f0, f1, B1.drew⟩); rintro e w1 ⟨rfl, hS⟩)
        | (go_at_call 118; refine (withS (S := fun w' => w'.cell? ⟨w.heap.size, 0, none⟩ = some (.int .i64 r.k) ∧ w'.cell? ⟨w.heap.size, 1, none⟩ = some (.int .i64 r.ho) ∧ w'.cell? ⟨w.heap.size, 2, none⟩ = some (.int .i64 r.hn) ∧ w'.cell? ⟨w.heap.size, 3, none⟩ = some (.int .i64 r.w) ∧ w'.cell? ⟨w.heap.size, 4, none⟩ = some (.int .i64 r.oo) ∧ w'.cell? ⟨w.heap.size, 5, none⟩ = some (.int .i64 r.on) ∧ w'.cell? ⟨w.heap.size, 6, none⟩ = some (.int .i64 r.to) ∧ w'.cell? ⟨w.heap.size, 7, none⟩ = some (.int .i64 r.tn) ∧ w'.cell? ⟨w.heap.size + 1, 0, none⟩ = some (.int .i64 0) ∧ w'.cell? ⟨w.heap.size + 1, 1, none⟩ = some (.string ⟨#[]⟩) ∧ w'.frozen? ⟨w.heap.size + 1, 0, none⟩ = false ∧ w'.frozen? ⟨w.heap.size + 1, 1, none⟩ = false ∧ Below w.heap.size w w') (fun w' hb => keepF ?_ hb) (HO'.out _)).mono ?_; (first | exact hS | exact ⟨d0, d1, d2, d3, d4, d5, d6, d7, c0, c1, f0, f1, B1⟩ | exact ⟨d0, d1, d2, d3, d4, d5, d6, d7, c0, c1, f0, f1, B1.drew⟩); rintro e w1 ⟨rfl, hS⟩)
        | (go_at_call 117; refine (withS (S := fun w' => w'.cell? ⟨w.heap.size, 0, none⟩ = some (.int .i64 r.k) ∧ w'.cell? ⟨w.heap.size, 1, none⟩ = some (.int .i64 r.ho) ∧ w'.cell? ⟨w.heap.size, 2, none⟩ = some (.int .i64 r.hn) ∧ w'.cell? ⟨w.heap.size, 3, none⟩ = some (.int .i64 r.w) ∧ w'.cell? ⟨w.heap.size, 4, none⟩ = some (.int .i64 r.oo) ∧ w'.cell? ⟨w.heap.size, 5, none⟩ = some (.int .i64 r.on) ∧ w'.cell? ⟨w.heap.size, 6, none⟩ = some (.int .i64 r.to) ∧ w'.cell? ⟨w.heap.size, 7, none⟩ = some (.int .i64 r.tn) ∧ w'.cell? ⟨w.heap.size + 1, 0, none⟩ = some (.int .i64 0) ∧ w'.cell? ⟨w.heap.size + 1, 1, none⟩ = some (.string ⟨#[]⟩) ∧ w'.frozen? ⟨w.heap.size + 1, 0, none⟩ = false ∧ w'.frozen? ⟨w.heap.size + 1, 1, none⟩ = false ∧ Below w.heap.size w w') (fun w' hb => keepF ?_ hb) (HT'.out _)).mono ?_; (first | exact hS | exact ⟨d0, d1, d2, d3, d4, d5, d6, d7, c0, c1, f0, f1, B1⟩ | exact ⟨d0, d1, d2, d3, d4, d5, d6, d7, c0, c1, f0, f1, B1.drew⟩); rintro e w1 ⟨rfl, hS⟩))
    go_wp2
    obtain ⟨_, _, _, _, _, _, _, _, g0, g1, _, _, gB⟩ := hS
    refine bodyPost_ret (v := .agg #[.int .i64 0, .string (lineT r)]) (by simp [results, Tryz.results77, go_sem, g0, g1, E.out]) rfl ⟨rfl, ?_⟩
    exact (gB.setCell (by simp) _).setCell (by simp) _

theorem implRuleText_in (r : RuleI) (hc : ruleCode r = 0) (w : World) :
    Calls Tryz.prog 77 #[.agg #[.int .i64 r.k, .int .i64 r.ho, .int .i64 r.hn, .int .i64 r.w, .int .i64 r.oo, .int .i64 r.on, .int .i64 r.to, .int .i64 r.tn]] w fun e w' => e = .returned (.agg #[.int .i64 0, .string (lineT r)]) ∧ Below w.heap.size w w' :=
  ruleText_n _ (tail_size4 r (code0 hc).1) r rfl hc w

end Go.Proofs.YtnfolmjdicfobaaGreatDoor
