/-
  CONTRACTS: spec.l3Of, the set of a role.
  Conditions: each contract bears its own.
-/
import Derived.Test.YtaeigimgobilaaaGreatDoorGr1
import Derived.Test.YtaeigimgobilaaaGreatDoorPol1
import Derived.Test.YtaeigimgobilaaaGreatDoorSpec1
import Derived.WalkSmall
import Derived.BigQuiet
import Derived.Deep.QuietTactic
namespace Go.Proofs.YtaeigimgobilaaaGreatDoor
open Go.RowKit
set_option linter.unusedVariables false
set_option linter.unusedSimpArgs false

/-- A grant in memory. -/
def GrAt (w : World) (b o : Nat) (x : GrI) : Prop := w.cell? ⟨b, o, none⟩ = some (.int .i64 x.1.1) ∧ w.cell? ⟨b, o + 1, none⟩ = some (.int .i64 x.1.2) ∧ w.cell? ⟨b, o + 2, none⟩ = some (.int .i64 x.2)

theorem GrAt.below {w w' : World} {B b o : Nat} {x : GrI} (h : GrAt w b o x) (hb : Below B w w') (hB : b < B) : GrAt w' b o x :=
  ⟨(hb.cell (p := ⟨b, o, none⟩) hB).trans h.1, (hb.cell (p := ⟨b, o + 1, none⟩) hB).trans h.2.1, (hb.cell (p := ⟨b, o + 2, none⟩) hB).trans h.2.2⟩

/-- Grants in memory. -/
def GrIn (w : World) (a : Option Addr) (n : Nat) (gs : List GrI) : Prop := gs.length = n ∧ (0 < n → ∃ b off, a = some ⟨b, off, none⟩ ∧ ∀ k x, gs[k]? = some x → GrAt w b (off + k * 3) x)

theorem GrIn.below {w w' : World} {a : Option Addr} {n : Nat} {gs : List GrI} (h : GrIn w a n gs) (hb : Below w.heap.size w w') : GrIn w' a n gs := by
  refine ⟨h.1, fun hn => ?_⟩
  obtain ⟨b, off, e, k⟩ := h.2 hn
  exact ⟨b, off, e, fun j x hx => (k j x hx).below hb (World.block_lt_of_cell? w ⟨b, off + j * 3, none⟩ (k j x hx).1)⟩

theorem GrIn.at {w : World} {a : Option Addr} {n : Nat} {gs : List GrI} (h : GrIn w a n gs) {k : Nat} (hk : k < n) : ∃ b off x, a = some ⟨b, off, none⟩ ∧ gs[k]? = some x ∧ GrAt w b (off + k * 3) x ∧ b < w.heap.size := by
  obtain ⟨b, off, e, q⟩ := h.2 (by omega)
  have hx := List.getElem?_eq_getElem (l := gs) (i := k) (by rw [h.1]; exact hk)
  exact ⟨b, off, _, e, hx, q k _ hx, World.block_lt_of_cell? w ⟨b, off + k * 3, none⟩ (q k _ hx).1⟩

theorem ofG_drop {gs : List GrI} {k : Nat} {x : GrI} (h : gs[k]? = some x) (r : RoI) : ofG (gs.drop k) r = if x.1 = r then x.2 else ofG (gs.drop (k + 1)) r := by
  have hk : k < gs.length := by
    by_cases q : k < gs.length
    · exact q
    · rw [List.getElem?_eq_none (by omega)] at h; cases h
  have e : gs[k] = x := by rw [List.getElem?_eq_getElem hk] at h; exact Option.some.inj h
  rw [List.drop_eq_getElem_cons hk, e]
  rfl

def eqRo (p q : RoI) : Bool := p.1 == q.1 && p.2 == q.2
theorem eqRo_iff (p q : RoI) : eqRo p q = true ↔ p = q := by
  obtain ⟨a, b⟩ := p
  obtain ⟨c, d⟩ := q
  simp [eqRo]

set_option maxHeartbeats 400000 in
theorem ro_eql (p q : RoI) (w : World) : (binOp .eql 66 (.agg #[.int .i64 p.1, .int .i64 p.2]) (.agg #[.int .i64 q.1, .int .i64 q.2])).run Tryz.prog w = .ok (.bool (eqRo p q)) w := by
  obtain ⟨a0, a1⟩ := p
  obtain ⟨b0, b1⟩ := q
  simp only [eqRo]
  cases e0 : (a0 == b0)
  · simp [go_sem, e0]
  cases e1 : (a1 == b1)
  · simp [go_sem, e0, e1]
  · simp [go_sem, e0, e1]

attribute [local go_sem ↓] ro_eql

set_option maxHeartbeats 1000000 in
theorem l3Of_c (a : Option Addr) (n c : Nat) (gs : List GrI) (r : RoI) (w : World) (hg : GrIn w a n gs) (hn : n ≤ 1048576) :
    Calls Tryz.prog 78 #[.slice a n c, .agg #[.int .i64 r.1, .int .i64 r.2]] w fun e w' => e = .returned (.int .i64 (ofG gs r)) ∧ Below w.heap.size w w' := by
  have W0 : Hid (GrIn (w.alloc (.cells #[.int .i64 r.1, .int .i64 r.2] 66)) a n gs) := hg.below ((Below.refl _ _).alloc (Nat.le_refl _) _)
  have R0 : Hid ((w.alloc (.cells #[.int .i64 r.1, .int .i64 r.2] 66)).cell? ⟨w.heap.size, 0, none⟩ = some (.int .i64 r.1) ∧ (w.alloc (.cells #[.int .i64 r.1, .int .i64 r.2] 66)).cell? ⟨w.heap.size, 1, none⟩ = some (.int .i64 r.2)) := ⟨by simp, by simp⟩
  clear hg
  have hn' : (n : Int) ≤ 1048576 := by omega
  go_enter Tryz.func78, Tryz.ntmps78
  go_wp2
  go_loopw [5] (fun i wr => ∃ k : Nat, k ≤ n ∧ i = .int .i64 (k : Int) ∧ ofG gs r = ofG (gs.drop k) r ∧ ∃ m, wr = (w.alloc (.cells #[.int .i64 r.1, .int .i64 r.2] 66)).drewN m) (fun i _ => n - (intOf i).toNat)
  case atStart => exact ⟨0, Nat.zero_le _, rfl, rfl, 0, rfl⟩
  case round =>
    obtain ⟨k, hk, rfl, hof, m, rfl⟩ := hrel
    have HF : Hid (ofG gs r = ofG (gs.drop k) r) := hof
    clear hof
    by_cases hlt : k < n
    · obtain ⟨b, off, x, e, hx, ⟨c0, c1, c2⟩, hbl⟩ := W0.out.at hlt
      obtain ⟨r0, r1⟩ := R0.out
      subst e
      have HX : Hid (gs[k]? = some x) := hx
      clear hx
      have hlt' : (k : Int) < (n : Int) := by omega
      cases he : eqRo x.1 r
      · have HE : Hid (ofG gs r = ofG (gs.drop (k + 1)) r) := by
          show ofG gs r = _
          rw [HF.out, ofG_drop HX.out, if_neg (fun q => by rw [(eqRo_iff _ _).2 q] at he; cases he)]
        go_wp2
        go_quiet (fail)
        go_wp2
        exact ⟨⟨k + 1, by omega, by go_num, HE.out, _, rfl⟩, by simp [intOf]; omega⟩
      · have HE : Hid (ofG gs r = x.2) := by
          show ofG gs r = _
          rw [HF.out, ofG_drop HX.out, if_pos ((eqRo_iff _ _).1 he)]
        go_wp2
        go_quiet (fail)
        go_wp2
        go_ret
        exact ⟨by rw [HE.out]; rfl, bdN ((Below.refl _ _).alloc (Nat.le_refl _) _) _⟩
    · have hkn : k = n := by omega
      subst hkn
      go_wp2
      go_ret
      have : ofG gs r = 0 := by rw [HF.out, List.drop_eq_nil_of_le (by rw [W0.out.1]; exact Nat.le_refl _)]; rfl
      exact ⟨by rw [this]; rfl, bdN ((Below.refl _ _).alloc (Nat.le_refl _) _) _⟩

end Go.Proofs.YtaeigimgobilaaaGreatDoor
