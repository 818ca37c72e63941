/-
  CONTRACTS: spec.l3Of, the set of a role.
  Conditions: each contract bears its own.
  CONTRACTS: PartsFault of both programs.
  Conditions: each contract bears its own.
  CONTRACT: spec.PartsFault.
  Conditions: each contract bears its own.
-/
import Derived.Test.YtnfolmjdicfobaaPk10
import Derived.Test.YtnfolmjdicfobaaPk02
import Derived.Test.YtnfolmjdicfobaaPk03
import Derived.WalkSmall
import Derived.BigQuiet
import Derived.Deep.QuietTactic
import Derived.Test.YtnfolmjdicfobaaPk01
namespace Go.Proofs.Ytnfolmjdicfobaa
open Go.RowKit
set_option linter.unusedVariables false
set_option linter.unusedSimpArgs false

/-- A grant in memory. -/
def GrAt (w : World) (b o : Nat) (x : GrI) : Prop := w.cell? ⟨b, o, none⟩ = some (.int .i64 x.1.1) ∧ w.cell? ⟨b, o + 1, none⟩ = some (.int .i64 x.1.2) ∧ w.cell? ⟨b, o + 2, none⟩ = some (.int .i64 x.2)

theorem GrAt.below {w w' : World} {B b o : Nat} {x : GrI} (h : GrAt w b o x) (hb : Below B w w') (hB : b < B) : GrAt w' b o x :=
  ⟨(hb.cell (p := ⟨b, o, none⟩) hB).trans h.1, (hb.cell (p := ⟨b, o + 1, none⟩) hB).trans h.2.1, (hb.cell (p := ⟨b, o + 2, none⟩) hB).trans h.2.2⟩

/-- Grants in memory. -/
def GrIn (w : World) (a : Option Addr) (n : Nat) (gs : List GrI) : Prop := gs.length = n ∧ (0 < n → ∃ b off, a = some ⟨b, off, none⟩ ∧ ∀ k x, gs[k]? = some x → GrAt w b (off + k * 3) x)

theorem GrIn.below {w w' : World} {a : Option Addr} {n : Nat} {gs : List GrI} (h : GrIn w a n gs) (hb : Below w.heap.size w w') : GrIn w' a n gs := by
  refine ⟨h.1, fun hn => ?_⟩
  obtain ⟨b, off, e, k⟩ := h.2 hn
  exact ⟨b, off, e, fun j x hx => (k j x hx).below hb (World.block_lt_of_cell? w ⟨b, off + j * 3, none⟩ (k j x hx).1)⟩

theorem GrIn.at {w : World} {a : Option Addr} {n : Nat} {gs : List GrI} (h : GrIn w a n gs) {k : Nat} (hk : k < n) : ∃ b off x, a = some ⟨b, off, none⟩ ∧ gs[k]? = some x ∧ GrAt w b (off + k * 3) x ∧ b < w.heap.size := by
  obtain ⟨b, off, e, q⟩ := h.2 (by omega)
  have hx := List.getElem?_eq_getElem (l := gs) (i := k) (by rw [h.1]; exact hk)
  exact ⟨b, off, _, e, hx, q k _ hx, World.block_lt_of_cell? w ⟨b, off + k * 3, none⟩ (q k _ hx).1⟩

theorem ofG_drop {gs : List GrI} {k : Nat} {x : GrI} (h : gs[k]? = some x) (r : RoI) : ofG (gs.drop k) r = if x.1 = r then x.2 else ofG (gs.drop (k + 1)) r := by
  have hk : k < gs.length := by
    by_cases q : k < gs.length
    · exact q
    · rw [List.getElem?_eq_none (by omega)] at h; cases h
  have e : gs[k] = x := by rw [List.getElem?_eq_getElem hk] at h; exact Option.some.inj h
  rw [List.drop_eq_getElem_cons hk, e]
  rfl

def eqRo (p q : RoI) : Bool := p.1 == q.1 && p.2 == q.2
theorem eqRo_iff (p q : RoI) : eqRo p q = true ↔ p = q := by
  obtain ⟨a, b⟩ := p
  obtain ⟨c, d⟩ := q
  simp [eqRo]

set_option maxHeartbeats 400000 in
theorem ro_eql (p q : RoI) (w : World) : (binOp .eql 76 (.agg #[.int .i64 p.1, .int .i64 p.2]) (.agg #[.int .i64 q.1, .int .i64 q.2])).run Try.prog w = .ok (.bool (eqRo p q)) w := by
  obtain ⟨a0, a1⟩ := p
  obtain ⟨b0, b1⟩ := q
  simp only [eqRo]
  cases e0 : (a0 == b0)
  · simp [go_sem, e0]
  cases e1 : (a1 == b1)
  · simp [go_sem, e0, e1]
  · simp [go_sem, e0, e1]

attribute [local go_sem ↓] ro_eql

set_option maxHeartbeats 1000000 in
theorem l3Of_c (a : Option Addr) (n c : Nat) (gs : List GrI) (r : RoI) (w : World) (hg : GrIn w a n gs) (hn : n ≤ 1048576) :
    Calls Try.prog 78 #[.slice a n c, .agg #[.int .i64 r.1, .int .i64 r.2]] w fun e w' => e = .returned (.int .i64 (ofG gs r)) ∧ Below w.heap.size w w' := by
  have W0 : Hid (GrIn (w.alloc (.cells #[.int .i64 r.1, .int .i64 r.2] 76)) a n gs) := hg.below ((Below.refl _ _).alloc (Nat.le_refl _) _)
  have R0 : Hid ((w.alloc (.cells #[.int .i64 r.1, .int .i64 r.2] 76)).cell? ⟨w.heap.size, 0, none⟩ = some (.int .i64 r.1) ∧ (w.alloc (.cells #[.int .i64 r.1, .int .i64 r.2] 76)).cell? ⟨w.heap.size, 1, none⟩ = some (.int .i64 r.2)) := ⟨by simp, by simp⟩
  clear hg
  have hn' : (n : Int) ≤ 1048576 := by omega
  go_enter Try.func78, Try.ntmps78
  go_wp2
  go_loopw [5] (fun i wr => ∃ k : Nat, k ≤ n ∧ i = .int .i64 (k : Int) ∧ ofG gs r = ofG (gs.drop k) r ∧ ∃ m, wr = (w.alloc (.cells #[.int .i64 r.1, .int .i64 r.2] 76)).drewN m) (fun i _ => n - (intOf i).toNat)
  case atStart => exact ⟨0, Nat.zero_le _, rfl, rfl, 0, rfl⟩
  case round =>
    obtain ⟨k, hk, rfl, hof, m, rfl⟩ := hrel
    have HF : Hid (ofG gs r = ofG (gs.drop k) r) := hof
    clear hof
    by_cases hlt : k < n
    · obtain ⟨b, off, x, e, hx, ⟨c0, c1, c2⟩, hbl⟩ := W0.out.at hlt
      obtain ⟨r0, r1⟩ := R0.out
      subst e
      have HX : Hid (gs[k]? = some x) := hx
      clear hx
      have hlt' : (k : Int) < (n : Int) := by omega
      cases he : eqRo x.1 r
      · have HE : Hid (ofG gs r = ofG (gs.drop (k + 1)) r) := by
          show ofG gs r = _
          rw [HF.out, ofG_drop HX.out, if_neg (fun q => by rw [(eqRo_iff _ _).2 q] at he; cases he)]
        go_wp2
        go_quiet (fail)
        go_wp2
        exact ⟨⟨k + 1, by omega, by go_num, HE.out, _, rfl⟩, by simp [intOf]; omega⟩
      · have HE : Hid (ofG gs r = x.2) := by
          show ofG gs r = _
          rw [HF.out, ofG_drop HX.out, if_pos ((eqRo_iff _ _).1 he)]
        go_wp2
        go_quiet (fail)
        go_wp2
        go_ret
        exact ⟨by rw [HE.out]; rfl, bdN ((Below.refl _ _).alloc (Nat.le_refl _) _) _⟩
    · have hkn : k = n := by omega
      subst hkn
      go_wp2
      go_ret
      have : ofG gs r = 0 := by rw [HF.out, List.drop_eq_nil_of_le (by rw [W0.out.1]; exact Nat.le_refl _)]; rfl
      exact ⟨by rw [this]; rfl, bdN ((Below.refl _ _).alloc (Nat.le_refl _) _) _⟩

end Go.Proofs.Ytnfolmjdicfobaa

namespace Go.Proofs.Ytnfolmjdicfobaa
open Go.RowKit
set_option linter.unusedVariables false
set_option linter.unusedSimpArgs false
attribute [local go_sem ↓] ro_eql

theorem ro_neq (p q : RoI) (w : World) : (binOp .neq 76 (.agg #[.int .i64 p.1, .int .i64 p.2]) (.agg #[.int .i64 q.1, .int .i64 q.2])).run Try.prog w = .ok (.bool (!eqRo p q)) w := by
  obtain ⟨a0, a1⟩ := p
  obtain ⟨b0, b1⟩ := q
  simp only [eqRo]
  cases e0 : (a0 == b0)
  · simp [go_sem, e0]
  cases e1 : (a1 == b1)
  · simp [go_sem, e0, e1]
  · simp [go_sem, e0, e1]

set_option maxHeartbeats 400000 in
theorem l1In_c (v lo hi : Int) (w : World) : Calls Try.prog 55 #[.int .i64 v, .int .i64 lo, .int .i64 hi] w fun e w' => e = .returned (.bool (decide (lo ≤ v) && decide (v ≤ hi))) ∧ w = w' := by
  cases h0 : decide (lo ≤ v)
  · go_enter Try.func55, Try.ntmps55
    go_wp2
    go_ret
    exact ⟨by simp, rfl⟩
  · cases h1 : decide (v ≤ hi)
    all_goals
      go_enter Try.func55, Try.ntmps55
      go_wp2
      go_ret
      exact ⟨by simp, rfl⟩

set_option maxHeartbeats 400000 in
theorem isAhead_c (v : Int) (k : Nat) (hk : k ≤ 1000) (w : World) : Calls Try.prog 108 #[.int .i64 v, .int .i64 (k : Int)] w fun e w' => e = .returned (.bool (decide (0 ≤ v) && decide (v < (k : Int)))) ∧ w = w' := by
  have hk' : (k : Int) ≤ 1000 := by omega
  cases h0 : decide (0 ≤ v)
  · go_enter Try.func108, Try.ntmps108
    go_wp2
    go_ret
    exact ⟨by simp, rfl⟩
  · cases h1 : decide (v < (k : Int))
    all_goals
      go_enter Try.func108, Try.ntmps108
      go_wp2
      go_ret
      exact ⟨by simp, rfl⟩

set_option maxRecDepth 100000 in
set_option maxHeartbeats 2000000 in
theorem partFault_1 (x : PartI) (k : Nat) (w : World) (hk : k ≤ 1000) (e1 : x.k = 1) :
    Calls Try.prog 94 #[.agg #[.int .i64 x.k, .int .i64 x.ro, .int .i64 x.rn, .int .i64 x.l, .int .i64 x.r], .int .i64 (k : Int)] w fun e w' => e = .returned (.int .i64 (ptOne k x)) ∧ Below w.heap.size w w' := by
  have hk' : (k : Int) ≤ 1000 := by omega
  have b1 : (x.k == 1) = true := by simp [e1]
  obtain ⟨t, ht⟩ : ∃ t, roleB x.ro x.rn = t := ⟨_, rfl⟩
  cases t
  · have hp : ptOne k x = 3 := by simp [ptOne, e1, ht]
    have hc : roleCode x.ro x.rn = 3 := by simp [roleCode, ht]
    rw [hp]
    clear e1 ht hp
    go_enter Try.func94, Try.ntmps94
    go_wp2_with (first | (go_at_call 90; refine (implRoleFault_c _ _ _).mono ?_; rintro e w1 ⟨rfl, hb1⟩; rw [hc]) | fail)
    go_ret
    exact ⟨rfl, below_new hb1⟩
  · have hc : roleCode x.ro x.rn = 0 := by simp [roleCode, ht]
    obtain ⟨u, hu⟩ : ∃ u, (x.l != 0) = u := ⟨_, rfl⟩
    obtain ⟨v, hv⟩ : ∃ v, (x.r != 0) = v := ⟨_, rfl⟩
    have hp : ptOne k x = if (u || v) = true then 1 else 0 := by
      rw [← hu, ← hv]
      simp only [ptOne, e1, ht]
      by_cases q1 : x.l = 0 <;> by_cases q2 : x.r = 0 <;> simp [q1, q2]
    rw [hp]
    clear e1 ht hp
    cases u <;> cases v
    all_goals
      go_enter Try.func94, Try.ntmps94
      go_wp2_with (first | (go_at_call 90; refine (implRoleFault_c _ _ _).mono ?_; rintro e w1 ⟨rfl, hb1⟩; rw [hc]; have q3 : w1.cell? ⟨w.heap.size, 3, none⟩ = some (.int .i64 x.l) := (hb1.cell (p := ⟨w.heap.size, 3, none⟩) (by simp)).trans (by simp); have q4 : w1.cell? ⟨w.heap.size, 4, none⟩ = some (.int .i64 x.r) := (hb1.cell (p := ⟨w.heap.size, 4, none⟩) (by simp)).trans (by simp)) | fail)
      go_ret
      exact ⟨rfl, below_new hb1⟩

set_option maxRecDepth 100000 in
set_option maxHeartbeats 2000000 in
theorem partFault_bad (x : PartI) (k : Nat) (w : World) (e1 : ¬ (1 ≤ x.k ∧ x.k ≤ 3)) :
    Calls Try.prog 94 #[.agg #[.int .i64 x.k, .int .i64 x.ro, .int .i64 x.rn, .int .i64 x.l, .int .i64 x.r], .int .i64 (k : Int)] w fun e w' => e = .returned (.int .i64 (ptOne k x)) ∧ Below w.heap.size w w' := by
  have b1 : (x.k == 1) = false := by simp; omega
  have b2 : (x.k == 2) = false := by simp; omega
  have b3 : (x.k == 3) = false := by simp; omega
  have hp : ptOne k x = 1 := by simp only [ptOne, if_pos e1]
  rw [hp]
  clear e1 hp
  go_enter Try.func94, Try.ntmps94
  go_wp2_with fail
  go_ret
  exact ⟨rfl, by go_grown⟩

set_option maxRecDepth 100000 in
set_option maxHeartbeats 4000000 in
theorem partFault_2 (x : PartI) (k : Nat) (w : World) (hk : k ≤ 1000) (e1 : x.k = 2 ∨ x.k = 3) :
    Calls Try.prog 94 #[.agg #[.int .i64 x.k, .int .i64 x.ro, .int .i64 x.rn, .int .i64 x.l, .int .i64 x.r], .int .i64 (k : Int)] w fun e w' => e = .returned (.int .i64 (ptOne k x)) ∧ Below w.heap.size w w' := by
  have hk' : (k : Int) ≤ 1000 := by omega
  have b1 : (x.k == 1) = false := by simp; omega
  obtain ⟨u, hu⟩ : ∃ u, (decide (0 ≤ x.l) && decide (x.l < (k : Int))) = u := ⟨_, rfl⟩
  obtain ⟨v, hv⟩ : ∃ v, (decide (0 ≤ x.r) && decide (x.r < (k : Int))) = v := ⟨_, rfl⟩
  obtain ⟨t, ht⟩ : ∃ t, eqRo (x.ro, x.rn) (0, 0) = t := ⟨_, rfl⟩
  have hp : ptOne k x = if t = false then 1 else if u = false then 3 else if v = false then 3 else 0 := by
    have ek : ¬ x.k = 1 := by omega
    unfold ptOne
    rw [if_neg (by omega), if_neg ek]
    have h1 : t = true ↔ (x.ro = 0 ∧ x.rn = 0) := by rw [← ht, eqRo_iff]; simp
    have h2 : u = true ↔ (0 ≤ x.l ∧ x.l < (k : Int)) := by rw [← hu]; simp
    have h3 : v = true ↔ (0 ≤ x.r ∧ x.r < (k : Int)) := by rw [← hv]; simp
    simp only [← h1, ← h2, ← h3]
    cases t <;> cases u <;> cases v <;> simp
  rw [hp]
  have hn : ∀ w, (binOp .neq 76 (.agg #[.int .i64 x.ro, .int .i64 x.rn]) (.agg #[.int .i64 0, .int .i64 0])).run Try.prog w = .ok (.bool (!t)) w := fun w => by rw [← ht]; exact ro_neq (x.ro, x.rn) (0, 0) w
  have HU : Hid ((decide (0 ≤ x.l) && decide (x.l < (k : Int))) = u) := hu
  have HV : Hid ((decide (0 ≤ x.r) && decide (x.r < (k : Int))) = v) := hv
  clear hp ht hu hv
  rcases e1 with e1 | e1
  · have b2 : (x.k == 2) = true := by simp; omega
    clear e1
    cases t
    · go_enter Try.func94, Try.ntmps94
      go_wp2_with fail
      go_ret
      exact ⟨rfl, by go_grown⟩
    · cases u <;> cases v
      all_goals
        go_enter Try.func94, Try.ntmps94
        go_wp2_with (first | (go_at_call 108; refine (isAhead_c _ _ hk _).mono ?_; rintro e w1 ⟨rfl, rfl⟩; first | rw [HU.out] | rw [HV.out]) | fail)
        go_ret
        exact ⟨rfl, by go_grown⟩
  · have b2 : (x.k == 2) = false := by simp; omega
    have b3 : (x.k == 3) = true := by simp; omega
    clear e1
    cases t
    · go_enter Try.func94, Try.ntmps94
      go_wp2_with fail
      go_ret
      exact ⟨rfl, by go_grown⟩
    · cases u <;> cases v
      all_goals
        go_enter Try.func94, Try.ntmps94
        go_wp2_with (first | (go_at_call 108; refine (isAhead_c _ _ hk _).mono ?_; rintro e w1 ⟨rfl, rfl⟩; first | rw [HU.out] | rw [HV.out]) | fail)
        go_ret
        exact ⟨rfl, by go_grown⟩

theorem partFault_c (x : PartI) (k : Nat) (w : World) (hk : k ≤ 1000) :
    Calls Try.prog 94 #[.agg #[.int .i64 x.k, .int .i64 x.ro, .int .i64 x.rn, .int .i64 x.l, .int .i64 x.r], .int .i64 (k : Int)] w fun e w' => e = .returned (.int .i64 (ptOne k x)) ∧ Below w.heap.size w w' := by
  by_cases h : 1 ≤ x.k ∧ x.k ≤ 3
  · by_cases h1 : x.k = 1
    · exact partFault_1 x k w hk h1
    · exact partFault_2 x k w hk (by omega)
  · exact partFault_bad x k w h

set_option maxRecDepth 100000 in
set_option maxHeartbeats 2000000 in
theorem implParts_few (a : Option Addr) (n cap : Nat) (zs : List PartI) (c : Int) (w : World) (h1 : 1 ≤ n) (h8 : n ≤ 8) (h : PartsIn w a n zs) (hc : ptTo zs n = c) :
    Calls Try.prog 72 #[.slice a n cap] w fun e w' => e = .returned (.int .i64 c) ∧ Below w.heap.size w w' := by
  have H : Hid (PartsIn w a n zs) := h
  have HC : Hid (ptTo zs n = c) := hc
  clear h hc
  have hn1 : ¬ ((n : Int) < 1) := by omega
  have hn8 : ¬ ((8 : Int) < (n : Int)) := by omega
  have hn' : (n : Int) ≤ 8 := by omega
  go_enter Try.func72, Try.ntmps72
  go_wp2
  go_loopw [16] (fun i wr => ∃ k : Nat, k ≤ n ∧ i = .int .i64 (k : Int) ∧ ptTo zs k = 0 ∧ Below w.heap.size w wr) (fun i _ => n - (intOf i).toNat)
  case atStart => exact ⟨0, Nat.zero_le _, rfl, rfl, Below.refl _ _⟩
  case round =>
    obtain ⟨k, hk, rfl, hp, hnx⟩ := hrel
    have HP : Hid (ptTo zs k = 0) := hp
    clear hp
    by_cases hlt : k < n
    · obtain ⟨b, off, x, rfl, hs, hx⟩ := H.out.at hlt
      have HN : Hid (ptTo zs (k + 1) = ptOne k x) := ptTo_next hs HP.out
      clear hs
      obtain ⟨g0, g1, g2, g3, g4⟩ := hx.below hnx
      clear hx
      have hlt' : (k : Int) < (n : Int) := by omega
      go_wp2_with fail
      refine (partFault_c x k _ (by omega)).mono ?_
      rintro e w1 ⟨rfl, hb1⟩
      have hnx1 : Below w.heap.size w w1 := hnx.trans ((below_new hb1).mono hnx.size)
      clear hb1 g0 g1 g2 g3 g4
      by_cases hz : ptOne k x = 0
      · have HE : Hid (ptTo zs (k + 1) = 0) := HN.out.trans hz
        rw [hz]
        clear hz
        go_wp2
        exact ⟨⟨k + 1, by omega, by go_num, HE.out, hnx1⟩, by simp [intOf]; omega⟩
      · have E : Hid (c = ptOne k x) := HC.out.symm.trans (ptTo_stay zs (k + 1) n _ hz HN.out (by omega))
        have hzb : (ptOne k x != 0) = true := by simpa using hz
        clear hz
        go_wp2
        go_ret
        exact ⟨by rw [E.out]; rfl, hnx1⟩
    · have hkn : k = n := by omega
      subst hkn
      go_wp2
      go_ret
      exact ⟨by rw [← HC.out, HP.out]; rfl, hnx⟩

set_option maxRecDepth 100000 in
theorem implPartsFault_c (a : Option Addr) (n cap : Nat) (zs : List PartI) (w : World) (hm : n ≤ maxLen) (h : PartsIn w a n zs) :
    Calls Try.prog 72 #[.slice a n cap] w fun e w' => e = .returned (.int .i64 (ptCode zs)) ∧ Below w.heap.size w w' := by
  have hl := h.1
  unfold maxLen at hm
  have hm' : (n : Int) ≤ 9223372036854775807 := by omega
  unfold ptCode
  rw [hl]
  by_cases h1 : n < 1
  · have h1' : (n : Int) < 1 := by omega
    rw [if_pos h1]
    clear h hl h1
    go_enter Try.func72, Try.ntmps72
    go_wp2
    go_ret
    exact ⟨rfl, Below.refl _ _⟩
  · rw [if_neg h1]
    by_cases h8 : 8 < n
    · have h1' : ¬ ((n : Int) < 1) := by omega
      have h8' : (8 : Int) < (n : Int) := by omega
      rw [if_pos h8]
      clear h hl h1 h8
      go_enter Try.func72, Try.ntmps72
      go_wp2
      go_ret
      exact ⟨rfl, Below.refl _ _⟩
    · rw [if_neg h8]
      exact implParts_few a n cap zs _ w (by omega) (by omega) h rfl

end Go.Proofs.Ytnfolmjdicfobaa

namespace Go.Proofs.Ytnfolmjdicfobaa
open Go.RowKit
set_option linter.unusedVariables false
set_option linter.unusedSimpArgs false

set_option maxRecDepth 100000 in
set_option maxHeartbeats 4000000 in
theorem l4Fault_few (a : Option Addr) (n cap : Nat) (zs : List PartI) (c : Int) (w : World) (h1 : 1 ≤ n) (h8 : n ≤ 8) (h : PartsIn w a n zs) (hc : ptTo zs n = c) :
    Calls Try.prog 43 #[.slice a n cap] w fun e w' => e = .returned (.int .i64 c) ∧ Below w.heap.size w w' := by
  have H : Hid (PartsIn w a n zs) := h
  have HC : Hid (ptTo zs n = c) := hc
  clear h hc
  have hn1 : ¬ ((n : Int) < 1) := by omega
  have hn8 : ¬ ((8 : Int) < (n : Int)) := by omega
  have hn' : (n : Int) ≤ 8 := by omega
  go_enter Try.func43, Try.ntmps43
  go_wp2
  go_loopw [3] (fun i wr => ∃ k : Nat, k ≤ n ∧ i = .int .i64 (k : Int) ∧ ptTo zs k = 0 ∧ Below w.heap.size w wr) (fun i _ => n - (intOf i).toNat)
  case atStart => exact ⟨0, Nat.zero_le _, rfl, rfl, Below.refl _ _⟩
  case round =>
    obtain ⟨k, hk, rfl, hp, hnx⟩ := hrel
    have HP : Hid (ptTo zs k = 0) := hp
    clear hp
    by_cases hlt : k < n
    · obtain ⟨b, off, x, rfl, hs, hx⟩ := H.out.at hlt
      have HN : Hid (ptTo zs (k + 1) = ptOne k x) := ptTo_next hs HP.out
      have HST : Hid (∀ d : Int, ptOne k x = d → d ≠ 0 → c = d) := fun d e q => HC.out.symm.trans (ptTo_stay zs (k + 1) n d q (HN.out.trans e) (by omega))
      clear hs
      obtain ⟨g0, g1, g2, g3, g4⟩ := hx.below hnx
      clear hx
      have hlt' : (k : Int) < (n : Int) := by omega
      have hk8 : (k : Int) ≤ 8 := by omega
      have A5 : Below w.heap.size w (wr.alloc (.cells #[.int .i64 x.k, .int .i64 x.ro, .int .i64 x.rn, .int .i64 x.l, .int .i64 x.r] 97)) := hnx.alloc hnx.size _
      obtain ⟨t0, ht0⟩ : ∃ t0, (decide (1 ≤ x.k) && decide (x.k ≤ 3)) = t0 := ⟨_, rfl⟩
      have HK : Hid ((decide (1 ≤ x.k) && decide (x.k ≤ 3)) = t0) := ht0
      cases t0
      · have E : Hid (c = 1) := HST.out 1 (by unfold ptOne; rw [if_pos (by simp at ht0; omega)]) (by decide)
        clear ht0
        go_wp2_with (first | (go_at_call 55; refine (l1In_c _ _ _ _).mono ?_; rintro e w1 ⟨rfl, rfl⟩; rw [HK.out]) | fail)
        go_ret
        exact ⟨by rw [E.out]; rfl, A5⟩
      · simp at ht0
        by_cases ek : x.k = 1
        · have b1 : (x.k == 1) = true := by simp [ek]
          obtain ⟨t, ht⟩ : ∃ t, roleB x.ro x.rn = t := ⟨_, rfl⟩
          have HT : Hid (roleB x.ro x.rn = t) := ht
          cases t
          · have E : Hid (c = 3) := HST.out 3 (by simp [ptOne, ek, ht]) (by decide)
            clear ht0 ek ht
            go_wp2_with (first | (go_at_call 55; refine (l1In_c _ _ _ _).mono ?_; rintro e w1 ⟨rfl, rfl⟩; rw [HK.out]) | (go_at_call 67; refine (l2Role_c _ _ _).mono ?_; rintro e w2 ⟨rfl, hb2⟩; rw [HT.out]) | fail)
            go_ret
            exact ⟨by rw [E.out]; rfl, hnx.trans ((below_new hb2).mono hnx.size)⟩
          · obtain ⟨u, hu⟩ : ∃ u, (x.l != 0) = u := ⟨_, rfl⟩
            obtain ⟨v, hv⟩ : ∃ v, (x.r != 0) = v := ⟨_, rfl⟩
            have hp : ptOne k x = if (u || v) = true then 1 else 0 := by
              rw [← hu, ← hv]
              simp only [ptOne, ek, ht]
              by_cases q1 : x.l = 0 <;> by_cases q2 : x.r = 0 <;> simp [q1, q2]
            have HPP : Hid (ptOne k x = if (u || v) = true then 1 else 0) := hp
            clear ht0 ek ht hp
            cases u <;> cases v
            · have HE : Hid (ptTo zs (k + 1) = 0) := HN.out.trans HPP.out
              go_wp2_with (first | (go_at_call 55; refine (l1In_c _ _ _ _).mono ?_; rintro e w1 ⟨rfl, rfl⟩; rw [HK.out]) | (go_at_call 67; refine (l2Role_c _ _ _).mono ?_; rintro e w2 ⟨rfl, hb2⟩; rw [HT.out]; have q3 : w2.cell? ⟨wr.heap.size, 3, none⟩ = some (.int .i64 x.l) := (hb2.cell (p := ⟨wr.heap.size, 3, none⟩) (by simp)).trans (by simp); have q4 : w2.cell? ⟨wr.heap.size, 4, none⟩ = some (.int .i64 x.r) := (hb2.cell (p := ⟨wr.heap.size, 4, none⟩) (by simp)).trans (by simp)) | fail)
              exact ⟨⟨k + 1, by omega, by go_num, HE.out, hnx.trans ((below_new hb2).mono hnx.size)⟩, by simp [intOf]; omega⟩
            all_goals
              have E : Hid (c = 1) := HST.out 1 HPP.out (by decide)
              go_wp2_with (first | (go_at_call 55; refine (l1In_c _ _ _ _).mono ?_; rintro e w1 ⟨rfl, rfl⟩; rw [HK.out]) | (go_at_call 67; refine (l2Role_c _ _ _).mono ?_; rintro e w2 ⟨rfl, hb2⟩; rw [HT.out]; have q3 : w2.cell? ⟨wr.heap.size, 3, none⟩ = some (.int .i64 x.l) := (hb2.cell (p := ⟨wr.heap.size, 3, none⟩) (by simp)).trans (by simp); have q4 : w2.cell? ⟨wr.heap.size, 4, none⟩ = some (.int .i64 x.r) := (hb2.cell (p := ⟨wr.heap.size, 4, none⟩) (by simp)).trans (by simp)) | fail)
              go_ret
              exact ⟨by rw [E.out]; rfl, hnx.trans ((below_new hb2).mono hnx.size)⟩
        · have b1 : (x.k == 1) = false := by simp [ek]
          obtain ⟨u, hu⟩ : ∃ u, (decide (0 ≤ x.l) && decide (x.l ≤ (k : Int) - 1)) = u := ⟨_, rfl⟩
          obtain ⟨v, hv⟩ : ∃ v, (decide (0 ≤ x.r) && decide (x.r ≤ (k : Int) - 1)) = v := ⟨_, rfl⟩
          obtain ⟨t, ht⟩ : ∃ t, eqRo (x.ro, x.rn) (0, 0) = t := ⟨_, rfl⟩
          have hp : ptOne k x = if t = false then 1 else if u = false then 3 else if v = false then 3 else 0 := by
            unfold ptOne
            rw [if_neg (by omega), if_neg ek]
            have h1 : t = true ↔ (x.ro = 0 ∧ x.rn = 0) := by rw [← ht, eqRo_iff]; simp
            have h2 : u = true ↔ (0 ≤ x.l ∧ x.l < (k : Int)) := by rw [← hu]; simp; omega
            have h3 : v = true ↔ (0 ≤ x.r ∧ x.r < (k : Int)) := by rw [← hv]; simp; omega
            simp only [← h1, ← h2, ← h3]
            cases t <;> cases u <;> cases v <;> simp
          have hn : ∀ w, (binOp .neq 76 (.agg #[.int .i64 x.ro, .int .i64 x.rn]) (.agg #[.int .i64 0, .int .i64 0])).run Try.prog w = .ok (.bool (!t)) w := fun w => by rw [← ht]; exact ro_neq (x.ro, x.rn) (0, 0) w
          have HPP : Hid (ptOne k x = if t = false then 1 else if u = false then 3 else if v = false then 3 else 0) := hp
          have HU : Hid ((decide (0 ≤ x.l) && decide (x.l ≤ (k : Int) - 1)) = u) := hu
          have HV : Hid ((decide (0 ≤ x.r) && decide (x.r ≤ (k : Int) - 1)) = v) := hv
          have A7 : Below w.heap.size w ((wr.alloc (.cells #[.int .i64 x.k, .int .i64 x.ro, .int .i64 x.rn, .int .i64 x.l, .int .i64 x.r] 97)).alloc (.cells #[.int .i64 0, .int .i64 0] 76)) := A5.alloc A5.size _
          clear ht0 ek ht hu hv hp
          cases t
          · have E : Hid (c = 1) := HST.out 1 HPP.out (by decide)
            go_wp2_with (first | (go_at_call 55; refine (l1In_c _ _ _ _).mono ?_; rintro e w1 ⟨rfl, rfl⟩; rw [HK.out]) | fail)
            go_ret
            exact ⟨by rw [E.out]; rfl, A7⟩
          · cases u
            · have E : Hid (c = 3) := HST.out 3 HPP.out (by decide)
              go_wp2_with (first | (go_at_call 55; refine (l1In_c _ _ _ _).mono ?_; rintro e w1 ⟨rfl, rfl⟩; first | rw [HK.out] | rw [HU.out] | rw [HV.out]) | fail)
              go_ret
              exact ⟨by rw [E.out]; rfl, A7⟩
            · cases v
              · have E : Hid (c = 3) := HST.out 3 HPP.out (by decide)
                go_wp2_with (first | (go_at_call 55; refine (l1In_c _ _ _ _).mono ?_; rintro e w1 ⟨rfl, rfl⟩; first | rw [HK.out] | rw [HU.out] | rw [HV.out]) | fail)
                go_ret
                exact ⟨by rw [E.out]; rfl, A7⟩
              · have HE : Hid (ptTo zs (k + 1) = 0) := HN.out.trans HPP.out
                go_wp2_with (first | (go_at_call 55; refine (l1In_c _ _ _ _).mono ?_; rintro e w1 ⟨rfl, rfl⟩; first | rw [HK.out] | rw [HU.out] | rw [HV.out]) | fail)
                exact ⟨⟨k + 1, by omega, by go_num, HE.out, A7⟩, by simp [intOf]; omega⟩
    · have hkn : k = n := by omega
      subst hkn
      go_wp2
      go_ret
      exact ⟨by rw [← HC.out, HP.out]; rfl, hnx⟩

set_option maxRecDepth 100000 in
theorem l4Fault_c (a : Option Addr) (n cap : Nat) (zs : List PartI) (w : World) (hm : n ≤ maxLen) (h : PartsIn w a n zs) :
    Calls Try.prog 43 #[.slice a n cap] w fun e w' => e = .returned (.int .i64 (ptCode zs)) ∧ Below w.heap.size w w' := by
  have hl := h.1
  unfold maxLen at hm
  have hm' : (n : Int) ≤ 9223372036854775807 := by omega
  unfold ptCode
  rw [hl]
  by_cases h1 : n < 1
  · have h1' : (n : Int) < 1 := by omega
    rw [if_pos h1]
    clear h hl h1
    go_enter Try.func43, Try.ntmps43
    go_wp2
    go_ret
    exact ⟨rfl, Below.refl _ _⟩
  · rw [if_neg h1]
    by_cases h8 : 8 < n
    · have h1' : ¬ ((n : Int) < 1) := by omega
      have h8' : (8 : Int) < (n : Int) := by omega
      rw [if_pos h8]
      clear h hl h1 h8
      go_enter Try.func43, Try.ntmps43
      go_wp2
      go_ret
      exact ⟨rfl, Below.refl _ _⟩
    · rw [if_neg h8]
      exact l4Fault_few a n cap zs _ w (by omega) (by omega) h rfl

end Go.Proofs.Ytnfolmjdicfobaa
