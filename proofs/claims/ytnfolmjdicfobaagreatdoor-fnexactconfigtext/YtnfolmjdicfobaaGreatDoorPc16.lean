/-
  CONTRACTS: spec.l3Add, a set given to a role.
  Conditions: each contract bears its own.
  CONTRACTS: laws.toGrantS (a copy of a slice of grants) and laws.eqGrantS (two that are alike).
  Conditions: each contract bears its own.
  CONTRACTS on grants in results: read, marked, held against their marks, compared.
  Conditions: each contract bears its own.
  FACTS: a box of two cells and an argument's rules, kept through calls and marks.
  Conditions: each fact bears its own.
-/
import Derived.Test.YtnfolmjdicfobaaGreatDoorPc15
import Derived.Deep.AppendLies
import Derived.Test.YtnfolmjdicfobaaGreatDoorPc03
import Derived.Deep.RegionHeld3
import Derived.Test.YtnfolmjdicfobaaGreatDoorPc10
namespace Go.Proofs.YtnfolmjdicfobaaGreatDoor
open Go.RowKit
set_option linter.unusedVariables false
set_option linter.unusedSimpArgs false

theorem Tryz.info196 : (Tryz.prog.info? 196).map (fun i => (i.zero, i.size, i.bytes)) = some (some (.agg #[.int .i64 0, .int .i64 0, .int .i64 0]), 3, 24) := by kernel_rfl

theorem Tryz.under158 : Tryz.prog.underlying 158 = some (.slice 196) := by kernel_rfl

def flat3 : List GrI → List Value
  | [] => []
  | p :: ps => .int .i64 p.1.1 :: .int .i64 p.1.2 :: .int .i64 p.2 :: flat3 ps

theorem flat3_append (a b : List GrI) : flat3 (a ++ b) = flat3 a ++ flat3 b := by
  induction a with
  | nil => rfl
  | cons p ps ih => simp [flat3, ih]

theorem flat3_len (a : List GrI) : (flat3 a).length = a.length * 3 := by
  induction a with
  | nil => rfl
  | cons p ps ih => simp [flat3, ih]; omega

theorem flat3_at : ∀ (a : List GrI) (k : Nat) (p : GrI), a[k]? = some p → (flat3 a)[k * 3]? = some (.int .i64 p.1.1) ∧ (flat3 a)[k * 3 + 1]? = some (.int .i64 p.1.2) ∧ (flat3 a)[k * 3 + 2]? = some (.int .i64 p.2)
  | [], _, _, h => by simp at h
  | q :: qs, 0, p, h => by simp at h; subst h; exact ⟨rfl, rfl, rfl⟩
  | q :: qs, k + 1, p, h => by
    have := flat3_at qs k p (by simpa using h)
    rw [show (k + 1) * 3 = k * 3 + 1 + 1 + 1 by omega, show k * 3 + 1 + 1 + 1 + 1 = (k * 3 + 1) + 1 + 1 + 1 by omega, show k * 3 + 1 + 1 + 1 + 2 = (k * 3 + 2) + 1 + 1 + 1 by omega]
    simpa [flat3] using this

theorem flat3_one (a : List GrI) : ∀ u ∈ flat3 a, u.oneCell' = true := by
  induction a with
  | nil => simp [flat3]
  | cons p ps ih =>
    intro u hu
    simp only [flat3, List.mem_cons] at hu
    rcases hu with rfl | rfl | rfl | hu
    · rfl
    · rfl
    · rfl
    · exact ih u hu

/-- A slice of grants that is new since B. -/
def Own3 (w : World) (B : Nat) (v : Value) (gs : List GrI) : Prop := w.ownsRow B 196 3 v gs.length (flat3 gs)

theorem Own3.shape {w : World} {B : Nat} {v : Value} {gs : List GrI} (h : Own3 w B v gs) (hv : v ≠ .slice none 0 0) : ∃ g cap, v = .slice (some ⟨g, 0, none⟩) gs.length cap := by
  have h0 : w.ownsRow B 196 3 v gs.length (flat3 gs) := h
  rcases h0.2 with ⟨h', _⟩ | ⟨g, cap, cur, h', _⟩
  · exact absurd h' hv
  · exact ⟨g, cap, h'⟩

theorem Own3.read {w : World} {B g n cap : Nat} {gs : List GrI} (hn : gs.length = n) (h : Own3 w B (.slice (some ⟨g, 0, none⟩) n cap) gs) : GrIn w (some ⟨g, 0, none⟩) n gs := by
  subst hn
  have h0 : w.ownsRow B 196 3 (.slice (some ⟨g, 0, none⟩) gs.length cap) gs.length (flat3 gs) := h
  refine ⟨rfl, fun _ => ⟨g, 0, rfl, fun k x hx => ?_⟩⟩
  have hk : k < gs.length := by
    by_cases q : k < gs.length
    · exact q
    · rw [List.getElem?_eq_none (by omega)] at hx; cases hx
  obtain ⟨f0, f1, f2⟩ := flat3_at gs k x hx
  rw [Nat.zero_add]
  exact ⟨(h0.cellAt (k * 3) (by omega)).trans f0, (h0.cellAt (k * 3 + 1) (by omega)).trans f1, (h0.cellAt (k * 3 + 2) (by omega)).trans f2⟩

theorem Own3.below {w w' : World} {B : Nat} {v : Value} {gs : List GrI} (h : Own3 w B v gs) (hb : Below w.heap.size w w') : Own3 w' B v gs :=
  World.ownsRow.kept (row := none) h ⟨hb.os, hb.tape, hb.output, hb.size, fun k hk _ => hb.block k hk⟩ (by cases v.ownBlock <;> simp)

theorem addTo_len (gs : List GrI) (r : RoI) (s : Int) : ∀ k, (addTo gs r s k).1.length ≤ k + (if (addTo gs r s k).2 = true then 1 else 0)
  | 0 => by simp [addTo_zero]
  | k + 1 => by
    have ih := addTo_len gs r s k
    cases h : gs[k]? with
    | none =>
      have hk : gs.length ≤ k := by
        by_cases q : k < gs.length
        · rw [List.getElem?_eq_getElem q] at h; cases h
        · omega
      have : addTo gs r s (k + 1) = addTo gs r s k := by unfold addTo; rw [List.take_of_length_le (by omega), List.take_of_length_le (by omega)]
      rw [this]
      omega
    | some x =>
      rw [addTo_succ h]
      unfold addStep
      split
      · simp
        split at ih <;> omega
      · split
        · rename_i q
          rw [q.1] at ih
          simp at ih ⊢
          omega
        · simp only [List.length_append, List.length_singleton]
          omega

theorem cell_new3 (W : World) (b : Nat) (hb : b = W.heap.size) (u0 u1 u2 : Value) (T : TypeId) : ∀ j u, [u0, u1, u2][j]? = some u → (W.alloc (.cells #[u0, u1, u2] T)).cell? ((⟨b, 0, none⟩ : Addr).add j) = some u := by
  subst hb
  intro j u hj
  match j, hj with
  | 0, hj => simp at hj; subst hj; simp [Addr.add]
  | 1, hj => simp at hj; subst hj; simp [Addr.add]
  | 2, hj => simp at hj; subst hj; simp [Addr.add]

theorem own3_lower {w : World} {B B' : Nat} {v : Value} {gs : List GrI} (h : Own3 w B v gs) (hb : B' ≤ B) : Own3 w B' v gs := by
  have h0 : w.ownsRow B 196 3 v gs.length (flat3 gs) := h
  refine ⟨h0.1, ?_⟩
  rcases h0.2 with h' | ⟨g, cap, cur, e, hg, rest⟩
  · exact .inl h'
  · exact .inr ⟨g, cap, cur, e, Nat.le_trans hb hg, rest⟩

theorem own3_push {w : World} {B : Nat} {v : Value} {es : List GrI} {x : GrI} (h : w.ownsRow B 196 3 v (es.length + 1) (flat3 es ++ [.int .i64 x.1.1, .int .i64 x.1.2, .int .i64 x.2])) : Own3 w B v (es ++ [x]) := by
  unfold Own3
  rw [List.length_append, flat3_append]
  exact h

theorem own3_grown {w1 Z w' : World} {B : Nat} {v : Value} {es : List GrI} (ho : Own3 Z B v es) (hb : Below B w1 Z) (hg : Z.grownBy w' v.ownBlock) (hB : B ≤ Z.heap.size) : Below B w1 w' := by
  have h0 : Z.ownsRow B 196 3 v es.length (flat3 es) := ho
  exact hb.grown hg hB (fun j hj => (h0.lt j hj).1)

theorem own3_apart {wr Z w' : World} {B b o : Nat} {v u : Value} {es : List GrI} (ho : Own3 wr B v es) (hg : Z.grownBy w' v.ownBlock) (hb : wr.heap.size ≤ b) (hc : Z.cell? ⟨b, o, none⟩ = some u) : w'.cell? ⟨b, o, none⟩ = some u := by
  have h0 : wr.ownsRow B 196 3 v es.length (flat3 es) := ho
  exact hg.cell hc (fun e => by have := (h0.lt b e.symm).2; omega)

attribute [local go_sem ↓] ro_eql

set_option maxHeartbeats 1000000 in
theorem l3Add_t (a : Option Addr) (n c : Nat) (gs : List GrI) (r : RoI) (s : Int) (w : World) (hg : GrIn w a n gs) (hn : n ≤ 1000) (hs : s ≠ 0) :
    Calls Tryz.prog 157 #[.slice a n c, .agg #[.int .i64 r.1, .int .i64 r.2], .int .i64 s] w fun e w' => ∃ g m cap es, e = .returned (.slice (some ⟨g, 0, none⟩) m cap) ∧ es.length = m ∧ es = addEnd r s (addTo gs r s n) ∧ Own3 w' w.heap.size (.slice (some ⟨g, 0, none⟩) m cap) es ∧ Below w.heap.size w w' := by
  have b1 : (s == 0) = false := by simpa using hs
  have hn' : (n : Int) ≤ 1000 := by omega
  obtain ⟨i0, hi, hz0, hz1, hz2⟩ := info_parts Tryz.info196
  obtain ⟨w1, hw1⟩ : ∃ w1, w1 = w.alloc (.cells #[.int .i64 r.1, .int .i64 r.2] 79) := ⟨_, rfl⟩
  have hsz : w1.heap.size = w.heap.size + 1 := by rw [hw1]; simp
  have HB : Hid (Below w.heap.size w w1) := by rw [hw1]; exact (Below.refl _ _).alloc (Nat.le_refl _) _
  have HR : Hid (w1.cell? ⟨w.heap.size, 0, none⟩ = some (.int .i64 r.1) ∧ w1.cell? ⟨w.heap.size, 1, none⟩ = some (.int .i64 r.2)) := by rw [hw1]; exact ⟨by simp, by simp⟩
  have HG : Hid (GrIn w1 a n gs) := hg.below HB.out
  clear hg
  go_enter Tryz.func157, Tryz.ntmps157
  go_wp2_with fail
  rw [← hw1]
  go_loopw [7, 8, 9] (fun v d i wr => ∃ (k : Nat) (es : List GrI) (b : Bool), k ≤ n ∧ i = .int .i64 (k : Int) ∧ d = .bool b ∧ addTo gs r s k = (es, b) ∧ Own3 wr w1.heap.size v es ∧ v ≠ .slice none 0 0 ∧ Below w1.heap.size w1 wr) (fun _ _ i _ => n - (intOf i).toNat)
  case atStart =>
    exact ⟨0, [], false, Nat.zero_le _, rfl, rfl, addTo_zero _ _ _, by rw [show w.heap.size + 1 = w1.heap.size by omega]; exact World.ownsRow_lit w1 #[] 0 (Nat.le_refl _) (Nat.zero_le _) rfl, by simp, (Below.refl _ _).alloc (Nat.le_refl _) _⟩
  case round =>
    obtain ⟨k, es, d, hk, rfl, rfl, hat, hown, hnn, hnx⟩ := hrel
    by_cases hlt : k < n
    · obtain ⟨b, off, x, e, hx, ⟨c0, c1, c2⟩, hbl⟩ := (HG.out.below hnx).at hlt
      obtain ⟨r0, r1⟩ := HR.out
      replace r0 := (hnx.cell (p := ⟨w.heap.size, 0, none⟩) (by show w.heap.size < _; omega)).trans r0
      replace r1 := (hnx.cell (p := ⟨w.heap.size, 1, none⟩) (by show w.heap.size < _; omega)).trans r1
      subst e
      have hlt' : (k : Int) < (n : Int) := by omega
      go_upto_region 9 with fail
      obtain ⟨X, hX⟩ : ∃ X, X = wr.alloc (.cells #[.int .i64 x.1.1, .int .i64 x.1.2, .int .i64 x.2] 196) := ⟨_, rfl⟩
      rw [← hX]
      have hbX : Below wr.heap.size wr X := by rw [hX]; exact (Below.refl _ _).alloc (Nat.le_refl _) _
      have x0 : X.cell? ⟨wr.heap.size, 0, none⟩ = some (.int .i64 x.1.1) := by rw [hX]; simp
      have x1 : X.cell? ⟨wr.heap.size, 1, none⟩ = some (.int .i64 x.1.2) := by rw [hX]; simp
      have x2 : X.cell? ⟨wr.heap.size, 2, none⟩ = some (.int .i64 x.2) := by rw [hX]; simp
      have x3 : X.frozen? ⟨wr.heap.size, 2, none⟩ = false := by rw [hX]; simp
      have hXs : X.heap.size = wr.heap.size + 1 := by rw [hX]; simp
      have hwr : w1.heap.size ≤ wr.heap.size := hnx.size
      replace r0 := (hbX.cell (p := ⟨w.heap.size, 0, none⟩) (by show w.heap.size < _; omega)).trans r0
      replace r1 := (hbX.cell (p := ⟨w.heap.size, 1, none⟩) (by show w.heap.size < _; omega)).trans r1
      have HO : Hid (Own3 wr w1.heap.size u7 es) := hown
      have HAT : Hid (addTo gs r s (k + 1) = addStep r s (es, d) x) := by show addTo gs r s (k + 1) = _; rw [addTo_succ hx, hat]
      have HLE : Hid (es.length ≤ k + 1) := by
        have := addTo_len gs r s k
        rw [hat] at this
        show es.length ≤ k + 1
        split at this <;> simp_all <;> omega
      clear hX hown hat hx c0 c1 c2
      have hnX : Below w1.heap.size w1 X := hnx.trans (hbX.mono hwr)
      by_cases qe : x.1 = r
      · have he : eqRo x.1 r = true := (eqRo_iff _ _).2 qe
        have HN : Hid (addTo gs r s (k + 1) = (es ++ [(x.1, orI x.2 s)], true)) := by show addTo gs r s (k + 1) = _; rw [HAT.out]; simp [addStep, qe]
        clear HAT qe
        go_wp2_with (first | (at_builtin; refine wpList_append_own _ rfl _ _ 158 rfl w1.heap.size 196 i0 (.agg #[.int .i64 0, .int .i64 0, .int .i64 0]) 3 24 Tryz.under158 hi hz0 hz1 hz2 rfl (by decide) u7 (es.length) (flat3 es) rfl ?c0 ⟨_, 0, none⟩ 1 1 [.int .i64 x.1.1, .int .i64 x.1.2, .int .i64 (orI x.2 s)] rfl rfl ?c1 ?c2 ?c3 ?c4 ?c5 ?_))
        case c0 => exact HO.out.below ((hbX.setCell (p := ⟨wr.heap.size, 2, none⟩) (Nat.le_refl _) _).alloc (by simp; omega) _)
        case c1 => exact cell_new3 _ _ (by first | rfl | simp [hXs] | simp) _ _ _ _
        case c2 => intro u hu; simp at hu; rcases hu with rfl | rfl | rfl <;> rfl
        case c3 => have := HLE.out; unfold maxLen; omega
        case c4 => have := HLE.out; omega
        case c5 => simp; omega
        · intro v' w' hown' hgrow hnil
          have R1 : Hid (Own3 w' w1.heap.size v' (es ++ [(x.1, orI x.2 s)])) := by show Own3 w' w1.heap.size v' _; rw [hsz]; exact own3_push hown'
          have R2 : Hid (Below w1.heap.size w1 w') := own3_grown (HO.out.below ((hbX.setCell (p := ⟨wr.heap.size, 2, none⟩) (Nat.le_refl _) _).alloc (by simp; omega) _)) ((hnX.setCell (p := ⟨wr.heap.size, 2, none⟩) hwr _).alloc (by simp; omega) _) hgrow (by simp; omega)
          have hnn' : v' ≠ .slice none 0 0 := by first | exact hnil | simpa using hnil
          clear hown' hgrow hnil
          go_wp2
          go_roundw
          case rel => exact ⟨k + 1, _, _, by omega, by go_num, rfl, HN.out, R1.out, hnn', R2.out⟩
          case measure => simp [intOf]; omega
      · have he : eqRo x.1 r = false := by
          cases q : eqRo x.1 r
          · rfl
          · exact absurd ((eqRo_iff _ _).1 q) qe
        have HQ : Hid (x.1 ≠ r) := qe
        clear qe
        by_cases qd : d = false ∧ ltR r x.1 = true
        · obtain ⟨rfl, ql⟩ := qd
          have HN : Hid (addTo gs r s (k + 1) = (es ++ [(r, s)] ++ [x], true)) := by show addTo gs r s (k + 1) = _; rw [HAT.out]; simp [addStep, HQ.out, ql]
          clear HAT
          have hc1 : X.cell? ⟨w.heap.size, 0, none⟩ = some (.int .i64 r.1) := r0
          have hcase : r.1 < x.1.1 ∨ (¬ r.1 < x.1.1 ∧ x.1.1 = r.1 ∧ r.2 < x.1.2) := by
            simp [ltR] at ql
            omega
          clear ql
          rcases hcase with q1 | ⟨q1, q2, q3⟩
          · have g1 : decide (r.1 < x.1.1) = true := by simpa using q1
            clear q1
            go_wp2_with (first | (at_builtin; refine wpList_append_own _ rfl _ _ 158 rfl w1.heap.size 196 i0 (.agg #[.int .i64 0, .int .i64 0, .int .i64 0]) 3 24 Tryz.under158 hi hz0 hz1 hz2 rfl (by decide) u7 (es.length) (flat3 es) rfl ?c0 ⟨_, 0, none⟩ 1 1 [.int .i64 r.1, .int .i64 r.2, .int .i64 s] rfl rfl ?c1 ?c2 ?c3 ?c4 ?c5 ?_))
            case c0 => exact HO.out.below (hbX.alloc (by omega) _)
            case c1 => exact cell_new3 _ _ (by first | rfl | simp [hXs] | simp) _ _ _ _
            case c2 => intro u hu; simp at hu; rcases hu with rfl | rfl | rfl <;> rfl
            case c3 => have := HLE.out; unfold maxLen; omega
            case c4 => have := HLE.out; omega
            case c5 => simp; omega
            · intro v' w' hown' hgrow hnil
              have R1 : Hid (Own3 w' w1.heap.size v' (es ++ [(r, s)])) := by show Own3 w' w1.heap.size v' _; rw [hsz]; exact own3_push (x := (r, s)) hown'
              have R2 : Hid (Below w1.heap.size w1 w') := own3_grown (HO.out.below (hbX.alloc (by omega) _)) (hnX.alloc (by omega) _) hgrow (by simp; omega)
              have hnn' : v' ≠ .slice none 0 0 := by first | exact hnil | simpa using hnil
              have hX2 := (Below.refl X.heap.size X).alloc (Nat.le_refl _) (.cells #[.int .i64 r.1, .int .i64 r.2, .int .i64 s] 196)
              have y0 := own3_apart HO.out hgrow (Nat.le_refl _) ((hX2.cell (p := ⟨wr.heap.size, 0, none⟩) (by show wr.heap.size < _; omega)).trans x0)
              have y1 := own3_apart HO.out hgrow (Nat.le_refl _) ((hX2.cell (p := ⟨wr.heap.size, 1, none⟩) (by show wr.heap.size < _; omega)).trans x1)
              have y2 := own3_apart HO.out hgrow (Nat.le_refl _) ((hX2.cell (p := ⟨wr.heap.size, 2, none⟩) (by show wr.heap.size < _; omega)).trans x2)
              have hs2 := R2.out.size
              have HLE2 : Hid ((es ++ [(r, s)]).length ≤ k + 2) := by show (es ++ [(r, s)]).length ≤ k + 2; have := HLE.out; simp; omega
              clear hown' hgrow hnil hX2
              go_wp2_with (first | (at_builtin; refine wpList_append_own _ rfl _ _ 158 rfl w1.heap.size 196 i0 (.agg #[.int .i64 0, .int .i64 0, .int .i64 0]) 3 24 Tryz.under158 hi hz0 hz1 hz2 rfl (by decide) v' ((es ++ [(r, s)]).length) (flat3 (es ++ [(r, s)])) rfl ?c0 ⟨_, 0, none⟩ 1 1 [.int .i64 x.1.1, .int .i64 x.1.2, .int .i64 x.2] rfl rfl ?c1 ?c2 ?c3 ?c4 ?c5 ?_))
              case c0 => exact R1.out.below ((Below.refl _ _).alloc (Nat.le_refl _) _)
              case c1 => exact cell_new3 _ _ (by first | rfl | simp) _ _ _ _
              case c2 => intro u hu; simp at hu; rcases hu with rfl | rfl | rfl <;> rfl
              case c3 => have := HLE2.out; unfold maxLen; omega
              case c4 => have := HLE2.out; omega
              case c5 => simp; omega
              · intro v2 w2 hown' hgrow hnil
                have R3 : Hid (Own3 w2 w1.heap.size v2 (es ++ [(r, s)] ++ [x])) := by show Own3 w2 w1.heap.size v2 _; rw [hsz]; exact own3_push (by rw [List.length_append]; exact hown')
                have R4 : Hid (Below w1.heap.size w1 w2) := own3_grown (R1.out.below ((Below.refl _ _).alloc (Nat.le_refl _) _)) (R2.out.alloc (by omega) _) hgrow (by simp; omega)
                have hnn2 : v2 ≠ .slice none 0 0 := by first | exact hnil | simpa using hnil
                clear hown' hgrow hnil
                go_wp2
                go_roundw
                case rel => exact ⟨k + 1, _, _, by omega, by go_num, rfl, HN.out, R3.out, hnn2, R4.out⟩
                case measure => simp [intOf]; omega
          · have g1 : decide (r.1 < x.1.1) = false := by simpa using q1
            have g2 : (x.1.1 == r.1) = true := by simpa using q2
            have g3 : decide (r.2 < x.1.2) = true := by simpa using q3
            clear q1 q2 q3
            go_wp2_with (first | (at_builtin; refine wpList_append_own _ rfl _ _ 158 rfl w1.heap.size 196 i0 (.agg #[.int .i64 0, .int .i64 0, .int .i64 0]) 3 24 Tryz.under158 hi hz0 hz1 hz2 rfl (by decide) u7 (es.length) (flat3 es) rfl ?c0 ⟨_, 0, none⟩ 1 1 [.int .i64 r.1, .int .i64 r.2, .int .i64 s] rfl rfl ?c1 ?c2 ?c3 ?c4 ?c5 ?_))
            case c0 => exact HO.out.below (hbX.alloc (by omega) _)
            case c1 => exact cell_new3 _ _ (by first | rfl | simp [hXs] | simp) _ _ _ _
            case c2 => intro u hu; simp at hu; rcases hu with rfl | rfl | rfl <;> rfl
            case c3 => have := HLE.out; unfold maxLen; omega
            case c4 => have := HLE.out; omega
            case c5 => simp; omega
            · intro v' w' hown' hgrow hnil
              have R1 : Hid (Own3 w' w1.heap.size v' (es ++ [(r, s)])) := by show Own3 w' w1.heap.size v' _; rw [hsz]; exact own3_push (x := (r, s)) hown'
              have R2 : Hid (Below w1.heap.size w1 w') := own3_grown (HO.out.below (hbX.alloc (by omega) _)) (hnX.alloc (by omega) _) hgrow (by simp; omega)
              have hnn' : v' ≠ .slice none 0 0 := by first | exact hnil | simpa using hnil
              have hX2 := (Below.refl X.heap.size X).alloc (Nat.le_refl _) (.cells #[.int .i64 r.1, .int .i64 r.2, .int .i64 s] 196)
              have y0 := own3_apart HO.out hgrow (Nat.le_refl _) ((hX2.cell (p := ⟨wr.heap.size, 0, none⟩) (by show wr.heap.size < _; omega)).trans x0)
              have y1 := own3_apart HO.out hgrow (Nat.le_refl _) ((hX2.cell (p := ⟨wr.heap.size, 1, none⟩) (by show wr.heap.size < _; omega)).trans x1)
              have y2 := own3_apart HO.out hgrow (Nat.le_refl _) ((hX2.cell (p := ⟨wr.heap.size, 2, none⟩) (by show wr.heap.size < _; omega)).trans x2)
              have hs2 := R2.out.size
              have HLE2 : Hid ((es ++ [(r, s)]).length ≤ k + 2) := by show (es ++ [(r, s)]).length ≤ k + 2; have := HLE.out; simp; omega
              clear hown' hgrow hnil hX2
              go_wp2_with (first | (at_builtin; refine wpList_append_own _ rfl _ _ 158 rfl w1.heap.size 196 i0 (.agg #[.int .i64 0, .int .i64 0, .int .i64 0]) 3 24 Tryz.under158 hi hz0 hz1 hz2 rfl (by decide) v' ((es ++ [(r, s)]).length) (flat3 (es ++ [(r, s)])) rfl ?c0 ⟨_, 0, none⟩ 1 1 [.int .i64 x.1.1, .int .i64 x.1.2, .int .i64 x.2] rfl rfl ?c1 ?c2 ?c3 ?c4 ?c5 ?_))
              case c0 => exact R1.out.below ((Below.refl _ _).alloc (Nat.le_refl _) _)
              case c1 => exact cell_new3 _ _ (by first | rfl | simp) _ _ _ _
              case c2 => intro u hu; simp at hu; rcases hu with rfl | rfl | rfl <;> rfl
              case c3 => have := HLE2.out; unfold maxLen; omega
              case c4 => have := HLE2.out; omega
              case c5 => simp; omega
              · intro v2 w2 hown' hgrow hnil
                have R3 : Hid (Own3 w2 w1.heap.size v2 (es ++ [(r, s)] ++ [x])) := by show Own3 w2 w1.heap.size v2 _; rw [hsz]; exact own3_push (by rw [List.length_append]; exact hown')
                have R4 : Hid (Below w1.heap.size w1 w2) := own3_grown (R1.out.below ((Below.refl _ _).alloc (Nat.le_refl _) _)) (R2.out.alloc (by omega) _) hgrow (by simp; omega)
                have hnn2 : v2 ≠ .slice none 0 0 := by first | exact hnil | simpa using hnil
                clear hown' hgrow hnil
                go_wp2
                go_roundw
                case rel => exact ⟨k + 1, _, _, by omega, by go_num, rfl, HN.out, R3.out, hnn2, R4.out⟩
                case measure => simp [intOf]; omega
        · have HN : Hid (addTo gs r s (k + 1) = (es ++ [x], d)) := by
            show addTo gs r s (k + 1) = _
            rw [HAT.out]
            unfold addStep
            rw [if_neg HQ.out, if_neg qd]
          clear HAT
          have hcase : d = true ∨ (d = false ∧ ¬ r.1 < x.1.1 ∧ x.1.1 ≠ r.1) ∨ (d = false ∧ ¬ r.1 < x.1.1 ∧ x.1.1 = r.1 ∧ ¬ r.2 < x.1.2) := by
            cases d
            · have q1 : ¬ r.1 < x.1.1 := fun h => qd ⟨rfl, by simp [ltR, h]⟩
              have q3 : x.1.1 = r.1 → ¬ r.2 < x.1.2 := fun e h => qd ⟨rfl, by simp [ltR, e, h]⟩
              by_cases e : x.1.1 = r.1
              · exact .inr (.inr ⟨rfl, q1, e, q3 e⟩)
              · exact .inr (.inl ⟨rfl, q1, e⟩)
            · exact .inl rfl
          clear qd
          rcases hcase with rfl | ⟨rfl, q1, q2⟩ | ⟨rfl, q1, q2, q3⟩
          · skip
            go_wp2_with (first | (at_builtin; refine wpList_append_own _ rfl _ _ 158 rfl w1.heap.size 196 i0 (.agg #[.int .i64 0, .int .i64 0, .int .i64 0]) 3 24 Tryz.under158 hi hz0 hz1 hz2 rfl (by decide) u7 (es.length) (flat3 es) rfl ?c0 ⟨_, 0, none⟩ 1 1 [.int .i64 x.1.1, .int .i64 x.1.2, .int .i64 x.2] rfl rfl ?c1 ?c2 ?c3 ?c4 ?c5 ?_))
            case c0 => exact HO.out.below (hbX.alloc (by omega) _)
            case c1 => exact cell_new3 _ _ (by first | rfl | simp [hXs] | simp) _ _ _ _
            case c2 => intro u hu; simp at hu; rcases hu with rfl | rfl | rfl <;> rfl
            case c3 => have := HLE.out; unfold maxLen; omega
            case c4 => have := HLE.out; omega
            case c5 => simp; omega
            · intro v' w' hown' hgrow hnil
              have R1 : Hid (Own3 w' w1.heap.size v' (es ++ [x])) := by show Own3 w' w1.heap.size v' _; rw [hsz]; exact own3_push hown'
              have R2 : Hid (Below w1.heap.size w1 w') := own3_grown (HO.out.below (hbX.alloc (by omega) _)) (hnX.alloc (by omega) _) hgrow (by simp; omega)
              have hnn' : v' ≠ .slice none 0 0 := by first | exact hnil | simpa using hnil
              clear hown' hgrow hnil
              go_wp2
              go_roundw
              case rel => exact ⟨k + 1, _, _, by omega, by go_num, rfl, HN.out, R1.out, hnn', R2.out⟩
              case measure => simp [intOf]; omega
          · have g1 : decide (r.1 < x.1.1) = false := by simpa using q1
            have g2 : (x.1.1 == r.1) = false := by simpa using q2
            clear q1 q2
            go_wp2_with (first | (at_builtin; refine wpList_append_own _ rfl _ _ 158 rfl w1.heap.size 196 i0 (.agg #[.int .i64 0, .int .i64 0, .int .i64 0]) 3 24 Tryz.under158 hi hz0 hz1 hz2 rfl (by decide) u7 (es.length) (flat3 es) rfl ?c0 ⟨_, 0, none⟩ 1 1 [.int .i64 x.1.1, .int .i64 x.1.2, .int .i64 x.2] rfl rfl ?c1 ?c2 ?c3 ?c4 ?c5 ?_))
            case c0 => exact HO.out.below (hbX.alloc (by omega) _)
            case c1 => exact cell_new3 _ _ (by first | rfl | simp [hXs] | simp) _ _ _ _
            case c2 => intro u hu; simp at hu; rcases hu with rfl | rfl | rfl <;> rfl
            case c3 => have := HLE.out; unfold maxLen; omega
            case c4 => have := HLE.out; omega
            case c5 => simp; omega
            · intro v' w' hown' hgrow hnil
              have R1 : Hid (Own3 w' w1.heap.size v' (es ++ [x])) := by show Own3 w' w1.heap.size v' _; rw [hsz]; exact own3_push hown'
              have R2 : Hid (Below w1.heap.size w1 w') := own3_grown (HO.out.below (hbX.alloc (by omega) _)) (hnX.alloc (by omega) _) hgrow (by simp; omega)
              have hnn' : v' ≠ .slice none 0 0 := by first | exact hnil | simpa using hnil
              clear hown' hgrow hnil
              go_wp2
              go_roundw
              case rel => exact ⟨k + 1, _, _, by omega, by go_num, rfl, HN.out, R1.out, hnn', R2.out⟩
              case measure => simp [intOf]; omega
          · have g1 : decide (r.1 < x.1.1) = false := by simpa using q1
            have g2 : (x.1.1 == r.1) = true := by simpa using q2
            have g3 : decide (r.2 < x.1.2) = false := by simpa using q3
            clear q1 q2 q3
            go_wp2_with (first | (at_builtin; refine wpList_append_own _ rfl _ _ 158 rfl w1.heap.size 196 i0 (.agg #[.int .i64 0, .int .i64 0, .int .i64 0]) 3 24 Tryz.under158 hi hz0 hz1 hz2 rfl (by decide) u7 (es.length) (flat3 es) rfl ?c0 ⟨_, 0, none⟩ 1 1 [.int .i64 x.1.1, .int .i64 x.1.2, .int .i64 x.2] rfl rfl ?c1 ?c2 ?c3 ?c4 ?c5 ?_))
            case c0 => exact HO.out.below (hbX.alloc (by omega) _)
            case c1 => exact cell_new3 _ _ (by first | rfl | simp [hXs] | simp) _ _ _ _
            case c2 => intro u hu; simp at hu; rcases hu with rfl | rfl | rfl <;> rfl
            case c3 => have := HLE.out; unfold maxLen; omega
            case c4 => have := HLE.out; omega
            case c5 => simp; omega
            · intro v' w' hown' hgrow hnil
              have R1 : Hid (Own3 w' w1.heap.size v' (es ++ [x])) := by show Own3 w' w1.heap.size v' _; rw [hsz]; exact own3_push hown'
              have R2 : Hid (Below w1.heap.size w1 w') := own3_grown (HO.out.below (hbX.alloc (by omega) _)) (hnX.alloc (by omega) _) hgrow (by simp; omega)
              have hnn' : v' ≠ .slice none 0 0 := by first | exact hnil | simpa using hnil
              clear hown' hgrow hnil
              go_wp2
              go_roundw
              case rel => exact ⟨k + 1, _, _, by omega, by go_num, rfl, HN.out, R1.out, hnn', R2.out⟩
              case measure => simp [intOf]; omega
    · have hkn : k = n := by omega
      subst hkn
      cases d
      · obtain ⟨r0, r1⟩ := HR.out
        replace r0 := (hnx.cell (p := ⟨w.heap.size, 0, none⟩) (by show w.heap.size < _; omega)).trans r0
        replace r1 := (hnx.cell (p := ⟨w.heap.size, 1, none⟩) (by show w.heap.size < _; omega)).trans r1
        have HO : Hid (Own3 wr w1.heap.size u7 es) := hown
        have HLE : Hid (es.length ≤ k + 1) := by
          have := addTo_len gs r s k
          rw [hat] at this
          show es.length ≤ k + 1
          simp at this
          omega
        have HAT : Hid (addTo gs r s k = (es, false)) := hat
        have hwr : w1.heap.size ≤ wr.heap.size := hnx.size
        clear hown hat
        go_wp2_with (first | (at_builtin; refine wpList_append_own _ rfl _ _ 158 rfl w1.heap.size 196 i0 (.agg #[.int .i64 0, .int .i64 0, .int .i64 0]) 3 24 Tryz.under158 hi hz0 hz1 hz2 rfl (by decide) u7 (es.length) (flat3 es) rfl ?c0 ⟨_, 0, none⟩ 1 1 [.int .i64 r.1, .int .i64 r.2, .int .i64 s] rfl rfl ?c1 ?c2 ?c3 ?c4 ?c5 ?_))
        case c0 => exact HO.out.below ((Below.refl _ _).alloc (Nat.le_refl _) _)
        case c1 => exact cell_new3 _ _ (by first | rfl | simp) _ _ _ _
        case c2 => intro u hu; simp at hu; rcases hu with rfl | rfl | rfl <;> rfl
        case c3 => have := HLE.out; unfold maxLen; omega
        case c4 => have := HLE.out; omega
        case c5 => simp; omega
        · intro v' w' hown' hgrow hnil
          have R1 : Own3 w' w1.heap.size v' (es ++ [(r, s)]) := by rw [hsz]; exact own3_push (x := (r, s)) hown'
          have R2 : Hid (Below w1.heap.size w1 w') := own3_grown (HO.out.below ((Below.refl _ _).alloc (Nat.le_refl _) _)) (hnx.alloc (by omega) _) hgrow (by simp; omega)
          have hnn' : v' ≠ .slice none 0 0 := by first | exact hnil | simpa using hnil
          obtain ⟨g, cap, rfl⟩ := R1.shape hnn'
          have HR1 : Hid (Own3 w' w1.heap.size (.slice (some ⟨g, 0, none⟩) (es ++ [(r, s)]).length cap) (es ++ [(r, s)])) := R1
          clear hown' hgrow hnil R1
          go_wp2
          go_ret
          exact ⟨g, _, cap, es ++ [(r, s)], rfl, rfl, by rw [HAT.out]; rfl, own3_lower HR1.out (by omega), HB.out.trans (R2.out.mono (by omega))⟩
      · obtain ⟨g, cap, rfl⟩ := hown.shape hnn
        have HO : Hid (Own3 wr w1.heap.size (.slice (some ⟨g, 0, none⟩) es.length cap) es) := hown
        have HAT : Hid (addTo gs r s k = (es, true)) := hat
        clear hown hat
        go_wp2
        go_ret
        exact ⟨g, _, cap, es, rfl, rfl, by rw [HAT.out]; rfl, own3_lower HO.out (by omega), HB.out.trans (hnx.mono (by omega))⟩

set_option maxHeartbeats 400000 in
theorem l3Add_c (B : Nat) (g n c : Nat) (gs : List GrI) (r : RoI) (s : Int) (w : World) (hz : gs.length = n) (ho : Own3 w B (.slice (some ⟨g, 0, none⟩) n c) gs) (hg : SG gs) (hB : B ≤ w.heap.size) :
    Calls Tryz.prog 157 #[.slice (some ⟨g, 0, none⟩) n c, .agg #[.int .i64 r.1, .int .i64 r.2], .int .i64 s] w fun e w' => ∃ g' m cap, e = .returned (.slice (some ⟨g', 0, none⟩) m cap) ∧ (addG gs r s).length = m ∧ Own3 w' B (.slice (some ⟨g', 0, none⟩) m cap) (addG gs r s) ∧ Below w.heap.size w w' := by
  by_cases hs : s = 0
  · subst hs
    have HO : Hid (Own3 w B (.slice (some ⟨g, 0, none⟩) n c) gs) := ho
    have HZ : Hid (gs.length = n) := hz
    clear ho hz
    go_enter Tryz.func157, Tryz.ntmps157
    go_wp2
    go_ret
    have e : addG gs r 0 = gs := by simp [addG]
    have hb : Below w.heap.size w (w.alloc (.cells #[.int .i64 r.1, .int .i64 r.2] 79)) := (Below.refl _ _).alloc (Nat.le_refl _) _
    rw [e]
    exact ⟨g, n, c, rfl, HZ.out, HO.out.below hb, hb⟩
  · have hl := sg_len hg
    refine (l3Add_t (some ⟨g, 0, none⟩) n c gs r s w (ho.read hz) (by omega) hs).mono ?_
    rintro e w' ⟨g', m, cap, es, rfl, hm, hes, hown, hb⟩
    have e2 : es = addG gs r s := by rw [hes, ← hz, addTo_all hg, addG, if_neg hs]
    subst e2
    exact ⟨g', m, cap, rfl, hm, own3_lower hown hB, hb⟩

end Go.Proofs.YtnfolmjdicfobaaGreatDoor

namespace Go.Proofs.YtnfolmjdicfobaaGreatDoor
open Go.RowKit
set_option linter.unusedVariables false
set_option linter.unusedSimpArgs false

/-- Grants in a block, three cells each. -/
def GrsAt (w : World) (g : Nat) (gs : List GrI) : Prop := ∀ k x, gs[k]? = some x → GrAt w g (k * 3) x

theorem GrsAt.below {w w' : World} {g : Nat} {gs : List GrI} (h : GrsAt w g gs) (hb : Below w.heap.size w w') : GrsAt w' g gs := fun k x e =>
  (h k x e).below hb (World.block_lt_of_cell? w ⟨g, k * 3, none⟩ (h k x e).1)

theorem GrIn.of {w : World} {g n : Nat} {gs : List GrI} (hl : gs.length = n) (h : GrsAt w g gs) : GrIn w (some ⟨g, 0, none⟩) n gs :=
  ⟨hl, fun _ => ⟨g, 0, rfl, fun k x e => by rw [Nat.zero_add]; exact h k x e⟩⟩

/-- A block of n grants that may be written. -/
def Room3 (w : World) (g n : Nat) : Prop := (∀ j, j < n * 3 → ∃ v, w.cell? ⟨g, j, none⟩ = some v) ∧ ∀ j, w.frozen? ⟨g, j, none⟩ = false

abbrev put3 (w : World) (g o : Nat) (s : GrI) : World := (((w.setCell ⟨g, o, none⟩ (.int .i64 s.1.1)).setCell ⟨g, o + 1, none⟩ (.int .i64 s.1.2)).setCell ⟨g, o + 2, none⟩ (.int .i64 s.2))

theorem put3_other (w : World) (g o : Nat) (s : GrI) (a : Addr) (h : ∀ j, j < 3 → a ≠ ⟨g, o + j, none⟩) : (put3 w g o s).cell? a = w.cell? a := by
  rw [World.cell?_setCell_other (h := Ne.symm (h 2 (by omega))), World.cell?_setCell_other (h := Ne.symm (h 1 (by omega))), World.cell?_setCell_other (h := Ne.symm (a := a) (b := ⟨g, o, none⟩) (by simpa using h 0 (by omega)))]

theorem put3_gr (w : World) (g o : Nat) (s : GrI) (h : ∀ j, j < 3 → ∃ v, w.cell? ⟨g, o + j, none⟩ = some v) : GrAt (put3 w g o s) g o s := by
  obtain ⟨v0, h0⟩ := h 0 (by omega)
  obtain ⟨v1, h1⟩ := h 1 (by omega)
  obtain ⟨v2, h2⟩ := h 2 (by omega)
  rw [Nat.add_zero] at h0
  refine ⟨?_, ?_, ?_⟩ <;> simp [go_sem, h0, h1, h2]

theorem put3_room {w : World} {g n k : Nat} {zs : List GrI} {s : GrI} (hroom : Room3 w g n) (hd : GrsAt w g (zs.take k)) (hs : zs[k]? = some s) (hk : k < n) :
    Room3 (put3 w g (k * 3) s) g n ∧ GrsAt (put3 w g (k * 3) s) g (zs.take (k + 1)) := by
  have hr := put3_gr w g (k * 3) s (fun j hj => hroom.1 (k * 3 + j) (by omega))
  refine ⟨⟨fun j hj => ?_, fun j => ?_⟩, fun i r e => ?_⟩
  · by_cases h : k * 3 ≤ j ∧ j < k * 3 + 3
    · have hj' : j = k * 3 ∨ j = k * 3 + 1 ∨ j = k * 3 + 2 := by omega
      obtain ⟨h0, h1, h2⟩ := hr
      rcases hj' with rfl | rfl | rfl
      · exact ⟨_, h0⟩
      · exact ⟨_, h1⟩
      · exact ⟨_, h2⟩
    · rw [put3_other w g (k * 3) s ⟨g, j, none⟩ (fun i hi e => by have e2 := congrArg Addr.off e; simp only at e2; omega)]
      exact hroom.1 j hj
  · simp only [World.frozen?_setCell]
    exact hroom.2 j
  · rw [List.getElem?_take] at e
    split at e
    · by_cases hik : i = k
      · subst hik
        rw [hs] at e
        cases e
        exact hr
      · have hi : i < k := by omega
        have h1 := hd i r (by rw [List.getElem?_take, if_pos hi]; exact e)
        obtain ⟨h0, h1, h2⟩ := h1
        refine ⟨?_, ?_, ?_⟩
        · rw [put3_other w g (k * 3) s ⟨g, i * 3, none⟩ (fun j hj e => by have e2 := congrArg Addr.off e; simp only at e2; omega)]; exact h0
        · rw [put3_other w g (k * 3) s ⟨g, i * 3 + 1, none⟩ (fun j hj e => by have e2 := congrArg Addr.off e; simp only at e2; omega)]; exact h1
        · rw [put3_other w g (k * 3) s ⟨g, i * 3 + 2, none⟩ (fun j hj e => by have e2 := congrArg Addr.off e; simp only at e2; omega)]; exact h2
    · cases e

theorem put3_below {w0 w : World} {B g o : Nat} (h : Below B w0 w) (hg : B ≤ g) (s : GrI) : Below B w0 (put3 w g o s) :=
  h.setCell hg _ |>.setCell hg _ |>.setCell hg _

set_option maxHeartbeats 400000 in
theorem toRoleL_c (o n : Int) (w : World) : Calls Tryz.prog 133 #[.agg #[.int .i64 o, .int .i64 n]] w fun e w' => e = .returned (.agg #[.int .i64 o, .int .i64 n]) ∧ Below w.heap.size w w' := by
  go_enter Tryz.func133, Tryz.ntmps133
  go_wp2
  go_returns
  exact ⟨rfl, by go_grown⟩

end Go.Proofs.YtnfolmjdicfobaaGreatDoor

namespace Go.Proofs.YtnfolmjdicfobaaGreatDoor
open Go.RowKit
set_option linter.unusedVariables false
set_option linter.unusedSimpArgs false

/-- A slice of grants, read. -/
def GrV (w : World) (a : Option Addr) (zs : List GrI) : Prop := ∀ k p, zs[k]? = some p → ∃ g, a = some ⟨g, 0, none⟩ ∧ GrAt w g (k * 3) p

theorem GrV.below {w w' : World} {a : Option Addr} {zs : List GrI} (h : GrV w a zs) (hb : Below w.heap.size w w') : GrV w' a zs := fun k p e => by
  obtain ⟨g, ha, h1⟩ := h k p e
  exact ⟨g, ha, h1.below hb (World.block_lt_of_cell? w ⟨g, k * 3, none⟩ h1.1)⟩

theorem GrV.kept {w w' : World} {a : Option Addr} {zs : List GrI} {row : Option Nat} (h : GrV w a zs) (hg : w.grownBy w' row) (hne : ∀ g, a = some ⟨g, 0, none⟩ → some g ≠ row) : GrV w' a zs := fun k p e => by
  obtain ⟨g, ha, h1, h2, h3⟩ := h k p e
  exact ⟨g, ha, hg.cell h1 (hne g ha), hg.cell h2 (hne g ha), hg.cell h3 (hne g ha)⟩

theorem GrV.grIn {w : World} {a : Option Addr} {n : Nat} {zs : List GrI} (hn : zs.length = n) (h : GrV w a zs) : GrIn w a n zs := by
  refine ⟨hn, fun hp => ?_⟩
  obtain ⟨g, ha, _⟩ := h 0 _ (List.getElem?_eq_getElem (by omega))
  refine ⟨g, 0, ha, fun k x e => ?_⟩
  obtain ⟨g', ha', hx⟩ := h k x e
  rw [ha] at ha'
  cases ha'
  rw [Nat.zero_add]
  exact hx

theorem Own3.view {w : World} {B : Nat} {a : Option Addr} {n cap : Nat} {zs : List GrI} (h : Own3 w B (.slice a n cap) zs) : GrV w a zs := by
  intro k p e
  have hk : k < zs.length := by
    by_cases q : k < zs.length
    · exact q
    · rw [List.getElem?_eq_none (by omega)] at e; cases e
  have h0 : w.ownsRow B 196 3 (.slice a n cap) zs.length (flat3 zs) := h
  rcases h0.2 with ⟨h', h''⟩ | ⟨g, cap', cur, h', _⟩
  · omega
  · simp at h'
    obtain ⟨rfl, rfl, rfl⟩ := h'
    obtain ⟨f1, f2, f3⟩ := flat3_at zs k p e
    refine ⟨g, rfl, ?_, ?_, ?_⟩
    · rw [h0.cellAt (k * 3) (by omega)]; exact f1
    · rw [h0.cellAt (k * 3 + 1) (by omega)]; exact f2
    · rw [h0.cellAt (k * 3 + 2) (by omega)]; exact f3

theorem Own3.form {w : World} {B : Nat} {v : Value} {zs : List GrI} (h : Own3 w B v zs) : (v = .slice none 0 0 ∧ zs = []) ∨ ∃ g cap, v = .slice (some ⟨g, 0, none⟩) zs.length cap ∧ B ≤ g ∧ g < w.heap.size ∧ zs.length ≤ cap ∧ cap ≤ maxLen := by
  have h0 : w.ownsRow B 196 3 v zs.length (flat3 zs) := h
  rcases h0.2 with ⟨h', h''⟩ | ⟨g, cap', cur, h', hb, hg, hc, hm, _⟩
  · exact .inl ⟨h', List.length_eq_zero_iff.1 h''⟩
  · exact .inr ⟨g, cap', h', hb, (Array.getElem?_eq_some_iff.1 hg).1, hc, hm⟩

theorem Own3.slice {w : World} {B : Nat} {v : Value} {zs : List GrI} (h : Own3 w B v zs) : ∃ a cap, v = .slice a zs.length cap := by
  rcases h.form with ⟨rfl, rfl⟩ | ⟨g, cap, rfl, _⟩
  · exact ⟨none, 0, rfl⟩
  · exact ⟨_, _, rfl⟩

theorem Own3.alloc {w : World} {B : Nat} {v : Value} {zs : List GrI} (h : Own3 w B v zs) (o : Obj) : Own3 (w.alloc o) B v zs := World.ownsRow.alloc h o

/-- The marks of n grants. -/
def mk3 (n : Nat) : List GrI := (List.range n).map fun j => ((((1 + 3 * j : Nat) : Int), ((2 + 3 * j : Nat) : Int)), ((3 + 3 * j : Nat) : Int))
theorem mk3_len (n : Nat) : (mk3 n).length = n := by simp [mk3]
theorem mk3_at (n j : Nat) (h : j < n) : (mk3 n)[j]? = some ((((1 + 3 * j : Nat) : Int), ((2 + 3 * j : Nat) : Int)), ((3 + 3 * j : Nat) : Int)) := by simp [mk3, h]

theorem flat3_set (a : List GrI) (k : Nat) (p : GrI) : flat3 (a.set k p) = (((flat3 a).set (k * 3) (.int .i64 p.1.1)).set (k * 3 + 1) (.int .i64 p.1.2)).set (k * 3 + 2) (.int .i64 p.2) := by
  induction a generalizing k with
  | nil => simp [flat3]
  | cons q qs ih =>
    cases k with
    | zero => simp [flat3]
    | succ k =>
      rw [show (k + 1) * 3 = k * 3 + 1 + 1 + 1 by omega]
      simp [flat3, ih]

theorem Own3.put {w : World} {B g cap : Nat} {zs : List GrI} {n : Nat} (hn : n = zs.length) (h : Own3 w B (.slice (some ⟨g, 0, none⟩) n cap) zs) (j : Nat) (p : GrI) :
    Own3 (((w.setCell ⟨g, j * 3, none⟩ (.int .i64 p.1.1)).setCell ⟨g, j * 3 + 1, none⟩ (.int .i64 p.1.2)).setCell ⟨g, j * 3 + 2, none⟩ (.int .i64 p.2)) B (.slice (some ⟨g, 0, none⟩) n cap) (zs.set j p) ∧ w.grownBy (((w.setCell ⟨g, j * 3, none⟩ (.int .i64 p.1.1)).setCell ⟨g, j * 3 + 1, none⟩ (.int .i64 p.1.2)).setCell ⟨g, j * 3 + 2, none⟩ (.int .i64 p.2)) (some g) := by
  subst hn
  have h0 : w.ownsRow B 196 3 (.slice (some ⟨g, 0, none⟩) zs.length cap) zs.length (flat3 zs) := h
  have h1 := h0.stored (j * 3) (.int .i64 p.1.1)
  have h2 := h1.1.stored (j * 3 + 1) (.int .i64 p.1.2)
  have h3 := h2.1.stored (j * 3 + 2) (.int .i64 p.2)
  refine ⟨?_, grown_tr (grown_tr h1.2 h2.2) h3.2⟩
  show World.ownsRow _ B 196 3 _ (zs.set j p).length (flat3 (zs.set j p))
  rw [flat3_set, List.length_set]
  exact h3.1

theorem Own3.cell {w : World} {B g cap : Nat} {zs : List GrI} {n : Nat} (hn : n = zs.length) (h : Own3 w B (.slice (some ⟨g, 0, none⟩) n cap) zs) (j : Nat) (hj : j < n * 3) : (∃ v, w.cell? ⟨g, j, none⟩ = some v) ∧ w.frozen? ⟨g, j, none⟩ = false := by
  subst hn
  have h0 : w.ownsRow B 196 3 (.slice (some ⟨g, 0, none⟩) zs.length cap) zs.length (flat3 zs) := h
  exact ⟨⟨_, (h0.cellAt j hj).trans (List.getElem?_eq_getElem (by rw [flat3_len]; exact hj))⟩, h0.frozenAt j⟩

end Go.Proofs.YtnfolmjdicfobaaGreatDoor

namespace Go.Proofs.YtnfolmjdicfobaaGreatDoor
open Go.RowKit
set_option linter.unusedVariables false
set_option linter.unusedSimpArgs false

/-- Two cells of a block. -/
def Box2 (w : World) (B : Nat) (x y : Value) : Prop := w.cell? ⟨B, 0, none⟩ = some x ∧ w.cell? ⟨B, 1, none⟩ = some y
theorem Box2.lt {w : World} {B : Nat} {x y : Value} (h : Box2 w B x y) : B < w.heap.size := World.block_lt_of_cell? w ⟨B, 0, none⟩ h.1
theorem Box2.below {w w' : World} {B : Nat} {x y : Value} (h : Box2 w B x y) (hb : Below w.heap.size w w') : Box2 w' B x y :=
  ⟨(hb.cell (p := ⟨B, 0, none⟩) h.lt).trans h.1, (hb.cell (p := ⟨B, 1, none⟩) h.lt).trans h.2⟩
theorem Box2.grown {w w' : World} {B : Nat} {x y : Value} {row : Option Nat} (h : Box2 w B x y) (hg : w.grownBy w' row) (hne : some B ≠ row) : Box2 w' B x y :=
  ⟨hg.cell h.1 hne, hg.cell h.2 hne⟩
theorem Box2.new (w : World) (x y : Value) (t : TypeId) : Box2 (w.alloc (.cells #[x, y] t)) w.heap.size x y := ⟨by simp, by simp⟩

theorem rulesIn_kept {w w' : World} {a : Option Addr} {n L : Nat} {zs : List RuleI} {row : Option Nat} (h : RulesIn w a n zs) (hg : w.grownBy w' row) (hL : ∀ b off, a = some ⟨b, off, none⟩ → n = 0 ∨ b < L) (hne : ∀ q, row = some q → L ≤ q) : RulesIn w' a n zs := by
  refine ⟨h.1, fun hp => ?_⟩
  obtain ⟨b, off, e, hr⟩ := h.2 hp
  have hb : b < L := by
    rcases hL b off e with h0 | h0
    · omega
    · exact h0
  refine ⟨b, off, e, fun k r hk => ?_⟩
  have hx : ∀ (o : Nat) (u : Value), w.cell? ⟨b, o, none⟩ = some u → w'.cell? ⟨b, o, none⟩ = some u := fun o u hu => hg.cell hu (fun q => by have := hne b q.symm; omega)
  obtain ⟨h0, h1, h2, h3, h4, h5, h6, h7⟩ := hr k r hk
  exact ⟨hx _ _ h0, hx _ _ h1, hx _ _ h2, hx _ _ h3, hx _ _ h4, hx _ _ h5, hx _ _ h6, hx _ _ h7⟩

theorem rules_lt {w : World} {a : Option Addr} {n : Nat} {zs : List RuleI} (h : RulesIn w a n zs) : ∀ b off, a = some ⟨b, off, none⟩ → n = 0 ∨ b < w.heap.size := by
  intro b off e
  by_cases h0 : n = 0
  · exact .inl h0
  · obtain ⟨b', off', r, e', _, hr⟩ := h.at (show 0 < n by omega)
    rw [e] at e'
    cases e'
    exact .inr (World.block_lt_of_cell? w _ hr.1)

theorem roomAt_below {w w' : World} {g n : Nat} (h : RoomAt w g n) (hg : g < w.heap.size) (hb : Below w.heap.size w w') : RoomAt w' g n :=
  ⟨fun j hj => by obtain ⟨v, e⟩ := h.1 j hj; exact ⟨v, (hb.cell (p := ⟨g, j, none⟩) hg).trans e⟩, fun j => (hb.frozen (p := ⟨g, j, none⟩) hg).trans (h.2 j)⟩

/-- A row of grants lies between two sizes. -/
theorem row3_lt {w : World} {B : Nat} {a : Option Addr} {cap : Nat} {ys : List GrI} (h : Own3 w B (.slice a ys.length cap) ys) : ∀ g, a = some ⟨g, 0, none⟩ → B ≤ g ∧ g < w.heap.size := by
  intro g e
  subst e
  have h0 : w.ownsRow B 196 3 (.slice (some ⟨g, 0, none⟩) ys.length cap) ys.length (flat3 ys) := h
  exact h0.lt g rfl

end Go.Proofs.YtnfolmjdicfobaaGreatDoor
