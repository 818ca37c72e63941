/-
  CONTRACTS: spec.l3Add, a set given to a role.
  Conditions: each contract bears its own.
-/
import Derived.Test.YtaeigimgobilaaaGreatDoorGr3
import Derived.Deep.AppendLies
namespace Go.Proofs.YtaeigimgobilaaaGreatDoor
open Go.RowKit
set_option linter.unusedVariables false
set_option linter.unusedSimpArgs false

theorem Tryz.info154 : (Tryz.prog.info? 154).map (fun i => (i.zero, i.size, i.bytes)) = some (some (.agg #[.int .i64 0, .int .i64 0, .int .i64 0]), 3, 24) := by kernel_rfl

theorem Tryz.under115 : Tryz.prog.underlying 115 = some (.slice 154) := by kernel_rfl

def flat3 : List GrI → List Value
  | [] => []
  | p :: ps => .int .i64 p.1.1 :: .int .i64 p.1.2 :: .int .i64 p.2 :: flat3 ps

theorem flat3_append (a b : List GrI) : flat3 (a ++ b) = flat3 a ++ flat3 b := by
  induction a with
  | nil => rfl
  | cons p ps ih => simp [flat3, ih]

theorem flat3_len (a : List GrI) : (flat3 a).length = a.length * 3 := by
  induction a with
  | nil => rfl
  | cons p ps ih => simp [flat3, ih]; omega

theorem flat3_at : ∀ (a : List GrI) (k : Nat) (p : GrI), a[k]? = some p → (flat3 a)[k * 3]? = some (.int .i64 p.1.1) ∧ (flat3 a)[k * 3 + 1]? = some (.int .i64 p.1.2) ∧ (flat3 a)[k * 3 + 2]? = some (.int .i64 p.2)
  | [], _, _, h => by simp at h
  | q :: qs, 0, p, h => by simp at h; subst h; exact ⟨rfl, rfl, rfl⟩
  | q :: qs, k + 1, p, h => by
    have := flat3_at qs k p (by simpa using h)
    rw [show (k + 1) * 3 = k * 3 + 1 + 1 + 1 by omega, show k * 3 + 1 + 1 + 1 + 1 = (k * 3 + 1) + 1 + 1 + 1 by omega, show k * 3 + 1 + 1 + 1 + 2 = (k * 3 + 2) + 1 + 1 + 1 by omega]
    simpa [flat3] using this

theorem flat3_one (a : List GrI) : ∀ u ∈ flat3 a, u.oneCell' = true := by
  induction a with
  | nil => simp [flat3]
  | cons p ps ih =>
    intro u hu
    simp only [flat3, List.mem_cons] at hu
    rcases hu with rfl | rfl | rfl | hu
    · rfl
    · rfl
    · rfl
    · exact ih u hu

/-- A slice of grants that is new since B. -/
def Own3 (w : World) (B : Nat) (v : Value) (gs : List GrI) : Prop := w.ownsRow B 154 3 v gs.length (flat3 gs)

theorem Own3.shape {w : World} {B : Nat} {v : Value} {gs : List GrI} (h : Own3 w B v gs) (hv : v ≠ .slice none 0 0) : ∃ g cap, v = .slice (some ⟨g, 0, none⟩) gs.length cap := by
  have h0 : w.ownsRow B 154 3 v gs.length (flat3 gs) := h
  rcases h0.2 with ⟨h', _⟩ | ⟨g, cap, cur, h', _⟩
  · exact absurd h' hv
  · exact ⟨g, cap, h'⟩

theorem Own3.read {w : World} {B g n cap : Nat} {gs : List GrI} (hn : gs.length = n) (h : Own3 w B (.slice (some ⟨g, 0, none⟩) n cap) gs) : GrIn w (some ⟨g, 0, none⟩) n gs := by
  subst hn
  have h0 : w.ownsRow B 154 3 (.slice (some ⟨g, 0, none⟩) gs.length cap) gs.length (flat3 gs) := h
  refine ⟨rfl, fun _ => ⟨g, 0, rfl, fun k x hx => ?_⟩⟩
  have hk : k < gs.length := by
    by_cases q : k < gs.length
    · exact q
    · rw [List.getElem?_eq_none (by omega)] at hx; cases hx
  obtain ⟨f0, f1, f2⟩ := flat3_at gs k x hx
  rw [Nat.zero_add]
  exact ⟨(h0.cellAt (k * 3) (by omega)).trans f0, (h0.cellAt (k * 3 + 1) (by omega)).trans f1, (h0.cellAt (k * 3 + 2) (by omega)).trans f2⟩

theorem Own3.below {w w' : World} {B : Nat} {v : Value} {gs : List GrI} (h : Own3 w B v gs) (hb : Below w.heap.size w w') : Own3 w' B v gs :=
  World.ownsRow.kept (row := none) h ⟨hb.os, hb.tape, hb.output, hb.size, fun k hk _ => hb.block k hk⟩ (by cases v.ownBlock <;> simp)

theorem addTo_len (gs : List GrI) (r : RoI) (s : Int) : ∀ k, (addTo gs r s k).1.length ≤ k + (if (addTo gs r s k).2 = true then 1 else 0)
  | 0 => by simp [addTo_zero]
  | k + 1 => by
    have ih := addTo_len gs r s k
    cases h : gs[k]? with
    | none =>
      have hk : gs.length ≤ k := by
        by_cases q : k < gs.length
        · rw [List.getElem?_eq_getElem q] at h; cases h
        · omega
      have : addTo gs r s (k + 1) = addTo gs r s k := by unfold addTo; rw [List.take_of_length_le (by omega), List.take_of_length_le (by omega)]
      rw [this]
      omega
    | some x =>
      rw [addTo_succ h]
      unfold addStep
      split
      · simp
        split at ih <;> omega
      · split
        · rename_i q
          rw [q.1] at ih
          simp at ih ⊢
          omega
        · simp only [List.length_append, List.length_singleton]
          omega

theorem cell_new3 (W : World) (b : Nat) (hb : b = W.heap.size) (u0 u1 u2 : Value) (T : TypeId) : ∀ j u, [u0, u1, u2][j]? = some u → (W.alloc (.cells #[u0, u1, u2] T)).cell? ((⟨b, 0, none⟩ : Addr).add j) = some u := by
  subst hb
  intro j u hj
  match j, hj with
  | 0, hj => simp at hj; subst hj; simp [Addr.add]
  | 1, hj => simp at hj; subst hj; simp [Addr.add]
  | 2, hj => simp at hj; subst hj; simp [Addr.add]

theorem own3_lower {w : World} {B B' : Nat} {v : Value} {gs : List GrI} (h : Own3 w B v gs) (hb : B' ≤ B) : Own3 w B' v gs := by
  have h0 : w.ownsRow B 154 3 v gs.length (flat3 gs) := h
  refine ⟨h0.1, ?_⟩
  rcases h0.2 with h' | ⟨g, cap, cur, e, hg, rest⟩
  · exact .inl h'
  · exact .inr ⟨g, cap, cur, e, Nat.le_trans hb hg, rest⟩

theorem own3_push {w : World} {B : Nat} {v : Value} {es : List GrI} {x : GrI} (h : w.ownsRow B 154 3 v (es.length + 1) (flat3 es ++ [.int .i64 x.1.1, .int .i64 x.1.2, .int .i64 x.2])) : Own3 w B v (es ++ [x]) := by
  unfold Own3
  rw [List.length_append, flat3_append]
  exact h

theorem own3_grown {w1 Z w' : World} {B : Nat} {v : Value} {es : List GrI} (ho : Own3 Z B v es) (hb : Below B w1 Z) (hg : Z.grownBy w' v.ownBlock) (hB : B ≤ Z.heap.size) : Below B w1 w' := by
  have h0 : Z.ownsRow B 154 3 v es.length (flat3 es) := ho
  exact hb.grown hg hB (fun j hj => (h0.lt j hj).1)

theorem own3_apart {wr Z w' : World} {B b o : Nat} {v u : Value} {es : List GrI} (ho : Own3 wr B v es) (hg : Z.grownBy w' v.ownBlock) (hb : wr.heap.size ≤ b) (hc : Z.cell? ⟨b, o, none⟩ = some u) : w'.cell? ⟨b, o, none⟩ = some u := by
  have h0 : wr.ownsRow B 154 3 v es.length (flat3 es) := ho
  exact hg.cell hc (fun e => by have := (h0.lt b e.symm).2; omega)

attribute [local go_sem ↓] ro_eql

set_option maxHeartbeats 1000000 in
theorem l3Add_t (a : Option Addr) (n c : Nat) (gs : List GrI) (r : RoI) (s : Int) (w : World) (hg : GrIn w a n gs) (hn : n ≤ 1000) (hs : s ≠ 0) :
    Calls Tryz.prog 119 #[.slice a n c, .agg #[.int .i64 r.1, .int .i64 r.2], .int .i64 s] w fun e w' => ∃ g m cap es, e = .returned (.slice (some ⟨g, 0, none⟩) m cap) ∧ es.length = m ∧ es = addEnd r s (addTo gs r s n) ∧ Own3 w' w.heap.size (.slice (some ⟨g, 0, none⟩) m cap) es ∧ Below w.heap.size w w' := by
  have b1 : (s == 0) = false := by simpa using hs
  have hn' : (n : Int) ≤ 1000 := by omega
  obtain ⟨i0, hi, hz0, hz1, hz2⟩ := info_parts Tryz.info154
  obtain ⟨w1, hw1⟩ : ∃ w1, w1 = w.alloc (.cells #[.int .i64 r.1, .int .i64 r.2] 66) := ⟨_, rfl⟩
  have hsz : w1.heap.size = w.heap.size + 1 := by rw [hw1]; simp
  have HB : Hid (Below w.heap.size w w1) := by rw [hw1]; exact (Below.refl _ _).alloc (Nat.le_refl _) _
  have HR : Hid (w1.cell? ⟨w.heap.size, 0, none⟩ = some (.int .i64 r.1) ∧ w1.cell? ⟨w.heap.size, 1, none⟩ = some (.int .i64 r.2)) := by rw [hw1]; exact ⟨by simp, by simp⟩
  have HG : Hid (GrIn w1 a n gs) := hg.below HB.out
  clear hg
  go_enter Tryz.func119, Tryz.ntmps119
  go_wp2_with fail
  rw [← hw1]
  go_loopw [7, 8, 9] (fun v d i wr => ∃ (k : Nat) (es : List GrI) (b : Bool), k ≤ n ∧ i = .int .i64 (k : Int) ∧ d = .bool b ∧ addTo gs r s k = (es, b) ∧ Own3 wr w1.heap.size v es ∧ v ≠ .slice none 0 0 ∧ Below w1.heap.size w1 wr) (fun _ _ i _ => n - (intOf i).toNat)
  case atStart =>
    exact ⟨0, [], false, Nat.zero_le _, rfl, rfl, addTo_zero _ _ _, by rw [show w.heap.size + 1 = w1.heap.size by omega]; exact World.ownsRow_lit w1 #[] 0 (Nat.le_refl _) (Nat.zero_le _) rfl, by simp, (Below.refl _ _).alloc (Nat.le_refl _) _⟩
  case round =>
    obtain ⟨k, es, d, hk, rfl, rfl, hat, hown, hnn, hnx⟩ := hrel
    by_cases hlt : k < n
    · obtain ⟨b, off, x, e, hx, ⟨c0, c1, c2⟩, hbl⟩ := (HG.out.below hnx).at hlt
      obtain ⟨r0, r1⟩ := HR.out
      replace r0 := (hnx.cell (p := ⟨w.heap.size, 0, none⟩) (by show w.heap.size < _; omega)).trans r0
      replace r1 := (hnx.cell (p := ⟨w.heap.size, 1, none⟩) (by show w.heap.size < _; omega)).trans r1
      subst e
      have hlt' : (k : Int) < (n : Int) := by omega
      go_upto_region 9 with fail
      obtain ⟨X, hX⟩ : ∃ X, X = wr.alloc (.cells #[.int .i64 x.1.1, .int .i64 x.1.2, .int .i64 x.2] 154) := ⟨_, rfl⟩
      rw [← hX]
      have hbX : Below wr.heap.size wr X := by rw [hX]; exact (Below.refl _ _).alloc (Nat.le_refl _) _
      have x0 : X.cell? ⟨wr.heap.size, 0, none⟩ = some (.int .i64 x.1.1) := by rw [hX]; simp
      have x1 : X.cell? ⟨wr.heap.size, 1, none⟩ = some (.int .i64 x.1.2) := by rw [hX]; simp
      have x2 : X.cell? ⟨wr.heap.size, 2, none⟩ = some (.int .i64 x.2) := by rw [hX]; simp
      have x3 : X.frozen? ⟨wr.heap.size, 2, none⟩ = false := by rw [hX]; simp
      have hXs : X.heap.size = wr.heap.size + 1 := by rw [hX]; simp
      have hwr : w1.heap.size ≤ wr.heap.size := hnx.size
      replace r0 := (hbX.cell (p := ⟨w.heap.size, 0, none⟩) (by show w.heap.size < _; omega)).trans r0
      replace r1 := (hbX.cell (p := ⟨w.heap.size, 1, none⟩) (by show w.heap.size < _; omega)).trans r1
      have HO : Hid (Own3 wr w1.heap.size u7 es) := hown
      have HAT : Hid (addTo gs r s (k + 1) = addStep r s (es, d) x) := by show addTo gs r s (k + 1) = _; rw [addTo_succ hx, hat]
      have HLE : Hid (es.length ≤ k + 1) := by
        have := addTo_len gs r s k
        rw [hat] at this
        show es.length ≤ k + 1
        split at this <;> simp_all <;> omega
      clear hX hown hat hx c0 c1 c2
      have hnX : Below w1.heap.size w1 X := hnx.trans (hbX.mono hwr)
      by_cases qe : x.1 = r
      · have he : eqRo x.1 r = true := (eqRo_iff _ _).2 qe
        have HN : Hid (addTo gs r s (k + 1) = (es ++ [(x.1, orI x.2 s)], true)) := by show addTo gs r s (k + 1) = _; rw [HAT.out]; simp [addStep, qe]
        clear HAT qe
        go_wp2_with (first | (at_builtin; refine wpList_append_own _ rfl _ _ 115 rfl w1.heap.size 154 i0 (.agg #[.int .i64 0, .int .i64 0, .int .i64 0]) 3 24 Tryz.under115 hi hz0 hz1 hz2 rfl (by decide) u7 (es.length) (flat3 es) rfl ?c0 ⟨_, 0, none⟩ 1 1 [.int .i64 x.1.1, .int .i64 x.1.2, .int .i64 (orI x.2 s)] rfl rfl ?c1 ?c2 ?c3 ?c4 ?c5 ?_))
        case c0 => exact HO.out.below ((hbX.setCell (p := ⟨wr.heap.size, 2, none⟩) (Nat.le_refl _) _).alloc (by simp; omega) _)
        case c1 => exact cell_new3 _ _ (by first | rfl | simp [hXs] | simp) _ _ _ _
        case c2 => intro u hu; simp at hu; rcases hu with rfl | rfl | rfl <;> rfl
        case c3 => have := HLE.out; unfold maxLen; omega
        case c4 => have := HLE.out; omega
        case c5 => simp; omega
        · intro v' w' hown' hgrow hnil
          have R1 : Hid (Own3 w' w1.heap.size v' (es ++ [(x.1, orI x.2 s)])) := by show Own3 w' w1.heap.size v' _; rw [hsz]; exact own3_push hown'
          have R2 : Hid (Below w1.heap.size w1 w') := own3_grown (HO.out.below ((hbX.setCell (p := ⟨wr.heap.size, 2, none⟩) (Nat.le_refl _) _).alloc (by simp; omega) _)) ((hnX.setCell (p := ⟨wr.heap.size, 2, none⟩) hwr _).alloc (by simp; omega) _) hgrow (by simp; omega)
          have hnn' : v' ≠ .slice none 0 0 := by first | exact hnil | simpa using hnil
          clear hown' hgrow hnil
          go_wp2
          go_roundw
          case rel => exact ⟨k + 1, _, _, by omega, by go_num, rfl, HN.out, R1.out, hnn', R2.out⟩
          case measure => simp [intOf]; omega
      · have he : eqRo x.1 r = false := by
          cases q : eqRo x.1 r
          · rfl
          · exact absurd ((eqRo_iff _ _).1 q) qe
        have HQ : Hid (x.1 ≠ r) := qe
        clear qe
        by_cases qd : d = false ∧ ltR r x.1 = true
        · obtain ⟨rfl, ql⟩ := qd
          have HN : Hid (addTo gs r s (k + 1) = (es ++ [(r, s)] ++ [x], true)) := by show addTo gs r s (k + 1) = _; rw [HAT.out]; simp [addStep, HQ.out, ql]
          clear HAT
          have hc1 : X.cell? ⟨w.heap.size, 0, none⟩ = some (.int .i64 r.1) := r0
          have hcase : r.1 < x.1.1 ∨ (¬ r.1 < x.1.1 ∧ x.1.1 = r.1 ∧ r.2 < x.1.2) := by
            simp [ltR] at ql
            omega
          clear ql
          rcases hcase with q1 | ⟨q1, q2, q3⟩
          · have g1 : decide (r.1 < x.1.1) = true := by simpa using q1
            clear q1
            go_wp2_with (first | (at_builtin; refine wpList_append_own _ rfl _ _ 115 rfl w1.heap.size 154 i0 (.agg #[.int .i64 0, .int .i64 0, .int .i64 0]) 3 24 Tryz.under115 hi hz0 hz1 hz2 rfl (by decide) u7 (es.length) (flat3 es) rfl ?c0 ⟨_, 0, none⟩ 1 1 [.int .i64 r.1, .int .i64 r.2, .int .i64 s] rfl rfl ?c1 ?c2 ?c3 ?c4 ?c5 ?_))
            case c0 => exact HO.out.below (hbX.alloc (by omega) _)
            case c1 => exact cell_new3 _ _ (by first | rfl | simp [hXs] | simp) _ _ _ _
            case c2 => intro u hu; simp at hu; rcases hu with rfl | rfl | rfl <;> rfl
            case c3 => have := HLE.out; unfold maxLen; omega
            case c4 => have := HLE.out; omega
            case c5 => simp; omega
            · intro v' w' hown' hgrow hnil
              have R1 : Hid (Own3 w' w1.heap.size v' (es ++ [(r, s)])) := by show Own3 w' w1.heap.size v' _; rw [hsz]; exact own3_push (x := (r, s)) hown'
              have R2 : Hid (Below w1.heap.size w1 w') := own3_grown (HO.out.below (hbX.alloc (by omega) _)) (hnX.alloc (by omega) _) hgrow (by simp; omega)
              have hnn' : v' ≠ .slice none 0 0 := by first | exact hnil | simpa using hnil
              have hX2 := (Below.refl X.heap.size X).alloc (Nat.le_refl _) (.cells #[.int .i64 r.1, .int .i64 r.2, .int .i64 s] 154)
              have y0 := own3_apart HO.out hgrow (Nat.le_refl _) ((hX2.cell (p := ⟨wr.heap.size, 0, none⟩) (by show wr.heap.size < _; omega)).trans x0)
              have y1 := own3_apart HO.out hgrow (Nat.le_refl _) ((hX2.cell (p := ⟨wr.heap.size, 1, none⟩) (by show wr.heap.size < _; omega)).trans x1)
              have y2 := own3_apart HO.out hgrow (Nat.le_refl _) ((hX2.cell (p := ⟨wr.heap.size, 2, none⟩) (by show wr.heap.size < _; omega)).trans x2)
              have hs2 := R2.out.size
              have HLE2 : Hid ((es ++ [(r, s)]).length ≤ k + 2) := by show (es ++ [(r, s)]).length ≤ k + 2; have := HLE.out; simp; omega
              clear hown' hgrow hnil hX2
              go_wp2_with (first | (at_builtin; refine wpList_append_own _ rfl _ _ 115 rfl w1.heap.size 154 i0 (.agg #[.int .i64 0, .int .i64 0, .int .i64 0]) 3 24 Tryz.under115 hi hz0 hz1 hz2 rfl (by decide) v' ((es ++ [(r, s)]).length) (flat3 (es ++ [(r, s)])) rfl ?c0 ⟨_, 0, none⟩ 1 1 [.int .i64 x.1.1, .int .i64 x.1.2, .int .i64 x.2] rfl rfl ?c1 ?c2 ?c3 ?c4 ?c5 ?_))
              case c0 => exact R1.out.below ((Below.refl _ _).alloc (Nat.le_refl _) _)
              case c1 => exact cell_new3 _ _ (by first | rfl | simp) _ _ _ _
              case c2 => intro u hu; simp at hu; rcases hu with rfl | rfl | rfl <;> rfl
              case c3 => have := HLE2.out; unfold maxLen; omega
              case c4 => have := HLE2.out; omega
              case c5 => simp; omega
              · intro v2 w2 hown' hgrow hnil
                have R3 : Hid (Own3 w2 w1.heap.size v2 (es ++ [(r, s)] ++ [x])) := by show Own3 w2 w1.heap.size v2 _; rw [hsz]; exact own3_push (by rw [List.length_append]; exact hown')
                have R4 : Hid (Below w1.heap.size w1 w2) := own3_grown (R1.out.below ((Below.refl _ _).alloc (Nat.le_refl _) _)) (R2.out.alloc (by omega) _) hgrow (by simp; omega)
                have hnn2 : v2 ≠ .slice none 0 0 := by first | exact hnil | simpa using hnil
                clear hown' hgrow hnil
                go_wp2
                go_roundw
                case rel => exact ⟨k + 1, _, _, by omega, by go_num, rfl, HN.out, R3.out, hnn2, R4.out⟩
                case measure => simp [intOf]; omega
          · have g1 : decide (r.1 < x.1.1) = false := by simpa using q1
            have g2 : (x.1.1 == r.1) = true := by simpa using q2
            have g3 : decide (r.2 < x.1.2) = true := by simpa using q3
            clear q1 q2 q3
            go_wp2_with (first | (at_builtin; refine wpList_append_own _ rfl _ _ 115 rfl w1.heap.size 154 i0 (.agg #[.int .i64 0, .int .i64 0, .int .i64 0]) 3 24 Tryz.under115 hi hz0 hz1 hz2 rfl (by decide) u7 (es.length) (flat3 es) rfl ?c0 ⟨_, 0, none⟩ 1 1 [.int .i64 r.1, .int .i64 r.2, .int .i64 s] rfl rfl ?c1 ?c2 ?c3 ?c4 ?c5 ?_))
            case c0 => exact HO.out.below (hbX.alloc (by omega) _)
            case c1 => exact cell_new3 _ _ (by first | rfl | simp [hXs] | simp) _ _ _ _
            case c2 => intro u hu; simp at hu; rcases hu with rfl | rfl | rfl <;> rfl
            case c3 => have := HLE.out; unfold maxLen; omega
            case c4 => have := HLE.out; omega
            case c5 => simp; omega
            · intro v' w' hown' hgrow hnil
              have R1 : Hid (Own3 w' w1.heap.size v' (es ++ [(r, s)])) := by show Own3 w' w1.heap.size v' _; rw [hsz]; exact own3_push (x := (r, s)) hown'
              have R2 : Hid (Below w1.heap.size w1 w') := own3_grown (HO.out.below (hbX.alloc (by omega) _)) (hnX.alloc (by omega) _) hgrow (by simp; omega)
              have hnn' : v' ≠ .slice none 0 0 := by first | exact hnil | simpa using hnil
              have hX2 := (Below.refl X.heap.size X).alloc (Nat.le_refl _) (.cells #[.int .i64 r.1, .int .i64 r.2, .int .i64 s] 154)
              have y0 := own3_apart HO.out hgrow (Nat.le_refl _) ((hX2.cell (p := ⟨wr.heap.size, 0, none⟩) (by show wr.heap.size < _; omega)).trans x0)
              have y1 := own3_apart HO.out hgrow (Nat.le_refl _) ((hX2.cell (p := ⟨wr.heap.size, 1, none⟩) (by show wr.heap.size < _; omega)).trans x1)
              have y2 := own3_apart HO.out hgrow (Nat.le_refl _) ((hX2.cell (p := ⟨wr.heap.size, 2, none⟩) (by show wr.heap.size < _; omega)).trans x2)
              have hs2 := R2.out.size
              have HLE2 : Hid ((es ++ [(r, s)]).length ≤ k + 2) := by show (es ++ [(r, s)]).length ≤ k + 2; have := HLE.out; simp; omega
              clear hown' hgrow hnil hX2
              go_wp2_with (first | (at_builtin; refine wpList_append_own _ rfl _ _ 115 rfl w1.heap.size 154 i0 (.agg #[.int .i64 0, .int .i64 0, .int .i64 0]) 3 24 Tryz.under115 hi hz0 hz1 hz2 rfl (by decide) v' ((es ++ [(r, s)]).length) (flat3 (es ++ [(r, s)])) rfl ?c0 ⟨_, 0, none⟩ 1 1 [.int .i64 x.1.1, .int .i64 x.1.2, .int .i64 x.2] rfl rfl ?c1 ?c2 ?c3 ?c4 ?c5 ?_))
              case c0 => exact R1.out.below ((Below.refl _ _).alloc (Nat.le_refl _) _)
              case c1 => exact cell_new3 _ _ (by first | rfl | simp) _ _ _ _
              case c2 => intro u hu; simp at hu; rcases hu with rfl | rfl | rfl <;> rfl
              case c3 => have := HLE2.out; unfold maxLen; omega
              case c4 => have := HLE2.out; omega
              case c5 => simp; omega
              · intro v2 w2 hown' hgrow hnil
                have R3 : Hid (Own3 w2 w1.heap.size v2 (es ++ [(r, s)] ++ [x])) := by show Own3 w2 w1.heap.size v2 _; rw [hsz]; exact own3_push (by rw [List.length_append]; exact hown')
                have R4 : Hid (Below w1.heap.size w1 w2) := own3_grown (R1.out.below ((Below.refl _ _).alloc (Nat.le_refl _) _)) (R2.out.alloc (by omega) _) hgrow (by simp; omega)
                have hnn2 : v2 ≠ .slice none 0 0 := by first | exact hnil | simpa using hnil
                clear hown' hgrow hnil
                go_wp2
                go_roundw
                case rel => exact ⟨k + 1, _, _, by omega, by go_num, rfl, HN.out, R3.out, hnn2, R4.out⟩
                case measure => simp [intOf]; omega
        · have HN : Hid (addTo gs r s (k + 1) = (es ++ [x], d)) := by
            show addTo gs r s (k + 1) = _
            rw [HAT.out]
            unfold addStep
            rw [if_neg HQ.out, if_neg qd]
          clear HAT
          have hcase : d = true ∨ (d = false ∧ ¬ r.1 < x.1.1 ∧ x.1.1 ≠ r.1) ∨ (d = false ∧ ¬ r.1 < x.1.1 ∧ x.1.1 = r.1 ∧ ¬ r.2 < x.1.2) := by
            cases d
            · have q1 : ¬ r.1 < x.1.1 := fun h => qd ⟨rfl, by simp [ltR, h]⟩
              have q3 : x.1.1 = r.1 → ¬ r.2 < x.1.2 := fun e h => qd ⟨rfl, by simp [ltR, e, h]⟩
              by_cases e : x.1.1 = r.1
              · exact .inr (.inr ⟨rfl, q1, e, q3 e⟩)
              · exact .inr (.inl ⟨rfl, q1, e⟩)
            · exact .inl rfl
          clear qd
          rcases hcase with rfl | ⟨rfl, q1, q2⟩ | ⟨rfl, q1, q2, q3⟩
          · skip
            go_wp2_with (first | (at_builtin; refine wpList_append_own _ rfl _ _ 115 rfl w1.heap.size 154 i0 (.agg #[.int .i64 0, .int .i64 0, .int .i64 0]) 3 24 Tryz.under115 hi hz0 hz1 hz2 rfl (by decide) u7 (es.length) (flat3 es) rfl ?c0 ⟨_, 0, none⟩ 1 1 [.int .i64 x.1.1, .int .i64 x.1.2, .int .i64 x.2] rfl rfl ?c1 ?c2 ?c3 ?c4 ?c5 ?_))
            case c0 => exact HO.out.below (hbX.alloc (by omega) _)
            case c1 => exact cell_new3 _ _ (by first | rfl | simp [hXs] | simp) _ _ _ _
            case c2 => intro u hu; simp at hu; rcases hu with rfl | rfl | rfl <;> rfl
            case c3 => have := HLE.out; unfold maxLen; omega
            case c4 => have := HLE.out; omega
            case c5 => simp; omega
            · intro v' w' hown' hgrow hnil
              have R1 : Hid (Own3 w' w1.heap.size v' (es ++ [x])) := by show Own3 w' w1.heap.size v' _; rw [hsz]; exact own3_push hown'
              have R2 : Hid (Below w1.heap.size w1 w') := own3_grown (HO.out.below (hbX.alloc (by omega) _)) (hnX.alloc (by omega) _) hgrow (by simp; omega)
              have hnn' : v' ≠ .slice none 0 0 := by first | exact hnil | simpa using hnil
              clear hown' hgrow hnil
              go_wp2
              go_roundw
              case rel => exact ⟨k + 1, _, _, by omega, by go_num, rfl, HN.out, R1.out, hnn', R2.out⟩
              case measure => simp [intOf]; omega
          · have g1 : decide (r.1 < x.1.1) = false := by simpa using q1
            have g2 : (x.1.1 == r.1) = false := by simpa using q2
            clear q1 q2
            go_wp2_with (first | (at_builtin; refine wpList_append_own _ rfl _ _ 115 rfl w1.heap.size 154 i0 (.agg #[.int .i64 0, .int .i64 0, .int .i64 0]) 3 24 Tryz.under115 hi hz0 hz1 hz2 rfl (by decide) u7 (es.length) (flat3 es) rfl ?c0 ⟨_, 0, none⟩ 1 1 [.int .i64 x.1.1, .int .i64 x.1.2, .int .i64 x.2] rfl rfl ?c1 ?c2 ?c3 ?c4 ?c5 ?_))
            case c0 => exact HO.out.below (hbX.alloc (by omega) _)
            case c1 => exact cell_new3 _ _ (by first | rfl | simp [hXs] | simp) _ _ _ _
            case c2 => intro u hu; simp at hu; rcases hu with rfl | rfl | rfl <;> rfl
            case c3 => have := HLE.out; unfold maxLen; omega
            case c4 => have := HLE.out; omega
            case c5 => simp; omega
            · intro v' w' hown' hgrow hnil
              have R1 : Hid (Own3 w' w1.heap.size v' (es ++ [x])) := by show Own3 w' w1.heap.size v' _; rw [hsz]; exact own3_push hown'
              have R2 : Hid (Below w1.heap.size w1 w') := own3_grown (HO.out.below (hbX.alloc (by omega) _)) (hnX.alloc (by omega) _) hgrow (by simp; omega)
              have hnn' : v' ≠ .slice none 0 0 := by first | exact hnil | simpa using hnil
              clear hown' hgrow hnil
              go_wp2
              go_roundw
              case rel => exact ⟨k + 1, _, _, by omega, by go_num, rfl, HN.out, R1.out, hnn', R2.out⟩
              case measure => simp [intOf]; omega
          · have g1 : decide (r.1 < x.1.1) = false := by simpa using q1
            have g2 : (x.1.1 == r.1) = true := by simpa using q2
            have g3 : decide (r.2 < x.1.2) = false := by simpa using q3
            clear q1 q2 q3
            go_wp2_with (first | (at_builtin; refine wpList_append_own _ rfl _ _ 115 rfl w1.heap.size 154 i0 (.agg #[.int .i64 0, .int .i64 0, .int .i64 0]) 3 24 Tryz.under115 hi hz0 hz1 hz2 rfl (by decide) u7 (es.length) (flat3 es) rfl ?c0 ⟨_, 0, none⟩ 1 1 [.int .i64 x.1.1, .int .i64 x.1.2, .int .i64 x.2] rfl rfl ?c1 ?c2 ?c3 ?c4 ?c5 ?_))
            case c0 => exact HO.out.below (hbX.alloc (by omega) _)
            case c1 => exact cell_new3 _ _ (by first | rfl | simp [hXs] | simp) _ _ _ _
            case c2 => intro u hu; simp at hu; rcases hu with rfl | rfl | rfl <;> rfl
            case c3 => have := HLE.out; unfold maxLen; omega
            case c4 => have := HLE.out; omega
            case c5 => simp; omega
            · intro v' w' hown' hgrow hnil
              have R1 : Hid (Own3 w' w1.heap.size v' (es ++ [x])) := by show Own3 w' w1.heap.size v' _; rw [hsz]; exact own3_push hown'
              have R2 : Hid (Below w1.heap.size w1 w') := own3_grown (HO.out.below (hbX.alloc (by omega) _)) (hnX.alloc (by omega) _) hgrow (by simp; omega)
              have hnn' : v' ≠ .slice none 0 0 := by first | exact hnil | simpa using hnil
              clear hown' hgrow hnil
              go_wp2
              go_roundw
              case rel => exact ⟨k + 1, _, _, by omega, by go_num, rfl, HN.out, R1.out, hnn', R2.out⟩
              case measure => simp [intOf]; omega
    · have hkn : k = n := by omega
      subst hkn
      cases d
      · obtain ⟨r0, r1⟩ := HR.out
        replace r0 := (hnx.cell (p := ⟨w.heap.size, 0, none⟩) (by show w.heap.size < _; omega)).trans r0
        replace r1 := (hnx.cell (p := ⟨w.heap.size, 1, none⟩) (by show w.heap.size < _; omega)).trans r1
        have HO : Hid (Own3 wr w1.heap.size u7 es) := hown
        have HLE : Hid (es.length ≤ k + 1) := by
          have := addTo_len gs r s k
          rw [hat] at this
          show es.length ≤ k + 1
          simp at this
          omega
        have HAT : Hid (addTo gs r s k = (es, false)) := hat
        have hwr : w1.heap.size ≤ wr.heap.size := hnx.size
        clear hown hat
        go_wp2_with (first | (at_builtin; refine wpList_append_own _ rfl _ _ 115 rfl w1.heap.size 154 i0 (.agg #[.int .i64 0, .int .i64 0, .int .i64 0]) 3 24 Tryz.under115 hi hz0 hz1 hz2 rfl (by decide) u7 (es.length) (flat3 es) rfl ?c0 ⟨_, 0, none⟩ 1 1 [.int .i64 r.1, .int .i64 r.2, .int .i64 s] rfl rfl ?c1 ?c2 ?c3 ?c4 ?c5 ?_))
        case c0 => exact HO.out.below ((Below.refl _ _).alloc (Nat.le_refl _) _)
        case c1 => exact cell_new3 _ _ (by first | rfl | simp) _ _ _ _
        case c2 => intro u hu; simp at hu; rcases hu with rfl | rfl | rfl <;> rfl
        case c3 => have := HLE.out; unfold maxLen; omega
        case c4 => have := HLE.out; omega
        case c5 => simp; omega
        · intro v' w' hown' hgrow hnil
          have R1 : Own3 w' w1.heap.size v' (es ++ [(r, s)]) := by rw [hsz]; exact own3_push (x := (r, s)) hown'
          have R2 : Hid (Below w1.heap.size w1 w') := own3_grown (HO.out.below ((Below.refl _ _).alloc (Nat.le_refl _) _)) (hnx.alloc (by omega) _) hgrow (by simp; omega)
          have hnn' : v' ≠ .slice none 0 0 := by first | exact hnil | simpa using hnil
          obtain ⟨g, cap, rfl⟩ := R1.shape hnn'
          have HR1 : Hid (Own3 w' w1.heap.size (.slice (some ⟨g, 0, none⟩) (es ++ [(r, s)]).length cap) (es ++ [(r, s)])) := R1
          clear hown' hgrow hnil R1
          go_wp2
          go_ret
          exact ⟨g, _, cap, es ++ [(r, s)], rfl, rfl, by rw [HAT.out]; rfl, own3_lower HR1.out (by omega), HB.out.trans (R2.out.mono (by omega))⟩
      · obtain ⟨g, cap, rfl⟩ := hown.shape hnn
        have HO : Hid (Own3 wr w1.heap.size (.slice (some ⟨g, 0, none⟩) es.length cap) es) := hown
        have HAT : Hid (addTo gs r s k = (es, true)) := hat
        clear hown hat
        go_wp2
        go_ret
        exact ⟨g, _, cap, es, rfl, rfl, by rw [HAT.out]; rfl, own3_lower HO.out (by omega), HB.out.trans (hnx.mono (by omega))⟩

set_option maxHeartbeats 400000 in
theorem l3Add_c (B : Nat) (g n c : Nat) (gs : List GrI) (r : RoI) (s : Int) (w : World) (hz : gs.length = n) (ho : Own3 w B (.slice (some ⟨g, 0, none⟩) n c) gs) (hg : SG gs) (hB : B ≤ w.heap.size) :
    Calls Tryz.prog 119 #[.slice (some ⟨g, 0, none⟩) n c, .agg #[.int .i64 r.1, .int .i64 r.2], .int .i64 s] w fun e w' => ∃ g' m cap, e = .returned (.slice (some ⟨g', 0, none⟩) m cap) ∧ (addG gs r s).length = m ∧ Own3 w' B (.slice (some ⟨g', 0, none⟩) m cap) (addG gs r s) ∧ Below w.heap.size w w' := by
  by_cases hs : s = 0
  · subst hs
    have HO : Hid (Own3 w B (.slice (some ⟨g, 0, none⟩) n c) gs) := ho
    have HZ : Hid (gs.length = n) := hz
    clear ho hz
    go_enter Tryz.func119, Tryz.ntmps119
    go_wp2
    go_ret
    have e : addG gs r 0 = gs := by simp [addG]
    have hb : Below w.heap.size w (w.alloc (.cells #[.int .i64 r.1, .int .i64 r.2] 66)) := (Below.refl _ _).alloc (Nat.le_refl _) _
    rw [e]
    exact ⟨g, n, c, rfl, HZ.out, HO.out.below hb, hb⟩
  · have hl := sg_len hg
    refine (l3Add_t (some ⟨g, 0, none⟩) n c gs r s w (ho.read hz) (by omega) hs).mono ?_
    rintro e w' ⟨g', m, cap, es, rfl, hm, hes, hown, hb⟩
    have e2 : es = addG gs r s := by rw [hes, ← hz, addTo_all hg, addG, if_neg hs]
    subst e2
    exact ⟨g', m, cap, rfl, hm, own3_lower hown hB, hb⟩

end Go.Proofs.YtaeigimgobilaaaGreatDoor
