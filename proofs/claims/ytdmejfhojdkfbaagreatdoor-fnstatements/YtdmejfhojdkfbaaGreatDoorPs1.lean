/-
  CONTRACTS: spec.l7Parse.
  Conditions: each contract bears its own.
-/
import Derived.Test.YtdmejfhojdkfbaaGreatDoorPs0
import Derived.Test.YtdmejfhojdkfbaaGreatDoorSt14
import Derived.Test.YtdmejfhojdkfbaaGreatDoorSt7
import Derived.Deep.CutBlock
import Derived.Deep.RegionHeld3
namespace Go.Proofs.YtdmejfhojdkfbaaGreatDoor
open Go.RowKit
set_option linter.unusedVariables false
set_option linter.unusedSimpArgs false

/-- Words in a row, the statement that is read, the answer's box. -/
structure PP (w W : World) (g q : Nat) (ws : List ByteArray) (y : StI) : Prop where
  bl : Below w.heap.size w W
  wd : ∀ k x, ws[k]? = some x → W.cell? ⟨g, k, none⟩ = some (.string x)
  st : StAt W q 0 y
  sf : ∀ j, W.frozen? ⟨q, j, none⟩ = false
  rs : ∃ z, StAt W w.heap.size 0 z
  rf : ∀ j, W.frozen? ⟨w.heap.size, j, none⟩ = false
  gl : w.heap.size < g
  gq : g < q
  ql : q < W.heap.size

theorem PP.below {w W W' : World} {g q : Nat} {ws : List ByteArray} {y : StI} (h : PP w W g q ws y) (hb : Below W.heap.size W W') : PP w W' g q ws y := by
  obtain ⟨z, hz⟩ := h.rs
  have hl := h.gl
  have hg := h.gq
  have hq := h.ql
  exact ⟨h.bl.trans (hb.mono h.bl.size), fun k x e => (hb.cell (p := ⟨g, k, none⟩) (by show g < W.heap.size; omega)).trans (h.wd k x e), h.st.below hb hq, fun j => (hb.frozen (p := ⟨q, j, none⟩) hq).trans (h.sf j), ⟨z, hz.below hb (by omega)⟩, fun j => (hb.frozen (p := ⟨w.heap.size, j, none⟩) (by show w.heap.size < W.heap.size; omega)).trans (h.rf j), hl, hg, by have := hb.size; omega⟩

theorem PP.drew {w W : World} {g q : Nat} {ws : List ByteArray} {y : StI} (h : PP w W g q ws y) : PP w W.drew g q ws y := h.below ⟨rfl, rfl, rfl, Nat.le_refl _, fun _ _ => rfl⟩

theorem StAt.has {w : World} {b : Nat} {y : StI} (h : StAt w b 0 y) : ∀ j, j < 5 → ∃ v, w.cell? ⟨b, 0 + j, none⟩ = some v := by
  obtain ⟨h0, h1, h2, h3, h4⟩ := h
  intro j hj
  have : j = 0 ∨ j = 1 ∨ j = 2 ∨ j = 3 ∨ j = 4 := by omega
  rcases this with rfl | rfl | rfl | rfl | rfl
  · exact ⟨_, h0⟩
  · exact ⟨_, h1⟩
  · exact ⟨_, h2⟩
  · exact ⟨_, h3⟩
  · exact ⟨_, h4⟩

theorem PP.put {w W : World} {g q : Nat} {ws : List ByteArray} {y : StI} (h : PP w W g q ws y) (z : StI) : PP w (StPut W q 0 z) g q ws z := by
  obtain ⟨u, hu⟩ := h.rs
  have hl := h.gl
  have hg := h.gq
  have hq := h.ql
  have other : ∀ b o, b ≠ q → (StPut W q 0 z).cell? ⟨b, o, none⟩ = W.cell? ⟨b, o, none⟩ := fun b o hb => StPut_other W q 0 z ⟨b, o, none⟩ (fun j hj e => by have e2 := congrArg Addr.block e; simp only at e2; omega)
  obtain ⟨u0, u1, u2, u3, u4⟩ := hu
  exact ⟨StPut_below h.bl (by omega) z, fun k x e => (other g k (by omega)).trans (h.wd k x e), StPut_at W q 0 z h.st.has, fun j => by simp only [World.frozen?_setCell]; exact h.sf j, ⟨u, (other _ _ (by omega)).trans u0, (other _ _ (by omega)).trans u1, (other _ _ (by omega)).trans u2, (other _ _ (by omega)).trans u3, (other _ _ (by omega)).trans u4⟩, fun j => by simp only [World.frozen?_setCell]; exact h.rf j, hl, hg, by simp only [World.size_setCell]; exact hq⟩

theorem PP.kind {w W : World} {g q : Nat} {ws : List ByteArray} {y : StI} (h : PP w W g q ws y) (k : Int) : PP w (W.setCell ⟨q, 0, none⟩ (.int .i64 k)) g q ws ⟨k, y.e, y.f, y.s, y.n⟩ := by
  obtain ⟨u, hu⟩ := h.rs
  have hl := h.gl
  have hg := h.gq
  have hq := h.ql
  have other : ∀ b o, b ≠ q → (W.setCell ⟨q, 0, none⟩ (.int .i64 k)).cell? ⟨b, o, none⟩ = W.cell? ⟨b, o, none⟩ := fun b o hb => World.cell?_setCell_other _ _ _ _ (fun e => by have e2 := congrArg Addr.block e; simp only at e2; omega)
  obtain ⟨u0, u1, u2, u3, u4⟩ := hu
  obtain ⟨s0, s1, s2, s3, s4⟩ := h.st
  refine ⟨h.bl.setCell (by show w.heap.size ≤ q; omega) _, fun j x e => (other g j (by omega)).trans (h.wd j x e), ?_, fun j => by simp only [World.frozen?_setCell]; exact h.sf j, ⟨u, (other _ _ (by omega)).trans u0, (other _ _ (by omega)).trans u1, (other _ _ (by omega)).trans u2, (other _ _ (by omega)).trans u3, (other _ _ (by omega)).trans u4⟩, fun j => by simp only [World.frozen?_setCell]; exact h.rf j, hl, hg, by simp only [World.size_setCell]; exact hq⟩
  simp only [Nat.zero_add] at s0 s1 s2 s3 s4
  refine ⟨?_, ?_, ?_, ?_, ?_⟩ <;> simp [go_sem, s0, s1, s2, s3, s4]

/-- The answer is written: the words and the statement stay. -/
theorem PP.told {w W : World} {g q : Nat} {ws : List ByteArray} {y : StI} (h : PP w W g q ws y) (z : StI) : PP w (StPut W w.heap.size 0 z) g q ws y ∧ StAt (StPut W w.heap.size 0 z) w.heap.size 0 z := by
  obtain ⟨u, hu⟩ := h.rs
  have hl := h.gl
  have hg := h.gq
  have hq := h.ql
  have other : ∀ b o, b ≠ w.heap.size → (StPut W w.heap.size 0 z).cell? ⟨b, o, none⟩ = W.cell? ⟨b, o, none⟩ := fun b o hb => StPut_other W w.heap.size 0 z ⟨b, o, none⟩ (fun j hj e => by have e2 := congrArg Addr.block e; simp only at e2; omega)
  have ht := StPut_at W w.heap.size 0 z hu.has
  obtain ⟨s0, s1, s2, s3, s4⟩ := h.st
  exact ⟨⟨StPut_below h.bl (Nat.le_refl _) z, fun k x e => (other g k (by omega)).trans (h.wd k x e), ⟨(other _ _ (by omega)).trans s0, (other _ _ (by omega)).trans s1, (other _ _ (by omega)).trans s2, (other _ _ (by omega)).trans s3, (other _ _ (by omega)).trans s4⟩, fun j => by simp only [World.frozen?_setCell]; exact h.sf j, ⟨z, ht⟩, fun j => by simp only [World.frozen?_setCell]; exact h.rf j, hl, hg, by simp only [World.size_setCell]; exact hq⟩, ht⟩

theorem take_list : takeT.toList = [116, 97, 107, 101] := by rw [ByteArray.toList_eq]; rfl
theorem rev_list : revT.toList = [114, 101, 118, 111, 107, 101] := by rw [ByteArray.toList_eq]; rfl

/-- What spec.l1Parse tells of a word. -/
theorem l1Parse_any (d : ByteArray) : ∃ b : Bool, ∀ w : World, Calls Tryz.prog 59 #[.string d] w fun e w' => e = .returned (.tuple #[.int .i64 (setT d), .bool b]) ∧ Below w.heap.size w w' := by
  rcases parse_first d 256 with h | ⟨n, hn, he, hno⟩
  · refine ⟨false, fun w => ?_⟩
    have hs : setT d = 0 := by
      unfold setT
      rw [if_neg]
      intro e
      have hb := gather_bd d.data.toList d.size
      have := h (gatherTo d.data.toList d.size).toNat (by omega)
      rw [Int.toNat_of_nonneg hb.1] at this
      exact this e.symm
    rw [hs]
    exact (l1Parse_c d w 256 (by omega) h 0 false (.inl ⟨rfl, rfl, rfl⟩)).mono fun e w' hh => hh
  · refine ⟨true, fun w => ?_⟩
    have hs : setT d = (n : Int) := by rw [← he]; exact set_of (by omega) (by omega)
    rw [hs]
    exact (l1Parse_c d w n (by omega) hno (n : Int) true (.inr ⟨hn, he, rfl, rfl⟩)).mono fun e w' hh => hh

def GivesPS (t : ByteArray) (y : StI) (b : Bool) (w : World) : Prop := Calls Tryz.prog 31 #[.string t] w fun e w' => e = .returned (.tuple #[.agg #[.int .i64 y.k, .int .i64 y.e, .int .i64 y.f, .int .i64 y.s, .int .i64 y.n], .bool b]) ∧ Below w.heap.size w w'

set_option maxRecDepth 20000 in
set_option maxHeartbeats 4000000 in
theorem l7Parse_take_bad (t : ByteArray) (w : World) (ht : t.size ≤ 1048576) (a b c : ByteArray) (hc : cutB t 32 = [a, b, c]) (hc1 : c.size = 1) (eb ec : Int) (heb : digI b = eb) (hec : digI c = ec) (ha : a = takeT) (y : StI) (hy : y = ⟨4, eb, 0, 0, ec⟩) (k : Int) (hk : stCode y = k) (h0 : k ≠ 0) : GivesPS t y false w := by
  obtain ⟨W, hW⟩ : ∃ W, W = w.alloc (.cells #[.int .i64 0, .int .i64 0, .int .i64 0, .int .i64 0, .int .i64 0] 26) := ⟨_, rfl⟩
  have HW : Hid (W = w.alloc (.cells #[.int .i64 0, .int .i64 0, .int .i64 0, .int .i64 0, .int .i64 0] 26)) := hW
  have B0 : Below w.heap.size w W := by rw [hW]; exact (Below.refl _ _).alloc (Nat.le_refl _) _
  have zW : W.heap.size = w.heap.size + 1 := by rw [hW]; simp
  have X0 : Hid (StAt W w.heap.size 0 ⟨0, 0, 0, 0, 0⟩ ∧ ∀ j, W.frozen? ⟨w.heap.size, j, none⟩ = false) := by rw [hW]; exact ⟨by simp [StAt], fun j => by simp [go_sem]⟩
  obtain ⟨ws, hws⟩ : ∃ ws, cutB t 32 = ws := ⟨_, rfl⟩
  have HL : Hid (Calls Tryz.prog 57 #[.string t, .int .u8 32] W fun e w' => ∃ g cap, e = .returned (.slice (some ⟨g, 0, none⟩) ws.length cap) ∧ w'.ownsRow W.heap.size 9 1 (.slice (some ⟨g, 0, none⟩) ws.length cap) ws.length (ws.map Value.string) ∧ Below W.heap.size W w') := by
    have := l2Cut_c t 32 W ht
    rw [hws] at this
    exact this
  have HSZ : Hid (∀ (j : Nat) (b : ByteArray), ws[j]? = some b → b.size ≤ 1048576) := fun j b e => Nat.le_trans (cut_size t 32 j b (by rw [hws]; exact e)) ht
  have HA : Hid (ws[0]? = some a) := by rw [← hws, hc]; exact rfl
  have HB : Hid (ws[1]? = some b) := by rw [← hws, hc]; exact rfl
  have HC2 : Hid (ws[2]? = some c) := by rw [← hws, hc]; exact rfl
  have hn3 : ws.length = 3 := by rw [← hws, hc]; rfl
  have hbz := HSZ.out 1 b HB.out
  have hcz := HSZ.out 2 c HC2.out
  have hc1' : (c.size : Int) = 1 := by omega
  have HEA : Hid (a = takeT) := ha
  have HEB : Hid (digI b = eb) := heb
  have HEC : Hid (digI c = ec) := hec
  clear hc1 hc ha heb hec
  have HY : Hid (y = ⟨4, eb, 0, 0, ec⟩) := hy
  have HC : Hid (stCode y = k) := hk
  have hkb : (k == 0) = false := by simpa using h0
  clear hk h0 hy
  clear hW
  unfold GivesPS
  go_enter Tryz.func31, Tryz.ntmps31
  go_wp2_with fail
  rw [← HW.out]
  refine HL.out.mono ?_
  rintro e w1 ⟨g, cap, rfl, hown, hb1⟩
  obtain ⟨V, hV⟩ : ∃ V, V = w1.alloc (.cells #[.int .i64 0, .int .i64 0, .int .i64 0, .int .i64 0, .int .i64 0] 26) := ⟨_, rfl⟩
  have PV : Hid (PP w V g w1.heap.size ws ⟨0, 0, 0, 0, 0⟩) := by
    have hgl : W.heap.size ≤ g ∧ g < w1.heap.size := hown.lt g rfl
    have A1 : Below w1.heap.size w1 V := by rw [hV]; exact (Below.refl _ _).alloc (Nat.le_refl _) _
    have hb : Below W.heap.size W V := hb1.trans (A1.mono hb1.size)
    refine ⟨B0.trans (hb.mono B0.size), fun k x e => ?_, by rw [hV]; simp [StAt], fun j => by rw [hV]; simp [go_sem], ⟨_, X0.out.1.below hb (by omega)⟩, fun j => (hb.frozen (p := ⟨w.heap.size, j, none⟩) (by show w.heap.size < W.heap.size; omega)).trans (X0.out.2 j), by omega, hgl.2, by rw [hV]; simp⟩
    have hk : k < ws.length := by
      by_cases q : k < ws.length
      · exact q
      · rw [List.getElem?_eq_none (by omega)] at e; cases e
    refine (A1.cell (p := ⟨g, k, none⟩) hgl.2).trans ?_
    rw [hown.cellAt k (by omega), List.getElem?_map, e]
    rfl
  clear hown hb1 HL X0 B0 zW
  go_upto_region 3 with fail
  rw [← hV]
  clear hV HW
  generalize w1.heap.size = q at PV ⊢
  have hgq := PV.out.gq
  have hql := PV.out.ql
  have hgV : g < V.heap.size := by omega
  obtain ⟨d0, d1, d2, d3, d4⟩ := PV.out.st
  simp only [Nat.zero_add] at d0 d1 d2 d3 d4
  have f0 := PV.out.sf 0
  have f1 := PV.out.sf 1
  have f2 := PV.out.sf 2
  have f3 := PV.out.sf 3
  have f4 := PV.out.sf 4
  have x1 := PV.out.wd 1 b HB.out
  have x2 := PV.out.wd 2 c HC2.out
  try rw [hn3]
  go_upto_region 4 with fail
  refine wp_region_held_drew (S := fun w' => w'.cell? ⟨g, 1, none⟩ = some (.string b) ∧ w'.cell? ⟨g, 2, none⟩ = some (.string c)) (by kernel_rfl) (⟨x1, x2⟩) (fun hHeld => ?_)
  refine wpAnyH_take (i := 0) (v := ?_) rfl (by kernel_rfl) (by kernel_rfl) (by kernel_rfl) (fun _ _ _ h => h) (Or.inl ⟨by kernel_rfl, ?_⟩) (by assumption) ?_
  rotate_left 1
  · intro w hSw; (try dsimp only at hSw); go_simp; try (with_reducible rfl)
  try simp only [Act.put, List.getElem_toArray, List.getElem_cons_succ, List.getElem_cons_zero, List.setIfInBounds_toArray, List.set_cons_zero, List.set_cons_succ]
  refine wpAnyH_take (i := 1) (v := ?_) rfl (by kernel_rfl) (by kernel_rfl) (by kernel_rfl) (fun _ _ _ h => h) (Or.inl ⟨by kernel_rfl, ?_⟩) (by assumption) ?_
  rotate_left 1
  · intro w hSw; (try dsimp only at hSw); go_simp; try (with_reducible rfl)
  try simp only [Act.put, List.getElem_toArray, List.getElem_cons_succ, List.getElem_cons_zero, List.setIfInBounds_toArray, List.set_cons_zero, List.set_cons_succ]
  refine wpAnyH_take (i := 2) (v := ?_) rfl (by kernel_rfl) (by kernel_rfl) (by kernel_rfl) (fun _ _ _ h => h) (Or.inl ⟨by kernel_rfl, ?_⟩) (by assumption) ?_
  rotate_left 1
  · intro w hSw; (try dsimp only at hSw); go_simp; try (with_reducible rfl)
  try simp only [Act.put, List.getElem_toArray, List.getElem_cons_succ, List.getElem_cons_zero, List.setIfInBounds_toArray, List.set_cons_zero, List.set_cons_succ]
  refine wpAnyH_take (i := 4) (v := ?_) rfl (by kernel_rfl) (by kernel_rfl) (by kernel_rfl) (fun _ _ _ h => h) (Or.inl ⟨by kernel_rfl, ?_⟩) (by assumption) ?_
  rotate_left 1
  · intro w hSw; (try dsimp only at hSw); go_simp; try (with_reducible rfl)
  try simp only [Act.put, List.getElem_toArray, List.getElem_cons_succ, List.getElem_cons_zero, List.setIfInBounds_toArray, List.set_cons_zero, List.set_cons_succ]
  refine wpAnyH_take (i := 5) (v := ?_) rfl (by kernel_rfl) (by kernel_rfl) (by kernel_rfl) (fun _ _ _ h => h) (Or.inl ⟨by kernel_rfl, ?_⟩) (by assumption) ?_
  rotate_left 1
  · intro w hSw; (try dsimp only at hSw); go_simp; try (with_reducible rfl)
  try simp only [Act.put, List.getElem_toArray, List.getElem_cons_succ, List.getElem_cons_zero, List.setIfInBounds_toArray, List.set_cons_zero, List.set_cons_succ]
  refine wpAnyH_take (i := 6) (v := ?_) rfl (by kernel_rfl) (by kernel_rfl) (by kernel_rfl) (fun _ _ _ h => h) (Or.inl ⟨by kernel_rfl, ?_⟩) (by assumption) ?_
  rotate_left 1
  · intro w hSw; (try dsimp only at hSw); go_simp; try (with_reducible rfl)
  try simp only [Act.put, List.getElem_toArray, List.getElem_cons_succ, List.getElem_cons_zero, List.setIfInBounds_toArray, List.set_cons_zero, List.set_cons_succ]
  refine wpAnyH_ready (rs := [3]) (by kernel_rfl) (by simp) ?_
  refine AllReadyH.cons rfl (fun K hK => ?_) AllReadyH.nil
  go_simp
  refine (l2Digit_c b _ (by omega)).mono ?_
  rintro e w' ⟨rfl, rfl⟩
  rw [HEB.out]
  have hS := hHeld
  refine hK.out _ _ hS (fun hHeld => ?_)
  clear hK K
  try simp only [Act.put, List.getElem_toArray, List.getElem_cons_succ, List.getElem_cons_zero, List.setIfInBounds_toArray, List.set_cons_zero, List.set_cons_succ]
  refine wpAnyH_ready (rs := [7]) (by kernel_rfl) (by simp) ?_
  refine AllReadyH.cons rfl (fun K hK => ?_) AllReadyH.nil
  go_simp
  refine (l2Digit_c c _ (by omega)).mono ?_
  rintro e w' ⟨rfl, rfl⟩
  rw [HEC.out]
  have hS := hHeld
  refine hK.out _ _ hS (fun hHeld => ?_)
  clear hK K
  try simp only [Act.put, List.getElem_toArray, List.getElem_cons_succ, List.getElem_cons_zero, List.setIfInBounds_toArray, List.set_cons_zero, List.set_cons_succ]
  refine wpAnyH_take (i := 8) (v := ?_) rfl (by kernel_rfl) (by kernel_rfl) (by kernel_rfl) (fun _ _ _ h => h) (Or.inl ⟨by kernel_rfl, ?_⟩) (by assumption) ?_
  rotate_left 1
  · intro w hSw; (try dsimp only at hSw); go_simp; try (with_reducible rfl)
  try simp only [Act.put, List.getElem_toArray, List.getElem_cons_succ, List.getElem_cons_zero, List.setIfInBounds_toArray, List.set_cons_zero, List.set_cons_succ]
  refine wpAnyH_ready (rs := [9]) (by kernel_rfl) (by simp) ?_
  refine AllReadyH.cons rfl (fun K hK => ?_) AllReadyH.nil
  go_simp
  have P4 : Hid (PP w (StPut V q 0 ⟨3, eb, 0, 0, ec⟩).drew g q ws ⟨3, eb, 0, 0, ec⟩) := (PV.out.put ⟨3, eb, 0, 0, ec⟩).drew
  have hS : (fun w' => w'.cell? ⟨g, 1, none⟩ = some (.string b) ∧ w'.cell? ⟨g, 2, none⟩ = some (.string c)) (StPut V q 0 ⟨3, eb, 0, 0, ec⟩).drew := ⟨P4.out.wd 1 b HB.out, P4.out.wd 2 c HC2.out⟩
  dsimp only [StPut] at hS P4
  refine hK.out _ _ hS (fun hHeld => ?_)
  clear hK K
  try simp only [Act.put, List.getElem_toArray, List.getElem_cons_succ, List.getElem_cons_zero, List.setIfInBounds_toArray, List.set_cons_zero, List.set_cons_succ]
  refine wpAnyH_done (by kernel_rfl) ?_ _
  clear hHeld hS d0 d1 d2 d3 d4 f0 f1 f2 f3 f4 x1 x2
  go_upto_region 5 with fail
  generalize (((((V.setCell ⟨q, 0, none⟩ (.int .i64 3)).setCell ⟨q, 1, none⟩ (.int .i64 eb)).setCell ⟨q, 2, none⟩ (.int .i64 0)).setCell ⟨q, 3, none⟩ (.int .i64 0)).setCell ⟨q, 4, none⟩ (.int .i64 ec)).drew = X at P4 ⊢
  have hgq := P4.out.gq
  have hql := P4.out.ql
  have hgX : g < X.heap.size := by omega
  have hqX : q < X.heap.size := hql
  have x0 := P4.out.wd 0 a HA.out
  obtain ⟨u0, u1, u2, u3, u4⟩ := P4.out.st
  simp only [Nat.zero_add] at u0 u1 u2 u3 u4
  have fz := P4.out.sf 0
  have hta : (a.toList == [116, 97, 107, 101]) = true := by have h := str_eq_of HEA.out; rw [take_list] at h; exact h
  go_upto_region 12 with fail
  have PX : Hid (PP w (X.setCell ⟨q, 0, none⟩ (.int .i64 4)) g q ws y) := by rw [HY.out]; exact P4.out.kind 4
  clear x0 hgq hql hgX hqX P4 hta u0 u1 u2 u3 u4 fz
  generalize X.setCell ⟨q, 0, none⟩ (.int .i64 4) = X at PX ⊢
  have hgl := PX.out.gl
  have hgq := PX.out.gq
  have hql := PX.out.ql
  have hwX : w.heap.size < X.heap.size := by omega
  have hwq : w.heap.size ≠ q := by omega
  obtain ⟨s0, s1, s2, s3, s4⟩ := PX.out.st
  simp only [Nat.zero_add] at s0 s1 s2 s3 s4
  obtain ⟨z, r0, r1, r2, r3, r4⟩ := PX.out.rs
  simp only [Nat.zero_add] at r0 r1 r2 r3 r4
  have e0 := PX.out.rf 0
  have e1 := PX.out.rf 1
  have e2 := PX.out.rf 2
  have e3 := PX.out.rf 3
  have e4 := PX.out.rf 4
  refine wp_region_held_drew (S := fun w' => (w'.cell? ⟨q, 0, none⟩ = some (.int .i64 (y : StI).k) ∧ w'.cell? ⟨q, 1, none⟩ = some (.int .i64 (y : StI).e) ∧ w'.cell? ⟨q, 2, none⟩ = some (.int .i64 (y : StI).f) ∧ w'.cell? ⟨q, 3, none⟩ = some (.int .i64 (y : StI).s) ∧ w'.cell? ⟨q, 4, none⟩ = some (.int .i64 (y : StI).n)) ∧ PP w w' g q ws y) (by kernel_rfl) (⟨⟨s0, s1, s2, s3, s4⟩, PX.out.drew⟩) (fun hHeld => ?_)
  refine wpAnyH_take (i := 0) (v := ?_) rfl (by kernel_rfl) (by kernel_rfl) (by kernel_rfl) (fun _ _ _ h => h) (Or.inl ⟨by kernel_rfl, ?_⟩) (by assumption) ?_
  rotate_left 1
  · intro w hSw; (try dsimp only at hSw); go_simp; try (with_reducible rfl)
  try simp only [Act.put, List.getElem_toArray, List.getElem_cons_succ, List.getElem_cons_zero, List.setIfInBounds_toArray, List.set_cons_zero, List.set_cons_succ]
  refine wpAnyH_ready (rs := [1]) (by kernel_rfl) (by simp) ?_
  refine AllReadyH.cons rfl (fun K hK => ?_) AllReadyH.nil
  go_simp
  refine (l7Fault_c q 0 y _ hHeld.2.st).mono ?_
  rintro e w' ⟨rfl, rfl⟩
  rw [HC.out]
  have hS := hHeld
  refine hK.out _ _ hS (fun hHeld => ?_)
  clear hK K
  try simp only [Act.put, List.getElem_toArray, List.getElem_cons_succ, List.getElem_cons_zero, List.setIfInBounds_toArray, List.set_cons_zero, List.set_cons_succ]
  refine wpAnyH_take (i := 2) (v := ?_) rfl (by kernel_rfl) (by kernel_rfl) (by kernel_rfl) (fun _ _ _ h => h) (Or.inl ⟨by kernel_rfl, ?_⟩) (by assumption) ?_
  rotate_left 1
  · intro w hSw; (try dsimp only at hSw); go_simp; try (with_reducible rfl)
  try simp only [Act.put, List.getElem_toArray, List.getElem_cons_succ, List.getElem_cons_zero, List.setIfInBounds_toArray, List.set_cons_zero, List.set_cons_succ]
  refine wpAnyH_take (i := 3) (v := ?_) rfl (by kernel_rfl) (by kernel_rfl) (by kernel_rfl) (fun _ _ _ h => h) (Or.inl ⟨by kernel_rfl, ?_⟩) (by assumption) ?_
  rotate_left 1
  · intro w hSw; (try dsimp only at hSw); go_simp; try (with_reducible rfl)
  try simp only [Act.put, List.getElem_toArray, List.getElem_cons_succ, List.getElem_cons_zero, List.setIfInBounds_toArray, List.set_cons_zero, List.set_cons_succ]
  refine wpAnyH_take (i := 4) (v := undef) rfl (by kernel_rfl) (by kernel_rfl) (by kernel_rfl) (fun _ _ _ h => h) (Or.inr ⟨by kernel_rfl, rfl⟩) (by assumption) ?_
  try simp only [Act.put, List.getElem_toArray, List.getElem_cons_succ, List.getElem_cons_zero, List.setIfInBounds_toArray, List.set_cons_zero, List.set_cons_succ]
  refine wpAnyH_take (i := 5) (v := undef) rfl (by kernel_rfl) (by kernel_rfl) (by kernel_rfl) (fun _ _ _ h => h) (Or.inr ⟨by kernel_rfl, rfl⟩) (by assumption) ?_
  try simp only [Act.put, List.getElem_toArray, List.getElem_cons_succ, List.getElem_cons_zero, List.setIfInBounds_toArray, List.set_cons_zero, List.set_cons_succ]
  refine wpAnyH_take (i := 6) (v := undef) rfl (by kernel_rfl) (by kernel_rfl) (by kernel_rfl) (fun _ _ _ h => h) (Or.inr ⟨by kernel_rfl, rfl⟩) (by assumption) ?_
  try simp only [Act.put, List.getElem_toArray, List.getElem_cons_succ, List.getElem_cons_zero, List.setIfInBounds_toArray, List.set_cons_zero, List.set_cons_succ]
  refine wpAnyH_take (i := 7) (v := ?_) rfl (by kernel_rfl) (by kernel_rfl) (by kernel_rfl) (fun _ _ _ h => h) (Or.inl ⟨by kernel_rfl, ?_⟩) (by assumption) ?_
  rotate_left 1
  · intro w hSw; (try dsimp only at hSw); go_simp; try (with_reducible rfl)
  try simp only [Act.put, List.getElem_toArray, List.getElem_cons_succ, List.getElem_cons_zero, List.setIfInBounds_toArray, List.set_cons_zero, List.set_cons_succ]
  refine wpAnyH_ready (rs := [8]) (by kernel_rfl) (by simp) ?_
  refine AllReadyH.cons rfl (fun K hK => ?_) AllReadyH.nil
  go_simp
  have pS := (PX.out.told y).1.drew
  have hS : (fun w' => (w'.cell? ⟨q, 0, none⟩ = some (.int .i64 (y : StI).k) ∧ w'.cell? ⟨q, 1, none⟩ = some (.int .i64 (y : StI).e) ∧ w'.cell? ⟨q, 2, none⟩ = some (.int .i64 (y : StI).f) ∧ w'.cell? ⟨q, 3, none⟩ = some (.int .i64 (y : StI).s) ∧ w'.cell? ⟨q, 4, none⟩ = some (.int .i64 (y : StI).n)) ∧ PP w w' g q ws y) (StPut X w.heap.size 0 y).drew := ⟨by obtain ⟨q0, q1, q2, q3, q4⟩ := pS.st; simp only [Nat.zero_add] at q0 q1 q2 q3 q4; exact ⟨q0, q1, q2, q3, q4⟩, pS⟩
  dsimp only [StPut] at hS pS
  refine hK.out _ _ hS (fun hHeld => ?_)
  clear hK K
  try simp only [Act.put, List.getElem_toArray, List.getElem_cons_succ, List.getElem_cons_zero, List.setIfInBounds_toArray, List.set_cons_zero, List.set_cons_succ]
  refine wpAnyH_ready (rs := [9]) (by kernel_rfl) (by simp) ?_
  refine AllReadyH.cons rfl (fun K hK => ?_) AllReadyH.nil
  go_simp
  refine hK.out _ _ (by assumption) (fun hHeld => ?_)
  clear hK K
  try simp only [Act.put, List.getElem_toArray, List.getElem_cons_succ, List.getElem_cons_zero, List.setIfInBounds_toArray, List.set_cons_zero, List.set_cons_succ]
  refine wpAnyH_done (by kernel_rfl) ?_ _
  go_wp2_with fail
  refine bodyPost_ret (v := .tuple #[.agg #[.int .i64 y.k, .int .i64 y.e, .int .i64 y.f, .int .i64 y.s, .int .i64 y.n], .bool false]) (by simp [results, Tryz.results31, go_sem, r0, r1, r2, r3, r4]) rfl ⟨rfl, hS.2.bl⟩

set_option maxRecDepth 20000 in
set_option maxHeartbeats 4000000 in
theorem l7Parse_take_ok (t : ByteArray) (w : World) (ht : t.size ≤ 1048576) (a b c : ByteArray) (hc : cutB t 32 = [a, b, c]) (hc1 : c.size = 1) (eb ec : Int) (heb : digI b = eb) (hec : digI c = ec) (ha : a = takeT) (y : StI) (hy : y = ⟨4, eb, 0, 0, ec⟩) (hk : stCode y = 0) (s : Bool) (hs : ((stText y).toList == t.toList) = s) : GivesPS t y s w := by
  obtain ⟨W, hW⟩ : ∃ W, W = w.alloc (.cells #[.int .i64 0, .int .i64 0, .int .i64 0, .int .i64 0, .int .i64 0] 26) := ⟨_, rfl⟩
  have HW : Hid (W = w.alloc (.cells #[.int .i64 0, .int .i64 0, .int .i64 0, .int .i64 0, .int .i64 0] 26)) := hW
  have B0 : Below w.heap.size w W := by rw [hW]; exact (Below.refl _ _).alloc (Nat.le_refl _) _
  have zW : W.heap.size = w.heap.size + 1 := by rw [hW]; simp
  have X0 : Hid (StAt W w.heap.size 0 ⟨0, 0, 0, 0, 0⟩ ∧ ∀ j, W.frozen? ⟨w.heap.size, j, none⟩ = false) := by rw [hW]; exact ⟨by simp [StAt], fun j => by simp [go_sem]⟩
  obtain ⟨ws, hws⟩ : ∃ ws, cutB t 32 = ws := ⟨_, rfl⟩
  have HL : Hid (Calls Tryz.prog 57 #[.string t, .int .u8 32] W fun e w' => ∃ g cap, e = .returned (.slice (some ⟨g, 0, none⟩) ws.length cap) ∧ w'.ownsRow W.heap.size 9 1 (.slice (some ⟨g, 0, none⟩) ws.length cap) ws.length (ws.map Value.string) ∧ Below W.heap.size W w') := by
    have := l2Cut_c t 32 W ht
    rw [hws] at this
    exact this
  have HSZ : Hid (∀ (j : Nat) (b : ByteArray), ws[j]? = some b → b.size ≤ 1048576) := fun j b e => Nat.le_trans (cut_size t 32 j b (by rw [hws]; exact e)) ht
  have HA : Hid (ws[0]? = some a) := by rw [← hws, hc]; exact rfl
  have HB : Hid (ws[1]? = some b) := by rw [← hws, hc]; exact rfl
  have HC2 : Hid (ws[2]? = some c) := by rw [← hws, hc]; exact rfl
  have hn3 : ws.length = 3 := by rw [← hws, hc]; rfl
  have hbz := HSZ.out 1 b HB.out
  have hcz := HSZ.out 2 c HC2.out
  have hc1' : (c.size : Int) = 1 := by omega
  have HEA : Hid (a = takeT) := ha
  have HEB : Hid (digI b = eb) := heb
  have HEC : Hid (digI c = ec) := hec
  clear hc1 hc ha heb hec
  have HY : Hid (y = ⟨4, eb, 0, 0, ec⟩) := hy
  have HC : Hid (stCode y = 0) := hk
  have HC0 : Hid (stCode y = 0) := hk
  obtain ⟨tx, htx⟩ : ∃ tx, stText y = tx := ⟨_, rfl⟩
  have HTX : Hid (stText y = tx) := htx
  rw [htx] at hs
  clear hk htx hy
  clear hW
  unfold GivesPS
  go_enter Tryz.func31, Tryz.ntmps31
  go_wp2_with fail
  rw [← HW.out]
  refine HL.out.mono ?_
  rintro e w1 ⟨g, cap, rfl, hown, hb1⟩
  obtain ⟨V, hV⟩ : ∃ V, V = w1.alloc (.cells #[.int .i64 0, .int .i64 0, .int .i64 0, .int .i64 0, .int .i64 0] 26) := ⟨_, rfl⟩
  have PV : Hid (PP w V g w1.heap.size ws ⟨0, 0, 0, 0, 0⟩) := by
    have hgl : W.heap.size ≤ g ∧ g < w1.heap.size := hown.lt g rfl
    have A1 : Below w1.heap.size w1 V := by rw [hV]; exact (Below.refl _ _).alloc (Nat.le_refl _) _
    have hb : Below W.heap.size W V := hb1.trans (A1.mono hb1.size)
    refine ⟨B0.trans (hb.mono B0.size), fun k x e => ?_, by rw [hV]; simp [StAt], fun j => by rw [hV]; simp [go_sem], ⟨_, X0.out.1.below hb (by omega)⟩, fun j => (hb.frozen (p := ⟨w.heap.size, j, none⟩) (by show w.heap.size < W.heap.size; omega)).trans (X0.out.2 j), by omega, hgl.2, by rw [hV]; simp⟩
    have hk : k < ws.length := by
      by_cases q : k < ws.length
      · exact q
      · rw [List.getElem?_eq_none (by omega)] at e; cases e
    refine (A1.cell (p := ⟨g, k, none⟩) hgl.2).trans ?_
    rw [hown.cellAt k (by omega), List.getElem?_map, e]
    rfl
  clear hown hb1 HL X0 B0 zW
  go_upto_region 3 with fail
  rw [← hV]
  clear hV HW
  generalize w1.heap.size = q at PV ⊢
  have hgq := PV.out.gq
  have hql := PV.out.ql
  have hgV : g < V.heap.size := by omega
  obtain ⟨d0, d1, d2, d3, d4⟩ := PV.out.st
  simp only [Nat.zero_add] at d0 d1 d2 d3 d4
  have f0 := PV.out.sf 0
  have f1 := PV.out.sf 1
  have f2 := PV.out.sf 2
  have f3 := PV.out.sf 3
  have f4 := PV.out.sf 4
  have x1 := PV.out.wd 1 b HB.out
  have x2 := PV.out.wd 2 c HC2.out
  try rw [hn3]
  go_upto_region 4 with fail
  refine wp_region_held_drew (S := fun w' => w'.cell? ⟨g, 1, none⟩ = some (.string b) ∧ w'.cell? ⟨g, 2, none⟩ = some (.string c)) (by kernel_rfl) (⟨x1, x2⟩) (fun hHeld => ?_)
  refine wpAnyH_take (i := 0) (v := ?_) rfl (by kernel_rfl) (by kernel_rfl) (by kernel_rfl) (fun _ _ _ h => h) (Or.inl ⟨by kernel_rfl, ?_⟩) (by assumption) ?_
  rotate_left 1
  · intro w hSw; (try dsimp only at hSw); go_simp; try (with_reducible rfl)
  try simp only [Act.put, List.getElem_toArray, List.getElem_cons_succ, List.getElem_cons_zero, List.setIfInBounds_toArray, List.set_cons_zero, List.set_cons_succ]
  refine wpAnyH_take (i := 1) (v := ?_) rfl (by kernel_rfl) (by kernel_rfl) (by kernel_rfl) (fun _ _ _ h => h) (Or.inl ⟨by kernel_rfl, ?_⟩) (by assumption) ?_
  rotate_left 1
  · intro w hSw; (try dsimp only at hSw); go_simp; try (with_reducible rfl)
  try simp only [Act.put, List.getElem_toArray, List.getElem_cons_succ, List.getElem_cons_zero, List.setIfInBounds_toArray, List.set_cons_zero, List.set_cons_succ]
  refine wpAnyH_take (i := 2) (v := ?_) rfl (by kernel_rfl) (by kernel_rfl) (by kernel_rfl) (fun _ _ _ h => h) (Or.inl ⟨by kernel_rfl, ?_⟩) (by assumption) ?_
  rotate_left 1
  · intro w hSw; (try dsimp only at hSw); go_simp; try (with_reducible rfl)
  try simp only [Act.put, List.getElem_toArray, List.getElem_cons_succ, List.getElem_cons_zero, List.setIfInBounds_toArray, List.set_cons_zero, List.set_cons_succ]
  refine wpAnyH_take (i := 4) (v := ?_) rfl (by kernel_rfl) (by kernel_rfl) (by kernel_rfl) (fun _ _ _ h => h) (Or.inl ⟨by kernel_rfl, ?_⟩) (by assumption) ?_
  rotate_left 1
  · intro w hSw; (try dsimp only at hSw); go_simp; try (with_reducible rfl)
  try simp only [Act.put, List.getElem_toArray, List.getElem_cons_succ, List.getElem_cons_zero, List.setIfInBounds_toArray, List.set_cons_zero, List.set_cons_succ]
  refine wpAnyH_take (i := 5) (v := ?_) rfl (by kernel_rfl) (by kernel_rfl) (by kernel_rfl) (fun _ _ _ h => h) (Or.inl ⟨by kernel_rfl, ?_⟩) (by assumption) ?_
  rotate_left 1
  · intro w hSw; (try dsimp only at hSw); go_simp; try (with_reducible rfl)
  try simp only [Act.put, List.getElem_toArray, List.getElem_cons_succ, List.getElem_cons_zero, List.setIfInBounds_toArray, List.set_cons_zero, List.set_cons_succ]
  refine wpAnyH_take (i := 6) (v := ?_) rfl (by kernel_rfl) (by kernel_rfl) (by kernel_rfl) (fun _ _ _ h => h) (Or.inl ⟨by kernel_rfl, ?_⟩) (by assumption) ?_
  rotate_left 1
  · intro w hSw; (try dsimp only at hSw); go_simp; try (with_reducible rfl)
  try simp only [Act.put, List.getElem_toArray, List.getElem_cons_succ, List.getElem_cons_zero, List.setIfInBounds_toArray, List.set_cons_zero, List.set_cons_succ]
  refine wpAnyH_ready (rs := [3]) (by kernel_rfl) (by simp) ?_
  refine AllReadyH.cons rfl (fun K hK => ?_) AllReadyH.nil
  go_simp
  refine (l2Digit_c b _ (by omega)).mono ?_
  rintro e w' ⟨rfl, rfl⟩
  rw [HEB.out]
  have hS := hHeld
  refine hK.out _ _ hS (fun hHeld => ?_)
  clear hK K
  try simp only [Act.put, List.getElem_toArray, List.getElem_cons_succ, List.getElem_cons_zero, List.setIfInBounds_toArray, List.set_cons_zero, List.set_cons_succ]
  refine wpAnyH_ready (rs := [7]) (by kernel_rfl) (by simp) ?_
  refine AllReadyH.cons rfl (fun K hK => ?_) AllReadyH.nil
  go_simp
  refine (l2Digit_c c _ (by omega)).mono ?_
  rintro e w' ⟨rfl, rfl⟩
  rw [HEC.out]
  have hS := hHeld
  refine hK.out _ _ hS (fun hHeld => ?_)
  clear hK K
  try simp only [Act.put, List.getElem_toArray, List.getElem_cons_succ, List.getElem_cons_zero, List.setIfInBounds_toArray, List.set_cons_zero, List.set_cons_succ]
  refine wpAnyH_take (i := 8) (v := ?_) rfl (by kernel_rfl) (by kernel_rfl) (by kernel_rfl) (fun _ _ _ h => h) (Or.inl ⟨by kernel_rfl, ?_⟩) (by assumption) ?_
  rotate_left 1
  · intro w hSw; (try dsimp only at hSw); go_simp; try (with_reducible rfl)
  try simp only [Act.put, List.getElem_toArray, List.getElem_cons_succ, List.getElem_cons_zero, List.setIfInBounds_toArray, List.set_cons_zero, List.set_cons_succ]
  refine wpAnyH_ready (rs := [9]) (by kernel_rfl) (by simp) ?_
  refine AllReadyH.cons rfl (fun K hK => ?_) AllReadyH.nil
  go_simp
  have P4 : Hid (PP w (StPut V q 0 ⟨3, eb, 0, 0, ec⟩).drew g q ws ⟨3, eb, 0, 0, ec⟩) := (PV.out.put ⟨3, eb, 0, 0, ec⟩).drew
  have hS : (fun w' => w'.cell? ⟨g, 1, none⟩ = some (.string b) ∧ w'.cell? ⟨g, 2, none⟩ = some (.string c)) (StPut V q 0 ⟨3, eb, 0, 0, ec⟩).drew := ⟨P4.out.wd 1 b HB.out, P4.out.wd 2 c HC2.out⟩
  dsimp only [StPut] at hS P4
  refine hK.out _ _ hS (fun hHeld => ?_)
  clear hK K
  try simp only [Act.put, List.getElem_toArray, List.getElem_cons_succ, List.getElem_cons_zero, List.setIfInBounds_toArray, List.set_cons_zero, List.set_cons_succ]
  refine wpAnyH_done (by kernel_rfl) ?_ _
  clear hHeld hS d0 d1 d2 d3 d4 f0 f1 f2 f3 f4 x1 x2
  go_upto_region 5 with fail
  generalize (((((V.setCell ⟨q, 0, none⟩ (.int .i64 3)).setCell ⟨q, 1, none⟩ (.int .i64 eb)).setCell ⟨q, 2, none⟩ (.int .i64 0)).setCell ⟨q, 3, none⟩ (.int .i64 0)).setCell ⟨q, 4, none⟩ (.int .i64 ec)).drew = X at P4 ⊢
  have hgq := P4.out.gq
  have hql := P4.out.ql
  have hgX : g < X.heap.size := by omega
  have hqX : q < X.heap.size := hql
  have x0 := P4.out.wd 0 a HA.out
  obtain ⟨u0, u1, u2, u3, u4⟩ := P4.out.st
  simp only [Nat.zero_add] at u0 u1 u2 u3 u4
  have fz := P4.out.sf 0
  have hta : (a.toList == [116, 97, 107, 101]) = true := by have h := str_eq_of HEA.out; rw [take_list] at h; exact h
  go_upto_region 12 with fail
  have PX : Hid (PP w (X.setCell ⟨q, 0, none⟩ (.int .i64 4)) g q ws y) := by rw [HY.out]; exact P4.out.kind 4
  clear x0 hgq hql hgX hqX P4 hta u0 u1 u2 u3 u4 fz
  generalize X.setCell ⟨q, 0, none⟩ (.int .i64 4) = X at PX ⊢
  have hgl := PX.out.gl
  have hgq := PX.out.gq
  have hql := PX.out.ql
  have hwX : w.heap.size < X.heap.size := by omega
  have hwq : w.heap.size ≠ q := by omega
  obtain ⟨s0, s1, s2, s3, s4⟩ := PX.out.st
  simp only [Nat.zero_add] at s0 s1 s2 s3 s4
  obtain ⟨z, r0, r1, r2, r3, r4⟩ := PX.out.rs
  simp only [Nat.zero_add] at r0 r1 r2 r3 r4
  have e0 := PX.out.rf 0
  have e1 := PX.out.rf 1
  have e2 := PX.out.rf 2
  have e3 := PX.out.rf 3
  have e4 := PX.out.rf 4
  refine wp_region_held_drew (S := fun w' => (w'.cell? ⟨q, 0, none⟩ = some (.int .i64 (y : StI).k) ∧ w'.cell? ⟨q, 1, none⟩ = some (.int .i64 (y : StI).e) ∧ w'.cell? ⟨q, 2, none⟩ = some (.int .i64 (y : StI).f) ∧ w'.cell? ⟨q, 3, none⟩ = some (.int .i64 (y : StI).s) ∧ w'.cell? ⟨q, 4, none⟩ = some (.int .i64 (y : StI).n)) ∧ PP w w' g q ws y) (by kernel_rfl) (⟨⟨s0, s1, s2, s3, s4⟩, PX.out.drew⟩) (fun hHeld => ?_)
  refine wpAnyH_take (i := 0) (v := ?_) rfl (by kernel_rfl) (by kernel_rfl) (by kernel_rfl) (fun _ _ _ h => h) (Or.inl ⟨by kernel_rfl, ?_⟩) (by assumption) ?_
  rotate_left 1
  · intro w hSw; (try dsimp only at hSw); go_simp; try (with_reducible rfl)
  try simp only [Act.put, List.getElem_toArray, List.getElem_cons_succ, List.getElem_cons_zero, List.setIfInBounds_toArray, List.set_cons_zero, List.set_cons_succ]
  refine wpAnyH_ready (rs := [1]) (by kernel_rfl) (by simp) ?_
  refine AllReadyH.cons rfl (fun K hK => ?_) AllReadyH.nil
  go_simp
  refine (l7Fault_c q 0 y _ hHeld.2.st).mono ?_
  rintro e w' ⟨rfl, rfl⟩
  rw [HC.out]
  have hS := hHeld
  refine hK.out _ _ hS (fun hHeld => ?_)
  clear hK K
  try simp only [Act.put, List.getElem_toArray, List.getElem_cons_succ, List.getElem_cons_zero, List.setIfInBounds_toArray, List.set_cons_zero, List.set_cons_succ]
  refine wpAnyH_take (i := 2) (v := ?_) rfl (by kernel_rfl) (by kernel_rfl) (by kernel_rfl) (fun _ _ _ h => h) (Or.inl ⟨by kernel_rfl, ?_⟩) (by assumption) ?_
  rotate_left 1
  · intro w hSw; (try dsimp only at hSw); go_simp; try (with_reducible rfl)
  try simp only [Act.put, List.getElem_toArray, List.getElem_cons_succ, List.getElem_cons_zero, List.setIfInBounds_toArray, List.set_cons_zero, List.set_cons_succ]
  refine wpAnyH_take (i := 3) (v := ?_) rfl (by kernel_rfl) (by kernel_rfl) (by kernel_rfl) (fun _ _ _ h => h) (Or.inl ⟨by kernel_rfl, ?_⟩) (by assumption) ?_
  rotate_left 1
  · intro w hSw; (try dsimp only at hSw); go_simp; try (with_reducible rfl)
  try simp only [Act.put, List.getElem_toArray, List.getElem_cons_succ, List.getElem_cons_zero, List.setIfInBounds_toArray, List.set_cons_zero, List.set_cons_succ]
  refine wpAnyH_take (i := 5) (v := ?_) rfl (by kernel_rfl) (by kernel_rfl) (by kernel_rfl) (fun _ _ _ h => h) (Or.inl ⟨by kernel_rfl, ?_⟩) (by assumption) ?_
  rotate_left 1
  · intro w hSw; (try dsimp only at hSw); go_simp; try (with_reducible rfl)
  try simp only [Act.put, List.getElem_toArray, List.getElem_cons_succ, List.getElem_cons_zero, List.setIfInBounds_toArray, List.set_cons_zero, List.set_cons_succ]
  refine wpAnyH_ready (rs := [4]) (by kernel_rfl) (by simp) ?_
  refine AllReadyH.cons rfl (fun K hK => ?_) AllReadyH.nil
  go_simp
  refine (l7Text_c q 0 y _ hHeld.2.st HC0.out).mono ?_
  rintro e wT ⟨rfl, hbT⟩
  rw [HTX.out]
  have pT := hHeld.2.below hbT
  have hS : (fun w' => (w'.cell? ⟨q, 0, none⟩ = some (.int .i64 (y : StI).k) ∧ w'.cell? ⟨q, 1, none⟩ = some (.int .i64 (y : StI).e) ∧ w'.cell? ⟨q, 2, none⟩ = some (.int .i64 (y : StI).f) ∧ w'.cell? ⟨q, 3, none⟩ = some (.int .i64 (y : StI).s) ∧ w'.cell? ⟨q, 4, none⟩ = some (.int .i64 (y : StI).n)) ∧ PP w w' g q ws y) wT := ⟨by obtain ⟨q0, q1, q2, q3, q4⟩ := pT.st; simp only [Nat.zero_add] at q0 q1 q2 q3 q4; exact ⟨q0, q1, q2, q3, q4⟩, pT⟩
  clear r0 r1 r2 r3 r4 e0 e1 e2 e3 e4 z
  obtain ⟨z, r0, r1, r2, r3, r4⟩ := pT.rs
  simp only [Nat.zero_add] at r0 r1 r2 r3 r4
  have e0 := pT.rf 0
  have e1 := pT.rf 1
  have e2 := pT.rf 2
  have e3 := pT.rf 3
  have e4 := pT.rf 4
  have hwT : w.heap.size < wT.heap.size := by have := pT.gl; have := pT.gq; have := pT.ql; omega
  clear hbT pT
  refine hK.out _ _ hS (fun hHeld => ?_)
  clear hK K
  try simp only [Act.put, List.getElem_toArray, List.getElem_cons_succ, List.getElem_cons_zero, List.setIfInBounds_toArray, List.set_cons_zero, List.set_cons_succ]
  refine wpAnyH_take (i := 6) (v := ?_) rfl (by kernel_rfl) (by kernel_rfl) (by kernel_rfl) (fun _ _ _ h => h) (Or.inl ⟨by kernel_rfl, ?_⟩) (by assumption) ?_
  rotate_left 1
  · intro w hSw; (try dsimp only at hSw); go_simp; try (with_reducible rfl)
  try simp only [Act.put, List.getElem_toArray, List.getElem_cons_succ, List.getElem_cons_zero, List.setIfInBounds_toArray, List.set_cons_zero, List.set_cons_succ]
  refine wpAnyH_take (i := 7) (v := ?_) rfl (by kernel_rfl) (by kernel_rfl) (by kernel_rfl) (fun _ _ _ h => h) (Or.inl ⟨by kernel_rfl, ?_⟩) (by assumption) ?_
  rotate_left 1
  · intro w hSw; (try dsimp only at hSw); go_simp; try (with_reducible rfl)
  try simp only [Act.put, List.getElem_toArray, List.getElem_cons_succ, List.getElem_cons_zero, List.setIfInBounds_toArray, List.set_cons_zero, List.set_cons_succ]
  refine wpAnyH_ready (rs := [8]) (by kernel_rfl) (by simp) ?_
  refine AllReadyH.cons rfl (fun K hK => ?_) AllReadyH.nil
  go_simp
  have pS := (hHeld.2.told y).1
  have hS : (fun w' => (w'.cell? ⟨q, 0, none⟩ = some (.int .i64 (y : StI).k) ∧ w'.cell? ⟨q, 1, none⟩ = some (.int .i64 (y : StI).e) ∧ w'.cell? ⟨q, 2, none⟩ = some (.int .i64 (y : StI).f) ∧ w'.cell? ⟨q, 3, none⟩ = some (.int .i64 (y : StI).s) ∧ w'.cell? ⟨q, 4, none⟩ = some (.int .i64 (y : StI).n)) ∧ PP w w' g q ws y) (StPut wT w.heap.size 0 y) := ⟨by obtain ⟨q0, q1, q2, q3, q4⟩ := pS.st; simp only [Nat.zero_add] at q0 q1 q2 q3 q4; exact ⟨q0, q1, q2, q3, q4⟩, pS⟩
  dsimp only [StPut] at hS pS
  refine hK.out _ _ hS (fun hHeld => ?_)
  clear hK K
  try simp only [Act.put, List.getElem_toArray, List.getElem_cons_succ, List.getElem_cons_zero, List.setIfInBounds_toArray, List.set_cons_zero, List.set_cons_succ]
  refine wpAnyH_ready (rs := [9]) (by kernel_rfl) (by simp) ?_
  refine AllReadyH.cons rfl (fun K hK => ?_) AllReadyH.nil
  go_simp
  refine hK.out _ _ (by assumption) (fun hHeld => ?_)
  clear hK K
  try simp only [Act.put, List.getElem_toArray, List.getElem_cons_succ, List.getElem_cons_zero, List.setIfInBounds_toArray, List.set_cons_zero, List.set_cons_succ]
  refine wpAnyH_done (by kernel_rfl) ?_ _
  go_wp2_with fail
  refine bodyPost_ret (v := .tuple #[.agg #[.int .i64 y.k, .int .i64 y.e, .int .i64 y.f, .int .i64 y.s, .int .i64 y.n], .bool s]) (by simp [results, Tryz.results31, go_sem, r0, r1, r2, r3, r4]) rfl ⟨rfl, hS.2.bl⟩

set_option maxRecDepth 20000 in
set_option maxHeartbeats 4000000 in
theorem l7Parse_next_bad (t : ByteArray) (w : World) (ht : t.size ≤ 1048576) (a b c : ByteArray) (hc : cutB t 32 = [a, b, c]) (hc1 : c.size = 1) (eb ec : Int) (heb : digI b = eb) (hec : digI c = ec) (ha : a ≠ takeT) (y : StI) (hy : y = ⟨3, eb, 0, 0, ec⟩) (k : Int) (hk : stCode y = k) (h0 : k ≠ 0) : GivesPS t y false w := by
  obtain ⟨W, hW⟩ : ∃ W, W = w.alloc (.cells #[.int .i64 0, .int .i64 0, .int .i64 0, .int .i64 0, .int .i64 0] 26) := ⟨_, rfl⟩
  have HW : Hid (W = w.alloc (.cells #[.int .i64 0, .int .i64 0, .int .i64 0, .int .i64 0, .int .i64 0] 26)) := hW
  have B0 : Below w.heap.size w W := by rw [hW]; exact (Below.refl _ _).alloc (Nat.le_refl _) _
  have zW : W.heap.size = w.heap.size + 1 := by rw [hW]; simp
  have X0 : Hid (StAt W w.heap.size 0 ⟨0, 0, 0, 0, 0⟩ ∧ ∀ j, W.frozen? ⟨w.heap.size, j, none⟩ = false) := by rw [hW]; exact ⟨by simp [StAt], fun j => by simp [go_sem]⟩
  obtain ⟨ws, hws⟩ : ∃ ws, cutB t 32 = ws := ⟨_, rfl⟩
  have HL : Hid (Calls Tryz.prog 57 #[.string t, .int .u8 32] W fun e w' => ∃ g cap, e = .returned (.slice (some ⟨g, 0, none⟩) ws.length cap) ∧ w'.ownsRow W.heap.size 9 1 (.slice (some ⟨g, 0, none⟩) ws.length cap) ws.length (ws.map Value.string) ∧ Below W.heap.size W w') := by
    have := l2Cut_c t 32 W ht
    rw [hws] at this
    exact this
  have HSZ : Hid (∀ (j : Nat) (b : ByteArray), ws[j]? = some b → b.size ≤ 1048576) := fun j b e => Nat.le_trans (cut_size t 32 j b (by rw [hws]; exact e)) ht
  have HA : Hid (ws[0]? = some a) := by rw [← hws, hc]; exact rfl
  have HB : Hid (ws[1]? = some b) := by rw [← hws, hc]; exact rfl
  have HC2 : Hid (ws[2]? = some c) := by rw [← hws, hc]; exact rfl
  have hn3 : ws.length = 3 := by rw [← hws, hc]; rfl
  have hbz := HSZ.out 1 b HB.out
  have hcz := HSZ.out 2 c HC2.out
  have hc1' : (c.size : Int) = 1 := by omega
  have HEA : Hid (a ≠ takeT) := ha
  have HEB : Hid (digI b = eb) := heb
  have HEC : Hid (digI c = ec) := hec
  clear hc1 hc ha heb hec
  have HY : Hid (y = ⟨3, eb, 0, 0, ec⟩) := hy
  have HC : Hid (stCode y = k) := hk
  have hkb : (k == 0) = false := by simpa using h0
  clear hk h0 hy
  clear hW
  unfold GivesPS
  go_enter Tryz.func31, Tryz.ntmps31
  go_wp2_with fail
  rw [← HW.out]
  refine HL.out.mono ?_
  rintro e w1 ⟨g, cap, rfl, hown, hb1⟩
  obtain ⟨V, hV⟩ : ∃ V, V = w1.alloc (.cells #[.int .i64 0, .int .i64 0, .int .i64 0, .int .i64 0, .int .i64 0] 26) := ⟨_, rfl⟩
  have PV : Hid (PP w V g w1.heap.size ws ⟨0, 0, 0, 0, 0⟩) := by
    have hgl : W.heap.size ≤ g ∧ g < w1.heap.size := hown.lt g rfl
    have A1 : Below w1.heap.size w1 V := by rw [hV]; exact (Below.refl _ _).alloc (Nat.le_refl _) _
    have hb : Below W.heap.size W V := hb1.trans (A1.mono hb1.size)
    refine ⟨B0.trans (hb.mono B0.size), fun k x e => ?_, by rw [hV]; simp [StAt], fun j => by rw [hV]; simp [go_sem], ⟨_, X0.out.1.below hb (by omega)⟩, fun j => (hb.frozen (p := ⟨w.heap.size, j, none⟩) (by show w.heap.size < W.heap.size; omega)).trans (X0.out.2 j), by omega, hgl.2, by rw [hV]; simp⟩
    have hk : k < ws.length := by
      by_cases q : k < ws.length
      · exact q
      · rw [List.getElem?_eq_none (by omega)] at e; cases e
    refine (A1.cell (p := ⟨g, k, none⟩) hgl.2).trans ?_
    rw [hown.cellAt k (by omega), List.getElem?_map, e]
    rfl
  clear hown hb1 HL X0 B0 zW
  go_upto_region 3 with fail
  rw [← hV]
  clear hV HW
  generalize w1.heap.size = q at PV ⊢
  have hgq := PV.out.gq
  have hql := PV.out.ql
  have hgV : g < V.heap.size := by omega
  obtain ⟨d0, d1, d2, d3, d4⟩ := PV.out.st
  simp only [Nat.zero_add] at d0 d1 d2 d3 d4
  have f0 := PV.out.sf 0
  have f1 := PV.out.sf 1
  have f2 := PV.out.sf 2
  have f3 := PV.out.sf 3
  have f4 := PV.out.sf 4
  have x1 := PV.out.wd 1 b HB.out
  have x2 := PV.out.wd 2 c HC2.out
  try rw [hn3]
  go_upto_region 4 with fail
  refine wp_region_held_drew (S := fun w' => w'.cell? ⟨g, 1, none⟩ = some (.string b) ∧ w'.cell? ⟨g, 2, none⟩ = some (.string c)) (by kernel_rfl) (⟨x1, x2⟩) (fun hHeld => ?_)
  refine wpAnyH_take (i := 0) (v := ?_) rfl (by kernel_rfl) (by kernel_rfl) (by kernel_rfl) (fun _ _ _ h => h) (Or.inl ⟨by kernel_rfl, ?_⟩) (by assumption) ?_
  rotate_left 1
  · intro w hSw; (try dsimp only at hSw); go_simp; try (with_reducible rfl)
  try simp only [Act.put, List.getElem_toArray, List.getElem_cons_succ, List.getElem_cons_zero, List.setIfInBounds_toArray, List.set_cons_zero, List.set_cons_succ]
  refine wpAnyH_take (i := 1) (v := ?_) rfl (by kernel_rfl) (by kernel_rfl) (by kernel_rfl) (fun _ _ _ h => h) (Or.inl ⟨by kernel_rfl, ?_⟩) (by assumption) ?_
  rotate_left 1
  · intro w hSw; (try dsimp only at hSw); go_simp; try (with_reducible rfl)
  try simp only [Act.put, List.getElem_toArray, List.getElem_cons_succ, List.getElem_cons_zero, List.setIfInBounds_toArray, List.set_cons_zero, List.set_cons_succ]
  refine wpAnyH_take (i := 2) (v := ?_) rfl (by kernel_rfl) (by kernel_rfl) (by kernel_rfl) (fun _ _ _ h => h) (Or.inl ⟨by kernel_rfl, ?_⟩) (by assumption) ?_
  rotate_left 1
  · intro w hSw; (try dsimp only at hSw); go_simp; try (with_reducible rfl)
  try simp only [Act.put, List.getElem_toArray, List.getElem_cons_succ, List.getElem_cons_zero, List.setIfInBounds_toArray, List.set_cons_zero, List.set_cons_succ]
  refine wpAnyH_take (i := 4) (v := ?_) rfl (by kernel_rfl) (by kernel_rfl) (by kernel_rfl) (fun _ _ _ h => h) (Or.inl ⟨by kernel_rfl, ?_⟩) (by assumption) ?_
  rotate_left 1
  · intro w hSw; (try dsimp only at hSw); go_simp; try (with_reducible rfl)
  try simp only [Act.put, List.getElem_toArray, List.getElem_cons_succ, List.getElem_cons_zero, List.setIfInBounds_toArray, List.set_cons_zero, List.set_cons_succ]
  refine wpAnyH_take (i := 5) (v := ?_) rfl (by kernel_rfl) (by kernel_rfl) (by kernel_rfl) (fun _ _ _ h => h) (Or.inl ⟨by kernel_rfl, ?_⟩) (by assumption) ?_
  rotate_left 1
  · intro w hSw; (try dsimp only at hSw); go_simp; try (with_reducible rfl)
  try simp only [Act.put, List.getElem_toArray, List.getElem_cons_succ, List.getElem_cons_zero, List.setIfInBounds_toArray, List.set_cons_zero, List.set_cons_succ]
  refine wpAnyH_take (i := 6) (v := ?_) rfl (by kernel_rfl) (by kernel_rfl) (by kernel_rfl) (fun _ _ _ h => h) (Or.inl ⟨by kernel_rfl, ?_⟩) (by assumption) ?_
  rotate_left 1
  · intro w hSw; (try dsimp only at hSw); go_simp; try (with_reducible rfl)
  try simp only [Act.put, List.getElem_toArray, List.getElem_cons_succ, List.getElem_cons_zero, List.setIfInBounds_toArray, List.set_cons_zero, List.set_cons_succ]
  refine wpAnyH_ready (rs := [3]) (by kernel_rfl) (by simp) ?_
  refine AllReadyH.cons rfl (fun K hK => ?_) AllReadyH.nil
  go_simp
  refine (l2Digit_c b _ (by omega)).mono ?_
  rintro e w' ⟨rfl, rfl⟩
  rw [HEB.out]
  have hS := hHeld
  refine hK.out _ _ hS (fun hHeld => ?_)
  clear hK K
  try simp only [Act.put, List.getElem_toArray, List.getElem_cons_succ, List.getElem_cons_zero, List.setIfInBounds_toArray, List.set_cons_zero, List.set_cons_succ]
  refine wpAnyH_ready (rs := [7]) (by kernel_rfl) (by simp) ?_
  refine AllReadyH.cons rfl (fun K hK => ?_) AllReadyH.nil
  go_simp
  refine (l2Digit_c c _ (by omega)).mono ?_
  rintro e w' ⟨rfl, rfl⟩
  rw [HEC.out]
  have hS := hHeld
  refine hK.out _ _ hS (fun hHeld => ?_)
  clear hK K
  try simp only [Act.put, List.getElem_toArray, List.getElem_cons_succ, List.getElem_cons_zero, List.setIfInBounds_toArray, List.set_cons_zero, List.set_cons_succ]
  refine wpAnyH_take (i := 8) (v := ?_) rfl (by kernel_rfl) (by kernel_rfl) (by kernel_rfl) (fun _ _ _ h => h) (Or.inl ⟨by kernel_rfl, ?_⟩) (by assumption) ?_
  rotate_left 1
  · intro w hSw; (try dsimp only at hSw); go_simp; try (with_reducible rfl)
  try simp only [Act.put, List.getElem_toArray, List.getElem_cons_succ, List.getElem_cons_zero, List.setIfInBounds_toArray, List.set_cons_zero, List.set_cons_succ]
  refine wpAnyH_ready (rs := [9]) (by kernel_rfl) (by simp) ?_
  refine AllReadyH.cons rfl (fun K hK => ?_) AllReadyH.nil
  go_simp
  have P4 : Hid (PP w (StPut V q 0 ⟨3, eb, 0, 0, ec⟩).drew g q ws ⟨3, eb, 0, 0, ec⟩) := (PV.out.put ⟨3, eb, 0, 0, ec⟩).drew
  have hS : (fun w' => w'.cell? ⟨g, 1, none⟩ = some (.string b) ∧ w'.cell? ⟨g, 2, none⟩ = some (.string c)) (StPut V q 0 ⟨3, eb, 0, 0, ec⟩).drew := ⟨P4.out.wd 1 b HB.out, P4.out.wd 2 c HC2.out⟩
  dsimp only [StPut] at hS P4
  refine hK.out _ _ hS (fun hHeld => ?_)
  clear hK K
  try simp only [Act.put, List.getElem_toArray, List.getElem_cons_succ, List.getElem_cons_zero, List.setIfInBounds_toArray, List.set_cons_zero, List.set_cons_succ]
  refine wpAnyH_done (by kernel_rfl) ?_ _
  clear hHeld hS d0 d1 d2 d3 d4 f0 f1 f2 f3 f4 x1 x2
  go_upto_region 5 with fail
  generalize (((((V.setCell ⟨q, 0, none⟩ (.int .i64 3)).setCell ⟨q, 1, none⟩ (.int .i64 eb)).setCell ⟨q, 2, none⟩ (.int .i64 0)).setCell ⟨q, 3, none⟩ (.int .i64 0)).setCell ⟨q, 4, none⟩ (.int .i64 ec)).drew = X at P4 ⊢
  have hgq := P4.out.gq
  have hql := P4.out.ql
  have hgX : g < X.heap.size := by omega
  have hqX : q < X.heap.size := hql
  have x0 := P4.out.wd 0 a HA.out
  obtain ⟨u0, u1, u2, u3, u4⟩ := P4.out.st
  simp only [Nat.zero_add] at u0 u1 u2 u3 u4
  have fz := P4.out.sf 0
  have hta : (a.toList == [116, 97, 107, 101]) = false := by have h := str_ne_of HEA.out; rw [take_list] at h; exact h
  go_upto_region 12 with fail
  have PX : Hid (PP w X g q ws y) := by rw [HY.out]; exact P4.out
  clear x0 hgq hql hgX hqX P4 hta u0 u1 u2 u3 u4 fz
  have hgl := PX.out.gl
  have hgq := PX.out.gq
  have hql := PX.out.ql
  have hwX : w.heap.size < X.heap.size := by omega
  have hwq : w.heap.size ≠ q := by omega
  obtain ⟨s0, s1, s2, s3, s4⟩ := PX.out.st
  simp only [Nat.zero_add] at s0 s1 s2 s3 s4
  obtain ⟨z, r0, r1, r2, r3, r4⟩ := PX.out.rs
  simp only [Nat.zero_add] at r0 r1 r2 r3 r4
  have e0 := PX.out.rf 0
  have e1 := PX.out.rf 1
  have e2 := PX.out.rf 2
  have e3 := PX.out.rf 3
  have e4 := PX.out.rf 4
  refine wp_region_held_drew (S := fun w' => (w'.cell? ⟨q, 0, none⟩ = some (.int .i64 (y : StI).k) ∧ w'.cell? ⟨q, 1, none⟩ = some (.int .i64 (y : StI).e) ∧ w'.cell? ⟨q, 2, none⟩ = some (.int .i64 (y : StI).f) ∧ w'.cell? ⟨q, 3, none⟩ = some (.int .i64 (y : StI).s) ∧ w'.cell? ⟨q, 4, none⟩ = some (.int .i64 (y : StI).n)) ∧ PP w w' g q ws y) (by kernel_rfl) (⟨⟨s0, s1, s2, s3, s4⟩, PX.out.drew⟩) (fun hHeld => ?_)
  refine wpAnyH_take (i := 0) (v := ?_) rfl (by kernel_rfl) (by kernel_rfl) (by kernel_rfl) (fun _ _ _ h => h) (Or.inl ⟨by kernel_rfl, ?_⟩) (by assumption) ?_
  rotate_left 1
  · intro w hSw; (try dsimp only at hSw); go_simp; try (with_reducible rfl)
  try simp only [Act.put, List.getElem_toArray, List.getElem_cons_succ, List.getElem_cons_zero, List.setIfInBounds_toArray, List.set_cons_zero, List.set_cons_succ]
  refine wpAnyH_ready (rs := [1]) (by kernel_rfl) (by simp) ?_
  refine AllReadyH.cons rfl (fun K hK => ?_) AllReadyH.nil
  go_simp
  refine (l7Fault_c q 0 y _ hHeld.2.st).mono ?_
  rintro e w' ⟨rfl, rfl⟩
  rw [HC.out]
  have hS := hHeld
  refine hK.out _ _ hS (fun hHeld => ?_)
  clear hK K
  try simp only [Act.put, List.getElem_toArray, List.getElem_cons_succ, List.getElem_cons_zero, List.setIfInBounds_toArray, List.set_cons_zero, List.set_cons_succ]
  refine wpAnyH_take (i := 2) (v := ?_) rfl (by kernel_rfl) (by kernel_rfl) (by kernel_rfl) (fun _ _ _ h => h) (Or.inl ⟨by kernel_rfl, ?_⟩) (by assumption) ?_
  rotate_left 1
  · intro w hSw; (try dsimp only at hSw); go_simp; try (with_reducible rfl)
  try simp only [Act.put, List.getElem_toArray, List.getElem_cons_succ, List.getElem_cons_zero, List.setIfInBounds_toArray, List.set_cons_zero, List.set_cons_succ]
  refine wpAnyH_take (i := 3) (v := ?_) rfl (by kernel_rfl) (by kernel_rfl) (by kernel_rfl) (fun _ _ _ h => h) (Or.inl ⟨by kernel_rfl, ?_⟩) (by assumption) ?_
  rotate_left 1
  · intro w hSw; (try dsimp only at hSw); go_simp; try (with_reducible rfl)
  try simp only [Act.put, List.getElem_toArray, List.getElem_cons_succ, List.getElem_cons_zero, List.setIfInBounds_toArray, List.set_cons_zero, List.set_cons_succ]
  refine wpAnyH_take (i := 4) (v := undef) rfl (by kernel_rfl) (by kernel_rfl) (by kernel_rfl) (fun _ _ _ h => h) (Or.inr ⟨by kernel_rfl, rfl⟩) (by assumption) ?_
  try simp only [Act.put, List.getElem_toArray, List.getElem_cons_succ, List.getElem_cons_zero, List.setIfInBounds_toArray, List.set_cons_zero, List.set_cons_succ]
  refine wpAnyH_take (i := 5) (v := undef) rfl (by kernel_rfl) (by kernel_rfl) (by kernel_rfl) (fun _ _ _ h => h) (Or.inr ⟨by kernel_rfl, rfl⟩) (by assumption) ?_
  try simp only [Act.put, List.getElem_toArray, List.getElem_cons_succ, List.getElem_cons_zero, List.setIfInBounds_toArray, List.set_cons_zero, List.set_cons_succ]
  refine wpAnyH_take (i := 6) (v := undef) rfl (by kernel_rfl) (by kernel_rfl) (by kernel_rfl) (fun _ _ _ h => h) (Or.inr ⟨by kernel_rfl, rfl⟩) (by assumption) ?_
  try simp only [Act.put, List.getElem_toArray, List.getElem_cons_succ, List.getElem_cons_zero, List.setIfInBounds_toArray, List.set_cons_zero, List.set_cons_succ]
  refine wpAnyH_take (i := 7) (v := ?_) rfl (by kernel_rfl) (by kernel_rfl) (by kernel_rfl) (fun _ _ _ h => h) (Or.inl ⟨by kernel_rfl, ?_⟩) (by assumption) ?_
  rotate_left 1
  · intro w hSw; (try dsimp only at hSw); go_simp; try (with_reducible rfl)
  try simp only [Act.put, List.getElem_toArray, List.getElem_cons_succ, List.getElem_cons_zero, List.setIfInBounds_toArray, List.set_cons_zero, List.set_cons_succ]
  refine wpAnyH_ready (rs := [8]) (by kernel_rfl) (by simp) ?_
  refine AllReadyH.cons rfl (fun K hK => ?_) AllReadyH.nil
  go_simp
  have pS := (PX.out.told y).1.drew
  have hS : (fun w' => (w'.cell? ⟨q, 0, none⟩ = some (.int .i64 (y : StI).k) ∧ w'.cell? ⟨q, 1, none⟩ = some (.int .i64 (y : StI).e) ∧ w'.cell? ⟨q, 2, none⟩ = some (.int .i64 (y : StI).f) ∧ w'.cell? ⟨q, 3, none⟩ = some (.int .i64 (y : StI).s) ∧ w'.cell? ⟨q, 4, none⟩ = some (.int .i64 (y : StI).n)) ∧ PP w w' g q ws y) (StPut X w.heap.size 0 y).drew := ⟨by obtain ⟨q0, q1, q2, q3, q4⟩ := pS.st; simp only [Nat.zero_add] at q0 q1 q2 q3 q4; exact ⟨q0, q1, q2, q3, q4⟩, pS⟩
  dsimp only [StPut] at hS pS
  refine hK.out _ _ hS (fun hHeld => ?_)
  clear hK K
  try simp only [Act.put, List.getElem_toArray, List.getElem_cons_succ, List.getElem_cons_zero, List.setIfInBounds_toArray, List.set_cons_zero, List.set_cons_succ]
  refine wpAnyH_ready (rs := [9]) (by kernel_rfl) (by simp) ?_
  refine AllReadyH.cons rfl (fun K hK => ?_) AllReadyH.nil
  go_simp
  refine hK.out _ _ (by assumption) (fun hHeld => ?_)
  clear hK K
  try simp only [Act.put, List.getElem_toArray, List.getElem_cons_succ, List.getElem_cons_zero, List.setIfInBounds_toArray, List.set_cons_zero, List.set_cons_succ]
  refine wpAnyH_done (by kernel_rfl) ?_ _
  go_wp2_with fail
  refine bodyPost_ret (v := .tuple #[.agg #[.int .i64 y.k, .int .i64 y.e, .int .i64 y.f, .int .i64 y.s, .int .i64 y.n], .bool false]) (by simp [results, Tryz.results31, go_sem, r0, r1, r2, r3, r4]) rfl ⟨rfl, hS.2.bl⟩

set_option maxRecDepth 20000 in
set_option maxHeartbeats 4000000 in
theorem l7Parse_next_ok (t : ByteArray) (w : World) (ht : t.size ≤ 1048576) (a b c : ByteArray) (hc : cutB t 32 = [a, b, c]) (hc1 : c.size = 1) (eb ec : Int) (heb : digI b = eb) (hec : digI c = ec) (ha : a ≠ takeT) (y : StI) (hy : y = ⟨3, eb, 0, 0, ec⟩) (hk : stCode y = 0) (s : Bool) (hs : ((stText y).toList == t.toList) = s) : GivesPS t y s w := by
  obtain ⟨W, hW⟩ : ∃ W, W = w.alloc (.cells #[.int .i64 0, .int .i64 0, .int .i64 0, .int .i64 0, .int .i64 0] 26) := ⟨_, rfl⟩
  have HW : Hid (W = w.alloc (.cells #[.int .i64 0, .int .i64 0, .int .i64 0, .int .i64 0, .int .i64 0] 26)) := hW
  have B0 : Below w.heap.size w W := by rw [hW]; exact (Below.refl _ _).alloc (Nat.le_refl _) _
  have zW : W.heap.size = w.heap.size + 1 := by rw [hW]; simp
  have X0 : Hid (StAt W w.heap.size 0 ⟨0, 0, 0, 0, 0⟩ ∧ ∀ j, W.frozen? ⟨w.heap.size, j, none⟩ = false) := by rw [hW]; exact ⟨by simp [StAt], fun j => by simp [go_sem]⟩
  obtain ⟨ws, hws⟩ : ∃ ws, cutB t 32 = ws := ⟨_, rfl⟩
  have HL : Hid (Calls Tryz.prog 57 #[.string t, .int .u8 32] W fun e w' => ∃ g cap, e = .returned (.slice (some ⟨g, 0, none⟩) ws.length cap) ∧ w'.ownsRow W.heap.size 9 1 (.slice (some ⟨g, 0, none⟩) ws.length cap) ws.length (ws.map Value.string) ∧ Below W.heap.size W w') := by
    have := l2Cut_c t 32 W ht
    rw [hws] at this
    exact this
  have HSZ : Hid (∀ (j : Nat) (b : ByteArray), ws[j]? = some b → b.size ≤ 1048576) := fun j b e => Nat.le_trans (cut_size t 32 j b (by rw [hws]; exact e)) ht
  have HA : Hid (ws[0]? = some a) := by rw [← hws, hc]; exact rfl
  have HB : Hid (ws[1]? = some b) := by rw [← hws, hc]; exact rfl
  have HC2 : Hid (ws[2]? = some c) := by rw [← hws, hc]; exact rfl
  have hn3 : ws.length = 3 := by rw [← hws, hc]; rfl
  have hbz := HSZ.out 1 b HB.out
  have hcz := HSZ.out 2 c HC2.out
  have hc1' : (c.size : Int) = 1 := by omega
  have HEA : Hid (a ≠ takeT) := ha
  have HEB : Hid (digI b = eb) := heb
  have HEC : Hid (digI c = ec) := hec
  clear hc1 hc ha heb hec
  have HY : Hid (y = ⟨3, eb, 0, 0, ec⟩) := hy
  have HC : Hid (stCode y = 0) := hk
  have HC0 : Hid (stCode y = 0) := hk
  obtain ⟨tx, htx⟩ : ∃ tx, stText y = tx := ⟨_, rfl⟩
  have HTX : Hid (stText y = tx) := htx
  rw [htx] at hs
  clear hk htx hy
  clear hW
  unfold GivesPS
  go_enter Tryz.func31, Tryz.ntmps31
  go_wp2_with fail
  rw [← HW.out]
  refine HL.out.mono ?_
  rintro e w1 ⟨g, cap, rfl, hown, hb1⟩
  obtain ⟨V, hV⟩ : ∃ V, V = w1.alloc (.cells #[.int .i64 0, .int .i64 0, .int .i64 0, .int .i64 0, .int .i64 0] 26) := ⟨_, rfl⟩
  have PV : Hid (PP w V g w1.heap.size ws ⟨0, 0, 0, 0, 0⟩) := by
    have hgl : W.heap.size ≤ g ∧ g < w1.heap.size := hown.lt g rfl
    have A1 : Below w1.heap.size w1 V := by rw [hV]; exact (Below.refl _ _).alloc (Nat.le_refl _) _
    have hb : Below W.heap.size W V := hb1.trans (A1.mono hb1.size)
    refine ⟨B0.trans (hb.mono B0.size), fun k x e => ?_, by rw [hV]; simp [StAt], fun j => by rw [hV]; simp [go_sem], ⟨_, X0.out.1.below hb (by omega)⟩, fun j => (hb.frozen (p := ⟨w.heap.size, j, none⟩) (by show w.heap.size < W.heap.size; omega)).trans (X0.out.2 j), by omega, hgl.2, by rw [hV]; simp⟩
    have hk : k < ws.length := by
      by_cases q : k < ws.length
      · exact q
      · rw [List.getElem?_eq_none (by omega)] at e; cases e
    refine (A1.cell (p := ⟨g, k, none⟩) hgl.2).trans ?_
    rw [hown.cellAt k (by omega), List.getElem?_map, e]
    rfl
  clear hown hb1 HL X0 B0 zW
  go_upto_region 3 with fail
  rw [← hV]
  clear hV HW
  generalize w1.heap.size = q at PV ⊢
  have hgq := PV.out.gq
  have hql := PV.out.ql
  have hgV : g < V.heap.size := by omega
  obtain ⟨d0, d1, d2, d3, d4⟩ := PV.out.st
  simp only [Nat.zero_add] at d0 d1 d2 d3 d4
  have f0 := PV.out.sf 0
  have f1 := PV.out.sf 1
  have f2 := PV.out.sf 2
  have f3 := PV.out.sf 3
  have f4 := PV.out.sf 4
  have x1 := PV.out.wd 1 b HB.out
  have x2 := PV.out.wd 2 c HC2.out
  try rw [hn3]
  go_upto_region 4 with fail
  refine wp_region_held_drew (S := fun w' => w'.cell? ⟨g, 1, none⟩ = some (.string b) ∧ w'.cell? ⟨g, 2, none⟩ = some (.string c)) (by kernel_rfl) (⟨x1, x2⟩) (fun hHeld => ?_)
  refine wpAnyH_take (i := 0) (v := ?_) rfl (by kernel_rfl) (by kernel_rfl) (by kernel_rfl) (fun _ _ _ h => h) (Or.inl ⟨by kernel_rfl, ?_⟩) (by assumption) ?_
  rotate_left 1
  · intro w hSw; (try dsimp only at hSw); go_simp; try (with_reducible rfl)
  try simp only [Act.put, List.getElem_toArray, List.getElem_cons_succ, List.getElem_cons_zero, List.setIfInBounds_toArray, List.set_cons_zero, List.set_cons_succ]
  refine wpAnyH_take (i := 1) (v := ?_) rfl (by kernel_rfl) (by kernel_rfl) (by kernel_rfl) (fun _ _ _ h => h) (Or.inl ⟨by kernel_rfl, ?_⟩) (by assumption) ?_
  rotate_left 1
  · intro w hSw; (try dsimp only at hSw); go_simp; try (with_reducible rfl)
  try simp only [Act.put, List.getElem_toArray, List.getElem_cons_succ, List.getElem_cons_zero, List.setIfInBounds_toArray, List.set_cons_zero, List.set_cons_succ]
  refine wpAnyH_take (i := 2) (v := ?_) rfl (by kernel_rfl) (by kernel_rfl) (by kernel_rfl) (fun _ _ _ h => h) (Or.inl ⟨by kernel_rfl, ?_⟩) (by assumption) ?_
  rotate_left 1
  · intro w hSw; (try dsimp only at hSw); go_simp; try (with_reducible rfl)
  try simp only [Act.put, List.getElem_toArray, List.getElem_cons_succ, List.getElem_cons_zero, List.setIfInBounds_toArray, List.set_cons_zero, List.set_cons_succ]
  refine wpAnyH_take (i := 4) (v := ?_) rfl (by kernel_rfl) (by kernel_rfl) (by kernel_rfl) (fun _ _ _ h => h) (Or.inl ⟨by kernel_rfl, ?_⟩) (by assumption) ?_
  rotate_left 1
  · intro w hSw; (try dsimp only at hSw); go_simp; try (with_reducible rfl)
  try simp only [Act.put, List.getElem_toArray, List.getElem_cons_succ, List.getElem_cons_zero, List.setIfInBounds_toArray, List.set_cons_zero, List.set_cons_succ]
  refine wpAnyH_take (i := 5) (v := ?_) rfl (by kernel_rfl) (by kernel_rfl) (by kernel_rfl) (fun _ _ _ h => h) (Or.inl ⟨by kernel_rfl, ?_⟩) (by assumption) ?_
  rotate_left 1
  · intro w hSw; (try dsimp only at hSw); go_simp; try (with_reducible rfl)
  try simp only [Act.put, List.getElem_toArray, List.getElem_cons_succ, List.getElem_cons_zero, List.setIfInBounds_toArray, List.set_cons_zero, List.set_cons_succ]
  refine wpAnyH_take (i := 6) (v := ?_) rfl (by kernel_rfl) (by kernel_rfl) (by kernel_rfl) (fun _ _ _ h => h) (Or.inl ⟨by kernel_rfl, ?_⟩) (by assumption) ?_
  rotate_left 1
  · intro w hSw; (try dsimp only at hSw); go_simp; try (with_reducible rfl)
  try simp only [Act.put, List.getElem_toArray, List.getElem_cons_succ, List.getElem_cons_zero, List.setIfInBounds_toArray, List.set_cons_zero, List.set_cons_succ]
  refine wpAnyH_ready (rs := [3]) (by kernel_rfl) (by simp) ?_
  refine AllReadyH.cons rfl (fun K hK => ?_) AllReadyH.nil
  go_simp
  refine (l2Digit_c b _ (by omega)).mono ?_
  rintro e w' ⟨rfl, rfl⟩
  rw [HEB.out]
  have hS := hHeld
  refine hK.out _ _ hS (fun hHeld => ?_)
  clear hK K
  try simp only [Act.put, List.getElem_toArray, List.getElem_cons_succ, List.getElem_cons_zero, List.setIfInBounds_toArray, List.set_cons_zero, List.set_cons_succ]
  refine wpAnyH_ready (rs := [7]) (by kernel_rfl) (by simp) ?_
  refine AllReadyH.cons rfl (fun K hK => ?_) AllReadyH.nil
  go_simp
  refine (l2Digit_c c _ (by omega)).mono ?_
  rintro e w' ⟨rfl, rfl⟩
  rw [HEC.out]
  have hS := hHeld
  refine hK.out _ _ hS (fun hHeld => ?_)
  clear hK K
  try simp only [Act.put, List.getElem_toArray, List.getElem_cons_succ, List.getElem_cons_zero, List.setIfInBounds_toArray, List.set_cons_zero, List.set_cons_succ]
  refine wpAnyH_take (i := 8) (v := ?_) rfl (by kernel_rfl) (by kernel_rfl) (by kernel_rfl) (fun _ _ _ h => h) (Or.inl ⟨by kernel_rfl, ?_⟩) (by assumption) ?_
  rotate_left 1
  · intro w hSw; (try dsimp only at hSw); go_simp; try (with_reducible rfl)
  try simp only [Act.put, List.getElem_toArray, List.getElem_cons_succ, List.getElem_cons_zero, List.setIfInBounds_toArray, List.set_cons_zero, List.set_cons_succ]
  refine wpAnyH_ready (rs := [9]) (by kernel_rfl) (by simp) ?_
  refine AllReadyH.cons rfl (fun K hK => ?_) AllReadyH.nil
  go_simp
  have P4 : Hid (PP w (StPut V q 0 ⟨3, eb, 0, 0, ec⟩).drew g q ws ⟨3, eb, 0, 0, ec⟩) := (PV.out.put ⟨3, eb, 0, 0, ec⟩).drew
  have hS : (fun w' => w'.cell? ⟨g, 1, none⟩ = some (.string b) ∧ w'.cell? ⟨g, 2, none⟩ = some (.string c)) (StPut V q 0 ⟨3, eb, 0, 0, ec⟩).drew := ⟨P4.out.wd 1 b HB.out, P4.out.wd 2 c HC2.out⟩
  dsimp only [StPut] at hS P4
  refine hK.out _ _ hS (fun hHeld => ?_)
  clear hK K
  try simp only [Act.put, List.getElem_toArray, List.getElem_cons_succ, List.getElem_cons_zero, List.setIfInBounds_toArray, List.set_cons_zero, List.set_cons_succ]
  refine wpAnyH_done (by kernel_rfl) ?_ _
  clear hHeld hS d0 d1 d2 d3 d4 f0 f1 f2 f3 f4 x1 x2
  go_upto_region 5 with fail
  generalize (((((V.setCell ⟨q, 0, none⟩ (.int .i64 3)).setCell ⟨q, 1, none⟩ (.int .i64 eb)).setCell ⟨q, 2, none⟩ (.int .i64 0)).setCell ⟨q, 3, none⟩ (.int .i64 0)).setCell ⟨q, 4, none⟩ (.int .i64 ec)).drew = X at P4 ⊢
  have hgq := P4.out.gq
  have hql := P4.out.ql
  have hgX : g < X.heap.size := by omega
  have hqX : q < X.heap.size := hql
  have x0 := P4.out.wd 0 a HA.out
  obtain ⟨u0, u1, u2, u3, u4⟩ := P4.out.st
  simp only [Nat.zero_add] at u0 u1 u2 u3 u4
  have fz := P4.out.sf 0
  have hta : (a.toList == [116, 97, 107, 101]) = false := by have h := str_ne_of HEA.out; rw [take_list] at h; exact h
  go_upto_region 12 with fail
  have PX : Hid (PP w X g q ws y) := by rw [HY.out]; exact P4.out
  clear x0 hgq hql hgX hqX P4 hta u0 u1 u2 u3 u4 fz
  have hgl := PX.out.gl
  have hgq := PX.out.gq
  have hql := PX.out.ql
  have hwX : w.heap.size < X.heap.size := by omega
  have hwq : w.heap.size ≠ q := by omega
  obtain ⟨s0, s1, s2, s3, s4⟩ := PX.out.st
  simp only [Nat.zero_add] at s0 s1 s2 s3 s4
  obtain ⟨z, r0, r1, r2, r3, r4⟩ := PX.out.rs
  simp only [Nat.zero_add] at r0 r1 r2 r3 r4
  have e0 := PX.out.rf 0
  have e1 := PX.out.rf 1
  have e2 := PX.out.rf 2
  have e3 := PX.out.rf 3
  have e4 := PX.out.rf 4
  refine wp_region_held_drew (S := fun w' => (w'.cell? ⟨q, 0, none⟩ = some (.int .i64 (y : StI).k) ∧ w'.cell? ⟨q, 1, none⟩ = some (.int .i64 (y : StI).e) ∧ w'.cell? ⟨q, 2, none⟩ = some (.int .i64 (y : StI).f) ∧ w'.cell? ⟨q, 3, none⟩ = some (.int .i64 (y : StI).s) ∧ w'.cell? ⟨q, 4, none⟩ = some (.int .i64 (y : StI).n)) ∧ PP w w' g q ws y) (by kernel_rfl) (⟨⟨s0, s1, s2, s3, s4⟩, PX.out.drew⟩) (fun hHeld => ?_)
  refine wpAnyH_take (i := 0) (v := ?_) rfl (by kernel_rfl) (by kernel_rfl) (by kernel_rfl) (fun _ _ _ h => h) (Or.inl ⟨by kernel_rfl, ?_⟩) (by assumption) ?_
  rotate_left 1
  · intro w hSw; (try dsimp only at hSw); go_simp; try (with_reducible rfl)
  try simp only [Act.put, List.getElem_toArray, List.getElem_cons_succ, List.getElem_cons_zero, List.setIfInBounds_toArray, List.set_cons_zero, List.set_cons_succ]
  refine wpAnyH_ready (rs := [1]) (by kernel_rfl) (by simp) ?_
  refine AllReadyH.cons rfl (fun K hK => ?_) AllReadyH.nil
  go_simp
  refine (l7Fault_c q 0 y _ hHeld.2.st).mono ?_
  rintro e w' ⟨rfl, rfl⟩
  rw [HC.out]
  have hS := hHeld
  refine hK.out _ _ hS (fun hHeld => ?_)
  clear hK K
  try simp only [Act.put, List.getElem_toArray, List.getElem_cons_succ, List.getElem_cons_zero, List.setIfInBounds_toArray, List.set_cons_zero, List.set_cons_succ]
  refine wpAnyH_take (i := 2) (v := ?_) rfl (by kernel_rfl) (by kernel_rfl) (by kernel_rfl) (fun _ _ _ h => h) (Or.inl ⟨by kernel_rfl, ?_⟩) (by assumption) ?_
  rotate_left 1
  · intro w hSw; (try dsimp only at hSw); go_simp; try (with_reducible rfl)
  try simp only [Act.put, List.getElem_toArray, List.getElem_cons_succ, List.getElem_cons_zero, List.setIfInBounds_toArray, List.set_cons_zero, List.set_cons_succ]
  refine wpAnyH_take (i := 3) (v := ?_) rfl (by kernel_rfl) (by kernel_rfl) (by kernel_rfl) (fun _ _ _ h => h) (Or.inl ⟨by kernel_rfl, ?_⟩) (by assumption) ?_
  rotate_left 1
  · intro w hSw; (try dsimp only at hSw); go_simp; try (with_reducible rfl)
  try simp only [Act.put, List.getElem_toArray, List.getElem_cons_succ, List.getElem_cons_zero, List.setIfInBounds_toArray, List.set_cons_zero, List.set_cons_succ]
  refine wpAnyH_take (i := 5) (v := ?_) rfl (by kernel_rfl) (by kernel_rfl) (by kernel_rfl) (fun _ _ _ h => h) (Or.inl ⟨by kernel_rfl, ?_⟩) (by assumption) ?_
  rotate_left 1
  · intro w hSw; (try dsimp only at hSw); go_simp; try (with_reducible rfl)
  try simp only [Act.put, List.getElem_toArray, List.getElem_cons_succ, List.getElem_cons_zero, List.setIfInBounds_toArray, List.set_cons_zero, List.set_cons_succ]
  refine wpAnyH_ready (rs := [4]) (by kernel_rfl) (by simp) ?_
  refine AllReadyH.cons rfl (fun K hK => ?_) AllReadyH.nil
  go_simp
  refine (l7Text_c q 0 y _ hHeld.2.st HC0.out).mono ?_
  rintro e wT ⟨rfl, hbT⟩
  rw [HTX.out]
  have pT := hHeld.2.below hbT
  have hS : (fun w' => (w'.cell? ⟨q, 0, none⟩ = some (.int .i64 (y : StI).k) ∧ w'.cell? ⟨q, 1, none⟩ = some (.int .i64 (y : StI).e) ∧ w'.cell? ⟨q, 2, none⟩ = some (.int .i64 (y : StI).f) ∧ w'.cell? ⟨q, 3, none⟩ = some (.int .i64 (y : StI).s) ∧ w'.cell? ⟨q, 4, none⟩ = some (.int .i64 (y : StI).n)) ∧ PP w w' g q ws y) wT := ⟨by obtain ⟨q0, q1, q2, q3, q4⟩ := pT.st; simp only [Nat.zero_add] at q0 q1 q2 q3 q4; exact ⟨q0, q1, q2, q3, q4⟩, pT⟩
  clear r0 r1 r2 r3 r4 e0 e1 e2 e3 e4 z
  obtain ⟨z, r0, r1, r2, r3, r4⟩ := pT.rs
  simp only [Nat.zero_add] at r0 r1 r2 r3 r4
  have e0 := pT.rf 0
  have e1 := pT.rf 1
  have e2 := pT.rf 2
  have e3 := pT.rf 3
  have e4 := pT.rf 4
  have hwT : w.heap.size < wT.heap.size := by have := pT.gl; have := pT.gq; have := pT.ql; omega
  clear hbT pT
  refine hK.out _ _ hS (fun hHeld => ?_)
  clear hK K
  try simp only [Act.put, List.getElem_toArray, List.getElem_cons_succ, List.getElem_cons_zero, List.setIfInBounds_toArray, List.set_cons_zero, List.set_cons_succ]
  refine wpAnyH_take (i := 6) (v := ?_) rfl (by kernel_rfl) (by kernel_rfl) (by kernel_rfl) (fun _ _ _ h => h) (Or.inl ⟨by kernel_rfl, ?_⟩) (by assumption) ?_
  rotate_left 1
  · intro w hSw; (try dsimp only at hSw); go_simp; try (with_reducible rfl)
  try simp only [Act.put, List.getElem_toArray, List.getElem_cons_succ, List.getElem_cons_zero, List.setIfInBounds_toArray, List.set_cons_zero, List.set_cons_succ]
  refine wpAnyH_take (i := 7) (v := ?_) rfl (by kernel_rfl) (by kernel_rfl) (by kernel_rfl) (fun _ _ _ h => h) (Or.inl ⟨by kernel_rfl, ?_⟩) (by assumption) ?_
  rotate_left 1
  · intro w hSw; (try dsimp only at hSw); go_simp; try (with_reducible rfl)
  try simp only [Act.put, List.getElem_toArray, List.getElem_cons_succ, List.getElem_cons_zero, List.setIfInBounds_toArray, List.set_cons_zero, List.set_cons_succ]
  refine wpAnyH_ready (rs := [8]) (by kernel_rfl) (by simp) ?_
  refine AllReadyH.cons rfl (fun K hK => ?_) AllReadyH.nil
  go_simp
  have pS := (hHeld.2.told y).1
  have hS : (fun w' => (w'.cell? ⟨q, 0, none⟩ = some (.int .i64 (y : StI).k) ∧ w'.cell? ⟨q, 1, none⟩ = some (.int .i64 (y : StI).e) ∧ w'.cell? ⟨q, 2, none⟩ = some (.int .i64 (y : StI).f) ∧ w'.cell? ⟨q, 3, none⟩ = some (.int .i64 (y : StI).s) ∧ w'.cell? ⟨q, 4, none⟩ = some (.int .i64 (y : StI).n)) ∧ PP w w' g q ws y) (StPut wT w.heap.size 0 y) := ⟨by obtain ⟨q0, q1, q2, q3, q4⟩ := pS.st; simp only [Nat.zero_add] at q0 q1 q2 q3 q4; exact ⟨q0, q1, q2, q3, q4⟩, pS⟩
  dsimp only [StPut] at hS pS
  refine hK.out _ _ hS (fun hHeld => ?_)
  clear hK K
  try simp only [Act.put, List.getElem_toArray, List.getElem_cons_succ, List.getElem_cons_zero, List.setIfInBounds_toArray, List.set_cons_zero, List.set_cons_succ]
  refine wpAnyH_ready (rs := [9]) (by kernel_rfl) (by simp) ?_
  refine AllReadyH.cons rfl (fun K hK => ?_) AllReadyH.nil
  go_simp
  refine hK.out _ _ (by assumption) (fun hHeld => ?_)
  clear hK K
  try simp only [Act.put, List.getElem_toArray, List.getElem_cons_succ, List.getElem_cons_zero, List.setIfInBounds_toArray, List.set_cons_zero, List.set_cons_succ]
  refine wpAnyH_done (by kernel_rfl) ?_ _
  go_wp2_with fail
  refine bodyPost_ret (v := .tuple #[.agg #[.int .i64 y.k, .int .i64 y.e, .int .i64 y.f, .int .i64 y.s, .int .i64 y.n], .bool s]) (by simp [results, Tryz.results31, go_sem, r0, r1, r2, r3, r4]) rfl ⟨rfl, hS.2.bl⟩

set_option maxRecDepth 20000 in
set_option maxHeartbeats 4000000 in
theorem l7Parse_rev_bad (t : ByteArray) (w : World) (ht : t.size ≤ 1048576) (a b c d : ByteArray) (hc : cutB t 32 = [a, b, c, d]) (eb ec sd : Int) (heb : digI b = eb) (hec : digI c = ec) (hsd : setT d = sd) (ha : a = revT) (y : StI) (hy : y = ⟨2, eb, ec, sd, 0⟩) (k : Int) (hk : stCode y = k) (h0 : k ≠ 0) : GivesPS t y false w := by
  obtain ⟨W, hW⟩ : ∃ W, W = w.alloc (.cells #[.int .i64 0, .int .i64 0, .int .i64 0, .int .i64 0, .int .i64 0] 26) := ⟨_, rfl⟩
  have HW : Hid (W = w.alloc (.cells #[.int .i64 0, .int .i64 0, .int .i64 0, .int .i64 0, .int .i64 0] 26)) := hW
  have B0 : Below w.heap.size w W := by rw [hW]; exact (Below.refl _ _).alloc (Nat.le_refl _) _
  have zW : W.heap.size = w.heap.size + 1 := by rw [hW]; simp
  have X0 : Hid (StAt W w.heap.size 0 ⟨0, 0, 0, 0, 0⟩ ∧ ∀ j, W.frozen? ⟨w.heap.size, j, none⟩ = false) := by rw [hW]; exact ⟨by simp [StAt], fun j => by simp [go_sem]⟩
  obtain ⟨ws, hws⟩ : ∃ ws, cutB t 32 = ws := ⟨_, rfl⟩
  have HL : Hid (Calls Tryz.prog 57 #[.string t, .int .u8 32] W fun e w' => ∃ g cap, e = .returned (.slice (some ⟨g, 0, none⟩) ws.length cap) ∧ w'.ownsRow W.heap.size 9 1 (.slice (some ⟨g, 0, none⟩) ws.length cap) ws.length (ws.map Value.string) ∧ Below W.heap.size W w') := by
    have := l2Cut_c t 32 W ht
    rw [hws] at this
    exact this
  have HSZ : Hid (∀ (j : Nat) (b : ByteArray), ws[j]? = some b → b.size ≤ 1048576) := fun j b e => Nat.le_trans (cut_size t 32 j b (by rw [hws]; exact e)) ht
  have HA : Hid (ws[0]? = some a) := by rw [← hws, hc]; exact rfl
  have HB : Hid (ws[1]? = some b) := by rw [← hws, hc]; exact rfl
  have HC2 : Hid (ws[2]? = some c) := by rw [← hws, hc]; exact rfl
  have HD : Hid (ws[3]? = some d) := by rw [← hws, hc]; exact rfl
  have hn4 : ws.length = 4 := by rw [← hws, hc]; rfl
  have hbz := HSZ.out 1 b HB.out
  have hcz := HSZ.out 2 c HC2.out
  obtain ⟨bp, hlp⟩ := l1Parse_any d
  rw [hsd] at hlp
  have HLP : Hid (∀ w : World, Calls Tryz.prog 59 #[.string d] w fun e w' => e = .returned (.tuple #[.int .i64 sd, .bool bp]) ∧ Below w.heap.size w w') := hlp
  have HEA : Hid (a = revT) := ha
  have HEB : Hid (digI b = eb) := heb
  have HEC : Hid (digI c = ec) := hec
  clear hc ha heb hec hsd hlp
  have HY : Hid (y = ⟨2, eb, ec, sd, 0⟩) := hy
  have HC : Hid (stCode y = k) := hk
  have hkb : (k == 0) = false := by simpa using h0
  clear hk h0 hy
  clear hW
  unfold GivesPS
  go_enter Tryz.func31, Tryz.ntmps31
  go_wp2_with fail
  rw [← HW.out]
  refine HL.out.mono ?_
  rintro e w1 ⟨g, cap, rfl, hown, hb1⟩
  obtain ⟨V, hV⟩ : ∃ V, V = w1.alloc (.cells #[.int .i64 0, .int .i64 0, .int .i64 0, .int .i64 0, .int .i64 0] 26) := ⟨_, rfl⟩
  have PV : Hid (PP w V g w1.heap.size ws ⟨0, 0, 0, 0, 0⟩) := by
    have hgl : W.heap.size ≤ g ∧ g < w1.heap.size := hown.lt g rfl
    have A1 : Below w1.heap.size w1 V := by rw [hV]; exact (Below.refl _ _).alloc (Nat.le_refl _) _
    have hb : Below W.heap.size W V := hb1.trans (A1.mono hb1.size)
    refine ⟨B0.trans (hb.mono B0.size), fun k x e => ?_, by rw [hV]; simp [StAt], fun j => by rw [hV]; simp [go_sem], ⟨_, X0.out.1.below hb (by omega)⟩, fun j => (hb.frozen (p := ⟨w.heap.size, j, none⟩) (by show w.heap.size < W.heap.size; omega)).trans (X0.out.2 j), by omega, hgl.2, by rw [hV]; simp⟩
    have hk : k < ws.length := by
      by_cases q : k < ws.length
      · exact q
      · rw [List.getElem?_eq_none (by omega)] at e; cases e
    refine (A1.cell (p := ⟨g, k, none⟩) hgl.2).trans ?_
    rw [hown.cellAt k (by omega), List.getElem?_map, e]
    rfl
  clear hown hb1 HL X0 B0 zW
  go_upto_region 3 with fail
  rw [← hV]
  clear hV HW
  generalize w1.heap.size = q at PV ⊢
  have hgq := PV.out.gq
  have hql := PV.out.ql
  have hgV : g < V.heap.size := by omega
  obtain ⟨d0, d1, d2, d3, d4⟩ := PV.out.st
  simp only [Nat.zero_add] at d0 d1 d2 d3 d4
  have f0 := PV.out.sf 0
  have f1 := PV.out.sf 1
  have f2 := PV.out.sf 2
  have f3 := PV.out.sf 3
  have f4 := PV.out.sf 4
  have x3 := PV.out.wd 3 d HD.out
  try rw [hn4]
  go_wp2_with fail
  refine (HLP.out _).mono ?_
  rintro e V ⟨rfl, hbV⟩
  have PV : Hid (PP w V g q ws ⟨0, 0, 0, 0, 0⟩) := PV.out.below hbV
  clear hgq hql hgV d0 d1 d2 d3 d4 f0 f1 f2 f3 f4 x3 hbV HLP
  have hgq := PV.out.gq
  have hql := PV.out.ql
  have hgV : g < V.heap.size := by omega
  obtain ⟨d0, d1, d2, d3, d4⟩ := PV.out.st
  simp only [Nat.zero_add] at d0 d1 d2 d3 d4
  have f0 := PV.out.sf 0
  have f1 := PV.out.sf 1
  have f2 := PV.out.sf 2
  have f3 := PV.out.sf 3
  have f4 := PV.out.sf 4
  have x1 := PV.out.wd 1 b HB.out
  have x2 := PV.out.wd 2 c HC2.out
  go_upto_region 9 with fail
  refine wp_region_held_drew (S := fun w' => w'.cell? ⟨g, 1, none⟩ = some (.string b) ∧ w'.cell? ⟨g, 2, none⟩ = some (.string c)) (by kernel_rfl) (⟨x1, x2⟩) (fun hHeld => ?_)
  refine wpAnyH_take (i := 0) (v := ?_) rfl (by kernel_rfl) (by kernel_rfl) (by kernel_rfl) (fun _ _ _ h => h) (Or.inl ⟨by kernel_rfl, ?_⟩) (by assumption) ?_
  rotate_left 1
  · intro w hSw; (try dsimp only at hSw); go_simp; try (with_reducible rfl)
  try simp only [Act.put, List.getElem_toArray, List.getElem_cons_succ, List.getElem_cons_zero, List.setIfInBounds_toArray, List.set_cons_zero, List.set_cons_succ]
  refine wpAnyH_take (i := 1) (v := ?_) rfl (by kernel_rfl) (by kernel_rfl) (by kernel_rfl) (fun _ _ _ h => h) (Or.inl ⟨by kernel_rfl, ?_⟩) (by assumption) ?_
  rotate_left 1
  · intro w hSw; (try dsimp only at hSw); go_simp; try (with_reducible rfl)
  try simp only [Act.put, List.getElem_toArray, List.getElem_cons_succ, List.getElem_cons_zero, List.setIfInBounds_toArray, List.set_cons_zero, List.set_cons_succ]
  refine wpAnyH_take (i := 2) (v := ?_) rfl (by kernel_rfl) (by kernel_rfl) (by kernel_rfl) (fun _ _ _ h => h) (Or.inl ⟨by kernel_rfl, ?_⟩) (by assumption) ?_
  rotate_left 1
  · intro w hSw; (try dsimp only at hSw); go_simp; try (with_reducible rfl)
  try simp only [Act.put, List.getElem_toArray, List.getElem_cons_succ, List.getElem_cons_zero, List.setIfInBounds_toArray, List.set_cons_zero, List.set_cons_succ]
  refine wpAnyH_take (i := 4) (v := ?_) rfl (by kernel_rfl) (by kernel_rfl) (by kernel_rfl) (fun _ _ _ h => h) (Or.inl ⟨by kernel_rfl, ?_⟩) (by assumption) ?_
  rotate_left 1
  · intro w hSw; (try dsimp only at hSw); go_simp; try (with_reducible rfl)
  try simp only [Act.put, List.getElem_toArray, List.getElem_cons_succ, List.getElem_cons_zero, List.setIfInBounds_toArray, List.set_cons_zero, List.set_cons_succ]
  refine wpAnyH_take (i := 5) (v := ?_) rfl (by kernel_rfl) (by kernel_rfl) (by kernel_rfl) (fun _ _ _ h => h) (Or.inl ⟨by kernel_rfl, ?_⟩) (by assumption) ?_
  rotate_left 1
  · intro w hSw; (try dsimp only at hSw); go_simp; try (with_reducible rfl)
  try simp only [Act.put, List.getElem_toArray, List.getElem_cons_succ, List.getElem_cons_zero, List.setIfInBounds_toArray, List.set_cons_zero, List.set_cons_succ]
  refine wpAnyH_take (i := 6) (v := ?_) rfl (by kernel_rfl) (by kernel_rfl) (by kernel_rfl) (fun _ _ _ h => h) (Or.inl ⟨by kernel_rfl, ?_⟩) (by assumption) ?_
  rotate_left 1
  · intro w hSw; (try dsimp only at hSw); go_simp; try (with_reducible rfl)
  try simp only [Act.put, List.getElem_toArray, List.getElem_cons_succ, List.getElem_cons_zero, List.setIfInBounds_toArray, List.set_cons_zero, List.set_cons_succ]
  refine wpAnyH_take (i := 8) (v := ?_) rfl (by kernel_rfl) (by kernel_rfl) (by kernel_rfl) (fun _ _ _ h => h) (Or.inl ⟨by kernel_rfl, ?_⟩) (by assumption) ?_
  rotate_left 1
  · intro w hSw; (try dsimp only at hSw); go_simp; try (with_reducible rfl)
  try simp only [Act.put, List.getElem_toArray, List.getElem_cons_succ, List.getElem_cons_zero, List.setIfInBounds_toArray, List.set_cons_zero, List.set_cons_succ]
  refine wpAnyH_ready (rs := [3]) (by kernel_rfl) (by simp) ?_
  refine AllReadyH.cons rfl (fun K hK => ?_) AllReadyH.nil
  go_simp
  refine (l2Digit_c b _ (by omega)).mono ?_
  rintro e w' ⟨rfl, rfl⟩
  rw [HEB.out]
  have hS := hHeld
  refine hK.out _ _ hS (fun hHeld => ?_)
  clear hK K
  try simp only [Act.put, List.getElem_toArray, List.getElem_cons_succ, List.getElem_cons_zero, List.setIfInBounds_toArray, List.set_cons_zero, List.set_cons_succ]
  refine wpAnyH_ready (rs := [7]) (by kernel_rfl) (by simp) ?_
  refine AllReadyH.cons rfl (fun K hK => ?_) AllReadyH.nil
  go_simp
  refine (l2Digit_c c _ (by omega)).mono ?_
  rintro e w' ⟨rfl, rfl⟩
  rw [HEC.out]
  have hS := hHeld
  refine hK.out _ _ hS (fun hHeld => ?_)
  clear hK K
  try simp only [Act.put, List.getElem_toArray, List.getElem_cons_succ, List.getElem_cons_zero, List.setIfInBounds_toArray, List.set_cons_zero, List.set_cons_succ]
  refine wpAnyH_take (i := 9) (v := ?_) rfl (by kernel_rfl) (by kernel_rfl) (by kernel_rfl) (fun _ _ _ h => h) (Or.inl ⟨by kernel_rfl, ?_⟩) (by assumption) ?_
  rotate_left 1
  · intro w hSw; (try dsimp only at hSw); go_simp; try (with_reducible rfl)
  try simp only [Act.put, List.getElem_toArray, List.getElem_cons_succ, List.getElem_cons_zero, List.setIfInBounds_toArray, List.set_cons_zero, List.set_cons_succ]
  refine wpAnyH_ready (rs := [10]) (by kernel_rfl) (by simp) ?_
  refine AllReadyH.cons rfl (fun K hK => ?_) AllReadyH.nil
  go_simp
  have P4 : Hid (PP w (StPut V q 0 ⟨1, eb, ec, sd, 0⟩).drew g q ws ⟨1, eb, ec, sd, 0⟩) := (PV.out.put ⟨1, eb, ec, sd, 0⟩).drew
  have hS : (fun w' => w'.cell? ⟨g, 1, none⟩ = some (.string b) ∧ w'.cell? ⟨g, 2, none⟩ = some (.string c)) (StPut V q 0 ⟨1, eb, ec, sd, 0⟩).drew := ⟨P4.out.wd 1 b HB.out, P4.out.wd 2 c HC2.out⟩
  dsimp only [StPut] at hS P4
  refine hK.out _ _ hS (fun hHeld => ?_)
  clear hK K
  try simp only [Act.put, List.getElem_toArray, List.getElem_cons_succ, List.getElem_cons_zero, List.setIfInBounds_toArray, List.set_cons_zero, List.set_cons_succ]
  refine wpAnyH_done (by kernel_rfl) ?_ _
  clear hHeld hS d0 d1 d2 d3 d4 f0 f1 f2 f3 f4 x1 x2
  go_upto_region 10 with fail
  generalize (((((V.setCell ⟨q, 0, none⟩ (.int .i64 1)).setCell ⟨q, 1, none⟩ (.int .i64 eb)).setCell ⟨q, 2, none⟩ (.int .i64 ec)).setCell ⟨q, 3, none⟩ (.int .i64 sd)).setCell ⟨q, 4, none⟩ (.int .i64 0)).drew = X at P4 ⊢
  have hgq := P4.out.gq
  have hql := P4.out.ql
  have hgX : g < X.heap.size := by omega
  have hqX : q < X.heap.size := hql
  have x0 := P4.out.wd 0 a HA.out
  obtain ⟨u0, u1, u2, u3, u4⟩ := P4.out.st
  simp only [Nat.zero_add] at u0 u1 u2 u3 u4
  have fz := P4.out.sf 0
  have hta : (a.toList == [114, 101, 118, 111, 107, 101]) = true := by have h := str_eq_of HEA.out; rw [rev_list] at h; exact h
  go_upto_region 12 with fail
  have PX : Hid (PP w (X.setCell ⟨q, 0, none⟩ (.int .i64 2)) g q ws y) := by rw [HY.out]; exact P4.out.kind 2
  clear x0 hgq hql hgX hqX P4 hta u0 u1 u2 u3 u4 fz
  generalize X.setCell ⟨q, 0, none⟩ (.int .i64 2) = X at PX ⊢
  have hgl := PX.out.gl
  have hgq := PX.out.gq
  have hql := PX.out.ql
  have hwX : w.heap.size < X.heap.size := by omega
  have hwq : w.heap.size ≠ q := by omega
  obtain ⟨s0, s1, s2, s3, s4⟩ := PX.out.st
  simp only [Nat.zero_add] at s0 s1 s2 s3 s4
  obtain ⟨z, r0, r1, r2, r3, r4⟩ := PX.out.rs
  simp only [Nat.zero_add] at r0 r1 r2 r3 r4
  have e0 := PX.out.rf 0
  have e1 := PX.out.rf 1
  have e2 := PX.out.rf 2
  have e3 := PX.out.rf 3
  have e4 := PX.out.rf 4
  refine wp_region_held_drew (S := fun w' => (w'.cell? ⟨q, 0, none⟩ = some (.int .i64 (y : StI).k) ∧ w'.cell? ⟨q, 1, none⟩ = some (.int .i64 (y : StI).e) ∧ w'.cell? ⟨q, 2, none⟩ = some (.int .i64 (y : StI).f) ∧ w'.cell? ⟨q, 3, none⟩ = some (.int .i64 (y : StI).s) ∧ w'.cell? ⟨q, 4, none⟩ = some (.int .i64 (y : StI).n)) ∧ PP w w' g q ws y) (by kernel_rfl) (⟨⟨s0, s1, s2, s3, s4⟩, PX.out.drew⟩) (fun hHeld => ?_)
  refine wpAnyH_take (i := 0) (v := ?_) rfl (by kernel_rfl) (by kernel_rfl) (by kernel_rfl) (fun _ _ _ h => h) (Or.inl ⟨by kernel_rfl, ?_⟩) (by assumption) ?_
  rotate_left 1
  · intro w hSw; (try dsimp only at hSw); go_simp; try (with_reducible rfl)
  try simp only [Act.put, List.getElem_toArray, List.getElem_cons_succ, List.getElem_cons_zero, List.setIfInBounds_toArray, List.set_cons_zero, List.set_cons_succ]
  refine wpAnyH_ready (rs := [1]) (by kernel_rfl) (by simp) ?_
  refine AllReadyH.cons rfl (fun K hK => ?_) AllReadyH.nil
  go_simp
  refine (l7Fault_c q 0 y _ hHeld.2.st).mono ?_
  rintro e w' ⟨rfl, rfl⟩
  rw [HC.out]
  have hS := hHeld
  refine hK.out _ _ hS (fun hHeld => ?_)
  clear hK K
  try simp only [Act.put, List.getElem_toArray, List.getElem_cons_succ, List.getElem_cons_zero, List.setIfInBounds_toArray, List.set_cons_zero, List.set_cons_succ]
  refine wpAnyH_take (i := 2) (v := ?_) rfl (by kernel_rfl) (by kernel_rfl) (by kernel_rfl) (fun _ _ _ h => h) (Or.inl ⟨by kernel_rfl, ?_⟩) (by assumption) ?_
  rotate_left 1
  · intro w hSw; (try dsimp only at hSw); go_simp; try (with_reducible rfl)
  try simp only [Act.put, List.getElem_toArray, List.getElem_cons_succ, List.getElem_cons_zero, List.setIfInBounds_toArray, List.set_cons_zero, List.set_cons_succ]
  refine wpAnyH_take (i := 3) (v := ?_) rfl (by kernel_rfl) (by kernel_rfl) (by kernel_rfl) (fun _ _ _ h => h) (Or.inl ⟨by kernel_rfl, ?_⟩) (by assumption) ?_
  rotate_left 1
  · intro w hSw; (try dsimp only at hSw); go_simp; try (with_reducible rfl)
  try simp only [Act.put, List.getElem_toArray, List.getElem_cons_succ, List.getElem_cons_zero, List.setIfInBounds_toArray, List.set_cons_zero, List.set_cons_succ]
  refine wpAnyH_take (i := 4) (v := undef) rfl (by kernel_rfl) (by kernel_rfl) (by kernel_rfl) (fun _ _ _ h => h) (Or.inr ⟨by kernel_rfl, rfl⟩) (by assumption) ?_
  try simp only [Act.put, List.getElem_toArray, List.getElem_cons_succ, List.getElem_cons_zero, List.setIfInBounds_toArray, List.set_cons_zero, List.set_cons_succ]
  refine wpAnyH_take (i := 5) (v := undef) rfl (by kernel_rfl) (by kernel_rfl) (by kernel_rfl) (fun _ _ _ h => h) (Or.inr ⟨by kernel_rfl, rfl⟩) (by assumption) ?_
  try simp only [Act.put, List.getElem_toArray, List.getElem_cons_succ, List.getElem_cons_zero, List.setIfInBounds_toArray, List.set_cons_zero, List.set_cons_succ]
  refine wpAnyH_take (i := 6) (v := undef) rfl (by kernel_rfl) (by kernel_rfl) (by kernel_rfl) (fun _ _ _ h => h) (Or.inr ⟨by kernel_rfl, rfl⟩) (by assumption) ?_
  try simp only [Act.put, List.getElem_toArray, List.getElem_cons_succ, List.getElem_cons_zero, List.setIfInBounds_toArray, List.set_cons_zero, List.set_cons_succ]
  refine wpAnyH_take (i := 7) (v := ?_) rfl (by kernel_rfl) (by kernel_rfl) (by kernel_rfl) (fun _ _ _ h => h) (Or.inl ⟨by kernel_rfl, ?_⟩) (by assumption) ?_
  rotate_left 1
  · intro w hSw; (try dsimp only at hSw); go_simp; try (with_reducible rfl)
  try simp only [Act.put, List.getElem_toArray, List.getElem_cons_succ, List.getElem_cons_zero, List.setIfInBounds_toArray, List.set_cons_zero, List.set_cons_succ]
  refine wpAnyH_ready (rs := [8]) (by kernel_rfl) (by simp) ?_
  refine AllReadyH.cons rfl (fun K hK => ?_) AllReadyH.nil
  go_simp
  have pS := (PX.out.told y).1.drew
  have hS : (fun w' => (w'.cell? ⟨q, 0, none⟩ = some (.int .i64 (y : StI).k) ∧ w'.cell? ⟨q, 1, none⟩ = some (.int .i64 (y : StI).e) ∧ w'.cell? ⟨q, 2, none⟩ = some (.int .i64 (y : StI).f) ∧ w'.cell? ⟨q, 3, none⟩ = some (.int .i64 (y : StI).s) ∧ w'.cell? ⟨q, 4, none⟩ = some (.int .i64 (y : StI).n)) ∧ PP w w' g q ws y) (StPut X w.heap.size 0 y).drew := ⟨by obtain ⟨q0, q1, q2, q3, q4⟩ := pS.st; simp only [Nat.zero_add] at q0 q1 q2 q3 q4; exact ⟨q0, q1, q2, q3, q4⟩, pS⟩
  dsimp only [StPut] at hS pS
  refine hK.out _ _ hS (fun hHeld => ?_)
  clear hK K
  try simp only [Act.put, List.getElem_toArray, List.getElem_cons_succ, List.getElem_cons_zero, List.setIfInBounds_toArray, List.set_cons_zero, List.set_cons_succ]
  refine wpAnyH_ready (rs := [9]) (by kernel_rfl) (by simp) ?_
  refine AllReadyH.cons rfl (fun K hK => ?_) AllReadyH.nil
  go_simp
  refine hK.out _ _ (by assumption) (fun hHeld => ?_)
  clear hK K
  try simp only [Act.put, List.getElem_toArray, List.getElem_cons_succ, List.getElem_cons_zero, List.setIfInBounds_toArray, List.set_cons_zero, List.set_cons_succ]
  refine wpAnyH_done (by kernel_rfl) ?_ _
  go_wp2_with fail
  refine bodyPost_ret (v := .tuple #[.agg #[.int .i64 y.k, .int .i64 y.e, .int .i64 y.f, .int .i64 y.s, .int .i64 y.n], .bool false]) (by simp [results, Tryz.results31, go_sem, r0, r1, r2, r3, r4]) rfl ⟨rfl, hS.2.bl⟩

set_option maxRecDepth 20000 in
set_option maxHeartbeats 4000000 in
theorem l7Parse_rev_ok (t : ByteArray) (w : World) (ht : t.size ≤ 1048576) (a b c d : ByteArray) (hc : cutB t 32 = [a, b, c, d]) (eb ec sd : Int) (heb : digI b = eb) (hec : digI c = ec) (hsd : setT d = sd) (ha : a = revT) (y : StI) (hy : y = ⟨2, eb, ec, sd, 0⟩) (hk : stCode y = 0) (s : Bool) (hs : ((stText y).toList == t.toList) = s) : GivesPS t y s w := by
  obtain ⟨W, hW⟩ : ∃ W, W = w.alloc (.cells #[.int .i64 0, .int .i64 0, .int .i64 0, .int .i64 0, .int .i64 0] 26) := ⟨_, rfl⟩
  have HW : Hid (W = w.alloc (.cells #[.int .i64 0, .int .i64 0, .int .i64 0, .int .i64 0, .int .i64 0] 26)) := hW
  have B0 : Below w.heap.size w W := by rw [hW]; exact (Below.refl _ _).alloc (Nat.le_refl _) _
  have zW : W.heap.size = w.heap.size + 1 := by rw [hW]; simp
  have X0 : Hid (StAt W w.heap.size 0 ⟨0, 0, 0, 0, 0⟩ ∧ ∀ j, W.frozen? ⟨w.heap.size, j, none⟩ = false) := by rw [hW]; exact ⟨by simp [StAt], fun j => by simp [go_sem]⟩
  obtain ⟨ws, hws⟩ : ∃ ws, cutB t 32 = ws := ⟨_, rfl⟩
  have HL : Hid (Calls Tryz.prog 57 #[.string t, .int .u8 32] W fun e w' => ∃ g cap, e = .returned (.slice (some ⟨g, 0, none⟩) ws.length cap) ∧ w'.ownsRow W.heap.size 9 1 (.slice (some ⟨g, 0, none⟩) ws.length cap) ws.length (ws.map Value.string) ∧ Below W.heap.size W w') := by
    have := l2Cut_c t 32 W ht
    rw [hws] at this
    exact this
  have HSZ : Hid (∀ (j : Nat) (b : ByteArray), ws[j]? = some b → b.size ≤ 1048576) := fun j b e => Nat.le_trans (cut_size t 32 j b (by rw [hws]; exact e)) ht
  have HA : Hid (ws[0]? = some a) := by rw [← hws, hc]; exact rfl
  have HB : Hid (ws[1]? = some b) := by rw [← hws, hc]; exact rfl
  have HC2 : Hid (ws[2]? = some c) := by rw [← hws, hc]; exact rfl
  have HD : Hid (ws[3]? = some d) := by rw [← hws, hc]; exact rfl
  have hn4 : ws.length = 4 := by rw [← hws, hc]; rfl
  have hbz := HSZ.out 1 b HB.out
  have hcz := HSZ.out 2 c HC2.out
  obtain ⟨bp, hlp⟩ := l1Parse_any d
  rw [hsd] at hlp
  have HLP : Hid (∀ w : World, Calls Tryz.prog 59 #[.string d] w fun e w' => e = .returned (.tuple #[.int .i64 sd, .bool bp]) ∧ Below w.heap.size w w') := hlp
  have HEA : Hid (a = revT) := ha
  have HEB : Hid (digI b = eb) := heb
  have HEC : Hid (digI c = ec) := hec
  clear hc ha heb hec hsd hlp
  have HY : Hid (y = ⟨2, eb, ec, sd, 0⟩) := hy
  have HC : Hid (stCode y = 0) := hk
  have HC0 : Hid (stCode y = 0) := hk
  obtain ⟨tx, htx⟩ : ∃ tx, stText y = tx := ⟨_, rfl⟩
  have HTX : Hid (stText y = tx) := htx
  rw [htx] at hs
  clear hk htx hy
  clear hW
  unfold GivesPS
  go_enter Tryz.func31, Tryz.ntmps31
  go_wp2_with fail
  rw [← HW.out]
  refine HL.out.mono ?_
  rintro e w1 ⟨g, cap, rfl, hown, hb1⟩
  obtain ⟨V, hV⟩ : ∃ V, V = w1.alloc (.cells #[.int .i64 0, .int .i64 0, .int .i64 0, .int .i64 0, .int .i64 0] 26) := ⟨_, rfl⟩
  have PV : Hid (PP w V g w1.heap.size ws ⟨0, 0, 0, 0, 0⟩) := by
    have hgl : W.heap.size ≤ g ∧ g < w1.heap.size := hown.lt g rfl
    have A1 : Below w1.heap.size w1 V := by rw [hV]; exact (Below.refl _ _).alloc (Nat.le_refl _) _
    have hb : Below W.heap.size W V := hb1.trans (A1.mono hb1.size)
    refine ⟨B0.trans (hb.mono B0.size), fun k x e => ?_, by rw [hV]; simp [StAt], fun j => by rw [hV]; simp [go_sem], ⟨_, X0.out.1.below hb (by omega)⟩, fun j => (hb.frozen (p := ⟨w.heap.size, j, none⟩) (by show w.heap.size < W.heap.size; omega)).trans (X0.out.2 j), by omega, hgl.2, by rw [hV]; simp⟩
    have hk : k < ws.length := by
      by_cases q : k < ws.length
      · exact q
      · rw [List.getElem?_eq_none (by omega)] at e; cases e
    refine (A1.cell (p := ⟨g, k, none⟩) hgl.2).trans ?_
    rw [hown.cellAt k (by omega), List.getElem?_map, e]
    rfl
  clear hown hb1 HL X0 B0 zW
  go_upto_region 3 with fail
  rw [← hV]
  clear hV HW
  generalize w1.heap.size = q at PV ⊢
  have hgq := PV.out.gq
  have hql := PV.out.ql
  have hgV : g < V.heap.size := by omega
  obtain ⟨d0, d1, d2, d3, d4⟩ := PV.out.st
  simp only [Nat.zero_add] at d0 d1 d2 d3 d4
  have f0 := PV.out.sf 0
  have f1 := PV.out.sf 1
  have f2 := PV.out.sf 2
  have f3 := PV.out.sf 3
  have f4 := PV.out.sf 4
  have x3 := PV.out.wd 3 d HD.out
  try rw [hn4]
  go_wp2_with fail
  refine (HLP.out _).mono ?_
  rintro e V ⟨rfl, hbV⟩
  have PV : Hid (PP w V g q ws ⟨0, 0, 0, 0, 0⟩) := PV.out.below hbV
  clear hgq hql hgV d0 d1 d2 d3 d4 f0 f1 f2 f3 f4 x3 hbV HLP
  have hgq := PV.out.gq
  have hql := PV.out.ql
  have hgV : g < V.heap.size := by omega
  obtain ⟨d0, d1, d2, d3, d4⟩ := PV.out.st
  simp only [Nat.zero_add] at d0 d1 d2 d3 d4
  have f0 := PV.out.sf 0
  have f1 := PV.out.sf 1
  have f2 := PV.out.sf 2
  have f3 := PV.out.sf 3
  have f4 := PV.out.sf 4
  have x1 := PV.out.wd 1 b HB.out
  have x2 := PV.out.wd 2 c HC2.out
  go_upto_region 9 with fail
  refine wp_region_held_drew (S := fun w' => w'.cell? ⟨g, 1, none⟩ = some (.string b) ∧ w'.cell? ⟨g, 2, none⟩ = some (.string c)) (by kernel_rfl) (⟨x1, x2⟩) (fun hHeld => ?_)
  refine wpAnyH_take (i := 0) (v := ?_) rfl (by kernel_rfl) (by kernel_rfl) (by kernel_rfl) (fun _ _ _ h => h) (Or.inl ⟨by kernel_rfl, ?_⟩) (by assumption) ?_
  rotate_left 1
  · intro w hSw; (try dsimp only at hSw); go_simp; try (with_reducible rfl)
  try simp only [Act.put, List.getElem_toArray, List.getElem_cons_succ, List.getElem_cons_zero, List.setIfInBounds_toArray, List.set_cons_zero, List.set_cons_succ]
  refine wpAnyH_take (i := 1) (v := ?_) rfl (by kernel_rfl) (by kernel_rfl) (by kernel_rfl) (fun _ _ _ h => h) (Or.inl ⟨by kernel_rfl, ?_⟩) (by assumption) ?_
  rotate_left 1
  · intro w hSw; (try dsimp only at hSw); go_simp; try (with_reducible rfl)
  try simp only [Act.put, List.getElem_toArray, List.getElem_cons_succ, List.getElem_cons_zero, List.setIfInBounds_toArray, List.set_cons_zero, List.set_cons_succ]
  refine wpAnyH_take (i := 2) (v := ?_) rfl (by kernel_rfl) (by kernel_rfl) (by kernel_rfl) (fun _ _ _ h => h) (Or.inl ⟨by kernel_rfl, ?_⟩) (by assumption) ?_
  rotate_left 1
  · intro w hSw; (try dsimp only at hSw); go_simp; try (with_reducible rfl)
  try simp only [Act.put, List.getElem_toArray, List.getElem_cons_succ, List.getElem_cons_zero, List.setIfInBounds_toArray, List.set_cons_zero, List.set_cons_succ]
  refine wpAnyH_take (i := 4) (v := ?_) rfl (by kernel_rfl) (by kernel_rfl) (by kernel_rfl) (fun _ _ _ h => h) (Or.inl ⟨by kernel_rfl, ?_⟩) (by assumption) ?_
  rotate_left 1
  · intro w hSw; (try dsimp only at hSw); go_simp; try (with_reducible rfl)
  try simp only [Act.put, List.getElem_toArray, List.getElem_cons_succ, List.getElem_cons_zero, List.setIfInBounds_toArray, List.set_cons_zero, List.set_cons_succ]
  refine wpAnyH_take (i := 5) (v := ?_) rfl (by kernel_rfl) (by kernel_rfl) (by kernel_rfl) (fun _ _ _ h => h) (Or.inl ⟨by kernel_rfl, ?_⟩) (by assumption) ?_
  rotate_left 1
  · intro w hSw; (try dsimp only at hSw); go_simp; try (with_reducible rfl)
  try simp only [Act.put, List.getElem_toArray, List.getElem_cons_succ, List.getElem_cons_zero, List.setIfInBounds_toArray, List.set_cons_zero, List.set_cons_succ]
  refine wpAnyH_take (i := 6) (v := ?_) rfl (by kernel_rfl) (by kernel_rfl) (by kernel_rfl) (fun _ _ _ h => h) (Or.inl ⟨by kernel_rfl, ?_⟩) (by assumption) ?_
  rotate_left 1
  · intro w hSw; (try dsimp only at hSw); go_simp; try (with_reducible rfl)
  try simp only [Act.put, List.getElem_toArray, List.getElem_cons_succ, List.getElem_cons_zero, List.setIfInBounds_toArray, List.set_cons_zero, List.set_cons_succ]
  refine wpAnyH_take (i := 8) (v := ?_) rfl (by kernel_rfl) (by kernel_rfl) (by kernel_rfl) (fun _ _ _ h => h) (Or.inl ⟨by kernel_rfl, ?_⟩) (by assumption) ?_
  rotate_left 1
  · intro w hSw; (try dsimp only at hSw); go_simp; try (with_reducible rfl)
  try simp only [Act.put, List.getElem_toArray, List.getElem_cons_succ, List.getElem_cons_zero, List.setIfInBounds_toArray, List.set_cons_zero, List.set_cons_succ]
  refine wpAnyH_ready (rs := [3]) (by kernel_rfl) (by simp) ?_
  refine AllReadyH.cons rfl (fun K hK => ?_) AllReadyH.nil
  go_simp
  refine (l2Digit_c b _ (by omega)).mono ?_
  rintro e w' ⟨rfl, rfl⟩
  rw [HEB.out]
  have hS := hHeld
  refine hK.out _ _ hS (fun hHeld => ?_)
  clear hK K
  try simp only [Act.put, List.getElem_toArray, List.getElem_cons_succ, List.getElem_cons_zero, List.setIfInBounds_toArray, List.set_cons_zero, List.set_cons_succ]
  refine wpAnyH_ready (rs := [7]) (by kernel_rfl) (by simp) ?_
  refine AllReadyH.cons rfl (fun K hK => ?_) AllReadyH.nil
  go_simp
  refine (l2Digit_c c _ (by omega)).mono ?_
  rintro e w' ⟨rfl, rfl⟩
  rw [HEC.out]
  have hS := hHeld
  refine hK.out _ _ hS (fun hHeld => ?_)
  clear hK K
  try simp only [Act.put, List.getElem_toArray, List.getElem_cons_succ, List.getElem_cons_zero, List.setIfInBounds_toArray, List.set_cons_zero, List.set_cons_succ]
  refine wpAnyH_take (i := 9) (v := ?_) rfl (by kernel_rfl) (by kernel_rfl) (by kernel_rfl) (fun _ _ _ h => h) (Or.inl ⟨by kernel_rfl, ?_⟩) (by assumption) ?_
  rotate_left 1
  · intro w hSw; (try dsimp only at hSw); go_simp; try (with_reducible rfl)
  try simp only [Act.put, List.getElem_toArray, List.getElem_cons_succ, List.getElem_cons_zero, List.setIfInBounds_toArray, List.set_cons_zero, List.set_cons_succ]
  refine wpAnyH_ready (rs := [10]) (by kernel_rfl) (by simp) ?_
  refine AllReadyH.cons rfl (fun K hK => ?_) AllReadyH.nil
  go_simp
  have P4 : Hid (PP w (StPut V q 0 ⟨1, eb, ec, sd, 0⟩).drew g q ws ⟨1, eb, ec, sd, 0⟩) := (PV.out.put ⟨1, eb, ec, sd, 0⟩).drew
  have hS : (fun w' => w'.cell? ⟨g, 1, none⟩ = some (.string b) ∧ w'.cell? ⟨g, 2, none⟩ = some (.string c)) (StPut V q 0 ⟨1, eb, ec, sd, 0⟩).drew := ⟨P4.out.wd 1 b HB.out, P4.out.wd 2 c HC2.out⟩
  dsimp only [StPut] at hS P4
  refine hK.out _ _ hS (fun hHeld => ?_)
  clear hK K
  try simp only [Act.put, List.getElem_toArray, List.getElem_cons_succ, List.getElem_cons_zero, List.setIfInBounds_toArray, List.set_cons_zero, List.set_cons_succ]
  refine wpAnyH_done (by kernel_rfl) ?_ _
  clear hHeld hS d0 d1 d2 d3 d4 f0 f1 f2 f3 f4 x1 x2
  go_upto_region 10 with fail
  generalize (((((V.setCell ⟨q, 0, none⟩ (.int .i64 1)).setCell ⟨q, 1, none⟩ (.int .i64 eb)).setCell ⟨q, 2, none⟩ (.int .i64 ec)).setCell ⟨q, 3, none⟩ (.int .i64 sd)).setCell ⟨q, 4, none⟩ (.int .i64 0)).drew = X at P4 ⊢
  have hgq := P4.out.gq
  have hql := P4.out.ql
  have hgX : g < X.heap.size := by omega
  have hqX : q < X.heap.size := hql
  have x0 := P4.out.wd 0 a HA.out
  obtain ⟨u0, u1, u2, u3, u4⟩ := P4.out.st
  simp only [Nat.zero_add] at u0 u1 u2 u3 u4
  have fz := P4.out.sf 0
  have hta : (a.toList == [114, 101, 118, 111, 107, 101]) = true := by have h := str_eq_of HEA.out; rw [rev_list] at h; exact h
  go_upto_region 12 with fail
  have PX : Hid (PP w (X.setCell ⟨q, 0, none⟩ (.int .i64 2)) g q ws y) := by rw [HY.out]; exact P4.out.kind 2
  clear x0 hgq hql hgX hqX P4 hta u0 u1 u2 u3 u4 fz
  generalize X.setCell ⟨q, 0, none⟩ (.int .i64 2) = X at PX ⊢
  have hgl := PX.out.gl
  have hgq := PX.out.gq
  have hql := PX.out.ql
  have hwX : w.heap.size < X.heap.size := by omega
  have hwq : w.heap.size ≠ q := by omega
  obtain ⟨s0, s1, s2, s3, s4⟩ := PX.out.st
  simp only [Nat.zero_add] at s0 s1 s2 s3 s4
  obtain ⟨z, r0, r1, r2, r3, r4⟩ := PX.out.rs
  simp only [Nat.zero_add] at r0 r1 r2 r3 r4
  have e0 := PX.out.rf 0
  have e1 := PX.out.rf 1
  have e2 := PX.out.rf 2
  have e3 := PX.out.rf 3
  have e4 := PX.out.rf 4
  refine wp_region_held_drew (S := fun w' => (w'.cell? ⟨q, 0, none⟩ = some (.int .i64 (y : StI).k) ∧ w'.cell? ⟨q, 1, none⟩ = some (.int .i64 (y : StI).e) ∧ w'.cell? ⟨q, 2, none⟩ = some (.int .i64 (y : StI).f) ∧ w'.cell? ⟨q, 3, none⟩ = some (.int .i64 (y : StI).s) ∧ w'.cell? ⟨q, 4, none⟩ = some (.int .i64 (y : StI).n)) ∧ PP w w' g q ws y) (by kernel_rfl) (⟨⟨s0, s1, s2, s3, s4⟩, PX.out.drew⟩) (fun hHeld => ?_)
  refine wpAnyH_take (i := 0) (v := ?_) rfl (by kernel_rfl) (by kernel_rfl) (by kernel_rfl) (fun _ _ _ h => h) (Or.inl ⟨by kernel_rfl, ?_⟩) (by assumption) ?_
  rotate_left 1
  · intro w hSw; (try dsimp only at hSw); go_simp; try (with_reducible rfl)
  try simp only [Act.put, List.getElem_toArray, List.getElem_cons_succ, List.getElem_cons_zero, List.setIfInBounds_toArray, List.set_cons_zero, List.set_cons_succ]
  refine wpAnyH_ready (rs := [1]) (by kernel_rfl) (by simp) ?_
  refine AllReadyH.cons rfl (fun K hK => ?_) AllReadyH.nil
  go_simp
  refine (l7Fault_c q 0 y _ hHeld.2.st).mono ?_
  rintro e w' ⟨rfl, rfl⟩
  rw [HC.out]
  have hS := hHeld
  refine hK.out _ _ hS (fun hHeld => ?_)
  clear hK K
  try simp only [Act.put, List.getElem_toArray, List.getElem_cons_succ, List.getElem_cons_zero, List.setIfInBounds_toArray, List.set_cons_zero, List.set_cons_succ]
  refine wpAnyH_take (i := 2) (v := ?_) rfl (by kernel_rfl) (by kernel_rfl) (by kernel_rfl) (fun _ _ _ h => h) (Or.inl ⟨by kernel_rfl, ?_⟩) (by assumption) ?_
  rotate_left 1
  · intro w hSw; (try dsimp only at hSw); go_simp; try (with_reducible rfl)
  try simp only [Act.put, List.getElem_toArray, List.getElem_cons_succ, List.getElem_cons_zero, List.setIfInBounds_toArray, List.set_cons_zero, List.set_cons_succ]
  refine wpAnyH_take (i := 3) (v := ?_) rfl (by kernel_rfl) (by kernel_rfl) (by kernel_rfl) (fun _ _ _ h => h) (Or.inl ⟨by kernel_rfl, ?_⟩) (by assumption) ?_
  rotate_left 1
  · intro w hSw; (try dsimp only at hSw); go_simp; try (with_reducible rfl)
  try simp only [Act.put, List.getElem_toArray, List.getElem_cons_succ, List.getElem_cons_zero, List.setIfInBounds_toArray, List.set_cons_zero, List.set_cons_succ]
  refine wpAnyH_take (i := 5) (v := ?_) rfl (by kernel_rfl) (by kernel_rfl) (by kernel_rfl) (fun _ _ _ h => h) (Or.inl ⟨by kernel_rfl, ?_⟩) (by assumption) ?_
  rotate_left 1
  · intro w hSw; (try dsimp only at hSw); go_simp; try (with_reducible rfl)
  try simp only [Act.put, List.getElem_toArray, List.getElem_cons_succ, List.getElem_cons_zero, List.setIfInBounds_toArray, List.set_cons_zero, List.set_cons_succ]
  refine wpAnyH_ready (rs := [4]) (by kernel_rfl) (by simp) ?_
  refine AllReadyH.cons rfl (fun K hK => ?_) AllReadyH.nil
  go_simp
  refine (l7Text_c q 0 y _ hHeld.2.st HC0.out).mono ?_
  rintro e wT ⟨rfl, hbT⟩
  rw [HTX.out]
  have pT := hHeld.2.below hbT
  have hS : (fun w' => (w'.cell? ⟨q, 0, none⟩ = some (.int .i64 (y : StI).k) ∧ w'.cell? ⟨q, 1, none⟩ = some (.int .i64 (y : StI).e) ∧ w'.cell? ⟨q, 2, none⟩ = some (.int .i64 (y : StI).f) ∧ w'.cell? ⟨q, 3, none⟩ = some (.int .i64 (y : StI).s) ∧ w'.cell? ⟨q, 4, none⟩ = some (.int .i64 (y : StI).n)) ∧ PP w w' g q ws y) wT := ⟨by obtain ⟨q0, q1, q2, q3, q4⟩ := pT.st; simp only [Nat.zero_add] at q0 q1 q2 q3 q4; exact ⟨q0, q1, q2, q3, q4⟩, pT⟩
  clear r0 r1 r2 r3 r4 e0 e1 e2 e3 e4 z
  obtain ⟨z, r0, r1, r2, r3, r4⟩ := pT.rs
  simp only [Nat.zero_add] at r0 r1 r2 r3 r4
  have e0 := pT.rf 0
  have e1 := pT.rf 1
  have e2 := pT.rf 2
  have e3 := pT.rf 3
  have e4 := pT.rf 4
  have hwT : w.heap.size < wT.heap.size := by have := pT.gl; have := pT.gq; have := pT.ql; omega
  clear hbT pT
  refine hK.out _ _ hS (fun hHeld => ?_)
  clear hK K
  try simp only [Act.put, List.getElem_toArray, List.getElem_cons_succ, List.getElem_cons_zero, List.setIfInBounds_toArray, List.set_cons_zero, List.set_cons_succ]
  refine wpAnyH_take (i := 6) (v := ?_) rfl (by kernel_rfl) (by kernel_rfl) (by kernel_rfl) (fun _ _ _ h => h) (Or.inl ⟨by kernel_rfl, ?_⟩) (by assumption) ?_
  rotate_left 1
  · intro w hSw; (try dsimp only at hSw); go_simp; try (with_reducible rfl)
  try simp only [Act.put, List.getElem_toArray, List.getElem_cons_succ, List.getElem_cons_zero, List.setIfInBounds_toArray, List.set_cons_zero, List.set_cons_succ]
  refine wpAnyH_take (i := 7) (v := ?_) rfl (by kernel_rfl) (by kernel_rfl) (by kernel_rfl) (fun _ _ _ h => h) (Or.inl ⟨by kernel_rfl, ?_⟩) (by assumption) ?_
  rotate_left 1
  · intro w hSw; (try dsimp only at hSw); go_simp; try (with_reducible rfl)
  try simp only [Act.put, List.getElem_toArray, List.getElem_cons_succ, List.getElem_cons_zero, List.setIfInBounds_toArray, List.set_cons_zero, List.set_cons_succ]
  refine wpAnyH_ready (rs := [8]) (by kernel_rfl) (by simp) ?_
  refine AllReadyH.cons rfl (fun K hK => ?_) AllReadyH.nil
  go_simp
  have pS := (hHeld.2.told y).1
  have hS : (fun w' => (w'.cell? ⟨q, 0, none⟩ = some (.int .i64 (y : StI).k) ∧ w'.cell? ⟨q, 1, none⟩ = some (.int .i64 (y : StI).e) ∧ w'.cell? ⟨q, 2, none⟩ = some (.int .i64 (y : StI).f) ∧ w'.cell? ⟨q, 3, none⟩ = some (.int .i64 (y : StI).s) ∧ w'.cell? ⟨q, 4, none⟩ = some (.int .i64 (y : StI).n)) ∧ PP w w' g q ws y) (StPut wT w.heap.size 0 y) := ⟨by obtain ⟨q0, q1, q2, q3, q4⟩ := pS.st; simp only [Nat.zero_add] at q0 q1 q2 q3 q4; exact ⟨q0, q1, q2, q3, q4⟩, pS⟩
  dsimp only [StPut] at hS pS
  refine hK.out _ _ hS (fun hHeld => ?_)
  clear hK K
  try simp only [Act.put, List.getElem_toArray, List.getElem_cons_succ, List.getElem_cons_zero, List.setIfInBounds_toArray, List.set_cons_zero, List.set_cons_succ]
  refine wpAnyH_ready (rs := [9]) (by kernel_rfl) (by simp) ?_
  refine AllReadyH.cons rfl (fun K hK => ?_) AllReadyH.nil
  go_simp
  refine hK.out _ _ (by assumption) (fun hHeld => ?_)
  clear hK K
  try simp only [Act.put, List.getElem_toArray, List.getElem_cons_succ, List.getElem_cons_zero, List.setIfInBounds_toArray, List.set_cons_zero, List.set_cons_succ]
  refine wpAnyH_done (by kernel_rfl) ?_ _
  go_wp2_with fail
  refine bodyPost_ret (v := .tuple #[.agg #[.int .i64 y.k, .int .i64 y.e, .int .i64 y.f, .int .i64 y.s, .int .i64 y.n], .bool s]) (by simp [results, Tryz.results31, go_sem, r0, r1, r2, r3, r4]) rfl ⟨rfl, hS.2.bl⟩

set_option maxRecDepth 20000 in
set_option maxHeartbeats 4000000 in
theorem l7Parse_iss_bad (t : ByteArray) (w : World) (ht : t.size ≤ 1048576) (a b c d : ByteArray) (hc : cutB t 32 = [a, b, c, d]) (eb ec sd : Int) (heb : digI b = eb) (hec : digI c = ec) (hsd : setT d = sd) (ha : a ≠ revT) (y : StI) (hy : y = ⟨1, eb, ec, sd, 0⟩) (k : Int) (hk : stCode y = k) (h0 : k ≠ 0) : GivesPS t y false w := by
  obtain ⟨W, hW⟩ : ∃ W, W = w.alloc (.cells #[.int .i64 0, .int .i64 0, .int .i64 0, .int .i64 0, .int .i64 0] 26) := ⟨_, rfl⟩
  have HW : Hid (W = w.alloc (.cells #[.int .i64 0, .int .i64 0, .int .i64 0, .int .i64 0, .int .i64 0] 26)) := hW
  have B0 : Below w.heap.size w W := by rw [hW]; exact (Below.refl _ _).alloc (Nat.le_refl _) _
  have zW : W.heap.size = w.heap.size + 1 := by rw [hW]; simp
  have X0 : Hid (StAt W w.heap.size 0 ⟨0, 0, 0, 0, 0⟩ ∧ ∀ j, W.frozen? ⟨w.heap.size, j, none⟩ = false) := by rw [hW]; exact ⟨by simp [StAt], fun j => by simp [go_sem]⟩
  obtain ⟨ws, hws⟩ : ∃ ws, cutB t 32 = ws := ⟨_, rfl⟩
  have HL : Hid (Calls Tryz.prog 57 #[.string t, .int .u8 32] W fun e w' => ∃ g cap, e = .returned (.slice (some ⟨g, 0, none⟩) ws.length cap) ∧ w'.ownsRow W.heap.size 9 1 (.slice (some ⟨g, 0, none⟩) ws.length cap) ws.length (ws.map Value.string) ∧ Below W.heap.size W w') := by
    have := l2Cut_c t 32 W ht
    rw [hws] at this
    exact this
  have HSZ : Hid (∀ (j : Nat) (b : ByteArray), ws[j]? = some b → b.size ≤ 1048576) := fun j b e => Nat.le_trans (cut_size t 32 j b (by rw [hws]; exact e)) ht
  have HA : Hid (ws[0]? = some a) := by rw [← hws, hc]; exact rfl
  have HB : Hid (ws[1]? = some b) := by rw [← hws, hc]; exact rfl
  have HC2 : Hid (ws[2]? = some c) := by rw [← hws, hc]; exact rfl
  have HD : Hid (ws[3]? = some d) := by rw [← hws, hc]; exact rfl
  have hn4 : ws.length = 4 := by rw [← hws, hc]; rfl
  have hbz := HSZ.out 1 b HB.out
  have hcz := HSZ.out 2 c HC2.out
  obtain ⟨bp, hlp⟩ := l1Parse_any d
  rw [hsd] at hlp
  have HLP : Hid (∀ w : World, Calls Tryz.prog 59 #[.string d] w fun e w' => e = .returned (.tuple #[.int .i64 sd, .bool bp]) ∧ Below w.heap.size w w') := hlp
  have HEA : Hid (a ≠ revT) := ha
  have HEB : Hid (digI b = eb) := heb
  have HEC : Hid (digI c = ec) := hec
  clear hc ha heb hec hsd hlp
  have HY : Hid (y = ⟨1, eb, ec, sd, 0⟩) := hy
  have HC : Hid (stCode y = k) := hk
  have hkb : (k == 0) = false := by simpa using h0
  clear hk h0 hy
  clear hW
  unfold GivesPS
  go_enter Tryz.func31, Tryz.ntmps31
  go_wp2_with fail
  rw [← HW.out]
  refine HL.out.mono ?_
  rintro e w1 ⟨g, cap, rfl, hown, hb1⟩
  obtain ⟨V, hV⟩ : ∃ V, V = w1.alloc (.cells #[.int .i64 0, .int .i64 0, .int .i64 0, .int .i64 0, .int .i64 0] 26) := ⟨_, rfl⟩
  have PV : Hid (PP w V g w1.heap.size ws ⟨0, 0, 0, 0, 0⟩) := by
    have hgl : W.heap.size ≤ g ∧ g < w1.heap.size := hown.lt g rfl
    have A1 : Below w1.heap.size w1 V := by rw [hV]; exact (Below.refl _ _).alloc (Nat.le_refl _) _
    have hb : Below W.heap.size W V := hb1.trans (A1.mono hb1.size)
    refine ⟨B0.trans (hb.mono B0.size), fun k x e => ?_, by rw [hV]; simp [StAt], fun j => by rw [hV]; simp [go_sem], ⟨_, X0.out.1.below hb (by omega)⟩, fun j => (hb.frozen (p := ⟨w.heap.size, j, none⟩) (by show w.heap.size < W.heap.size; omega)).trans (X0.out.2 j), by omega, hgl.2, by rw [hV]; simp⟩
    have hk : k < ws.length := by
      by_cases q : k < ws.length
      · exact q
      · rw [List.getElem?_eq_none (by omega)] at e; cases e
    refine (A1.cell (p := ⟨g, k, none⟩) hgl.2).trans ?_
    rw [hown.cellAt k (by omega), List.getElem?_map, e]
    rfl
  clear hown hb1 HL X0 B0 zW
  go_upto_region 3 with fail
  rw [← hV]
  clear hV HW
  generalize w1.heap.size = q at PV ⊢
  have hgq := PV.out.gq
  have hql := PV.out.ql
  have hgV : g < V.heap.size := by omega
  obtain ⟨d0, d1, d2, d3, d4⟩ := PV.out.st
  simp only [Nat.zero_add] at d0 d1 d2 d3 d4
  have f0 := PV.out.sf 0
  have f1 := PV.out.sf 1
  have f2 := PV.out.sf 2
  have f3 := PV.out.sf 3
  have f4 := PV.out.sf 4
  have x3 := PV.out.wd 3 d HD.out
  try rw [hn4]
  go_wp2_with fail
  refine (HLP.out _).mono ?_
  rintro e V ⟨rfl, hbV⟩
  have PV : Hid (PP w V g q ws ⟨0, 0, 0, 0, 0⟩) := PV.out.below hbV
  clear hgq hql hgV d0 d1 d2 d3 d4 f0 f1 f2 f3 f4 x3 hbV HLP
  have hgq := PV.out.gq
  have hql := PV.out.ql
  have hgV : g < V.heap.size := by omega
  obtain ⟨d0, d1, d2, d3, d4⟩ := PV.out.st
  simp only [Nat.zero_add] at d0 d1 d2 d3 d4
  have f0 := PV.out.sf 0
  have f1 := PV.out.sf 1
  have f2 := PV.out.sf 2
  have f3 := PV.out.sf 3
  have f4 := PV.out.sf 4
  have x1 := PV.out.wd 1 b HB.out
  have x2 := PV.out.wd 2 c HC2.out
  go_upto_region 9 with fail
  refine wp_region_held_drew (S := fun w' => w'.cell? ⟨g, 1, none⟩ = some (.string b) ∧ w'.cell? ⟨g, 2, none⟩ = some (.string c)) (by kernel_rfl) (⟨x1, x2⟩) (fun hHeld => ?_)
  refine wpAnyH_take (i := 0) (v := ?_) rfl (by kernel_rfl) (by kernel_rfl) (by kernel_rfl) (fun _ _ _ h => h) (Or.inl ⟨by kernel_rfl, ?_⟩) (by assumption) ?_
  rotate_left 1
  · intro w hSw; (try dsimp only at hSw); go_simp; try (with_reducible rfl)
  try simp only [Act.put, List.getElem_toArray, List.getElem_cons_succ, List.getElem_cons_zero, List.setIfInBounds_toArray, List.set_cons_zero, List.set_cons_succ]
  refine wpAnyH_take (i := 1) (v := ?_) rfl (by kernel_rfl) (by kernel_rfl) (by kernel_rfl) (fun _ _ _ h => h) (Or.inl ⟨by kernel_rfl, ?_⟩) (by assumption) ?_
  rotate_left 1
  · intro w hSw; (try dsimp only at hSw); go_simp; try (with_reducible rfl)
  try simp only [Act.put, List.getElem_toArray, List.getElem_cons_succ, List.getElem_cons_zero, List.setIfInBounds_toArray, List.set_cons_zero, List.set_cons_succ]
  refine wpAnyH_take (i := 2) (v := ?_) rfl (by kernel_rfl) (by kernel_rfl) (by kernel_rfl) (fun _ _ _ h => h) (Or.inl ⟨by kernel_rfl, ?_⟩) (by assumption) ?_
  rotate_left 1
  · intro w hSw; (try dsimp only at hSw); go_simp; try (with_reducible rfl)
  try simp only [Act.put, List.getElem_toArray, List.getElem_cons_succ, List.getElem_cons_zero, List.setIfInBounds_toArray, List.set_cons_zero, List.set_cons_succ]
  refine wpAnyH_take (i := 4) (v := ?_) rfl (by kernel_rfl) (by kernel_rfl) (by kernel_rfl) (fun _ _ _ h => h) (Or.inl ⟨by kernel_rfl, ?_⟩) (by assumption) ?_
  rotate_left 1
  · intro w hSw; (try dsimp only at hSw); go_simp; try (with_reducible rfl)
  try simp only [Act.put, List.getElem_toArray, List.getElem_cons_succ, List.getElem_cons_zero, List.setIfInBounds_toArray, List.set_cons_zero, List.set_cons_succ]
  refine wpAnyH_take (i := 5) (v := ?_) rfl (by kernel_rfl) (by kernel_rfl) (by kernel_rfl) (fun _ _ _ h => h) (Or.inl ⟨by kernel_rfl, ?_⟩) (by assumption) ?_
  rotate_left 1
  · intro w hSw; (try dsimp only at hSw); go_simp; try (with_reducible rfl)
  try simp only [Act.put, List.getElem_toArray, List.getElem_cons_succ, List.getElem_cons_zero, List.setIfInBounds_toArray, List.set_cons_zero, List.set_cons_succ]
  refine wpAnyH_take (i := 6) (v := ?_) rfl (by kernel_rfl) (by kernel_rfl) (by kernel_rfl) (fun _ _ _ h => h) (Or.inl ⟨by kernel_rfl, ?_⟩) (by assumption) ?_
  rotate_left 1
  · intro w hSw; (try dsimp only at hSw); go_simp; try (with_reducible rfl)
  try simp only [Act.put, List.getElem_toArray, List.getElem_cons_succ, List.getElem_cons_zero, List.setIfInBounds_toArray, List.set_cons_zero, List.set_cons_succ]
  refine wpAnyH_take (i := 8) (v := ?_) rfl (by kernel_rfl) (by kernel_rfl) (by kernel_rfl) (fun _ _ _ h => h) (Or.inl ⟨by kernel_rfl, ?_⟩) (by assumption) ?_
  rotate_left 1
  · intro w hSw; (try dsimp only at hSw); go_simp; try (with_reducible rfl)
  try simp only [Act.put, List.getElem_toArray, List.getElem_cons_succ, List.getElem_cons_zero, List.setIfInBounds_toArray, List.set_cons_zero, List.set_cons_succ]
  refine wpAnyH_ready (rs := [3]) (by kernel_rfl) (by simp) ?_
  refine AllReadyH.cons rfl (fun K hK => ?_) AllReadyH.nil
  go_simp
  refine (l2Digit_c b _ (by omega)).mono ?_
  rintro e w' ⟨rfl, rfl⟩
  rw [HEB.out]
  have hS := hHeld
  refine hK.out _ _ hS (fun hHeld => ?_)
  clear hK K
  try simp only [Act.put, List.getElem_toArray, List.getElem_cons_succ, List.getElem_cons_zero, List.setIfInBounds_toArray, List.set_cons_zero, List.set_cons_succ]
  refine wpAnyH_ready (rs := [7]) (by kernel_rfl) (by simp) ?_
  refine AllReadyH.cons rfl (fun K hK => ?_) AllReadyH.nil
  go_simp
  refine (l2Digit_c c _ (by omega)).mono ?_
  rintro e w' ⟨rfl, rfl⟩
  rw [HEC.out]
  have hS := hHeld
  refine hK.out _ _ hS (fun hHeld => ?_)
  clear hK K
  try simp only [Act.put, List.getElem_toArray, List.getElem_cons_succ, List.getElem_cons_zero, List.setIfInBounds_toArray, List.set_cons_zero, List.set_cons_succ]
  refine wpAnyH_take (i := 9) (v := ?_) rfl (by kernel_rfl) (by kernel_rfl) (by kernel_rfl) (fun _ _ _ h => h) (Or.inl ⟨by kernel_rfl, ?_⟩) (by assumption) ?_
  rotate_left 1
  · intro w hSw; (try dsimp only at hSw); go_simp; try (with_reducible rfl)
  try simp only [Act.put, List.getElem_toArray, List.getElem_cons_succ, List.getElem_cons_zero, List.setIfInBounds_toArray, List.set_cons_zero, List.set_cons_succ]
  refine wpAnyH_ready (rs := [10]) (by kernel_rfl) (by simp) ?_
  refine AllReadyH.cons rfl (fun K hK => ?_) AllReadyH.nil
  go_simp
  have P4 : Hid (PP w (StPut V q 0 ⟨1, eb, ec, sd, 0⟩).drew g q ws ⟨1, eb, ec, sd, 0⟩) := (PV.out.put ⟨1, eb, ec, sd, 0⟩).drew
  have hS : (fun w' => w'.cell? ⟨g, 1, none⟩ = some (.string b) ∧ w'.cell? ⟨g, 2, none⟩ = some (.string c)) (StPut V q 0 ⟨1, eb, ec, sd, 0⟩).drew := ⟨P4.out.wd 1 b HB.out, P4.out.wd 2 c HC2.out⟩
  dsimp only [StPut] at hS P4
  refine hK.out _ _ hS (fun hHeld => ?_)
  clear hK K
  try simp only [Act.put, List.getElem_toArray, List.getElem_cons_succ, List.getElem_cons_zero, List.setIfInBounds_toArray, List.set_cons_zero, List.set_cons_succ]
  refine wpAnyH_done (by kernel_rfl) ?_ _
  clear hHeld hS d0 d1 d2 d3 d4 f0 f1 f2 f3 f4 x1 x2
  go_upto_region 10 with fail
  generalize (((((V.setCell ⟨q, 0, none⟩ (.int .i64 1)).setCell ⟨q, 1, none⟩ (.int .i64 eb)).setCell ⟨q, 2, none⟩ (.int .i64 ec)).setCell ⟨q, 3, none⟩ (.int .i64 sd)).setCell ⟨q, 4, none⟩ (.int .i64 0)).drew = X at P4 ⊢
  have hgq := P4.out.gq
  have hql := P4.out.ql
  have hgX : g < X.heap.size := by omega
  have hqX : q < X.heap.size := hql
  have x0 := P4.out.wd 0 a HA.out
  obtain ⟨u0, u1, u2, u3, u4⟩ := P4.out.st
  simp only [Nat.zero_add] at u0 u1 u2 u3 u4
  have fz := P4.out.sf 0
  have hta : (a.toList == [114, 101, 118, 111, 107, 101]) = false := by have h := str_ne_of HEA.out; rw [rev_list] at h; exact h
  go_upto_region 12 with fail
  have PX : Hid (PP w X g q ws y) := by rw [HY.out]; exact P4.out
  clear x0 hgq hql hgX hqX P4 hta u0 u1 u2 u3 u4 fz
  have hgl := PX.out.gl
  have hgq := PX.out.gq
  have hql := PX.out.ql
  have hwX : w.heap.size < X.heap.size := by omega
  have hwq : w.heap.size ≠ q := by omega
  obtain ⟨s0, s1, s2, s3, s4⟩ := PX.out.st
  simp only [Nat.zero_add] at s0 s1 s2 s3 s4
  obtain ⟨z, r0, r1, r2, r3, r4⟩ := PX.out.rs
  simp only [Nat.zero_add] at r0 r1 r2 r3 r4
  have e0 := PX.out.rf 0
  have e1 := PX.out.rf 1
  have e2 := PX.out.rf 2
  have e3 := PX.out.rf 3
  have e4 := PX.out.rf 4
  refine wp_region_held_drew (S := fun w' => (w'.cell? ⟨q, 0, none⟩ = some (.int .i64 (y : StI).k) ∧ w'.cell? ⟨q, 1, none⟩ = some (.int .i64 (y : StI).e) ∧ w'.cell? ⟨q, 2, none⟩ = some (.int .i64 (y : StI).f) ∧ w'.cell? ⟨q, 3, none⟩ = some (.int .i64 (y : StI).s) ∧ w'.cell? ⟨q, 4, none⟩ = some (.int .i64 (y : StI).n)) ∧ PP w w' g q ws y) (by kernel_rfl) (⟨⟨s0, s1, s2, s3, s4⟩, PX.out.drew⟩) (fun hHeld => ?_)
  refine wpAnyH_take (i := 0) (v := ?_) rfl (by kernel_rfl) (by kernel_rfl) (by kernel_rfl) (fun _ _ _ h => h) (Or.inl ⟨by kernel_rfl, ?_⟩) (by assumption) ?_
  rotate_left 1
  · intro w hSw; (try dsimp only at hSw); go_simp; try (with_reducible rfl)
  try simp only [Act.put, List.getElem_toArray, List.getElem_cons_succ, List.getElem_cons_zero, List.setIfInBounds_toArray, List.set_cons_zero, List.set_cons_succ]
  refine wpAnyH_ready (rs := [1]) (by kernel_rfl) (by simp) ?_
  refine AllReadyH.cons rfl (fun K hK => ?_) AllReadyH.nil
  go_simp
  refine (l7Fault_c q 0 y _ hHeld.2.st).mono ?_
  rintro e w' ⟨rfl, rfl⟩
  rw [HC.out]
  have hS := hHeld
  refine hK.out _ _ hS (fun hHeld => ?_)
  clear hK K
  try simp only [Act.put, List.getElem_toArray, List.getElem_cons_succ, List.getElem_cons_zero, List.setIfInBounds_toArray, List.set_cons_zero, List.set_cons_succ]
  refine wpAnyH_take (i := 2) (v := ?_) rfl (by kernel_rfl) (by kernel_rfl) (by kernel_rfl) (fun _ _ _ h => h) (Or.inl ⟨by kernel_rfl, ?_⟩) (by assumption) ?_
  rotate_left 1
  · intro w hSw; (try dsimp only at hSw); go_simp; try (with_reducible rfl)
  try simp only [Act.put, List.getElem_toArray, List.getElem_cons_succ, List.getElem_cons_zero, List.setIfInBounds_toArray, List.set_cons_zero, List.set_cons_succ]
  refine wpAnyH_take (i := 3) (v := ?_) rfl (by kernel_rfl) (by kernel_rfl) (by kernel_rfl) (fun _ _ _ h => h) (Or.inl ⟨by kernel_rfl, ?_⟩) (by assumption) ?_
  rotate_left 1
  · intro w hSw; (try dsimp only at hSw); go_simp; try (with_reducible rfl)
  try simp only [Act.put, List.getElem_toArray, List.getElem_cons_succ, List.getElem_cons_zero, List.setIfInBounds_toArray, List.set_cons_zero, List.set_cons_succ]
  refine wpAnyH_take (i := 4) (v := undef) rfl (by kernel_rfl) (by kernel_rfl) (by kernel_rfl) (fun _ _ _ h => h) (Or.inr ⟨by kernel_rfl, rfl⟩) (by assumption) ?_
  try simp only [Act.put, List.getElem_toArray, List.getElem_cons_succ, List.getElem_cons_zero, List.setIfInBounds_toArray, List.set_cons_zero, List.set_cons_succ]
  refine wpAnyH_take (i := 5) (v := undef) rfl (by kernel_rfl) (by kernel_rfl) (by kernel_rfl) (fun _ _ _ h => h) (Or.inr ⟨by kernel_rfl, rfl⟩) (by assumption) ?_
  try simp only [Act.put, List.getElem_toArray, List.getElem_cons_succ, List.getElem_cons_zero, List.setIfInBounds_toArray, List.set_cons_zero, List.set_cons_succ]
  refine wpAnyH_take (i := 6) (v := undef) rfl (by kernel_rfl) (by kernel_rfl) (by kernel_rfl) (fun _ _ _ h => h) (Or.inr ⟨by kernel_rfl, rfl⟩) (by assumption) ?_
  try simp only [Act.put, List.getElem_toArray, List.getElem_cons_succ, List.getElem_cons_zero, List.setIfInBounds_toArray, List.set_cons_zero, List.set_cons_succ]
  refine wpAnyH_take (i := 7) (v := ?_) rfl (by kernel_rfl) (by kernel_rfl) (by kernel_rfl) (fun _ _ _ h => h) (Or.inl ⟨by kernel_rfl, ?_⟩) (by assumption) ?_
  rotate_left 1
  · intro w hSw; (try dsimp only at hSw); go_simp; try (with_reducible rfl)
  try simp only [Act.put, List.getElem_toArray, List.getElem_cons_succ, List.getElem_cons_zero, List.setIfInBounds_toArray, List.set_cons_zero, List.set_cons_succ]
  refine wpAnyH_ready (rs := [8]) (by kernel_rfl) (by simp) ?_
  refine AllReadyH.cons rfl (fun K hK => ?_) AllReadyH.nil
  go_simp
  have pS := (PX.out.told y).1.drew
  have hS : (fun w' => (w'.cell? ⟨q, 0, none⟩ = some (.int .i64 (y : StI).k) ∧ w'.cell? ⟨q, 1, none⟩ = some (.int .i64 (y : StI).e) ∧ w'.cell? ⟨q, 2, none⟩ = some (.int .i64 (y : StI).f) ∧ w'.cell? ⟨q, 3, none⟩ = some (.int .i64 (y : StI).s) ∧ w'.cell? ⟨q, 4, none⟩ = some (.int .i64 (y : StI).n)) ∧ PP w w' g q ws y) (StPut X w.heap.size 0 y).drew := ⟨by obtain ⟨q0, q1, q2, q3, q4⟩ := pS.st; simp only [Nat.zero_add] at q0 q1 q2 q3 q4; exact ⟨q0, q1, q2, q3, q4⟩, pS⟩
  dsimp only [StPut] at hS pS
  refine hK.out _ _ hS (fun hHeld => ?_)
  clear hK K
  try simp only [Act.put, List.getElem_toArray, List.getElem_cons_succ, List.getElem_cons_zero, List.setIfInBounds_toArray, List.set_cons_zero, List.set_cons_succ]
  refine wpAnyH_ready (rs := [9]) (by kernel_rfl) (by simp) ?_
  refine AllReadyH.cons rfl (fun K hK => ?_) AllReadyH.nil
  go_simp
  refine hK.out _ _ (by assumption) (fun hHeld => ?_)
  clear hK K
  try simp only [Act.put, List.getElem_toArray, List.getElem_cons_succ, List.getElem_cons_zero, List.setIfInBounds_toArray, List.set_cons_zero, List.set_cons_succ]
  refine wpAnyH_done (by kernel_rfl) ?_ _
  go_wp2_with fail
  refine bodyPost_ret (v := .tuple #[.agg #[.int .i64 y.k, .int .i64 y.e, .int .i64 y.f, .int .i64 y.s, .int .i64 y.n], .bool false]) (by simp [results, Tryz.results31, go_sem, r0, r1, r2, r3, r4]) rfl ⟨rfl, hS.2.bl⟩

set_option maxRecDepth 20000 in
set_option maxHeartbeats 4000000 in
theorem l7Parse_iss_ok (t : ByteArray) (w : World) (ht : t.size ≤ 1048576) (a b c d : ByteArray) (hc : cutB t 32 = [a, b, c, d]) (eb ec sd : Int) (heb : digI b = eb) (hec : digI c = ec) (hsd : setT d = sd) (ha : a ≠ revT) (y : StI) (hy : y = ⟨1, eb, ec, sd, 0⟩) (hk : stCode y = 0) (s : Bool) (hs : ((stText y).toList == t.toList) = s) : GivesPS t y s w := by
  obtain ⟨W, hW⟩ : ∃ W, W = w.alloc (.cells #[.int .i64 0, .int .i64 0, .int .i64 0, .int .i64 0, .int .i64 0] 26) := ⟨_, rfl⟩
  have HW : Hid (W = w.alloc (.cells #[.int .i64 0, .int .i64 0, .int .i64 0, .int .i64 0, .int .i64 0] 26)) := hW
  have B0 : Below w.heap.size w W := by rw [hW]; exact (Below.refl _ _).alloc (Nat.le_refl _) _
  have zW : W.heap.size = w.heap.size + 1 := by rw [hW]; simp
  have X0 : Hid (StAt W w.heap.size 0 ⟨0, 0, 0, 0, 0⟩ ∧ ∀ j, W.frozen? ⟨w.heap.size, j, none⟩ = false) := by rw [hW]; exact ⟨by simp [StAt], fun j => by simp [go_sem]⟩
  obtain ⟨ws, hws⟩ : ∃ ws, cutB t 32 = ws := ⟨_, rfl⟩
  have HL : Hid (Calls Tryz.prog 57 #[.string t, .int .u8 32] W fun e w' => ∃ g cap, e = .returned (.slice (some ⟨g, 0, none⟩) ws.length cap) ∧ w'.ownsRow W.heap.size 9 1 (.slice (some ⟨g, 0, none⟩) ws.length cap) ws.length (ws.map Value.string) ∧ Below W.heap.size W w') := by
    have := l2Cut_c t 32 W ht
    rw [hws] at this
    exact this
  have HSZ : Hid (∀ (j : Nat) (b : ByteArray), ws[j]? = some b → b.size ≤ 1048576) := fun j b e => Nat.le_trans (cut_size t 32 j b (by rw [hws]; exact e)) ht
  have HA : Hid (ws[0]? = some a) := by rw [← hws, hc]; exact rfl
  have HB : Hid (ws[1]? = some b) := by rw [← hws, hc]; exact rfl
  have HC2 : Hid (ws[2]? = some c) := by rw [← hws, hc]; exact rfl
  have HD : Hid (ws[3]? = some d) := by rw [← hws, hc]; exact rfl
  have hn4 : ws.length = 4 := by rw [← hws, hc]; rfl
  have hbz := HSZ.out 1 b HB.out
  have hcz := HSZ.out 2 c HC2.out
  obtain ⟨bp, hlp⟩ := l1Parse_any d
  rw [hsd] at hlp
  have HLP : Hid (∀ w : World, Calls Tryz.prog 59 #[.string d] w fun e w' => e = .returned (.tuple #[.int .i64 sd, .bool bp]) ∧ Below w.heap.size w w') := hlp
  have HEA : Hid (a ≠ revT) := ha
  have HEB : Hid (digI b = eb) := heb
  have HEC : Hid (digI c = ec) := hec
  clear hc ha heb hec hsd hlp
  have HY : Hid (y = ⟨1, eb, ec, sd, 0⟩) := hy
  have HC : Hid (stCode y = 0) := hk
  have HC0 : Hid (stCode y = 0) := hk
  obtain ⟨tx, htx⟩ : ∃ tx, stText y = tx := ⟨_, rfl⟩
  have HTX : Hid (stText y = tx) := htx
  rw [htx] at hs
  clear hk htx hy
  clear hW
  unfold GivesPS
  go_enter Tryz.func31, Tryz.ntmps31
  go_wp2_with fail
  rw [← HW.out]
  refine HL.out.mono ?_
  rintro e w1 ⟨g, cap, rfl, hown, hb1⟩
  obtain ⟨V, hV⟩ : ∃ V, V = w1.alloc (.cells #[.int .i64 0, .int .i64 0, .int .i64 0, .int .i64 0, .int .i64 0] 26) := ⟨_, rfl⟩
  have PV : Hid (PP w V g w1.heap.size ws ⟨0, 0, 0, 0, 0⟩) := by
    have hgl : W.heap.size ≤ g ∧ g < w1.heap.size := hown.lt g rfl
    have A1 : Below w1.heap.size w1 V := by rw [hV]; exact (Below.refl _ _).alloc (Nat.le_refl _) _
    have hb : Below W.heap.size W V := hb1.trans (A1.mono hb1.size)
    refine ⟨B0.trans (hb.mono B0.size), fun k x e => ?_, by rw [hV]; simp [StAt], fun j => by rw [hV]; simp [go_sem], ⟨_, X0.out.1.below hb (by omega)⟩, fun j => (hb.frozen (p := ⟨w.heap.size, j, none⟩) (by show w.heap.size < W.heap.size; omega)).trans (X0.out.2 j), by omega, hgl.2, by rw [hV]; simp⟩
    have hk : k < ws.length := by
      by_cases q : k < ws.length
      · exact q
      · rw [List.getElem?_eq_none (by omega)] at e; cases e
    refine (A1.cell (p := ⟨g, k, none⟩) hgl.2).trans ?_
    rw [hown.cellAt k (by omega), List.getElem?_map, e]
    rfl
  clear hown hb1 HL X0 B0 zW
  go_upto_region 3 with fail
  rw [← hV]
  clear hV HW
  generalize w1.heap.size = q at PV ⊢
  have hgq := PV.out.gq
  have hql := PV.out.ql
  have hgV : g < V.heap.size := by omega
  obtain ⟨d0, d1, d2, d3, d4⟩ := PV.out.st
  simp only [Nat.zero_add] at d0 d1 d2 d3 d4
  have f0 := PV.out.sf 0
  have f1 := PV.out.sf 1
  have f2 := PV.out.sf 2
  have f3 := PV.out.sf 3
  have f4 := PV.out.sf 4
  have x3 := PV.out.wd 3 d HD.out
  try rw [hn4]
  go_wp2_with fail
  refine (HLP.out _).mono ?_
  rintro e V ⟨rfl, hbV⟩
  have PV : Hid (PP w V g q ws ⟨0, 0, 0, 0, 0⟩) := PV.out.below hbV
  clear hgq hql hgV d0 d1 d2 d3 d4 f0 f1 f2 f3 f4 x3 hbV HLP
  have hgq := PV.out.gq
  have hql := PV.out.ql
  have hgV : g < V.heap.size := by omega
  obtain ⟨d0, d1, d2, d3, d4⟩ := PV.out.st
  simp only [Nat.zero_add] at d0 d1 d2 d3 d4
  have f0 := PV.out.sf 0
  have f1 := PV.out.sf 1
  have f2 := PV.out.sf 2
  have f3 := PV.out.sf 3
  have f4 := PV.out.sf 4
  have x1 := PV.out.wd 1 b HB.out
  have x2 := PV.out.wd 2 c HC2.out
  go_upto_region 9 with fail
  refine wp_region_held_drew (S := fun w' => w'.cell? ⟨g, 1, none⟩ = some (.string b) ∧ w'.cell? ⟨g, 2, none⟩ = some (.string c)) (by kernel_rfl) (⟨x1, x2⟩) (fun hHeld => ?_)
  refine wpAnyH_take (i := 0) (v := ?_) rfl (by kernel_rfl) (by kernel_rfl) (by kernel_rfl) (fun _ _ _ h => h) (Or.inl ⟨by kernel_rfl, ?_⟩) (by assumption) ?_
  rotate_left 1
  · intro w hSw; (try dsimp only at hSw); go_simp; try (with_reducible rfl)
  try simp only [Act.put, List.getElem_toArray, List.getElem_cons_succ, List.getElem_cons_zero, List.setIfInBounds_toArray, List.set_cons_zero, List.set_cons_succ]
  refine wpAnyH_take (i := 1) (v := ?_) rfl (by kernel_rfl) (by kernel_rfl) (by kernel_rfl) (fun _ _ _ h => h) (Or.inl ⟨by kernel_rfl, ?_⟩) (by assumption) ?_
  rotate_left 1
  · intro w hSw; (try dsimp only at hSw); go_simp; try (with_reducible rfl)
  try simp only [Act.put, List.getElem_toArray, List.getElem_cons_succ, List.getElem_cons_zero, List.setIfInBounds_toArray, List.set_cons_zero, List.set_cons_succ]
  refine wpAnyH_take (i := 2) (v := ?_) rfl (by kernel_rfl) (by kernel_rfl) (by kernel_rfl) (fun _ _ _ h => h) (Or.inl ⟨by kernel_rfl, ?_⟩) (by assumption) ?_
  rotate_left 1
  · intro w hSw; (try dsimp only at hSw); go_simp; try (with_reducible rfl)
  try simp only [Act.put, List.getElem_toArray, List.getElem_cons_succ, List.getElem_cons_zero, List.setIfInBounds_toArray, List.set_cons_zero, List.set_cons_succ]
  refine wpAnyH_take (i := 4) (v := ?_) rfl (by kernel_rfl) (by kernel_rfl) (by kernel_rfl) (fun _ _ _ h => h) (Or.inl ⟨by kernel_rfl, ?_⟩) (by assumption) ?_
  rotate_left 1
  · intro w hSw; (try dsimp only at hSw); go_simp; try (with_reducible rfl)
  try simp only [Act.put, List.getElem_toArray, List.getElem_cons_succ, List.getElem_cons_zero, List.setIfInBounds_toArray, List.set_cons_zero, List.set_cons_succ]
  refine wpAnyH_take (i := 5) (v := ?_) rfl (by kernel_rfl) (by kernel_rfl) (by kernel_rfl) (fun _ _ _ h => h) (Or.inl ⟨by kernel_rfl, ?_⟩) (by assumption) ?_
  rotate_left 1
  · intro w hSw; (try dsimp only at hSw); go_simp; try (with_reducible rfl)
  try simp only [Act.put, List.getElem_toArray, List.getElem_cons_succ, List.getElem_cons_zero, List.setIfInBounds_toArray, List.set_cons_zero, List.set_cons_succ]
  refine wpAnyH_take (i := 6) (v := ?_) rfl (by kernel_rfl) (by kernel_rfl) (by kernel_rfl) (fun _ _ _ h => h) (Or.inl ⟨by kernel_rfl, ?_⟩) (by assumption) ?_
  rotate_left 1
  · intro w hSw; (try dsimp only at hSw); go_simp; try (with_reducible rfl)
  try simp only [Act.put, List.getElem_toArray, List.getElem_cons_succ, List.getElem_cons_zero, List.setIfInBounds_toArray, List.set_cons_zero, List.set_cons_succ]
  refine wpAnyH_take (i := 8) (v := ?_) rfl (by kernel_rfl) (by kernel_rfl) (by kernel_rfl) (fun _ _ _ h => h) (Or.inl ⟨by kernel_rfl, ?_⟩) (by assumption) ?_
  rotate_left 1
  · intro w hSw; (try dsimp only at hSw); go_simp; try (with_reducible rfl)
  try simp only [Act.put, List.getElem_toArray, List.getElem_cons_succ, List.getElem_cons_zero, List.setIfInBounds_toArray, List.set_cons_zero, List.set_cons_succ]
  refine wpAnyH_ready (rs := [3]) (by kernel_rfl) (by simp) ?_
  refine AllReadyH.cons rfl (fun K hK => ?_) AllReadyH.nil
  go_simp
  refine (l2Digit_c b _ (by omega)).mono ?_
  rintro e w' ⟨rfl, rfl⟩
  rw [HEB.out]
  have hS := hHeld
  refine hK.out _ _ hS (fun hHeld => ?_)
  clear hK K
  try simp only [Act.put, List.getElem_toArray, List.getElem_cons_succ, List.getElem_cons_zero, List.setIfInBounds_toArray, List.set_cons_zero, List.set_cons_succ]
  refine wpAnyH_ready (rs := [7]) (by kernel_rfl) (by simp) ?_
  refine AllReadyH.cons rfl (fun K hK => ?_) AllReadyH.nil
  go_simp
  refine (l2Digit_c c _ (by omega)).mono ?_
  rintro e w' ⟨rfl, rfl⟩
  rw [HEC.out]
  have hS := hHeld
  refine hK.out _ _ hS (fun hHeld => ?_)
  clear hK K
  try simp only [Act.put, List.getElem_toArray, List.getElem_cons_succ, List.getElem_cons_zero, List.setIfInBounds_toArray, List.set_cons_zero, List.set_cons_succ]
  refine wpAnyH_take (i := 9) (v := ?_) rfl (by kernel_rfl) (by kernel_rfl) (by kernel_rfl) (fun _ _ _ h => h) (Or.inl ⟨by kernel_rfl, ?_⟩) (by assumption) ?_
  rotate_left 1
  · intro w hSw; (try dsimp only at hSw); go_simp; try (with_reducible rfl)
  try simp only [Act.put, List.getElem_toArray, List.getElem_cons_succ, List.getElem_cons_zero, List.setIfInBounds_toArray, List.set_cons_zero, List.set_cons_succ]
  refine wpAnyH_ready (rs := [10]) (by kernel_rfl) (by simp) ?_
  refine AllReadyH.cons rfl (fun K hK => ?_) AllReadyH.nil
  go_simp
  have P4 : Hid (PP w (StPut V q 0 ⟨1, eb, ec, sd, 0⟩).drew g q ws ⟨1, eb, ec, sd, 0⟩) := (PV.out.put ⟨1, eb, ec, sd, 0⟩).drew
  have hS : (fun w' => w'.cell? ⟨g, 1, none⟩ = some (.string b) ∧ w'.cell? ⟨g, 2, none⟩ = some (.string c)) (StPut V q 0 ⟨1, eb, ec, sd, 0⟩).drew := ⟨P4.out.wd 1 b HB.out, P4.out.wd 2 c HC2.out⟩
  dsimp only [StPut] at hS P4
  refine hK.out _ _ hS (fun hHeld => ?_)
  clear hK K
  try simp only [Act.put, List.getElem_toArray, List.getElem_cons_succ, List.getElem_cons_zero, List.setIfInBounds_toArray, List.set_cons_zero, List.set_cons_succ]
  refine wpAnyH_done (by kernel_rfl) ?_ _
  clear hHeld hS d0 d1 d2 d3 d4 f0 f1 f2 f3 f4 x1 x2
  go_upto_region 10 with fail
  generalize (((((V.setCell ⟨q, 0, none⟩ (.int .i64 1)).setCell ⟨q, 1, none⟩ (.int .i64 eb)).setCell ⟨q, 2, none⟩ (.int .i64 ec)).setCell ⟨q, 3, none⟩ (.int .i64 sd)).setCell ⟨q, 4, none⟩ (.int .i64 0)).drew = X at P4 ⊢
  have hgq := P4.out.gq
  have hql := P4.out.ql
  have hgX : g < X.heap.size := by omega
  have hqX : q < X.heap.size := hql
  have x0 := P4.out.wd 0 a HA.out
  obtain ⟨u0, u1, u2, u3, u4⟩ := P4.out.st
  simp only [Nat.zero_add] at u0 u1 u2 u3 u4
  have fz := P4.out.sf 0
  have hta : (a.toList == [114, 101, 118, 111, 107, 101]) = false := by have h := str_ne_of HEA.out; rw [rev_list] at h; exact h
  go_upto_region 12 with fail
  have PX : Hid (PP w X g q ws y) := by rw [HY.out]; exact P4.out
  clear x0 hgq hql hgX hqX P4 hta u0 u1 u2 u3 u4 fz
  have hgl := PX.out.gl
  have hgq := PX.out.gq
  have hql := PX.out.ql
  have hwX : w.heap.size < X.heap.size := by omega
  have hwq : w.heap.size ≠ q := by omega
  obtain ⟨s0, s1, s2, s3, s4⟩ := PX.out.st
  simp only [Nat.zero_add] at s0 s1 s2 s3 s4
  obtain ⟨z, r0, r1, r2, r3, r4⟩ := PX.out.rs
  simp only [Nat.zero_add] at r0 r1 r2 r3 r4
  have e0 := PX.out.rf 0
  have e1 := PX.out.rf 1
  have e2 := PX.out.rf 2
  have e3 := PX.out.rf 3
  have e4 := PX.out.rf 4
  refine wp_region_held_drew (S := fun w' => (w'.cell? ⟨q, 0, none⟩ = some (.int .i64 (y : StI).k) ∧ w'.cell? ⟨q, 1, none⟩ = some (.int .i64 (y : StI).e) ∧ w'.cell? ⟨q, 2, none⟩ = some (.int .i64 (y : StI).f) ∧ w'.cell? ⟨q, 3, none⟩ = some (.int .i64 (y : StI).s) ∧ w'.cell? ⟨q, 4, none⟩ = some (.int .i64 (y : StI).n)) ∧ PP w w' g q ws y) (by kernel_rfl) (⟨⟨s0, s1, s2, s3, s4⟩, PX.out.drew⟩) (fun hHeld => ?_)
  refine wpAnyH_take (i := 0) (v := ?_) rfl (by kernel_rfl) (by kernel_rfl) (by kernel_rfl) (fun _ _ _ h => h) (Or.inl ⟨by kernel_rfl, ?_⟩) (by assumption) ?_
  rotate_left 1
  · intro w hSw; (try dsimp only at hSw); go_simp; try (with_reducible rfl)
  try simp only [Act.put, List.getElem_toArray, List.getElem_cons_succ, List.getElem_cons_zero, List.setIfInBounds_toArray, List.set_cons_zero, List.set_cons_succ]
  refine wpAnyH_ready (rs := [1]) (by kernel_rfl) (by simp) ?_
  refine AllReadyH.cons rfl (fun K hK => ?_) AllReadyH.nil
  go_simp
  refine (l7Fault_c q 0 y _ hHeld.2.st).mono ?_
  rintro e w' ⟨rfl, rfl⟩
  rw [HC.out]
  have hS := hHeld
  refine hK.out _ _ hS (fun hHeld => ?_)
  clear hK K
  try simp only [Act.put, List.getElem_toArray, List.getElem_cons_succ, List.getElem_cons_zero, List.setIfInBounds_toArray, List.set_cons_zero, List.set_cons_succ]
  refine wpAnyH_take (i := 2) (v := ?_) rfl (by kernel_rfl) (by kernel_rfl) (by kernel_rfl) (fun _ _ _ h => h) (Or.inl ⟨by kernel_rfl, ?_⟩) (by assumption) ?_
  rotate_left 1
  · intro w hSw; (try dsimp only at hSw); go_simp; try (with_reducible rfl)
  try simp only [Act.put, List.getElem_toArray, List.getElem_cons_succ, List.getElem_cons_zero, List.setIfInBounds_toArray, List.set_cons_zero, List.set_cons_succ]
  refine wpAnyH_take (i := 3) (v := ?_) rfl (by kernel_rfl) (by kernel_rfl) (by kernel_rfl) (fun _ _ _ h => h) (Or.inl ⟨by kernel_rfl, ?_⟩) (by assumption) ?_
  rotate_left 1
  · intro w hSw; (try dsimp only at hSw); go_simp; try (with_reducible rfl)
  try simp only [Act.put, List.getElem_toArray, List.getElem_cons_succ, List.getElem_cons_zero, List.setIfInBounds_toArray, List.set_cons_zero, List.set_cons_succ]
  refine wpAnyH_take (i := 5) (v := ?_) rfl (by kernel_rfl) (by kernel_rfl) (by kernel_rfl) (fun _ _ _ h => h) (Or.inl ⟨by kernel_rfl, ?_⟩) (by assumption) ?_
  rotate_left 1
  · intro w hSw; (try dsimp only at hSw); go_simp; try (with_reducible rfl)
  try simp only [Act.put, List.getElem_toArray, List.getElem_cons_succ, List.getElem_cons_zero, List.setIfInBounds_toArray, List.set_cons_zero, List.set_cons_succ]
  refine wpAnyH_ready (rs := [4]) (by kernel_rfl) (by simp) ?_
  refine AllReadyH.cons rfl (fun K hK => ?_) AllReadyH.nil
  go_simp
  refine (l7Text_c q 0 y _ hHeld.2.st HC0.out).mono ?_
  rintro e wT ⟨rfl, hbT⟩
  rw [HTX.out]
  have pT := hHeld.2.below hbT
  have hS : (fun w' => (w'.cell? ⟨q, 0, none⟩ = some (.int .i64 (y : StI).k) ∧ w'.cell? ⟨q, 1, none⟩ = some (.int .i64 (y : StI).e) ∧ w'.cell? ⟨q, 2, none⟩ = some (.int .i64 (y : StI).f) ∧ w'.cell? ⟨q, 3, none⟩ = some (.int .i64 (y : StI).s) ∧ w'.cell? ⟨q, 4, none⟩ = some (.int .i64 (y : StI).n)) ∧ PP w w' g q ws y) wT := ⟨by obtain ⟨q0, q1, q2, q3, q4⟩ := pT.st; simp only [Nat.zero_add] at q0 q1 q2 q3 q4; exact ⟨q0, q1, q2, q3, q4⟩, pT⟩
  clear r0 r1 r2 r3 r4 e0 e1 e2 e3 e4 z
  obtain ⟨z, r0, r1, r2, r3, r4⟩ := pT.rs
  simp only [Nat.zero_add] at r0 r1 r2 r3 r4
  have e0 := pT.rf 0
  have e1 := pT.rf 1
  have e2 := pT.rf 2
  have e3 := pT.rf 3
  have e4 := pT.rf 4
  have hwT : w.heap.size < wT.heap.size := by have := pT.gl; have := pT.gq; have := pT.ql; omega
  clear hbT pT
  refine hK.out _ _ hS (fun hHeld => ?_)
  clear hK K
  try simp only [Act.put, List.getElem_toArray, List.getElem_cons_succ, List.getElem_cons_zero, List.setIfInBounds_toArray, List.set_cons_zero, List.set_cons_succ]
  refine wpAnyH_take (i := 6) (v := ?_) rfl (by kernel_rfl) (by kernel_rfl) (by kernel_rfl) (fun _ _ _ h => h) (Or.inl ⟨by kernel_rfl, ?_⟩) (by assumption) ?_
  rotate_left 1
  · intro w hSw; (try dsimp only at hSw); go_simp; try (with_reducible rfl)
  try simp only [Act.put, List.getElem_toArray, List.getElem_cons_succ, List.getElem_cons_zero, List.setIfInBounds_toArray, List.set_cons_zero, List.set_cons_succ]
  refine wpAnyH_take (i := 7) (v := ?_) rfl (by kernel_rfl) (by kernel_rfl) (by kernel_rfl) (fun _ _ _ h => h) (Or.inl ⟨by kernel_rfl, ?_⟩) (by assumption) ?_
  rotate_left 1
  · intro w hSw; (try dsimp only at hSw); go_simp; try (with_reducible rfl)
  try simp only [Act.put, List.getElem_toArray, List.getElem_cons_succ, List.getElem_cons_zero, List.setIfInBounds_toArray, List.set_cons_zero, List.set_cons_succ]
  refine wpAnyH_ready (rs := [8]) (by kernel_rfl) (by simp) ?_
  refine AllReadyH.cons rfl (fun K hK => ?_) AllReadyH.nil
  go_simp
  have pS := (hHeld.2.told y).1
  have hS : (fun w' => (w'.cell? ⟨q, 0, none⟩ = some (.int .i64 (y : StI).k) ∧ w'.cell? ⟨q, 1, none⟩ = some (.int .i64 (y : StI).e) ∧ w'.cell? ⟨q, 2, none⟩ = some (.int .i64 (y : StI).f) ∧ w'.cell? ⟨q, 3, none⟩ = some (.int .i64 (y : StI).s) ∧ w'.cell? ⟨q, 4, none⟩ = some (.int .i64 (y : StI).n)) ∧ PP w w' g q ws y) (StPut wT w.heap.size 0 y) := ⟨by obtain ⟨q0, q1, q2, q3, q4⟩ := pS.st; simp only [Nat.zero_add] at q0 q1 q2 q3 q4; exact ⟨q0, q1, q2, q3, q4⟩, pS⟩
  dsimp only [StPut] at hS pS
  refine hK.out _ _ hS (fun hHeld => ?_)
  clear hK K
  try simp only [Act.put, List.getElem_toArray, List.getElem_cons_succ, List.getElem_cons_zero, List.setIfInBounds_toArray, List.set_cons_zero, List.set_cons_succ]
  refine wpAnyH_ready (rs := [9]) (by kernel_rfl) (by simp) ?_
  refine AllReadyH.cons rfl (fun K hK => ?_) AllReadyH.nil
  go_simp
  refine hK.out _ _ (by assumption) (fun hHeld => ?_)
  clear hK K
  try simp only [Act.put, List.getElem_toArray, List.getElem_cons_succ, List.getElem_cons_zero, List.setIfInBounds_toArray, List.set_cons_zero, List.set_cons_succ]
  refine wpAnyH_done (by kernel_rfl) ?_ _
  go_wp2_with fail
  refine bodyPost_ret (v := .tuple #[.agg #[.int .i64 y.k, .int .i64 y.e, .int .i64 y.f, .int .i64 y.s, .int .i64 y.n], .bool s]) (by simp [results, Tryz.results31, go_sem, r0, r1, r2, r3, r4]) rfl ⟨rfl, hS.2.bl⟩

end Go.Proofs.YtdmejfhojdkfbaaGreatDoor
