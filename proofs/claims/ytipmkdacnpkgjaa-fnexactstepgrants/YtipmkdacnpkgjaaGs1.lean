/-
  CONTRACTS on grants in results: read, marked, held against their marks, compared.
  Conditions: each contract bears its own.
-/
import Derived.Test.YtipmkdacnpkgjaaGs0
import Derived.Test.YtipmkdacnpkgjaaRol1
namespace Go.Proofs.Ytipmkdacnpkgjaa
open Go.RowKit
set_option linter.unusedVariables false
set_option linter.unusedSimpArgs false

/-- A slice of grants, read. -/
def GrV (w : World) (a : Option Addr) (zs : List GrI) : Prop := ∀ k p, zs[k]? = some p → ∃ g, a = some ⟨g, 0, none⟩ ∧ GrAt w g (k * 3) p

theorem GrV.below {w w' : World} {a : Option Addr} {zs : List GrI} (h : GrV w a zs) (hb : Below w.heap.size w w') : GrV w' a zs := fun k p e => by
  obtain ⟨g, ha, h1⟩ := h k p e
  exact ⟨g, ha, h1.below hb (World.block_lt_of_cell? w ⟨g, k * 3, none⟩ h1.1)⟩

theorem GrV.kept {w w' : World} {a : Option Addr} {zs : List GrI} {row : Option Nat} (h : GrV w a zs) (hg : w.grownBy w' row) (hne : ∀ g, a = some ⟨g, 0, none⟩ → some g ≠ row) : GrV w' a zs := fun k p e => by
  obtain ⟨g, ha, h1, h2, h3⟩ := h k p e
  exact ⟨g, ha, hg.cell h1 (hne g ha), hg.cell h2 (hne g ha), hg.cell h3 (hne g ha)⟩

theorem GrV.grIn {w : World} {a : Option Addr} {n : Nat} {zs : List GrI} (hn : zs.length = n) (h : GrV w a zs) : GrIn w a n zs := by
  refine ⟨hn, fun hp => ?_⟩
  obtain ⟨g, ha, _⟩ := h 0 _ (List.getElem?_eq_getElem (by omega))
  refine ⟨g, 0, ha, fun k x e => ?_⟩
  obtain ⟨g', ha', hx⟩ := h k x e
  rw [ha] at ha'
  cases ha'
  rw [Nat.zero_add]
  exact hx

theorem Own3.view {w : World} {B : Nat} {a : Option Addr} {n cap : Nat} {zs : List GrI} (h : Own3 w B (.slice a n cap) zs) : GrV w a zs := by
  intro k p e
  have hk : k < zs.length := by
    by_cases q : k < zs.length
    · exact q
    · rw [List.getElem?_eq_none (by omega)] at e; cases e
  have h0 : w.ownsRow B 37 3 (.slice a n cap) zs.length (flat3 zs) := h
  rcases h0.2 with ⟨h', h''⟩ | ⟨g, cap', cur, h', _⟩
  · omega
  · simp at h'
    obtain ⟨rfl, rfl, rfl⟩ := h'
    obtain ⟨f1, f2, f3⟩ := flat3_at zs k p e
    refine ⟨g, rfl, ?_, ?_, ?_⟩
    · rw [h0.cellAt (k * 3) (by omega)]; exact f1
    · rw [h0.cellAt (k * 3 + 1) (by omega)]; exact f2
    · rw [h0.cellAt (k * 3 + 2) (by omega)]; exact f3

theorem Own3.form {w : World} {B : Nat} {v : Value} {zs : List GrI} (h : Own3 w B v zs) : (v = .slice none 0 0 ∧ zs = []) ∨ ∃ g cap, v = .slice (some ⟨g, 0, none⟩) zs.length cap ∧ B ≤ g ∧ g < w.heap.size ∧ zs.length ≤ cap ∧ cap ≤ maxLen := by
  have h0 : w.ownsRow B 37 3 v zs.length (flat3 zs) := h
  rcases h0.2 with ⟨h', h''⟩ | ⟨g, cap', cur, h', hb, hg, hc, hm, _⟩
  · exact .inl ⟨h', List.length_eq_zero_iff.1 h''⟩
  · exact .inr ⟨g, cap', h', hb, (Array.getElem?_eq_some_iff.1 hg).1, hc, hm⟩

theorem Own3.slice {w : World} {B : Nat} {v : Value} {zs : List GrI} (h : Own3 w B v zs) : ∃ a cap, v = .slice a zs.length cap := by
  rcases h.form with ⟨rfl, rfl⟩ | ⟨g, cap, rfl, _⟩
  · exact ⟨none, 0, rfl⟩
  · exact ⟨_, _, rfl⟩

theorem Own3.alloc {w : World} {B : Nat} {v : Value} {zs : List GrI} (h : Own3 w B v zs) (o : Obj) : Own3 (w.alloc o) B v zs := World.ownsRow.alloc h o

/-- The marks of n grants. -/
def mk3 (n : Nat) : List GrI := (List.range n).map fun j => ((((1 + 3 * j : Nat) : Int), ((2 + 3 * j : Nat) : Int)), ((3 + 3 * j : Nat) : Int))
theorem mk3_len (n : Nat) : (mk3 n).length = n := by simp [mk3]
theorem mk3_at (n j : Nat) (h : j < n) : (mk3 n)[j]? = some ((((1 + 3 * j : Nat) : Int), ((2 + 3 * j : Nat) : Int)), ((3 + 3 * j : Nat) : Int)) := by simp [mk3, h]

theorem flat3_set (a : List GrI) (k : Nat) (p : GrI) : flat3 (a.set k p) = (((flat3 a).set (k * 3) (.int .i64 p.1.1)).set (k * 3 + 1) (.int .i64 p.1.2)).set (k * 3 + 2) (.int .i64 p.2) := by
  induction a generalizing k with
  | nil => simp [flat3]
  | cons q qs ih =>
    cases k with
    | zero => simp [flat3]
    | succ k =>
      rw [show (k + 1) * 3 = k * 3 + 1 + 1 + 1 by omega]
      simp [flat3, ih]

theorem Own3.put {w : World} {B g cap : Nat} {zs : List GrI} {n : Nat} (hn : n = zs.length) (h : Own3 w B (.slice (some ⟨g, 0, none⟩) n cap) zs) (j : Nat) (p : GrI) :
    Own3 (((w.setCell ⟨g, j * 3, none⟩ (.int .i64 p.1.1)).setCell ⟨g, j * 3 + 1, none⟩ (.int .i64 p.1.2)).setCell ⟨g, j * 3 + 2, none⟩ (.int .i64 p.2)) B (.slice (some ⟨g, 0, none⟩) n cap) (zs.set j p) ∧ w.grownBy (((w.setCell ⟨g, j * 3, none⟩ (.int .i64 p.1.1)).setCell ⟨g, j * 3 + 1, none⟩ (.int .i64 p.1.2)).setCell ⟨g, j * 3 + 2, none⟩ (.int .i64 p.2)) (some g) := by
  subst hn
  have h0 : w.ownsRow B 37 3 (.slice (some ⟨g, 0, none⟩) zs.length cap) zs.length (flat3 zs) := h
  have h1 := h0.stored (j * 3) (.int .i64 p.1.1)
  have h2 := h1.1.stored (j * 3 + 1) (.int .i64 p.1.2)
  have h3 := h2.1.stored (j * 3 + 2) (.int .i64 p.2)
  refine ⟨?_, grown_tr (grown_tr h1.2 h2.2) h3.2⟩
  show World.ownsRow _ B 37 3 _ (zs.set j p).length (flat3 (zs.set j p))
  rw [flat3_set, List.length_set]
  exact h3.1

theorem Own3.cell {w : World} {B g cap : Nat} {zs : List GrI} {n : Nat} (hn : n = zs.length) (h : Own3 w B (.slice (some ⟨g, 0, none⟩) n cap) zs) (j : Nat) (hj : j < n * 3) : (∃ v, w.cell? ⟨g, j, none⟩ = some v) ∧ w.frozen? ⟨g, j, none⟩ = false := by
  subst hn
  have h0 : w.ownsRow B 37 3 (.slice (some ⟨g, 0, none⟩) zs.length cap) zs.length (flat3 zs) := h
  exact ⟨⟨_, (h0.cellAt j hj).trans (List.getElem?_eq_getElem (by rw [flat3_len]; exact hj))⟩, h0.frozenAt j⟩

set_option maxHeartbeats 1000000 in
theorem markGrants_c (B : Nat) (a : Option Addr) (n cap : Nat) (zs : List GrI) (w : World) (hz : n = zs.length) (hn : n ≤ 1048576) (h : Own3 w B (.slice a n cap) zs) :
    Calls Try.prog 32 #[.slice a n cap, .int .i64 1] w fun e w' => e = .returned (.int .i64 (1 + 3 * (n : Int))) ∧ Own3 w' B (.slice a n cap) (mk3 n) ∧ w.grownBy w' (Value.slice a n cap).ownBlock := by
  have HO : Hid (Own3 w B (.slice a n cap) zs) := h
  have HZ : Hid (n = zs.length) := hz
  clear h hz
  have hn' : (n : Int) ≤ 1048576 := by omega
  go_enter Try.func32, Try.ntmps32
  go_wp2
  go_loopw [1, 5] (fun q i wr => ∃ (j : Nat) (es : List GrI), j ≤ n ∧ i = .int .i64 (j : Int) ∧ q = .int .i64 (1 + 3 * (j : Int)) ∧ n = es.length ∧ Own3 wr B (.slice a n cap) es ∧ (∀ m, m < j → es[m]? = some ((((1 + 3 * m : Nat) : Int), ((2 + 3 * m : Nat) : Int)), ((3 + 3 * m : Nat) : Int))) ∧ w.grownBy wr (Value.slice a n cap).ownBlock)
    (fun _ i _ => n - (intOf i).toNat)
  case atStart => exact ⟨0, zs, Nat.zero_le _, rfl, rfl, HZ.out, HO.out, fun m hm => by omega, grown_refl _ _⟩
  case round =>
    obtain ⟨j, es, hj, rfl, rfl, hes, hown, hys, hgr⟩ := hrel
    have HE : Hid (n = es.length) := hes
    clear hes
    by_cases hlt : j < n
    · obtain ⟨g, ha⟩ : ∃ g, a = some ⟨g, 0, none⟩ := by
        rcases hown.form with ⟨h1, h2⟩ | ⟨g, cap', h1, _⟩
        · have := HE.out; rw [h2] at this; simp at this; omega
        · simp at h1; exact ⟨g, h1.1⟩
      subst ha
      obtain ⟨⟨v0, c0⟩, f0⟩ := hown.cell HE.out (j * 3) (by omega)
      obtain ⟨⟨v1, c1⟩, f1⟩ := hown.cell HE.out (j * 3 + 1) (by omega)
      obtain ⟨⟨v2, c2⟩, f2⟩ := hown.cell HE.out (j * 3 + 2) (by omega)
      have hst := hown.put HE.out j ((1 + 3 * (j : Int), 1 + 3 * (j : Int) + 1), 1 + 3 * (j : Int) + 1 + 1)
      have R : Hid (Own3 (((wr.setCell ⟨g, j * 3, none⟩ (.int .i64 (1 + 3 * (j : Int)))).setCell ⟨g, j * 3 + 1, none⟩ (.int .i64 (1 + 3 * (j : Int) + 1))).setCell ⟨g, j * 3 + 2, none⟩ (.int .i64 (1 + 3 * (j : Int) + 1 + 1))) B (.slice (some ⟨g, 0, none⟩) n cap) (es.set j ((1 + 3 * (j : Int), 1 + 3 * (j : Int) + 1), 1 + 3 * (j : Int) + 1 + 1)) ∧ (∀ m, m < j + 1 → (es.set j ((1 + 3 * (j : Int), 1 + 3 * (j : Int) + 1), 1 + 3 * (j : Int) + 1 + 1))[m]? = some ((((1 + 3 * m : Nat) : Int), ((2 + 3 * m : Nat) : Int)), ((3 + 3 * m : Nat) : Int))) ∧ w.grownBy (((wr.setCell ⟨g, j * 3, none⟩ (.int .i64 (1 + 3 * (j : Int)))).setCell ⟨g, j * 3 + 1, none⟩ (.int .i64 (1 + 3 * (j : Int) + 1))).setCell ⟨g, j * 3 + 2, none⟩ (.int .i64 (1 + 3 * (j : Int) + 1 + 1))) (some g)) := by
        refine ⟨hst.1, fun m hm => ?_, grown_tr hgr hst.2⟩
        have := HE.out
        by_cases e : m = j
        · subst e; rw [List.getElem?_set_self (by omega)]; congr 1; refine Prod.ext (Prod.ext ?_ ?_) ?_ <;> simp <;> omega
        · rw [List.getElem?_set_ne (by omega)]; exact hys m (by omega)
      clear hst hown hys hgr
      have hlt' : (j : Int) < (n : Int) := by omega
      go_wp2
      refine ⟨⟨j + 1, _, by omega, by go_num, ?_, by rw [List.length_set]; exact HE.out, R.out.1, R.out.2.1, R.out.2.2⟩, by simp [intOf]; omega⟩
      congr 1
    · have hjn : j = n := by omega
      subst hjn
      have E : es = mk3 j := by
        have := HE.out
        apply List.ext_getElem?
        intro i
        by_cases hi : i < j
        · rw [hys i hi, mk3_at j i hi]
        · rw [List.getElem?_eq_none (by omega), List.getElem?_eq_none (by rw [mk3_len]; omega)]
      rw [E] at hown
      go_wp2
      go_ret
      exact ⟨rfl, hown, hgr⟩

set_option maxHeartbeats 1000000 in
theorem heldGrants_c (a : Option Addr) (n cap : Nat) (w : World) (hn : n ≤ 1048576) (h : GrV w a (mk3 n)) :
    Calls Try.prog 61 #[.slice a n cap, .int .i64 1] w fun e w' => e = .returned (.int .i64 (1 + 3 * (n : Int))) ∧ w = w' := by
  have HR : Hid (GrV w a (mk3 n)) := h
  clear h
  have hn' : (n : Int) ≤ 1048576 := by omega
  go_enter Try.func61, Try.ntmps61
  go_wp2
  go_loop [1, 5] (fun q i => ∃ (j : Nat), j ≤ n ∧ i = .int .i64 (j : Int) ∧ q = .int .i64 (1 + 3 * (j : Int))) (fun _ i => n - (intOf i).toNat)
  case atStart => exact ⟨0, Nat.zero_le _, rfl, rfl⟩
  case round =>
    obtain ⟨j, hj, rfl, rfl⟩ := hrel
    by_cases hlt : j < n
    · obtain ⟨g, ha, c0, c1, c2⟩ := HR.out j _ (mk3_at n j hlt)
      subst ha
      simp only [show ((1 + 3 * j : Nat) : Int) = 1 + 3 * (j : Int) from by omega, show ((2 + 3 * j : Nat) : Int) = 1 + 3 * (j : Int) + 1 from by omega, show ((3 + 3 * j : Nat) : Int) = 1 + 3 * (j : Int) + 1 + 1 from by omega] at c0 c1 c2
      have hlt' : (j : Int) < (n : Int) := by omega
      go_wp2
      refine ⟨⟨j + 1, by omega, by go_num, ?_⟩, by simp [intOf]; omega⟩
      congr 1
    · have hjn : j = n := by omega
      subst hjn
      go_wp2
      go_ret
      exact ⟨rfl, rfl⟩

set_option maxHeartbeats 400000 in
theorem markGR_c (c : Int) (B : Nat) (a : Option Addr) (n cap : Nat) (zs : List GrI) (w : World) (hz : n = zs.length) (hn : n ≤ 1048576) (h : Own3 w B (.slice a n cap) zs) :
    Calls Try.prog 27 #[.agg #[.int .i64 c, .slice a n cap], .int .i64 1] w fun e w' => e = .returned (.int .i64 (1 + 3 * (n : Int))) ∧ Own3 w' B (.slice a n cap) (mk3 n) ∧ w.grownBy w' (Value.slice a n cap).ownBlock := by
  have HO : Hid (Own3 (w.alloc (.cells #[.int .i64 c, .slice a n cap] 29)) B (.slice a n cap) zs) := h.alloc _
  have HZ : Hid (n = zs.length) := hz
  clear h hz
  go_enter Try.func27, Try.ntmps27
  go_wp2_with (go_at_call 32; refine (markGrants_c B a n cap zs _ HZ.out hn HO.out).mono ?_; rintro e w1 ⟨rfl, hown1, hg1⟩)
  go_ret
  exact ⟨rfl, hown1, ⟨hg1.os, hg1.tape, hg1.output, Nat.le_trans (by simp) hg1.size, fun q hq hne => (hg1.block q (by simp; omega) hne).trans (Below.heap_alloc w _ q hq)⟩⟩

set_option maxHeartbeats 400000 in
theorem heldGR_c (c : Int) (a : Option Addr) (n cap : Nat) (w : World) (hn : n ≤ 1048576) (h : GrV w a (mk3 n)) :
    Calls Try.prog 28 #[.agg #[.int .i64 c, .slice a n cap], .int .i64 1] w fun e w' => e = .returned (.int .i64 (1 + 3 * (n : Int))) ∧ Below w.heap.size w w' := by
  have HR : Hid (GrV (w.alloc (.cells #[.int .i64 c, .slice a n cap] 29)) a (mk3 n)) := h.below ((Below.refl _ _).alloc (Nat.le_refl _) _)
  clear h
  have hlt : decide ((1 : Int) + 3 * (n : Int) < 0) = false := by simp; omega
  go_enter Try.func28, Try.ntmps28
  go_wp2_with (go_at_call 61; refine (heldGrants_c a n cap _ hn HR.out).mono ?_; rintro e w1 ⟨rfl, rfl⟩)
  go_ret
  exact ⟨rfl, (Below.refl _ _).alloc (Nat.le_refl _) _⟩

set_option maxHeartbeats 400000 in
theorem eqGR_c (c : Int) (a b : Option Addr) (n ca cb : Nat) (zs : List GrI) (w : World) (hz : zs.length = n) (hn : n ≤ 1048576) (ha : GrV w a zs) (hb : GrV w b zs) :
    Calls Try.prog 25 #[.agg #[.int .i64 c, .slice a n ca], .agg #[.int .i64 c, .slice b n cb]] w fun e w' => e = .returned (.bool true) ∧ Below w.heap.size w w' := by
  have A2 : Below w.heap.size w ((w.alloc (.cells #[.int .i64 c, .slice a n ca] 29)).alloc (.cells #[.int .i64 c, .slice b n cb] 29)) := ((Below.refl _ _).alloc (Nat.le_refl _) _).alloc (by simp) _
  have HA : Hid (GrIn ((w.alloc (.cells #[.int .i64 c, .slice a n ca] 29)).alloc (.cells #[.int .i64 c, .slice b n cb] 29)) a n zs) := (ha.below A2).grIn hz
  have HB : Hid (GrIn ((w.alloc (.cells #[.int .i64 c, .slice a n ca] 29)).alloc (.cells #[.int .i64 c, .slice b n cb] 29)) b n zs) := (hb.below A2).grIn hz
  have HA2 : Hid (Below w.heap.size w ((w.alloc (.cells #[.int .i64 c, .slice a n ca] 29)).alloc (.cells #[.int .i64 c, .slice b n cb] 29))) := A2
  clear ha hb A2
  go_enter Try.func25, Try.ntmps25
  go_wp2_with fail
  refine (eqGrants_same a b n ca cb zs _ hn HA.out HB.out).mono ?_
  rintro e w1 ⟨rfl, hb1⟩
  go_wp2
  go_ret
  exact ⟨rfl, HA2.out.trans (hb1.mono (by simp; omega))⟩

end Go.Proofs.Ytipmkdacnpkgjaa
