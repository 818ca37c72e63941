/-
  CONTRACTS: impl.statementIn.
  Conditions: the variables hold what they should; the text has at most 1<<20 bytes.
-/
import Derived.Test.YtdmejfhojdkfbaaGreatDoorPs1
import Derived.Test.YtdmejfhojdkfbaaGreatDoorPs3
import Derived.Lib.SplitLaws
namespace Go.Proofs.YtdmejfhojdkfbaaGreatDoor
open Go.RowKit
set_option linter.unusedVariables false
set_option linter.unusedSimpArgs false

theorem fldTX (x : Int) (y : ByteArray) (w : World) : (Instr.field 31 (.agg #[.int .i64 x, .string y]) 1).run Tryz.prog w = .ok (.string y) w := by kernel_rfl
attribute [local go_sem ↓] fldTX

theorem PP.put1 {w W : World} {g q : Nat} {ws : List ByteArray} {y : StI} (h : PP w W g q ws y) (k : Int) : PP w (W.setCell ⟨q, 1, none⟩ (.int .i64 k)) g q ws ⟨y.k, k, y.f, y.s, y.n⟩ := by
  obtain ⟨u, hu⟩ := h.rs
  have hl := h.gl
  have hg := h.gq
  have hq := h.ql
  have other : ∀ b o, b ≠ q → (W.setCell ⟨q, 1, none⟩ (.int .i64 k)).cell? ⟨b, o, none⟩ = W.cell? ⟨b, o, none⟩ := fun b o hb => World.cell?_setCell_other _ _ _ _ (fun e => by have e2 := congrArg Addr.block e; simp only at e2; omega)
  obtain ⟨u0, u1, u2, u3, u4⟩ := hu
  obtain ⟨s0, s1, s2, s3, s4⟩ := h.st
  refine ⟨h.bl.setCell (by show w.heap.size ≤ q; omega) _, fun j x e => (other g j (by omega)).trans (h.wd j x e), ?_, fun j => by simp only [World.frozen?_setCell]; exact h.sf j, ⟨u, (other _ _ (by omega)).trans u0, (other _ _ (by omega)).trans u1, (other _ _ (by omega)).trans u2, (other _ _ (by omega)).trans u3, (other _ _ (by omega)).trans u4⟩, fun j => by simp only [World.frozen?_setCell]; exact h.rf j, hl, hg, by simp only [World.size_setCell]; exact hq⟩
  simp only [Nat.zero_add] at s0 s1 s2 s3 s4
  refine ⟨?_, ?_, ?_, ?_, ?_⟩ <;> simp [go_sem, s0, s1, s2, s3, s4]

theorem PP.put2 {w W : World} {g q : Nat} {ws : List ByteArray} {y : StI} (h : PP w W g q ws y) (k : Int) : PP w (W.setCell ⟨q, 2, none⟩ (.int .i64 k)) g q ws ⟨y.k, y.e, k, y.s, y.n⟩ := by
  obtain ⟨u, hu⟩ := h.rs
  have hl := h.gl
  have hg := h.gq
  have hq := h.ql
  have other : ∀ b o, b ≠ q → (W.setCell ⟨q, 2, none⟩ (.int .i64 k)).cell? ⟨b, o, none⟩ = W.cell? ⟨b, o, none⟩ := fun b o hb => World.cell?_setCell_other _ _ _ _ (fun e => by have e2 := congrArg Addr.block e; simp only at e2; omega)
  obtain ⟨u0, u1, u2, u3, u4⟩ := hu
  obtain ⟨s0, s1, s2, s3, s4⟩ := h.st
  refine ⟨h.bl.setCell (by show w.heap.size ≤ q; omega) _, fun j x e => (other g j (by omega)).trans (h.wd j x e), ?_, fun j => by simp only [World.frozen?_setCell]; exact h.sf j, ⟨u, (other _ _ (by omega)).trans u0, (other _ _ (by omega)).trans u1, (other _ _ (by omega)).trans u2, (other _ _ (by omega)).trans u3, (other _ _ (by omega)).trans u4⟩, fun j => by simp only [World.frozen?_setCell]; exact h.rf j, hl, hg, by simp only [World.size_setCell]; exact hq⟩
  simp only [Nat.zero_add] at s0 s1 s2 s3 s4
  refine ⟨?_, ?_, ?_, ?_, ?_⟩ <;> simp [go_sem, s0, s1, s2, s3, s4]

theorem PP.put3 {w W : World} {g q : Nat} {ws : List ByteArray} {y : StI} (h : PP w W g q ws y) (k : Int) : PP w (W.setCell ⟨q, 3, none⟩ (.int .i64 k)) g q ws ⟨y.k, y.e, y.f, k, y.n⟩ := by
  obtain ⟨u, hu⟩ := h.rs
  have hl := h.gl
  have hg := h.gq
  have hq := h.ql
  have other : ∀ b o, b ≠ q → (W.setCell ⟨q, 3, none⟩ (.int .i64 k)).cell? ⟨b, o, none⟩ = W.cell? ⟨b, o, none⟩ := fun b o hb => World.cell?_setCell_other _ _ _ _ (fun e => by have e2 := congrArg Addr.block e; simp only at e2; omega)
  obtain ⟨u0, u1, u2, u3, u4⟩ := hu
  obtain ⟨s0, s1, s2, s3, s4⟩ := h.st
  refine ⟨h.bl.setCell (by show w.heap.size ≤ q; omega) _, fun j x e => (other g j (by omega)).trans (h.wd j x e), ?_, fun j => by simp only [World.frozen?_setCell]; exact h.sf j, ⟨u, (other _ _ (by omega)).trans u0, (other _ _ (by omega)).trans u1, (other _ _ (by omega)).trans u2, (other _ _ (by omega)).trans u3, (other _ _ (by omega)).trans u4⟩, fun j => by simp only [World.frozen?_setCell]; exact h.rf j, hl, hg, by simp only [World.size_setCell]; exact hq⟩
  simp only [Nat.zero_add] at s0 s1 s2 s3 s4
  refine ⟨?_, ?_, ?_, ?_, ?_⟩ <;> simp [go_sem, s0, s1, s2, s3, s4]

theorem PP.put4 {w W : World} {g q : Nat} {ws : List ByteArray} {y : StI} (h : PP w W g q ws y) (k : Int) : PP w (W.setCell ⟨q, 4, none⟩ (.int .i64 k)) g q ws ⟨y.k, y.e, y.f, y.s, k⟩ := by
  obtain ⟨u, hu⟩ := h.rs
  have hl := h.gl
  have hg := h.gq
  have hq := h.ql
  have other : ∀ b o, b ≠ q → (W.setCell ⟨q, 4, none⟩ (.int .i64 k)).cell? ⟨b, o, none⟩ = W.cell? ⟨b, o, none⟩ := fun b o hb => World.cell?_setCell_other _ _ _ _ (fun e => by have e2 := congrArg Addr.block e; simp only at e2; omega)
  obtain ⟨u0, u1, u2, u3, u4⟩ := hu
  obtain ⟨s0, s1, s2, s3, s4⟩ := h.st
  refine ⟨h.bl.setCell (by show w.heap.size ≤ q; omega) _, fun j x e => (other g j (by omega)).trans (h.wd j x e), ?_, fun j => by simp only [World.frozen?_setCell]; exact h.sf j, ⟨u, (other _ _ (by omega)).trans u0, (other _ _ (by omega)).trans u1, (other _ _ (by omega)).trans u2, (other _ _ (by omega)).trans u3, (other _ _ (by omega)).trans u4⟩, fun j => by simp only [World.frozen?_setCell]; exact h.rf j, hl, hg, by simp only [World.size_setCell]; exact hq⟩
  simp only [Nat.zero_add] at s0 s1 s2 s3 s4
  refine ⟨?_, ?_, ?_, ?_, ?_⟩ <;> simp [go_sem, s0, s1, s2, s3, s4]

/-- The words that SplitN tells. -/
def spW (t : ByteArray) : List ByteArray := Lib.splitB ⟨#[32]⟩ 0 (min 5 (t.size + 1) - 1) t

theorem split_c (t : ByteArray) (w : World) (ht : t.size ≤ 1048576) (hm : ∃ m, w.cell? ⟨2, 0, none⟩ = some (.int .i64 m)) :
    Calls Tryz.prog 47 #[.string t, .string ⟨#[32]⟩, .int .i64 5] w fun e w' => ∃ g cap, e = .returned (.slice (some ⟨g, 0, none⟩) (spW t).length cap) ∧ (∀ (k : Nat) (x : ByteArray), (spW t)[k]? = some x → w'.cell? ⟨g, k, none⟩ = some (.string x)) ∧ (w.heap.size ≤ g ∧ g < w'.heap.size) ∧ Below w.heap.size w w' := by
  obtain ⟨m, hm⟩ := hm
  refine (Tryz.strings_SplitN t ⟨#[32]⟩ 5 m w (by omega) hm (by decide) (by omega) (by omega)).mono ?_
  rintro e w' ⟨rfl, rfl⟩
  refine ⟨w.heap.size, _, rfl, fun k x hx => ?_, ⟨Nat.le_refl _, by simp⟩, (Below.refl _ _).alloc (Nat.le_refl _) _⟩
  have hk : k < (spW t).length := by
    by_cases q : k < (spW t).length
    · exact q
    · rw [List.getElem?_eq_none (by omega)] at hx; cases hx
  have hc : (Lib.cellsOf (spW t) (min 5 (t.size + 1)))[k]? = some (.string x) := by
    unfold Lib.cellsOf
    rw [List.getElem?_toArray, List.getElem?_append_left (by rw [List.length_map]; exact hk), List.getElem?_map, hx]
    rfl
  show (w.alloc (.cells (Lib.cellsOf (spW t) (min 5 (t.size + 1))) _)).cell? _ = _
  rw [show (w.alloc (.cells (Lib.cellsOf (spW t) (min 5 (t.size + 1))) 9)).cell? ⟨w.heap.size, k, none⟩ = (Lib.cellsOf (spW t) (min 5 (t.size + 1)))[k]? by simp]
  exact hc

theorem spW_size (t : ByteArray) : ∀ (k : Nat) (x : ByteArray), (spW t)[k]? = some x → x.size ≤ t.size := by
  have key : ∀ (k : Nat) (s : ByteArray), ∀ x ∈ Lib.splitB ⟨#[32]⟩ 0 k s, x.size ≤ s.size := by
    intro k
    induction k with
    | zero => intro s x hx; rw [Lib.splitB_zero, List.mem_singleton] at hx; rw [hx]; exact Nat.le_refl _
    | succ k ih =>
      intro s x hx
      unfold Lib.splitB at hx
      split at hx
      · rw [List.mem_singleton] at hx; rw [hx]; exact Nat.le_refl _
      · rcases List.mem_cons.1 hx with rfl | hx
        · rw [ByteArray.size_extract]; omega
        · have := ih _ x hx
          rw [ByteArray.size_extract] at this
          omega
  intro k x hx
  exact key _ _ x (List.mem_of_getElem? hx)

set_option maxRecDepth 20000 in
set_option maxHeartbeats 1000000 in
theorem statementIn_kind (t : ByteArray) (w : World) (ht : t.size ≤ 1048576) (hE : PE w) (a : ByteArray) (hA : (spW t)[0]? = some a) (hno : ∀ k : Int, 1 ≤ k → k ≤ 4 → swT k ≠ a) :
    Calls Tryz.prog 25 #[.string t] w fun e w' => Panics e ∧ Below w.heap.size w w' := by
  obtain ⟨W, hW⟩ : ∃ W, W = w.alloc (.cells #[.int .i64 0, .int .i64 0, .int .i64 0, .int .i64 0, .int .i64 0] 26) := ⟨_, rfl⟩
  have HW : Hid (W = w.alloc (.cells #[.int .i64 0, .int .i64 0, .int .i64 0, .int .i64 0, .int .i64 0] 26)) := hW
  have B0 : Below w.heap.size w W := by rw [hW]; exact (Below.refl _ _).alloc (Nat.le_refl _) _
  have zW : W.heap.size = w.heap.size + 1 := by rw [hW]; simp
  have X0 : Hid (StAt W w.heap.size 0 ⟨0, 0, 0, 0, 0⟩ ∧ ∀ j, W.frozen? ⟨w.heap.size, j, none⟩ = false) := by rw [hW]; exact ⟨by simp [StAt], fun j => by simp [go_sem]⟩
  have HE : Hid (∀ w2, Below w.heap.size w w2 → PE w2) := fun w2 hb => hE.below hb
  have HSZ : Hid (∀ (k : Nat) (x : ByteArray), (spW t)[k]? = some x → x.size ≤ 1048576) := fun k x e => Nat.le_trans (spW_size t k x e) ht
  obtain ⟨ws, hws⟩ : ∃ ws, spW t = ws := ⟨_, rfl⟩
  have HL : Hid (Calls Tryz.prog 47 #[.string t, .string ⟨#[32]⟩, .int .i64 5] W fun e w' => ∃ g cap, e = .returned (.slice (some ⟨g, 0, none⟩) ws.length cap) ∧ (∀ (k : Nat) (x : ByteArray), ws[k]? = some x → w'.cell? ⟨g, k, none⟩ = some (.string x)) ∧ (W.heap.size ≤ g ∧ g < w'.heap.size) ∧ Below W.heap.size W w') := by
    have := split_c t W ht (HE.out W B0).ml
    rw [hws] at this
    exact this
  rw [hws] at HSZ hA
  have HA : Hid (ws[0]? = some a) := hA
  have h0l : 0 < ws.length := by
    by_cases q : 0 < ws.length
    · exact q
    · rw [List.getElem?_eq_none (by omega)] at hA; cases hA
  have h0l' : (0 : Int) < (ws.length : Int) := by omega
  have HKI : Hid (∀ w2, Below w.heap.size w w2 → Calls Tryz.prog 48 #[.string a] w2 fun e w' => Panics e ∧ Below w2.heap.size w2 w') := fun w2 hb => kindIn_bad a w2 (HE.out w2 hb).eu hno
  clear hW hE hA
  go_enter Tryz.func25, Tryz.ntmps25
  go_wp2_with fail
  rw [← HW.out]
  refine HL.out.mono ?_
  rintro e w1 ⟨g, cap, rfl, hwd, hg1, hb1⟩
  have x0 := hwd 0 a HA.out
  have HWD : Hid (∀ (k : Nat) (x : ByteArray), ws[k]? = some x → w1.cell? ⟨g, k, none⟩ = some (.string x)) := hwd
  have hgw := hg1.2
  have B1 : Hid (Below w.heap.size w w1) := B0.trans (hb1.mono B0.size)
  have hnp : ws.length ≤ cap ∨ True := .inr trivial
  clear hwd
  go_wp2_with fail
  refine (HKI.out _ B1.out).mono ?_
  rintro e wP ⟨⟨u, pv, rfl⟩, hbP⟩
  go_wp2_with fail
  exact ⟨rfl, ⟨_, _, rfl⟩, B1.out.trans (hbP.mono B1.out.size)⟩

set_option maxRecDepth 20000 in
set_option maxHeartbeats 1000000 in
theorem statementIn_form_len (t : ByteArray) (w : World) (ht : t.size ≤ 1048576) (hE : PE w) (a : ByteArray) (hA : (spW t)[0]? = some a) (k : Int) (hk1 : 1 ≤ k) (hk4 : k ≤ 4) (hka : swT k = a) (hf : formK k = true) (hl : (spW t).length ≠ 4) :
    Calls Tryz.prog 25 #[.string t] w fun e w' => Panics e ∧ Below w.heap.size w w' := by
  obtain ⟨W, hW⟩ : ∃ W, W = w.alloc (.cells #[.int .i64 0, .int .i64 0, .int .i64 0, .int .i64 0, .int .i64 0] 26) := ⟨_, rfl⟩
  have HW : Hid (W = w.alloc (.cells #[.int .i64 0, .int .i64 0, .int .i64 0, .int .i64 0, .int .i64 0] 26)) := hW
  have B0 : Below w.heap.size w W := by rw [hW]; exact (Below.refl _ _).alloc (Nat.le_refl _) _
  have zW : W.heap.size = w.heap.size + 1 := by rw [hW]; simp
  have X0 : Hid (StAt W w.heap.size 0 ⟨0, 0, 0, 0, 0⟩ ∧ ∀ j, W.frozen? ⟨w.heap.size, j, none⟩ = false) := by rw [hW]; exact ⟨by simp [StAt], fun j => by simp [go_sem]⟩
  have HE : Hid (∀ w2, Below w.heap.size w w2 → PE w2) := fun w2 hb => hE.below hb
  have HSZ : Hid (∀ (k : Nat) (x : ByteArray), (spW t)[k]? = some x → x.size ≤ 1048576) := fun k x e => Nat.le_trans (spW_size t k x e) ht
  obtain ⟨ws, hws⟩ : ∃ ws, spW t = ws := ⟨_, rfl⟩
  have HL : Hid (Calls Tryz.prog 47 #[.string t, .string ⟨#[32]⟩, .int .i64 5] W fun e w' => ∃ g cap, e = .returned (.slice (some ⟨g, 0, none⟩) ws.length cap) ∧ (∀ (k : Nat) (x : ByteArray), ws[k]? = some x → w'.cell? ⟨g, k, none⟩ = some (.string x)) ∧ (W.heap.size ≤ g ∧ g < w'.heap.size) ∧ Below W.heap.size W w') := by
    have := split_c t W ht (HE.out W B0).ml
    rw [hws] at this
    exact this
  rw [hws] at HSZ hA
  have HA : Hid (ws[0]? = some a) := hA
  have h0l : 0 < ws.length := by
    by_cases q : 0 < ws.length
    · exact q
    · rw [List.getElem?_eq_none (by omega)] at hA; cases hA
  have h0l' : (0 : Int) < (ws.length : Int) := by omega
  have HKI : Hid (∀ w2 : World, Calls Tryz.prog 48 #[.string a] w2 fun e w' => e = .returned (.int .i64 k) ∧ Below w2.heap.size w2 w') := fun w2 => by rw [← hka]; exact kindIn_ok k w2 hk1 hk4
  have HF : Hid (formK k = true) := hf
  clear hka hf
  rw [hws] at hl
  have hl' : ((ws.length : Int) == 4) = false := by simp; omega
  clear hl
  clear hW hE hA
  go_enter Tryz.func25, Tryz.ntmps25
  go_wp2_with fail
  rw [← HW.out]
  refine HL.out.mono ?_
  rintro e w1 ⟨g, cap, rfl, hwd, hg1, hb1⟩
  have x0 := hwd 0 a HA.out
  have HWD : Hid (∀ (k : Nat) (x : ByteArray), ws[k]? = some x → w1.cell? ⟨g, k, none⟩ = some (.string x)) := hwd
  have hgw := hg1.2
  have B1 : Hid (Below w.heap.size w w1) := B0.trans (hb1.mono B0.size)
  have hnp : ws.length ≤ cap ∨ True := .inr trivial
  clear hwd
  go_wp2_with fail
  refine (HKI.out _).mono ?_
  rintro e w2 ⟨rfl, hb2⟩
  obtain ⟨V, hV⟩ : ∃ V, V = w2.alloc (.cells #[.int .i64 k, .int .i64 0, .int .i64 0, .int .i64 0, .int .i64 0] 26) := ⟨_, rfl⟩
  have PV : Hid (PP w V g w2.heap.size ws ⟨k, 0, 0, 0, 0⟩) := by
    have A1 : Below w2.heap.size w2 V := by rw [hV]; exact (Below.refl _ _).alloc (Nat.le_refl _) _
    have hb12 : Below w1.heap.size w1 V := hb2.trans (A1.mono hb2.size)
    have hb : Below W.heap.size W V := hb1.trans (hb12.mono hb1.size)
    have hz2 := hb2.size
    exact ⟨B0.trans (hb.mono B0.size), fun j x e => (hb12.cell (p := ⟨g, j, none⟩) hg1.2).trans (HWD.out j x e), by rw [hV]; simp [StAt], fun j => by rw [hV]; simp [go_sem], ⟨_, X0.out.1.below hb (by omega)⟩, fun j => (hb.frozen (p := ⟨w.heap.size, j, none⟩) (by show w.heap.size < W.heap.size; omega)).trans (X0.out.2 j), by omega, by omega, by rw [hV]; simp⟩
  clear hb1 hb2 HL X0 B0 zW x0 hgw hg1 HWD B1 HKI
  go_upto_region 3 with fail
  rw [← hV]
  clear hV HW
  generalize w2.heap.size = q at PV ⊢
  have hgq := PV.out.gq
  have hql := PV.out.ql
  have hgV : g < V.heap.size := by omega
  obtain ⟨d0, d1, d2, d3, d4⟩ := PV.out.st
  simp only [Nat.zero_add] at d0 d1 d2 d3 d4
  have f0 := PV.out.sf 0
  have f1 := PV.out.sf 1
  have f2 := PV.out.sf 2
  have f3 := PV.out.sf 3
  have f4 := PV.out.sf 4
  go_wp2_with fail
  refine (saysForm_c k _).mono ?_
  rintro e w3 ⟨rfl, rfl⟩
  rw [HF.out]
  clear hgq hql hgV d0 d1 d2 d3 d4 f0 f1 f2 f3 f4
  go_wp2_with fail
  refine (demand_bad _ (HE.out _ PV.out.bl).eu).mono ?_
  rintro e w' ⟨⟨u, pv, rfl⟩, rfl⟩
  go_wp2_with fail
  exact ⟨rfl, ⟨_, _, rfl⟩, PV.out.bl⟩

set_option maxRecDepth 20000 in
set_option maxHeartbeats 1000000 in
theorem statementIn_next_len (t : ByteArray) (w : World) (ht : t.size ≤ 1048576) (hE : PE w) (a : ByteArray) (hA : (spW t)[0]? = some a) (k : Int) (hk1 : 1 ≤ k) (hk4 : k ≤ 4) (hka : swT k = a) (hf : formK k = false) (hl : (spW t).length ≠ 3) :
    Calls Tryz.prog 25 #[.string t] w fun e w' => Panics e ∧ Below w.heap.size w w' := by
  obtain ⟨W, hW⟩ : ∃ W, W = w.alloc (.cells #[.int .i64 0, .int .i64 0, .int .i64 0, .int .i64 0, .int .i64 0] 26) := ⟨_, rfl⟩
  have HW : Hid (W = w.alloc (.cells #[.int .i64 0, .int .i64 0, .int .i64 0, .int .i64 0, .int .i64 0] 26)) := hW
  have B0 : Below w.heap.size w W := by rw [hW]; exact (Below.refl _ _).alloc (Nat.le_refl _) _
  have zW : W.heap.size = w.heap.size + 1 := by rw [hW]; simp
  have X0 : Hid (StAt W w.heap.size 0 ⟨0, 0, 0, 0, 0⟩ ∧ ∀ j, W.frozen? ⟨w.heap.size, j, none⟩ = false) := by rw [hW]; exact ⟨by simp [StAt], fun j => by simp [go_sem]⟩
  have HE : Hid (∀ w2, Below w.heap.size w w2 → PE w2) := fun w2 hb => hE.below hb
  have HSZ : Hid (∀ (k : Nat) (x : ByteArray), (spW t)[k]? = some x → x.size ≤ 1048576) := fun k x e => Nat.le_trans (spW_size t k x e) ht
  obtain ⟨ws, hws⟩ : ∃ ws, spW t = ws := ⟨_, rfl⟩
  have HL : Hid (Calls Tryz.prog 47 #[.string t, .string ⟨#[32]⟩, .int .i64 5] W fun e w' => ∃ g cap, e = .returned (.slice (some ⟨g, 0, none⟩) ws.length cap) ∧ (∀ (k : Nat) (x : ByteArray), ws[k]? = some x → w'.cell? ⟨g, k, none⟩ = some (.string x)) ∧ (W.heap.size ≤ g ∧ g < w'.heap.size) ∧ Below W.heap.size W w') := by
    have := split_c t W ht (HE.out W B0).ml
    rw [hws] at this
    exact this
  rw [hws] at HSZ hA
  have HA : Hid (ws[0]? = some a) := hA
  have h0l : 0 < ws.length := by
    by_cases q : 0 < ws.length
    · exact q
    · rw [List.getElem?_eq_none (by omega)] at hA; cases hA
  have h0l' : (0 : Int) < (ws.length : Int) := by omega
  have HKI : Hid (∀ w2 : World, Calls Tryz.prog 48 #[.string a] w2 fun e w' => e = .returned (.int .i64 k) ∧ Below w2.heap.size w2 w') := fun w2 => by rw [← hka]; exact kindIn_ok k w2 hk1 hk4
  have HF : Hid (formK k = false) := hf
  clear hka hf
  rw [hws] at hl
  have hl' : ((ws.length : Int) == 3) = false := by simp; omega
  clear hl
  clear hW hE hA
  go_enter Tryz.func25, Tryz.ntmps25
  go_wp2_with fail
  rw [← HW.out]
  refine HL.out.mono ?_
  rintro e w1 ⟨g, cap, rfl, hwd, hg1, hb1⟩
  have x0 := hwd 0 a HA.out
  have HWD : Hid (∀ (k : Nat) (x : ByteArray), ws[k]? = some x → w1.cell? ⟨g, k, none⟩ = some (.string x)) := hwd
  have hgw := hg1.2
  have B1 : Hid (Below w.heap.size w w1) := B0.trans (hb1.mono B0.size)
  have hnp : ws.length ≤ cap ∨ True := .inr trivial
  clear hwd
  go_wp2_with fail
  refine (HKI.out _).mono ?_
  rintro e w2 ⟨rfl, hb2⟩
  obtain ⟨V, hV⟩ : ∃ V, V = w2.alloc (.cells #[.int .i64 k, .int .i64 0, .int .i64 0, .int .i64 0, .int .i64 0] 26) := ⟨_, rfl⟩
  have PV : Hid (PP w V g w2.heap.size ws ⟨k, 0, 0, 0, 0⟩) := by
    have A1 : Below w2.heap.size w2 V := by rw [hV]; exact (Below.refl _ _).alloc (Nat.le_refl _) _
    have hb12 : Below w1.heap.size w1 V := hb2.trans (A1.mono hb2.size)
    have hb : Below W.heap.size W V := hb1.trans (hb12.mono hb1.size)
    have hz2 := hb2.size
    exact ⟨B0.trans (hb.mono B0.size), fun j x e => (hb12.cell (p := ⟨g, j, none⟩) hg1.2).trans (HWD.out j x e), by rw [hV]; simp [StAt], fun j => by rw [hV]; simp [go_sem], ⟨_, X0.out.1.below hb (by omega)⟩, fun j => (hb.frozen (p := ⟨w.heap.size, j, none⟩) (by show w.heap.size < W.heap.size; omega)).trans (X0.out.2 j), by omega, by omega, by rw [hV]; simp⟩
  clear hb1 hb2 HL X0 B0 zW x0 hgw hg1 HWD B1 HKI
  go_upto_region 3 with fail
  rw [← hV]
  clear hV HW
  generalize w2.heap.size = q at PV ⊢
  have hgq := PV.out.gq
  have hql := PV.out.ql
  have hgV : g < V.heap.size := by omega
  obtain ⟨d0, d1, d2, d3, d4⟩ := PV.out.st
  simp only [Nat.zero_add] at d0 d1 d2 d3 d4
  have f0 := PV.out.sf 0
  have f1 := PV.out.sf 1
  have f2 := PV.out.sf 2
  have f3 := PV.out.sf 3
  have f4 := PV.out.sf 4
  go_wp2_with fail
  refine (saysForm_c k _).mono ?_
  rintro e w3 ⟨rfl, rfl⟩
  rw [HF.out]
  clear hgq hql hgV d0 d1 d2 d3 d4 f0 f1 f2 f3 f4
  go_wp2_with fail
  refine (demand_bad _ (HE.out _ PV.out.bl).eu).mono ?_
  rintro e w' ⟨⟨u, pv, rfl⟩, rfl⟩
  go_wp2_with fail
  exact ⟨rfl, ⟨_, _, rfl⟩, PV.out.bl⟩

set_option maxRecDepth 20000 in
set_option maxHeartbeats 1000000 in
theorem statementIn_form_c (t : ByteArray) (w : World) (ht : t.size ≤ 1048576) (hE : PE w) (a : ByteArray) (hA : (spW t)[0]? = some a) (k : Int) (hk1 : 1 ≤ k) (hk4 : k ≤ 4) (hka : swT k = a) (hf : formK k = true) (b c d : ByteArray) (hws4 : spW t = [a, b, c, d]) (hnc : numT c = none) :
    Calls Tryz.prog 25 #[.string t] w fun e w' => Panics e ∧ Below w.heap.size w w' := by
  obtain ⟨W, hW⟩ : ∃ W, W = w.alloc (.cells #[.int .i64 0, .int .i64 0, .int .i64 0, .int .i64 0, .int .i64 0] 26) := ⟨_, rfl⟩
  have HW : Hid (W = w.alloc (.cells #[.int .i64 0, .int .i64 0, .int .i64 0, .int .i64 0, .int .i64 0] 26)) := hW
  have B0 : Below w.heap.size w W := by rw [hW]; exact (Below.refl _ _).alloc (Nat.le_refl _) _
  have zW : W.heap.size = w.heap.size + 1 := by rw [hW]; simp
  have X0 : Hid (StAt W w.heap.size 0 ⟨0, 0, 0, 0, 0⟩ ∧ ∀ j, W.frozen? ⟨w.heap.size, j, none⟩ = false) := by rw [hW]; exact ⟨by simp [StAt], fun j => by simp [go_sem]⟩
  have HE : Hid (∀ w2, Below w.heap.size w w2 → PE w2) := fun w2 hb => hE.below hb
  have HSZ : Hid (∀ (k : Nat) (x : ByteArray), (spW t)[k]? = some x → x.size ≤ 1048576) := fun k x e => Nat.le_trans (spW_size t k x e) ht
  obtain ⟨ws, hws⟩ : ∃ ws, spW t = ws := ⟨_, rfl⟩
  have HL : Hid (Calls Tryz.prog 47 #[.string t, .string ⟨#[32]⟩, .int .i64 5] W fun e w' => ∃ g cap, e = .returned (.slice (some ⟨g, 0, none⟩) ws.length cap) ∧ (∀ (k : Nat) (x : ByteArray), ws[k]? = some x → w'.cell? ⟨g, k, none⟩ = some (.string x)) ∧ (W.heap.size ≤ g ∧ g < w'.heap.size) ∧ Below W.heap.size W w') := by
    have := split_c t W ht (HE.out W B0).ml
    rw [hws] at this
    exact this
  rw [hws] at HSZ hA
  have HA : Hid (ws[0]? = some a) := hA
  have h0l : 0 < ws.length := by
    by_cases q : 0 < ws.length
    · exact q
    · rw [List.getElem?_eq_none (by omega)] at hA; cases hA
  have h0l' : (0 : Int) < (ws.length : Int) := by omega
  have HKI : Hid (∀ w2 : World, Calls Tryz.prog 48 #[.string a] w2 fun e w' => e = .returned (.int .i64 k) ∧ Below w2.heap.size w2 w') := fun w2 => by rw [← hka]; exact kindIn_ok k w2 hk1 hk4
  have HF : Hid (formK k = true) := hf
  clear hka hf
  rw [hws] at hws4
  have HB : Hid (ws[1]? = some b) := by rw [hws4]; exact rfl
  have HC2 : Hid (ws[2]? = some c) := by rw [hws4]; exact rfl
  have HD3 : Hid (ws[3]? = some d) := by rw [hws4]; exact rfl
  have hn4 : ws.length = 4 := by rw [hws4]; rfl
  clear hws4
  have HNC : Hid (∀ w2, Below w.heap.size w w2 → Calls Tryz.prog 50 #[.string c] w2 fun e w' => Panics e ∧ Below w2.heap.size w2 w') := fun w2 hb => numberIn_bad c w2 (HSZ.out _ _ HC2.out) hnc (HE.out w2 hb)
  clear hW hE hA
  go_enter Tryz.func25, Tryz.ntmps25
  go_wp2_with fail
  rw [← HW.out]
  refine HL.out.mono ?_
  rintro e w1 ⟨g, cap, rfl, hwd, hg1, hb1⟩
  have x0 := hwd 0 a HA.out
  have HWD : Hid (∀ (k : Nat) (x : ByteArray), ws[k]? = some x → w1.cell? ⟨g, k, none⟩ = some (.string x)) := hwd
  have hgw := hg1.2
  have B1 : Hid (Below w.heap.size w w1) := B0.trans (hb1.mono B0.size)
  have hnp : ws.length ≤ cap ∨ True := .inr trivial
  clear hwd
  go_wp2_with fail
  refine (HKI.out _).mono ?_
  rintro e w2 ⟨rfl, hb2⟩
  obtain ⟨V, hV⟩ : ∃ V, V = w2.alloc (.cells #[.int .i64 k, .int .i64 0, .int .i64 0, .int .i64 0, .int .i64 0] 26) := ⟨_, rfl⟩
  have PV : Hid (PP w V g w2.heap.size ws ⟨k, 0, 0, 0, 0⟩) := by
    have A1 : Below w2.heap.size w2 V := by rw [hV]; exact (Below.refl _ _).alloc (Nat.le_refl _) _
    have hb12 : Below w1.heap.size w1 V := hb2.trans (A1.mono hb2.size)
    have hb : Below W.heap.size W V := hb1.trans (hb12.mono hb1.size)
    have hz2 := hb2.size
    exact ⟨B0.trans (hb.mono B0.size), fun j x e => (hb12.cell (p := ⟨g, j, none⟩) hg1.2).trans (HWD.out j x e), by rw [hV]; simp [StAt], fun j => by rw [hV]; simp [go_sem], ⟨_, X0.out.1.below hb (by omega)⟩, fun j => (hb.frozen (p := ⟨w.heap.size, j, none⟩) (by show w.heap.size < W.heap.size; omega)).trans (X0.out.2 j), by omega, by omega, by rw [hV]; simp⟩
  clear hb1 hb2 HL X0 B0 zW x0 hgw hg1 HWD B1 HKI
  go_upto_region 3 with fail
  rw [← hV]
  clear hV HW
  generalize w2.heap.size = q at PV ⊢
  have hgq := PV.out.gq
  have hql := PV.out.ql
  have hgV : g < V.heap.size := by omega
  obtain ⟨d0, d1, d2, d3, d4⟩ := PV.out.st
  simp only [Nat.zero_add] at d0 d1 d2 d3 d4
  have f0 := PV.out.sf 0
  have f1 := PV.out.sf 1
  have f2 := PV.out.sf 2
  have f3 := PV.out.sf 3
  have f4 := PV.out.sf 4
  go_wp2_with fail
  refine (saysForm_c k _).mono ?_
  rintro e w3 ⟨rfl, rfl⟩
  rw [HF.out]
  clear hgq hql hgV d0 d1 d2 d3 d4 f0 f1 f2 f3 f4
  go_wp2_with fail
  refine (demand_ok _).mono ?_
  rintro e w' ⟨rfl, rfl⟩
  have hgq' := PV.out.gq
  have hql' := PV.out.ql
  have hgV : g < V.heap.size := by omega
  have x2 := PV.out.wd 2 c HC2.out
  have x3 := PV.out.wd 3 d HD3.out
  go_upto_region 5 with fail
  refine wp_region_held_drew (S := fun w' => (w'.cell? ⟨g, 2, none⟩ = some (.string c) ∧ w'.cell? ⟨g, 3, none⟩ = some (.string d)) ∧ PP w w' g q ws ⟨k, 0, 0, 0, 0⟩) (by kernel_rfl) (⟨⟨x2, x3⟩, PV.out.drew⟩) (fun hHeld => ?_)
  refine wpAnyH_take (i := 0) (v := ?_) rfl (by kernel_rfl) (by kernel_rfl) (by kernel_rfl) (fun _ _ _ h => h) (Or.inl ⟨by kernel_rfl, ?_⟩) (by assumption) ?_
  rotate_left 1
  · intro w hSw; (try dsimp only at hSw); go_simp; try (with_reducible rfl)
  try simp only [Act.put, List.getElem_toArray, List.getElem_cons_succ, List.getElem_cons_zero, List.setIfInBounds_toArray, List.set_cons_zero, List.set_cons_succ]
  refine wpAnyH_take (i := 1) (v := ?_) rfl (by kernel_rfl) (by kernel_rfl) (by kernel_rfl) (fun _ _ _ h => h) (Or.inl ⟨by kernel_rfl, ?_⟩) (by assumption) ?_
  rotate_left 1
  · intro w hSw; (try dsimp only at hSw); go_simp; try (with_reducible rfl)
  try simp only [Act.put, List.getElem_toArray, List.getElem_cons_succ, List.getElem_cons_zero, List.setIfInBounds_toArray, List.set_cons_zero, List.set_cons_succ]
  refine wpAnyH_take (i := 2) (v := ?_) rfl (by kernel_rfl) (by kernel_rfl) (by kernel_rfl) (fun _ _ _ h => h) (Or.inl ⟨by kernel_rfl, ?_⟩) (by assumption) ?_
  rotate_left 1
  · intro w hSw; (try dsimp only at hSw); go_simp; try (with_reducible rfl)
  try simp only [Act.put, List.getElem_toArray, List.getElem_cons_succ, List.getElem_cons_zero, List.setIfInBounds_toArray, List.set_cons_zero, List.set_cons_succ]
  refine wpAnyH_take (i := 4) (v := ?_) rfl (by kernel_rfl) (by kernel_rfl) (by kernel_rfl) (fun _ _ _ h => h) (Or.inl ⟨by kernel_rfl, ?_⟩) (by assumption) ?_
  rotate_left 1
  · intro w hSw; (try dsimp only at hSw); go_simp; try (with_reducible rfl)
  try simp only [Act.put, List.getElem_toArray, List.getElem_cons_succ, List.getElem_cons_zero, List.setIfInBounds_toArray, List.set_cons_zero, List.set_cons_succ]
  refine wpAnyH_take (i := 5) (v := ?_) rfl (by kernel_rfl) (by kernel_rfl) (by kernel_rfl) (fun _ _ _ h => h) (Or.inl ⟨by kernel_rfl, ?_⟩) (by assumption) ?_
  rotate_left 1
  · intro w hSw; (try dsimp only at hSw); go_simp; try (with_reducible rfl)
  try simp only [Act.put, List.getElem_toArray, List.getElem_cons_succ, List.getElem_cons_zero, List.setIfInBounds_toArray, List.set_cons_zero, List.set_cons_succ]
  refine wpAnyH_take (i := 6) (v := ?_) rfl (by kernel_rfl) (by kernel_rfl) (by kernel_rfl) (fun _ _ _ h => h) (Or.inl ⟨by kernel_rfl, ?_⟩) (by assumption) ?_
  rotate_left 1
  · intro w hSw; (try dsimp only at hSw); go_simp; try (with_reducible rfl)
  try simp only [Act.put, List.getElem_toArray, List.getElem_cons_succ, List.getElem_cons_zero, List.setIfInBounds_toArray, List.set_cons_zero, List.set_cons_succ]
  refine wpAnyH_ready (rs := [3]) (by kernel_rfl) (by simp) ?_
  refine AllReadyH.cons rfl (fun K hK => ?_) AllReadyH.nil
  go_simp
  refine (HNC.out _ hHeld.2.bl).mono ?_
  rintro e wP ⟨⟨u, pv, rfl⟩, hbP⟩
  go_wp2_with fail
  exact ⟨rfl, ⟨_, _, rfl⟩, hHeld.2.bl.trans (hbP.mono hHeld.2.bl.size)⟩

set_option maxRecDepth 20000 in
set_option maxHeartbeats 1000000 in
theorem statementIn_form_d (t : ByteArray) (w : World) (ht : t.size ≤ 1048576) (hE : PE w) (a : ByteArray) (hA : (spW t)[0]? = some a) (k : Int) (hk1 : 1 ≤ k) (hk4 : k ≤ 4) (hka : swT k = a) (hf : formK k = true) (b c d : ByteArray) (hws4 : spW t = [a, b, c, d]) (vf : Int) (hnc : numT c = some vf) (hsd : setO d = none) :
    Calls Tryz.prog 25 #[.string t] w fun e w' => Panics e ∧ Below w.heap.size w w' := by
  obtain ⟨W, hW⟩ : ∃ W, W = w.alloc (.cells #[.int .i64 0, .int .i64 0, .int .i64 0, .int .i64 0, .int .i64 0] 26) := ⟨_, rfl⟩
  have HW : Hid (W = w.alloc (.cells #[.int .i64 0, .int .i64 0, .int .i64 0, .int .i64 0, .int .i64 0] 26)) := hW
  have B0 : Below w.heap.size w W := by rw [hW]; exact (Below.refl _ _).alloc (Nat.le_refl _) _
  have zW : W.heap.size = w.heap.size + 1 := by rw [hW]; simp
  have X0 : Hid (StAt W w.heap.size 0 ⟨0, 0, 0, 0, 0⟩ ∧ ∀ j, W.frozen? ⟨w.heap.size, j, none⟩ = false) := by rw [hW]; exact ⟨by simp [StAt], fun j => by simp [go_sem]⟩
  have HE : Hid (∀ w2, Below w.heap.size w w2 → PE w2) := fun w2 hb => hE.below hb
  have HSZ : Hid (∀ (k : Nat) (x : ByteArray), (spW t)[k]? = some x → x.size ≤ 1048576) := fun k x e => Nat.le_trans (spW_size t k x e) ht
  obtain ⟨ws, hws⟩ : ∃ ws, spW t = ws := ⟨_, rfl⟩
  have HL : Hid (Calls Tryz.prog 47 #[.string t, .string ⟨#[32]⟩, .int .i64 5] W fun e w' => ∃ g cap, e = .returned (.slice (some ⟨g, 0, none⟩) ws.length cap) ∧ (∀ (k : Nat) (x : ByteArray), ws[k]? = some x → w'.cell? ⟨g, k, none⟩ = some (.string x)) ∧ (W.heap.size ≤ g ∧ g < w'.heap.size) ∧ Below W.heap.size W w') := by
    have := split_c t W ht (HE.out W B0).ml
    rw [hws] at this
    exact this
  rw [hws] at HSZ hA
  have HA : Hid (ws[0]? = some a) := hA
  have h0l : 0 < ws.length := by
    by_cases q : 0 < ws.length
    · exact q
    · rw [List.getElem?_eq_none (by omega)] at hA; cases hA
  have h0l' : (0 : Int) < (ws.length : Int) := by omega
  have HKI : Hid (∀ w2 : World, Calls Tryz.prog 48 #[.string a] w2 fun e w' => e = .returned (.int .i64 k) ∧ Below w2.heap.size w2 w') := fun w2 => by rw [← hka]; exact kindIn_ok k w2 hk1 hk4
  have HF : Hid (formK k = true) := hf
  clear hka hf
  rw [hws] at hws4
  have HB : Hid (ws[1]? = some b) := by rw [hws4]; exact rfl
  have HC2 : Hid (ws[2]? = some c) := by rw [hws4]; exact rfl
  have HD3 : Hid (ws[3]? = some d) := by rw [hws4]; exact rfl
  have hn4 : ws.length = 4 := by rw [hws4]; rfl
  clear hws4
  have HNC : Hid (∀ w2, Below w.heap.size w w2 → Calls Tryz.prog 50 #[.string c] w2 fun e w' => e = .returned (.int .i64 vf) ∧ Below w2.heap.size w2 w') := fun w2 hb => numberIn_ok c vf w2 (HSZ.out _ _ HC2.out) hnc
  have HSD : Hid (∀ w2, Below w.heap.size w w2 → Calls Tryz.prog 51 #[.string d] w2 fun e w' => Panics e ∧ Below w2.heap.size w2 w') := fun w2 hb => setIn_bad d w2 (HSZ.out _ _ HD3.out) hsd (HE.out w2 hb)
  clear hW hE hA
  go_enter Tryz.func25, Tryz.ntmps25
  go_wp2_with fail
  rw [← HW.out]
  refine HL.out.mono ?_
  rintro e w1 ⟨g, cap, rfl, hwd, hg1, hb1⟩
  have x0 := hwd 0 a HA.out
  have HWD : Hid (∀ (k : Nat) (x : ByteArray), ws[k]? = some x → w1.cell? ⟨g, k, none⟩ = some (.string x)) := hwd
  have hgw := hg1.2
  have B1 : Hid (Below w.heap.size w w1) := B0.trans (hb1.mono B0.size)
  have hnp : ws.length ≤ cap ∨ True := .inr trivial
  clear hwd
  go_wp2_with fail
  refine (HKI.out _).mono ?_
  rintro e w2 ⟨rfl, hb2⟩
  obtain ⟨V, hV⟩ : ∃ V, V = w2.alloc (.cells #[.int .i64 k, .int .i64 0, .int .i64 0, .int .i64 0, .int .i64 0] 26) := ⟨_, rfl⟩
  have PV : Hid (PP w V g w2.heap.size ws ⟨k, 0, 0, 0, 0⟩) := by
    have A1 : Below w2.heap.size w2 V := by rw [hV]; exact (Below.refl _ _).alloc (Nat.le_refl _) _
    have hb12 : Below w1.heap.size w1 V := hb2.trans (A1.mono hb2.size)
    have hb : Below W.heap.size W V := hb1.trans (hb12.mono hb1.size)
    have hz2 := hb2.size
    exact ⟨B0.trans (hb.mono B0.size), fun j x e => (hb12.cell (p := ⟨g, j, none⟩) hg1.2).trans (HWD.out j x e), by rw [hV]; simp [StAt], fun j => by rw [hV]; simp [go_sem], ⟨_, X0.out.1.below hb (by omega)⟩, fun j => (hb.frozen (p := ⟨w.heap.size, j, none⟩) (by show w.heap.size < W.heap.size; omega)).trans (X0.out.2 j), by omega, by omega, by rw [hV]; simp⟩
  clear hb1 hb2 HL X0 B0 zW x0 hgw hg1 HWD B1 HKI
  go_upto_region 3 with fail
  rw [← hV]
  clear hV HW
  generalize w2.heap.size = q at PV ⊢
  have hgq := PV.out.gq
  have hql := PV.out.ql
  have hgV : g < V.heap.size := by omega
  obtain ⟨d0, d1, d2, d3, d4⟩ := PV.out.st
  simp only [Nat.zero_add] at d0 d1 d2 d3 d4
  have f0 := PV.out.sf 0
  have f1 := PV.out.sf 1
  have f2 := PV.out.sf 2
  have f3 := PV.out.sf 3
  have f4 := PV.out.sf 4
  go_wp2_with fail
  refine (saysForm_c k _).mono ?_
  rintro e w3 ⟨rfl, rfl⟩
  rw [HF.out]
  clear hgq hql hgV d0 d1 d2 d3 d4 f0 f1 f2 f3 f4
  go_wp2_with fail
  refine (demand_ok _).mono ?_
  rintro e w' ⟨rfl, rfl⟩
  have hgq' := PV.out.gq
  have hql' := PV.out.ql
  have hgV : g < V.heap.size := by omega
  have x2 := PV.out.wd 2 c HC2.out
  have x3 := PV.out.wd 3 d HD3.out
  go_upto_region 5 with fail
  refine wp_region_held_drew (S := fun w' => (w'.cell? ⟨g, 2, none⟩ = some (.string c) ∧ w'.cell? ⟨g, 3, none⟩ = some (.string d)) ∧ PP w w' g q ws ⟨k, 0, 0, 0, 0⟩) (by kernel_rfl) (⟨⟨x2, x3⟩, PV.out.drew⟩) (fun hHeld => ?_)
  refine wpAnyH_take (i := 0) (v := ?_) rfl (by kernel_rfl) (by kernel_rfl) (by kernel_rfl) (fun _ _ _ h => h) (Or.inl ⟨by kernel_rfl, ?_⟩) (by assumption) ?_
  rotate_left 1
  · intro w hSw; (try dsimp only at hSw); go_simp; try (with_reducible rfl)
  try simp only [Act.put, List.getElem_toArray, List.getElem_cons_succ, List.getElem_cons_zero, List.setIfInBounds_toArray, List.set_cons_zero, List.set_cons_succ]
  refine wpAnyH_take (i := 1) (v := ?_) rfl (by kernel_rfl) (by kernel_rfl) (by kernel_rfl) (fun _ _ _ h => h) (Or.inl ⟨by kernel_rfl, ?_⟩) (by assumption) ?_
  rotate_left 1
  · intro w hSw; (try dsimp only at hSw); go_simp; try (with_reducible rfl)
  try simp only [Act.put, List.getElem_toArray, List.getElem_cons_succ, List.getElem_cons_zero, List.setIfInBounds_toArray, List.set_cons_zero, List.set_cons_succ]
  refine wpAnyH_take (i := 2) (v := ?_) rfl (by kernel_rfl) (by kernel_rfl) (by kernel_rfl) (fun _ _ _ h => h) (Or.inl ⟨by kernel_rfl, ?_⟩) (by assumption) ?_
  rotate_left 1
  · intro w hSw; (try dsimp only at hSw); go_simp; try (with_reducible rfl)
  try simp only [Act.put, List.getElem_toArray, List.getElem_cons_succ, List.getElem_cons_zero, List.setIfInBounds_toArray, List.set_cons_zero, List.set_cons_succ]
  refine wpAnyH_take (i := 4) (v := ?_) rfl (by kernel_rfl) (by kernel_rfl) (by kernel_rfl) (fun _ _ _ h => h) (Or.inl ⟨by kernel_rfl, ?_⟩) (by assumption) ?_
  rotate_left 1
  · intro w hSw; (try dsimp only at hSw); go_simp; try (with_reducible rfl)
  try simp only [Act.put, List.getElem_toArray, List.getElem_cons_succ, List.getElem_cons_zero, List.setIfInBounds_toArray, List.set_cons_zero, List.set_cons_succ]
  refine wpAnyH_take (i := 5) (v := ?_) rfl (by kernel_rfl) (by kernel_rfl) (by kernel_rfl) (fun _ _ _ h => h) (Or.inl ⟨by kernel_rfl, ?_⟩) (by assumption) ?_
  rotate_left 1
  · intro w hSw; (try dsimp only at hSw); go_simp; try (with_reducible rfl)
  try simp only [Act.put, List.getElem_toArray, List.getElem_cons_succ, List.getElem_cons_zero, List.setIfInBounds_toArray, List.set_cons_zero, List.set_cons_succ]
  refine wpAnyH_take (i := 6) (v := ?_) rfl (by kernel_rfl) (by kernel_rfl) (by kernel_rfl) (fun _ _ _ h => h) (Or.inl ⟨by kernel_rfl, ?_⟩) (by assumption) ?_
  rotate_left 1
  · intro w hSw; (try dsimp only at hSw); go_simp; try (with_reducible rfl)
  try simp only [Act.put, List.getElem_toArray, List.getElem_cons_succ, List.getElem_cons_zero, List.setIfInBounds_toArray, List.set_cons_zero, List.set_cons_succ]
  refine wpAnyH_ready (rs := [3]) (by kernel_rfl) (by simp) ?_
  refine AllReadyH.cons rfl (fun K hK => ?_) AllReadyH.nil
  go_simp
  refine (HNC.out _ hHeld.2.bl).mono ?_
  rintro e wA ⟨rfl, hbA⟩
  have pA := hHeld.2.below hbA
  have hS : (fun w' => (w'.cell? ⟨g, 2, none⟩ = some (.string c) ∧ w'.cell? ⟨g, 3, none⟩ = some (.string d)) ∧ PP w w' g q ws ⟨k, 0, 0, 0, 0⟩) wA := ⟨⟨pA.wd 2 c HC2.out, pA.wd 3 d HD3.out⟩, pA⟩
  refine hK.out _ _ hS (fun hHeld => ?_)
  clear hK K
  try simp only [Act.put, List.getElem_toArray, List.getElem_cons_succ, List.getElem_cons_zero, List.setIfInBounds_toArray, List.set_cons_zero, List.set_cons_succ]
  refine wpAnyH_take (i := 8) (v := ?_) rfl (by kernel_rfl) (by kernel_rfl) (by kernel_rfl) (fun _ _ _ h => h) (Or.inl ⟨by kernel_rfl, ?_⟩) (by assumption) ?_
  rotate_left 1
  · intro w hSw; (try dsimp only at hSw); go_simp; try (with_reducible rfl)
  try simp only [Act.put, List.getElem_toArray, List.getElem_cons_succ, List.getElem_cons_zero, List.setIfInBounds_toArray, List.set_cons_zero, List.set_cons_succ]
  refine wpAnyH_ready (rs := [7]) (by kernel_rfl) (by simp) ?_
  refine AllReadyH.cons rfl (fun K hK => ?_) AllReadyH.nil
  go_simp
  refine (HSD.out _ hHeld.2.bl).mono ?_
  rintro e wP ⟨⟨u, pv, rfl⟩, hbP⟩
  go_wp2_with fail
  exact ⟨rfl, ⟨_, _, rfl⟩, hHeld.2.bl.trans (hbP.mono hHeld.2.bl.size)⟩

set_option maxRecDepth 20000 in
set_option maxHeartbeats 1000000 in
theorem statementIn_form_b (t : ByteArray) (w : World) (ht : t.size ≤ 1048576) (hE : PE w) (a : ByteArray) (hA : (spW t)[0]? = some a) (k : Int) (hk1 : 1 ≤ k) (hk4 : k ≤ 4) (hka : swT k = a) (hf : formK k = true) (b c d : ByteArray) (hws4 : spW t = [a, b, c, d]) (vf vs : Int) (hnc : numT c = some vf) (hsd : setO d = some vs) (hnb : numT b = none) :
    Calls Tryz.prog 25 #[.string t] w fun e w' => Panics e ∧ Below w.heap.size w w' := by
  obtain ⟨W, hW⟩ : ∃ W, W = w.alloc (.cells #[.int .i64 0, .int .i64 0, .int .i64 0, .int .i64 0, .int .i64 0] 26) := ⟨_, rfl⟩
  have HW : Hid (W = w.alloc (.cells #[.int .i64 0, .int .i64 0, .int .i64 0, .int .i64 0, .int .i64 0] 26)) := hW
  have B0 : Below w.heap.size w W := by rw [hW]; exact (Below.refl _ _).alloc (Nat.le_refl _) _
  have zW : W.heap.size = w.heap.size + 1 := by rw [hW]; simp
  have X0 : Hid (StAt W w.heap.size 0 ⟨0, 0, 0, 0, 0⟩ ∧ ∀ j, W.frozen? ⟨w.heap.size, j, none⟩ = false) := by rw [hW]; exact ⟨by simp [StAt], fun j => by simp [go_sem]⟩
  have HE : Hid (∀ w2, Below w.heap.size w w2 → PE w2) := fun w2 hb => hE.below hb
  have HSZ : Hid (∀ (k : Nat) (x : ByteArray), (spW t)[k]? = some x → x.size ≤ 1048576) := fun k x e => Nat.le_trans (spW_size t k x e) ht
  obtain ⟨ws, hws⟩ : ∃ ws, spW t = ws := ⟨_, rfl⟩
  have HL : Hid (Calls Tryz.prog 47 #[.string t, .string ⟨#[32]⟩, .int .i64 5] W fun e w' => ∃ g cap, e = .returned (.slice (some ⟨g, 0, none⟩) ws.length cap) ∧ (∀ (k : Nat) (x : ByteArray), ws[k]? = some x → w'.cell? ⟨g, k, none⟩ = some (.string x)) ∧ (W.heap.size ≤ g ∧ g < w'.heap.size) ∧ Below W.heap.size W w') := by
    have := split_c t W ht (HE.out W B0).ml
    rw [hws] at this
    exact this
  rw [hws] at HSZ hA
  have HA : Hid (ws[0]? = some a) := hA
  have h0l : 0 < ws.length := by
    by_cases q : 0 < ws.length
    · exact q
    · rw [List.getElem?_eq_none (by omega)] at hA; cases hA
  have h0l' : (0 : Int) < (ws.length : Int) := by omega
  have HKI : Hid (∀ w2 : World, Calls Tryz.prog 48 #[.string a] w2 fun e w' => e = .returned (.int .i64 k) ∧ Below w2.heap.size w2 w') := fun w2 => by rw [← hka]; exact kindIn_ok k w2 hk1 hk4
  have HF : Hid (formK k = true) := hf
  clear hka hf
  rw [hws] at hws4
  have HB : Hid (ws[1]? = some b) := by rw [hws4]; exact rfl
  have HC2 : Hid (ws[2]? = some c) := by rw [hws4]; exact rfl
  have HD3 : Hid (ws[3]? = some d) := by rw [hws4]; exact rfl
  have hn4 : ws.length = 4 := by rw [hws4]; rfl
  clear hws4
  have HNC : Hid (∀ w2, Below w.heap.size w w2 → Calls Tryz.prog 50 #[.string c] w2 fun e w' => e = .returned (.int .i64 vf) ∧ Below w2.heap.size w2 w') := fun w2 hb => numberIn_ok c vf w2 (HSZ.out _ _ HC2.out) hnc
  have HSD : Hid (∀ w2, Below w.heap.size w w2 → Calls Tryz.prog 51 #[.string d] w2 fun e w' => e = .returned (.int .i64 vs) ∧ Below w2.heap.size w2 w') := fun w2 hb => setIn_ok d vs w2 (HSZ.out _ _ HD3.out) hsd
  have HNB : Hid (∀ w2, Below w.heap.size w w2 → Calls Tryz.prog 50 #[.string b] w2 fun e w' => Panics e ∧ Below w2.heap.size w2 w') := fun w2 hb => numberIn_bad b w2 (HSZ.out _ _ HB.out) hnb (HE.out w2 hb)
  clear hW hE hA
  go_enter Tryz.func25, Tryz.ntmps25
  go_wp2_with fail
  rw [← HW.out]
  refine HL.out.mono ?_
  rintro e w1 ⟨g, cap, rfl, hwd, hg1, hb1⟩
  have x0 := hwd 0 a HA.out
  have HWD : Hid (∀ (k : Nat) (x : ByteArray), ws[k]? = some x → w1.cell? ⟨g, k, none⟩ = some (.string x)) := hwd
  have hgw := hg1.2
  have B1 : Hid (Below w.heap.size w w1) := B0.trans (hb1.mono B0.size)
  have hnp : ws.length ≤ cap ∨ True := .inr trivial
  clear hwd
  go_wp2_with fail
  refine (HKI.out _).mono ?_
  rintro e w2 ⟨rfl, hb2⟩
  obtain ⟨V, hV⟩ : ∃ V, V = w2.alloc (.cells #[.int .i64 k, .int .i64 0, .int .i64 0, .int .i64 0, .int .i64 0] 26) := ⟨_, rfl⟩
  have PV : Hid (PP w V g w2.heap.size ws ⟨k, 0, 0, 0, 0⟩) := by
    have A1 : Below w2.heap.size w2 V := by rw [hV]; exact (Below.refl _ _).alloc (Nat.le_refl _) _
    have hb12 : Below w1.heap.size w1 V := hb2.trans (A1.mono hb2.size)
    have hb : Below W.heap.size W V := hb1.trans (hb12.mono hb1.size)
    have hz2 := hb2.size
    exact ⟨B0.trans (hb.mono B0.size), fun j x e => (hb12.cell (p := ⟨g, j, none⟩) hg1.2).trans (HWD.out j x e), by rw [hV]; simp [StAt], fun j => by rw [hV]; simp [go_sem], ⟨_, X0.out.1.below hb (by omega)⟩, fun j => (hb.frozen (p := ⟨w.heap.size, j, none⟩) (by show w.heap.size < W.heap.size; omega)).trans (X0.out.2 j), by omega, by omega, by rw [hV]; simp⟩
  clear hb1 hb2 HL X0 B0 zW x0 hgw hg1 HWD B1 HKI
  go_upto_region 3 with fail
  rw [← hV]
  clear hV HW
  generalize w2.heap.size = q at PV ⊢
  have hgq := PV.out.gq
  have hql := PV.out.ql
  have hgV : g < V.heap.size := by omega
  obtain ⟨d0, d1, d2, d3, d4⟩ := PV.out.st
  simp only [Nat.zero_add] at d0 d1 d2 d3 d4
  have f0 := PV.out.sf 0
  have f1 := PV.out.sf 1
  have f2 := PV.out.sf 2
  have f3 := PV.out.sf 3
  have f4 := PV.out.sf 4
  go_wp2_with fail
  refine (saysForm_c k _).mono ?_
  rintro e w3 ⟨rfl, rfl⟩
  rw [HF.out]
  clear hgq hql hgV d0 d1 d2 d3 d4 f0 f1 f2 f3 f4
  go_wp2_with fail
  refine (demand_ok _).mono ?_
  rintro e w' ⟨rfl, rfl⟩
  have hgq' := PV.out.gq
  have hql' := PV.out.ql
  have hgV : g < V.heap.size := by omega
  have x2 := PV.out.wd 2 c HC2.out
  have x3 := PV.out.wd 3 d HD3.out
  go_upto_region 5 with fail
  refine wp_region_held_drew (S := fun w' => (w'.cell? ⟨g, 2, none⟩ = some (.string c) ∧ w'.cell? ⟨g, 3, none⟩ = some (.string d)) ∧ ∃ y, PP w w' g q ws y) (by kernel_rfl) (⟨⟨x2, x3⟩, _, PV.out.drew⟩) (fun hHeld => ?_)
  refine wpAnyH_take (i := 0) (v := ?_) rfl (by kernel_rfl) (by kernel_rfl) (by kernel_rfl) (fun _ _ _ h => h) (Or.inl ⟨by kernel_rfl, ?_⟩) (by assumption) ?_
  rotate_left 1
  · intro w hSw; (try dsimp only at hSw); go_simp; try (with_reducible rfl)
  try simp only [Act.put, List.getElem_toArray, List.getElem_cons_succ, List.getElem_cons_zero, List.setIfInBounds_toArray, List.set_cons_zero, List.set_cons_succ]
  refine wpAnyH_take (i := 1) (v := ?_) rfl (by kernel_rfl) (by kernel_rfl) (by kernel_rfl) (fun _ _ _ h => h) (Or.inl ⟨by kernel_rfl, ?_⟩) (by assumption) ?_
  rotate_left 1
  · intro w hSw; (try dsimp only at hSw); go_simp; try (with_reducible rfl)
  try simp only [Act.put, List.getElem_toArray, List.getElem_cons_succ, List.getElem_cons_zero, List.setIfInBounds_toArray, List.set_cons_zero, List.set_cons_succ]
  refine wpAnyH_take (i := 2) (v := ?_) rfl (by kernel_rfl) (by kernel_rfl) (by kernel_rfl) (fun _ _ _ h => h) (Or.inl ⟨by kernel_rfl, ?_⟩) (by assumption) ?_
  rotate_left 1
  · intro w hSw; (try dsimp only at hSw); go_simp; try (with_reducible rfl)
  try simp only [Act.put, List.getElem_toArray, List.getElem_cons_succ, List.getElem_cons_zero, List.setIfInBounds_toArray, List.set_cons_zero, List.set_cons_succ]
  refine wpAnyH_take (i := 4) (v := ?_) rfl (by kernel_rfl) (by kernel_rfl) (by kernel_rfl) (fun _ _ _ h => h) (Or.inl ⟨by kernel_rfl, ?_⟩) (by assumption) ?_
  rotate_left 1
  · intro w hSw; (try dsimp only at hSw); go_simp; try (with_reducible rfl)
  try simp only [Act.put, List.getElem_toArray, List.getElem_cons_succ, List.getElem_cons_zero, List.setIfInBounds_toArray, List.set_cons_zero, List.set_cons_succ]
  refine wpAnyH_take (i := 5) (v := ?_) rfl (by kernel_rfl) (by kernel_rfl) (by kernel_rfl) (fun _ _ _ h => h) (Or.inl ⟨by kernel_rfl, ?_⟩) (by assumption) ?_
  rotate_left 1
  · intro w hSw; (try dsimp only at hSw); go_simp; try (with_reducible rfl)
  try simp only [Act.put, List.getElem_toArray, List.getElem_cons_succ, List.getElem_cons_zero, List.setIfInBounds_toArray, List.set_cons_zero, List.set_cons_succ]
  refine wpAnyH_take (i := 6) (v := ?_) rfl (by kernel_rfl) (by kernel_rfl) (by kernel_rfl) (fun _ _ _ h => h) (Or.inl ⟨by kernel_rfl, ?_⟩) (by assumption) ?_
  rotate_left 1
  · intro w hSw; (try dsimp only at hSw); go_simp; try (with_reducible rfl)
  try simp only [Act.put, List.getElem_toArray, List.getElem_cons_succ, List.getElem_cons_zero, List.setIfInBounds_toArray, List.set_cons_zero, List.set_cons_succ]
  refine wpAnyH_ready (rs := [3]) (by kernel_rfl) (by simp) ?_
  refine AllReadyH.cons rfl (fun K hK => ?_) AllReadyH.nil
  go_simp
  obtain ⟨hx2, hPP⟩ := hHeld
  refine (HNC.out _ PV.out.drew.bl).mono ?_
  rintro e wA ⟨rfl, hbA⟩
  have pA := PV.out.drew.below hbA
  have hS : (fun w' => (w'.cell? ⟨g, 2, none⟩ = some (.string c) ∧ w'.cell? ⟨g, 3, none⟩ = some (.string d)) ∧ ∃ y, PP w w' g q ws y) wA := ⟨⟨pA.wd 2 c HC2.out, pA.wd 3 d HD3.out⟩, _, pA⟩
  refine hK.out _ _ hS (fun hHeld => ?_)
  clear hK K
  try simp only [Act.put, List.getElem_toArray, List.getElem_cons_succ, List.getElem_cons_zero, List.setIfInBounds_toArray, List.set_cons_zero, List.set_cons_succ]
  refine wpAnyH_take (i := 8) (v := ?_) rfl (by kernel_rfl) (by kernel_rfl) (by kernel_rfl) (fun _ _ _ h => h) (Or.inl ⟨by kernel_rfl, ?_⟩) (by assumption) ?_
  rotate_left 1
  · intro w hSw; (try dsimp only at hSw); go_simp; try (with_reducible rfl)
  try simp only [Act.put, List.getElem_toArray, List.getElem_cons_succ, List.getElem_cons_zero, List.setIfInBounds_toArray, List.set_cons_zero, List.set_cons_succ]
  refine wpAnyH_ready (rs := [7]) (by kernel_rfl) (by simp) ?_
  refine AllReadyH.cons rfl (fun K hK => ?_) AllReadyH.nil
  go_simp
  refine (HSD.out _ pA.bl).mono ?_
  rintro e wB ⟨rfl, hbB⟩
  have pB := pA.below hbB
  have hS : (fun w' => (w'.cell? ⟨g, 2, none⟩ = some (.string c) ∧ w'.cell? ⟨g, 3, none⟩ = some (.string d)) ∧ ∃ y, PP w w' g q ws y) wB := ⟨⟨pB.wd 2 c HC2.out, pB.wd 3 d HD3.out⟩, _, pB⟩
  have hgq := pB.gq
  have hql := pB.ql
  obtain ⟨d0, d1, d2, d3, d4⟩ := pB.st
  simp only [Nat.zero_add] at d0 d1 d2 d3 d4
  have f2 := pB.sf 2
  have f3 := pB.sf 3
  refine hK.out _ _ hS (fun hHeld => ?_)
  clear hK K
  try simp only [Act.put, List.getElem_toArray, List.getElem_cons_succ, List.getElem_cons_zero, List.setIfInBounds_toArray, List.set_cons_zero, List.set_cons_succ]
  refine wpAnyH_ready (rs := [9]) (by kernel_rfl) (by simp) ?_
  refine AllReadyH.cons rfl (fun K hK => ?_) AllReadyH.nil
  go_simp
  have p9 := pB.put2 vf
  have hS : (fun w' => (w'.cell? ⟨g, 2, none⟩ = some (.string c) ∧ w'.cell? ⟨g, 3, none⟩ = some (.string d)) ∧ ∃ y, PP w w' g q ws y) (wB.setCell ⟨q, 2, none⟩ (.int .i64 vf)) := ⟨⟨p9.wd 2 c HC2.out, p9.wd 3 d HD3.out⟩, _, p9⟩
  refine hK.out _ _ hS (fun hHeld => ?_)
  clear hK K
  try simp only [Act.put, List.getElem_toArray, List.getElem_cons_succ, List.getElem_cons_zero, List.setIfInBounds_toArray, List.set_cons_zero, List.set_cons_succ]
  refine wpAnyH_take (i := 10) (v := ?_) rfl (by kernel_rfl) (by kernel_rfl) (by kernel_rfl) (fun _ _ _ h => h) (Or.inl ⟨by kernel_rfl, ?_⟩) (by assumption) ?_
  rotate_left 1
  · intro w hSw; (try dsimp only at hSw); go_simp; try (with_reducible rfl)
  try simp only [Act.put, List.getElem_toArray, List.getElem_cons_succ, List.getElem_cons_zero, List.setIfInBounds_toArray, List.set_cons_zero, List.set_cons_succ]
  refine wpAnyH_ready (rs := [11]) (by kernel_rfl) (by simp) ?_
  refine AllReadyH.cons rfl (fun K hK => ?_) AllReadyH.nil
  go_simp
  have p11 := p9.put3 vs
  have hS : (fun w' => (w'.cell? ⟨g, 2, none⟩ = some (.string c) ∧ w'.cell? ⟨g, 3, none⟩ = some (.string d)) ∧ ∃ y, PP w w' g q ws y) ((wB.setCell ⟨q, 2, none⟩ (.int .i64 vf)).setCell ⟨q, 3, none⟩ (.int .i64 vs)) := ⟨⟨p11.wd 2 c HC2.out, p11.wd 3 d HD3.out⟩, _, p11⟩
  refine hK.out _ _ hS (fun hHeld => ?_)
  clear hK K
  try simp only [Act.put, List.getElem_toArray, List.getElem_cons_succ, List.getElem_cons_zero, List.setIfInBounds_toArray, List.set_cons_zero, List.set_cons_succ]
  refine wpAnyH_done (by kernel_rfl) ?_ _
  have PX : Hid (PP w ((wB.setCell ⟨q, 2, none⟩ (.int .i64 vf)).setCell ⟨q, 3, none⟩ (.int .i64 vs)) g q ws ⟨k, 0, vf, vs, 0⟩) := p11
  clear pA pB p9 p11 hgq hql d0 d1 d2 d3 d4 f2 f3 hS hHeld hx2 hPP x2 x3 hbA hbB hgV hgq' hql'
  go_upto_region 8 with fail
  generalize (wB.setCell ⟨q, 2, none⟩ (.int .i64 vf)).setCell ⟨q, 3, none⟩ (.int .i64 vs) = X at PX ⊢
  have hgq := PX.out.gq
  have hql := PX.out.ql
  have hgX : g < X.heap.size := by omega
  have x1 := PX.out.wd 1 b HB.out
  go_wp2_with fail
  refine (HNB.out _ PX.out.bl).mono ?_
  rintro e wP ⟨⟨u, pv, rfl⟩, hbP⟩
  go_wp2_with fail
  exact ⟨rfl, ⟨_, _, rfl⟩, PX.out.bl.trans (hbP.mono PX.out.bl.size)⟩

set_option maxRecDepth 20000 in
set_option maxHeartbeats 1000000 in
theorem statementIn_form_no (t : ByteArray) (w : World) (ht : t.size ≤ 1048576) (hE : PE w) (a : ByteArray) (hA : (spW t)[0]? = some a) (k : Int) (hk1 : 1 ≤ k) (hk4 : k ≤ 4) (hka : swT k = a) (hf : formK k = true) (b c d : ByteArray) (hws4 : spW t = [a, b, c, d]) (vf vs : Int) (hnc : numT c = some vf) (hsd : setO d = some vs) (ve : Int) (hnb : numT b = some ve) (y : StI) (hy : y = ⟨k, ve, vf, vs, 0⟩) (cc : Int) (tx : ByteArray) (htx : ∀ w, GivesX 7 y cc tx w) (htb : (tx.toList == t.toList) = false) :
    Calls Tryz.prog 25 #[.string t] w fun e w' => Panics e ∧ Below w.heap.size w w' := by
  obtain ⟨W, hW⟩ : ∃ W, W = w.alloc (.cells #[.int .i64 0, .int .i64 0, .int .i64 0, .int .i64 0, .int .i64 0] 26) := ⟨_, rfl⟩
  have HW : Hid (W = w.alloc (.cells #[.int .i64 0, .int .i64 0, .int .i64 0, .int .i64 0, .int .i64 0] 26)) := hW
  have B0 : Below w.heap.size w W := by rw [hW]; exact (Below.refl _ _).alloc (Nat.le_refl _) _
  have zW : W.heap.size = w.heap.size + 1 := by rw [hW]; simp
  have X0 : Hid (StAt W w.heap.size 0 ⟨0, 0, 0, 0, 0⟩ ∧ ∀ j, W.frozen? ⟨w.heap.size, j, none⟩ = false) := by rw [hW]; exact ⟨by simp [StAt], fun j => by simp [go_sem]⟩
  have HE : Hid (∀ w2, Below w.heap.size w w2 → PE w2) := fun w2 hb => hE.below hb
  have HSZ : Hid (∀ (k : Nat) (x : ByteArray), (spW t)[k]? = some x → x.size ≤ 1048576) := fun k x e => Nat.le_trans (spW_size t k x e) ht
  obtain ⟨ws, hws⟩ : ∃ ws, spW t = ws := ⟨_, rfl⟩
  have HL : Hid (Calls Tryz.prog 47 #[.string t, .string ⟨#[32]⟩, .int .i64 5] W fun e w' => ∃ g cap, e = .returned (.slice (some ⟨g, 0, none⟩) ws.length cap) ∧ (∀ (k : Nat) (x : ByteArray), ws[k]? = some x → w'.cell? ⟨g, k, none⟩ = some (.string x)) ∧ (W.heap.size ≤ g ∧ g < w'.heap.size) ∧ Below W.heap.size W w') := by
    have := split_c t W ht (HE.out W B0).ml
    rw [hws] at this
    exact this
  rw [hws] at HSZ hA
  have HA : Hid (ws[0]? = some a) := hA
  have h0l : 0 < ws.length := by
    by_cases q : 0 < ws.length
    · exact q
    · rw [List.getElem?_eq_none (by omega)] at hA; cases hA
  have h0l' : (0 : Int) < (ws.length : Int) := by omega
  have HKI : Hid (∀ w2 : World, Calls Tryz.prog 48 #[.string a] w2 fun e w' => e = .returned (.int .i64 k) ∧ Below w2.heap.size w2 w') := fun w2 => by rw [← hka]; exact kindIn_ok k w2 hk1 hk4
  have HF : Hid (formK k = true) := hf
  clear hka hf
  rw [hws] at hws4
  have HB : Hid (ws[1]? = some b) := by rw [hws4]; exact rfl
  have HC2 : Hid (ws[2]? = some c) := by rw [hws4]; exact rfl
  have HD3 : Hid (ws[3]? = some d) := by rw [hws4]; exact rfl
  have hn4 : ws.length = 4 := by rw [hws4]; rfl
  clear hws4
  have HNC : Hid (∀ w2, Below w.heap.size w w2 → Calls Tryz.prog 50 #[.string c] w2 fun e w' => e = .returned (.int .i64 vf) ∧ Below w2.heap.size w2 w') := fun w2 hb => numberIn_ok c vf w2 (HSZ.out _ _ HC2.out) hnc
  have HSD : Hid (∀ w2, Below w.heap.size w w2 → Calls Tryz.prog 51 #[.string d] w2 fun e w' => e = .returned (.int .i64 vs) ∧ Below w2.heap.size w2 w') := fun w2 hb => setIn_ok d vs w2 (HSZ.out _ _ HD3.out) hsd
  have HNB : Hid (∀ w2, Below w.heap.size w w2 → Calls Tryz.prog 50 #[.string b] w2 fun e w' => e = .returned (.int .i64 ve) ∧ Below w2.heap.size w2 w') := fun w2 hb => numberIn_ok b ve w2 (HSZ.out _ _ HB.out) hnb
  have HY : Hid (y = ⟨k, ve, vf, vs, 0⟩) := hy
  have HTX : Hid (∀ w, GivesX 7 y cc tx w) := htx
  clear hy htx
  clear hW hE hA
  go_enter Tryz.func25, Tryz.ntmps25
  go_wp2_with fail
  rw [← HW.out]
  refine HL.out.mono ?_
  rintro e w1 ⟨g, cap, rfl, hwd, hg1, hb1⟩
  have x0 := hwd 0 a HA.out
  have HWD : Hid (∀ (k : Nat) (x : ByteArray), ws[k]? = some x → w1.cell? ⟨g, k, none⟩ = some (.string x)) := hwd
  have hgw := hg1.2
  have B1 : Hid (Below w.heap.size w w1) := B0.trans (hb1.mono B0.size)
  have hnp : ws.length ≤ cap ∨ True := .inr trivial
  clear hwd
  go_wp2_with fail
  refine (HKI.out _).mono ?_
  rintro e w2 ⟨rfl, hb2⟩
  obtain ⟨V, hV⟩ : ∃ V, V = w2.alloc (.cells #[.int .i64 k, .int .i64 0, .int .i64 0, .int .i64 0, .int .i64 0] 26) := ⟨_, rfl⟩
  have PV : Hid (PP w V g w2.heap.size ws ⟨k, 0, 0, 0, 0⟩) := by
    have A1 : Below w2.heap.size w2 V := by rw [hV]; exact (Below.refl _ _).alloc (Nat.le_refl _) _
    have hb12 : Below w1.heap.size w1 V := hb2.trans (A1.mono hb2.size)
    have hb : Below W.heap.size W V := hb1.trans (hb12.mono hb1.size)
    have hz2 := hb2.size
    exact ⟨B0.trans (hb.mono B0.size), fun j x e => (hb12.cell (p := ⟨g, j, none⟩) hg1.2).trans (HWD.out j x e), by rw [hV]; simp [StAt], fun j => by rw [hV]; simp [go_sem], ⟨_, X0.out.1.below hb (by omega)⟩, fun j => (hb.frozen (p := ⟨w.heap.size, j, none⟩) (by show w.heap.size < W.heap.size; omega)).trans (X0.out.2 j), by omega, by omega, by rw [hV]; simp⟩
  clear hb1 hb2 HL X0 B0 zW x0 hgw hg1 HWD B1 HKI
  go_upto_region 3 with fail
  rw [← hV]
  clear hV HW
  generalize w2.heap.size = q at PV ⊢
  have hgq := PV.out.gq
  have hql := PV.out.ql
  have hgV : g < V.heap.size := by omega
  obtain ⟨d0, d1, d2, d3, d4⟩ := PV.out.st
  simp only [Nat.zero_add] at d0 d1 d2 d3 d4
  have f0 := PV.out.sf 0
  have f1 := PV.out.sf 1
  have f2 := PV.out.sf 2
  have f3 := PV.out.sf 3
  have f4 := PV.out.sf 4
  go_wp2_with fail
  refine (saysForm_c k _).mono ?_
  rintro e w3 ⟨rfl, rfl⟩
  rw [HF.out]
  clear hgq hql hgV d0 d1 d2 d3 d4 f0 f1 f2 f3 f4
  go_wp2_with fail
  refine (demand_ok _).mono ?_
  rintro e w' ⟨rfl, rfl⟩
  have hgq' := PV.out.gq
  have hql' := PV.out.ql
  have hgV : g < V.heap.size := by omega
  have x2 := PV.out.wd 2 c HC2.out
  have x3 := PV.out.wd 3 d HD3.out
  go_upto_region 5 with fail
  refine wp_region_held_drew (S := fun w' => (w'.cell? ⟨g, 2, none⟩ = some (.string c) ∧ w'.cell? ⟨g, 3, none⟩ = some (.string d)) ∧ ∃ y, PP w w' g q ws y) (by kernel_rfl) (⟨⟨x2, x3⟩, _, PV.out.drew⟩) (fun hHeld => ?_)
  refine wpAnyH_take (i := 0) (v := ?_) rfl (by kernel_rfl) (by kernel_rfl) (by kernel_rfl) (fun _ _ _ h => h) (Or.inl ⟨by kernel_rfl, ?_⟩) (by assumption) ?_
  rotate_left 1
  · intro w hSw; (try dsimp only at hSw); go_simp; try (with_reducible rfl)
  try simp only [Act.put, List.getElem_toArray, List.getElem_cons_succ, List.getElem_cons_zero, List.setIfInBounds_toArray, List.set_cons_zero, List.set_cons_succ]
  refine wpAnyH_take (i := 1) (v := ?_) rfl (by kernel_rfl) (by kernel_rfl) (by kernel_rfl) (fun _ _ _ h => h) (Or.inl ⟨by kernel_rfl, ?_⟩) (by assumption) ?_
  rotate_left 1
  · intro w hSw; (try dsimp only at hSw); go_simp; try (with_reducible rfl)
  try simp only [Act.put, List.getElem_toArray, List.getElem_cons_succ, List.getElem_cons_zero, List.setIfInBounds_toArray, List.set_cons_zero, List.set_cons_succ]
  refine wpAnyH_take (i := 2) (v := ?_) rfl (by kernel_rfl) (by kernel_rfl) (by kernel_rfl) (fun _ _ _ h => h) (Or.inl ⟨by kernel_rfl, ?_⟩) (by assumption) ?_
  rotate_left 1
  · intro w hSw; (try dsimp only at hSw); go_simp; try (with_reducible rfl)
  try simp only [Act.put, List.getElem_toArray, List.getElem_cons_succ, List.getElem_cons_zero, List.setIfInBounds_toArray, List.set_cons_zero, List.set_cons_succ]
  refine wpAnyH_take (i := 4) (v := ?_) rfl (by kernel_rfl) (by kernel_rfl) (by kernel_rfl) (fun _ _ _ h => h) (Or.inl ⟨by kernel_rfl, ?_⟩) (by assumption) ?_
  rotate_left 1
  · intro w hSw; (try dsimp only at hSw); go_simp; try (with_reducible rfl)
  try simp only [Act.put, List.getElem_toArray, List.getElem_cons_succ, List.getElem_cons_zero, List.setIfInBounds_toArray, List.set_cons_zero, List.set_cons_succ]
  refine wpAnyH_take (i := 5) (v := ?_) rfl (by kernel_rfl) (by kernel_rfl) (by kernel_rfl) (fun _ _ _ h => h) (Or.inl ⟨by kernel_rfl, ?_⟩) (by assumption) ?_
  rotate_left 1
  · intro w hSw; (try dsimp only at hSw); go_simp; try (with_reducible rfl)
  try simp only [Act.put, List.getElem_toArray, List.getElem_cons_succ, List.getElem_cons_zero, List.setIfInBounds_toArray, List.set_cons_zero, List.set_cons_succ]
  refine wpAnyH_take (i := 6) (v := ?_) rfl (by kernel_rfl) (by kernel_rfl) (by kernel_rfl) (fun _ _ _ h => h) (Or.inl ⟨by kernel_rfl, ?_⟩) (by assumption) ?_
  rotate_left 1
  · intro w hSw; (try dsimp only at hSw); go_simp; try (with_reducible rfl)
  try simp only [Act.put, List.getElem_toArray, List.getElem_cons_succ, List.getElem_cons_zero, List.setIfInBounds_toArray, List.set_cons_zero, List.set_cons_succ]
  refine wpAnyH_ready (rs := [3]) (by kernel_rfl) (by simp) ?_
  refine AllReadyH.cons rfl (fun K hK => ?_) AllReadyH.nil
  go_simp
  obtain ⟨hx2, hPP⟩ := hHeld
  refine (HNC.out _ PV.out.drew.bl).mono ?_
  rintro e wA ⟨rfl, hbA⟩
  have pA := PV.out.drew.below hbA
  have hS : (fun w' => (w'.cell? ⟨g, 2, none⟩ = some (.string c) ∧ w'.cell? ⟨g, 3, none⟩ = some (.string d)) ∧ ∃ y, PP w w' g q ws y) wA := ⟨⟨pA.wd 2 c HC2.out, pA.wd 3 d HD3.out⟩, _, pA⟩
  refine hK.out _ _ hS (fun hHeld => ?_)
  clear hK K
  try simp only [Act.put, List.getElem_toArray, List.getElem_cons_succ, List.getElem_cons_zero, List.setIfInBounds_toArray, List.set_cons_zero, List.set_cons_succ]
  refine wpAnyH_take (i := 8) (v := ?_) rfl (by kernel_rfl) (by kernel_rfl) (by kernel_rfl) (fun _ _ _ h => h) (Or.inl ⟨by kernel_rfl, ?_⟩) (by assumption) ?_
  rotate_left 1
  · intro w hSw; (try dsimp only at hSw); go_simp; try (with_reducible rfl)
  try simp only [Act.put, List.getElem_toArray, List.getElem_cons_succ, List.getElem_cons_zero, List.setIfInBounds_toArray, List.set_cons_zero, List.set_cons_succ]
  refine wpAnyH_ready (rs := [7]) (by kernel_rfl) (by simp) ?_
  refine AllReadyH.cons rfl (fun K hK => ?_) AllReadyH.nil
  go_simp
  refine (HSD.out _ pA.bl).mono ?_
  rintro e wB ⟨rfl, hbB⟩
  have pB := pA.below hbB
  have hS : (fun w' => (w'.cell? ⟨g, 2, none⟩ = some (.string c) ∧ w'.cell? ⟨g, 3, none⟩ = some (.string d)) ∧ ∃ y, PP w w' g q ws y) wB := ⟨⟨pB.wd 2 c HC2.out, pB.wd 3 d HD3.out⟩, _, pB⟩
  have hgq := pB.gq
  have hql := pB.ql
  obtain ⟨d0, d1, d2, d3, d4⟩ := pB.st
  simp only [Nat.zero_add] at d0 d1 d2 d3 d4
  have f2 := pB.sf 2
  have f3 := pB.sf 3
  refine hK.out _ _ hS (fun hHeld => ?_)
  clear hK K
  try simp only [Act.put, List.getElem_toArray, List.getElem_cons_succ, List.getElem_cons_zero, List.setIfInBounds_toArray, List.set_cons_zero, List.set_cons_succ]
  refine wpAnyH_ready (rs := [9]) (by kernel_rfl) (by simp) ?_
  refine AllReadyH.cons rfl (fun K hK => ?_) AllReadyH.nil
  go_simp
  have p9 := pB.put2 vf
  have hS : (fun w' => (w'.cell? ⟨g, 2, none⟩ = some (.string c) ∧ w'.cell? ⟨g, 3, none⟩ = some (.string d)) ∧ ∃ y, PP w w' g q ws y) (wB.setCell ⟨q, 2, none⟩ (.int .i64 vf)) := ⟨⟨p9.wd 2 c HC2.out, p9.wd 3 d HD3.out⟩, _, p9⟩
  refine hK.out _ _ hS (fun hHeld => ?_)
  clear hK K
  try simp only [Act.put, List.getElem_toArray, List.getElem_cons_succ, List.getElem_cons_zero, List.setIfInBounds_toArray, List.set_cons_zero, List.set_cons_succ]
  refine wpAnyH_take (i := 10) (v := ?_) rfl (by kernel_rfl) (by kernel_rfl) (by kernel_rfl) (fun _ _ _ h => h) (Or.inl ⟨by kernel_rfl, ?_⟩) (by assumption) ?_
  rotate_left 1
  · intro w hSw; (try dsimp only at hSw); go_simp; try (with_reducible rfl)
  try simp only [Act.put, List.getElem_toArray, List.getElem_cons_succ, List.getElem_cons_zero, List.setIfInBounds_toArray, List.set_cons_zero, List.set_cons_succ]
  refine wpAnyH_ready (rs := [11]) (by kernel_rfl) (by simp) ?_
  refine AllReadyH.cons rfl (fun K hK => ?_) AllReadyH.nil
  go_simp
  have p11 := p9.put3 vs
  have hS : (fun w' => (w'.cell? ⟨g, 2, none⟩ = some (.string c) ∧ w'.cell? ⟨g, 3, none⟩ = some (.string d)) ∧ ∃ y, PP w w' g q ws y) ((wB.setCell ⟨q, 2, none⟩ (.int .i64 vf)).setCell ⟨q, 3, none⟩ (.int .i64 vs)) := ⟨⟨p11.wd 2 c HC2.out, p11.wd 3 d HD3.out⟩, _, p11⟩
  refine hK.out _ _ hS (fun hHeld => ?_)
  clear hK K
  try simp only [Act.put, List.getElem_toArray, List.getElem_cons_succ, List.getElem_cons_zero, List.setIfInBounds_toArray, List.set_cons_zero, List.set_cons_succ]
  refine wpAnyH_done (by kernel_rfl) ?_ _
  have PX : Hid (PP w ((wB.setCell ⟨q, 2, none⟩ (.int .i64 vf)).setCell ⟨q, 3, none⟩ (.int .i64 vs)) g q ws ⟨k, 0, vf, vs, 0⟩) := p11
  clear pA pB p9 p11 hgq hql d0 d1 d2 d3 d4 f2 f3 hS hHeld hx2 hPP x2 x3 hbA hbB hgV hgq' hql'
  go_upto_region 8 with fail
  generalize (wB.setCell ⟨q, 2, none⟩ (.int .i64 vf)).setCell ⟨q, 3, none⟩ (.int .i64 vs) = X at PX ⊢
  have hgq := PX.out.gq
  have hql := PX.out.ql
  have hgX : g < X.heap.size := by omega
  have x1 := PX.out.wd 1 b HB.out
  go_wp2_with fail
  refine (HNB.out _ PX.out.bl).mono ?_
  rintro e w5 ⟨rfl, hb5⟩
  have P5 := PX.out.below hb5
  have PY : Hid (PP w (w5.setCell ⟨q, 1, none⟩ (.int .i64 ve)) g q ws y) := by rw [HY.out]; exact P5.put1 ve
  clear hgq hql hgX x1 PX
  have hgq := P5.gq
  have hql := P5.ql
  obtain ⟨d0, d1, d2, d3, d4⟩ := P5.st
  simp only [Nat.zero_add] at d0 d1 d2 d3 d4
  have f1 := P5.sf 1
  clear P5 hb5
  go_upto_region 9 with fail
  clear hgq hql d0 d1 d2 d3 d4 f1
  generalize w5.setCell ⟨q, 1, none⟩ (.int .i64 ve) = X at PY ⊢
  have hql := PY.out.ql
  obtain ⟨d0, d1, d2, d3, d4⟩ := PY.out.st
  simp only [Nat.zero_add] at d0 d1 d2 d3 d4
  go_wp2_with fail
  refine (HTX.out _).mono ?_
  rintro e w6 ⟨rfl, hb6⟩
  have PZ : Hid (PP w w6 g q ws y) := PY.out.below hb6
  clear hql d0 d1 d2 d3 d4 PY hb6
  go_wp2_with fail
  refine (demand_bad _ (HE.out _ PZ.out.bl).eu).mono ?_
  rintro e w' ⟨⟨u, pv, rfl⟩, rfl⟩
  go_wp2_with fail
  exact ⟨rfl, ⟨_, _, rfl⟩, PZ.out.bl⟩

set_option maxRecDepth 20000 in
set_option maxHeartbeats 1000000 in
theorem statementIn_form_yes (t : ByteArray) (w : World) (ht : t.size ≤ 1048576) (hE : PE w) (a : ByteArray) (hA : (spW t)[0]? = some a) (k : Int) (hk1 : 1 ≤ k) (hk4 : k ≤ 4) (hka : swT k = a) (hf : formK k = true) (b c d : ByteArray) (hws4 : spW t = [a, b, c, d]) (vf vs : Int) (hnc : numT c = some vf) (hsd : setO d = some vs) (ve : Int) (hnb : numT b = some ve) (y : StI) (hy : y = ⟨k, ve, vf, vs, 0⟩) (cc : Int) (tx : ByteArray) (htx : ∀ w, GivesX 7 y cc tx w) (htb : (tx.toList == t.toList) = true) :
    Calls Tryz.prog 25 #[.string t] w fun e w' => e = .returned (.agg #[.int .i64 y.k, .int .i64 y.e, .int .i64 y.f, .int .i64 y.s, .int .i64 y.n]) ∧ Below w.heap.size w w' := by
  obtain ⟨W, hW⟩ : ∃ W, W = w.alloc (.cells #[.int .i64 0, .int .i64 0, .int .i64 0, .int .i64 0, .int .i64 0] 26) := ⟨_, rfl⟩
  have HW : Hid (W = w.alloc (.cells #[.int .i64 0, .int .i64 0, .int .i64 0, .int .i64 0, .int .i64 0] 26)) := hW
  have B0 : Below w.heap.size w W := by rw [hW]; exact (Below.refl _ _).alloc (Nat.le_refl _) _
  have zW : W.heap.size = w.heap.size + 1 := by rw [hW]; simp
  have X0 : Hid (StAt W w.heap.size 0 ⟨0, 0, 0, 0, 0⟩ ∧ ∀ j, W.frozen? ⟨w.heap.size, j, none⟩ = false) := by rw [hW]; exact ⟨by simp [StAt], fun j => by simp [go_sem]⟩
  have HE : Hid (∀ w2, Below w.heap.size w w2 → PE w2) := fun w2 hb => hE.below hb
  have HSZ : Hid (∀ (k : Nat) (x : ByteArray), (spW t)[k]? = some x → x.size ≤ 1048576) := fun k x e => Nat.le_trans (spW_size t k x e) ht
  obtain ⟨ws, hws⟩ : ∃ ws, spW t = ws := ⟨_, rfl⟩
  have HL : Hid (Calls Tryz.prog 47 #[.string t, .string ⟨#[32]⟩, .int .i64 5] W fun e w' => ∃ g cap, e = .returned (.slice (some ⟨g, 0, none⟩) ws.length cap) ∧ (∀ (k : Nat) (x : ByteArray), ws[k]? = some x → w'.cell? ⟨g, k, none⟩ = some (.string x)) ∧ (W.heap.size ≤ g ∧ g < w'.heap.size) ∧ Below W.heap.size W w') := by
    have := split_c t W ht (HE.out W B0).ml
    rw [hws] at this
    exact this
  rw [hws] at HSZ hA
  have HA : Hid (ws[0]? = some a) := hA
  have h0l : 0 < ws.length := by
    by_cases q : 0 < ws.length
    · exact q
    · rw [List.getElem?_eq_none (by omega)] at hA; cases hA
  have h0l' : (0 : Int) < (ws.length : Int) := by omega
  have HKI : Hid (∀ w2 : World, Calls Tryz.prog 48 #[.string a] w2 fun e w' => e = .returned (.int .i64 k) ∧ Below w2.heap.size w2 w') := fun w2 => by rw [← hka]; exact kindIn_ok k w2 hk1 hk4
  have HF : Hid (formK k = true) := hf
  clear hka hf
  rw [hws] at hws4
  have HB : Hid (ws[1]? = some b) := by rw [hws4]; exact rfl
  have HC2 : Hid (ws[2]? = some c) := by rw [hws4]; exact rfl
  have HD3 : Hid (ws[3]? = some d) := by rw [hws4]; exact rfl
  have hn4 : ws.length = 4 := by rw [hws4]; rfl
  clear hws4
  have HNC : Hid (∀ w2, Below w.heap.size w w2 → Calls Tryz.prog 50 #[.string c] w2 fun e w' => e = .returned (.int .i64 vf) ∧ Below w2.heap.size w2 w') := fun w2 hb => numberIn_ok c vf w2 (HSZ.out _ _ HC2.out) hnc
  have HSD : Hid (∀ w2, Below w.heap.size w w2 → Calls Tryz.prog 51 #[.string d] w2 fun e w' => e = .returned (.int .i64 vs) ∧ Below w2.heap.size w2 w') := fun w2 hb => setIn_ok d vs w2 (HSZ.out _ _ HD3.out) hsd
  have HNB : Hid (∀ w2, Below w.heap.size w w2 → Calls Tryz.prog 50 #[.string b] w2 fun e w' => e = .returned (.int .i64 ve) ∧ Below w2.heap.size w2 w') := fun w2 hb => numberIn_ok b ve w2 (HSZ.out _ _ HB.out) hnb
  have HY : Hid (y = ⟨k, ve, vf, vs, 0⟩) := hy
  have HTX : Hid (∀ w, GivesX 7 y cc tx w) := htx
  clear hy htx
  clear hW hE hA
  go_enter Tryz.func25, Tryz.ntmps25
  go_wp2_with fail
  rw [← HW.out]
  refine HL.out.mono ?_
  rintro e w1 ⟨g, cap, rfl, hwd, hg1, hb1⟩
  have x0 := hwd 0 a HA.out
  have HWD : Hid (∀ (k : Nat) (x : ByteArray), ws[k]? = some x → w1.cell? ⟨g, k, none⟩ = some (.string x)) := hwd
  have hgw := hg1.2
  have B1 : Hid (Below w.heap.size w w1) := B0.trans (hb1.mono B0.size)
  have hnp : ws.length ≤ cap ∨ True := .inr trivial
  clear hwd
  go_wp2_with fail
  refine (HKI.out _).mono ?_
  rintro e w2 ⟨rfl, hb2⟩
  obtain ⟨V, hV⟩ : ∃ V, V = w2.alloc (.cells #[.int .i64 k, .int .i64 0, .int .i64 0, .int .i64 0, .int .i64 0] 26) := ⟨_, rfl⟩
  have PV : Hid (PP w V g w2.heap.size ws ⟨k, 0, 0, 0, 0⟩) := by
    have A1 : Below w2.heap.size w2 V := by rw [hV]; exact (Below.refl _ _).alloc (Nat.le_refl _) _
    have hb12 : Below w1.heap.size w1 V := hb2.trans (A1.mono hb2.size)
    have hb : Below W.heap.size W V := hb1.trans (hb12.mono hb1.size)
    have hz2 := hb2.size
    exact ⟨B0.trans (hb.mono B0.size), fun j x e => (hb12.cell (p := ⟨g, j, none⟩) hg1.2).trans (HWD.out j x e), by rw [hV]; simp [StAt], fun j => by rw [hV]; simp [go_sem], ⟨_, X0.out.1.below hb (by omega)⟩, fun j => (hb.frozen (p := ⟨w.heap.size, j, none⟩) (by show w.heap.size < W.heap.size; omega)).trans (X0.out.2 j), by omega, by omega, by rw [hV]; simp⟩
  clear hb1 hb2 HL X0 B0 zW x0 hgw hg1 HWD B1 HKI
  go_upto_region 3 with fail
  rw [← hV]
  clear hV HW
  generalize w2.heap.size = q at PV ⊢
  have hgq := PV.out.gq
  have hql := PV.out.ql
  have hgV : g < V.heap.size := by omega
  obtain ⟨d0, d1, d2, d3, d4⟩ := PV.out.st
  simp only [Nat.zero_add] at d0 d1 d2 d3 d4
  have f0 := PV.out.sf 0
  have f1 := PV.out.sf 1
  have f2 := PV.out.sf 2
  have f3 := PV.out.sf 3
  have f4 := PV.out.sf 4
  go_wp2_with fail
  refine (saysForm_c k _).mono ?_
  rintro e w3 ⟨rfl, rfl⟩
  rw [HF.out]
  clear hgq hql hgV d0 d1 d2 d3 d4 f0 f1 f2 f3 f4
  go_wp2_with fail
  refine (demand_ok _).mono ?_
  rintro e w' ⟨rfl, rfl⟩
  have hgq' := PV.out.gq
  have hql' := PV.out.ql
  have hgV : g < V.heap.size := by omega
  have x2 := PV.out.wd 2 c HC2.out
  have x3 := PV.out.wd 3 d HD3.out
  go_upto_region 5 with fail
  refine wp_region_held_drew (S := fun w' => (w'.cell? ⟨g, 2, none⟩ = some (.string c) ∧ w'.cell? ⟨g, 3, none⟩ = some (.string d)) ∧ ∃ y, PP w w' g q ws y) (by kernel_rfl) (⟨⟨x2, x3⟩, _, PV.out.drew⟩) (fun hHeld => ?_)
  refine wpAnyH_take (i := 0) (v := ?_) rfl (by kernel_rfl) (by kernel_rfl) (by kernel_rfl) (fun _ _ _ h => h) (Or.inl ⟨by kernel_rfl, ?_⟩) (by assumption) ?_
  rotate_left 1
  · intro w hSw; (try dsimp only at hSw); go_simp; try (with_reducible rfl)
  try simp only [Act.put, List.getElem_toArray, List.getElem_cons_succ, List.getElem_cons_zero, List.setIfInBounds_toArray, List.set_cons_zero, List.set_cons_succ]
  refine wpAnyH_take (i := 1) (v := ?_) rfl (by kernel_rfl) (by kernel_rfl) (by kernel_rfl) (fun _ _ _ h => h) (Or.inl ⟨by kernel_rfl, ?_⟩) (by assumption) ?_
  rotate_left 1
  · intro w hSw; (try dsimp only at hSw); go_simp; try (with_reducible rfl)
  try simp only [Act.put, List.getElem_toArray, List.getElem_cons_succ, List.getElem_cons_zero, List.setIfInBounds_toArray, List.set_cons_zero, List.set_cons_succ]
  refine wpAnyH_take (i := 2) (v := ?_) rfl (by kernel_rfl) (by kernel_rfl) (by kernel_rfl) (fun _ _ _ h => h) (Or.inl ⟨by kernel_rfl, ?_⟩) (by assumption) ?_
  rotate_left 1
  · intro w hSw; (try dsimp only at hSw); go_simp; try (with_reducible rfl)
  try simp only [Act.put, List.getElem_toArray, List.getElem_cons_succ, List.getElem_cons_zero, List.setIfInBounds_toArray, List.set_cons_zero, List.set_cons_succ]
  refine wpAnyH_take (i := 4) (v := ?_) rfl (by kernel_rfl) (by kernel_rfl) (by kernel_rfl) (fun _ _ _ h => h) (Or.inl ⟨by kernel_rfl, ?_⟩) (by assumption) ?_
  rotate_left 1
  · intro w hSw; (try dsimp only at hSw); go_simp; try (with_reducible rfl)
  try simp only [Act.put, List.getElem_toArray, List.getElem_cons_succ, List.getElem_cons_zero, List.setIfInBounds_toArray, List.set_cons_zero, List.set_cons_succ]
  refine wpAnyH_take (i := 5) (v := ?_) rfl (by kernel_rfl) (by kernel_rfl) (by kernel_rfl) (fun _ _ _ h => h) (Or.inl ⟨by kernel_rfl, ?_⟩) (by assumption) ?_
  rotate_left 1
  · intro w hSw; (try dsimp only at hSw); go_simp; try (with_reducible rfl)
  try simp only [Act.put, List.getElem_toArray, List.getElem_cons_succ, List.getElem_cons_zero, List.setIfInBounds_toArray, List.set_cons_zero, List.set_cons_succ]
  refine wpAnyH_take (i := 6) (v := ?_) rfl (by kernel_rfl) (by kernel_rfl) (by kernel_rfl) (fun _ _ _ h => h) (Or.inl ⟨by kernel_rfl, ?_⟩) (by assumption) ?_
  rotate_left 1
  · intro w hSw; (try dsimp only at hSw); go_simp; try (with_reducible rfl)
  try simp only [Act.put, List.getElem_toArray, List.getElem_cons_succ, List.getElem_cons_zero, List.setIfInBounds_toArray, List.set_cons_zero, List.set_cons_succ]
  refine wpAnyH_ready (rs := [3]) (by kernel_rfl) (by simp) ?_
  refine AllReadyH.cons rfl (fun K hK => ?_) AllReadyH.nil
  go_simp
  obtain ⟨hx2, hPP⟩ := hHeld
  refine (HNC.out _ PV.out.drew.bl).mono ?_
  rintro e wA ⟨rfl, hbA⟩
  have pA := PV.out.drew.below hbA
  have hS : (fun w' => (w'.cell? ⟨g, 2, none⟩ = some (.string c) ∧ w'.cell? ⟨g, 3, none⟩ = some (.string d)) ∧ ∃ y, PP w w' g q ws y) wA := ⟨⟨pA.wd 2 c HC2.out, pA.wd 3 d HD3.out⟩, _, pA⟩
  refine hK.out _ _ hS (fun hHeld => ?_)
  clear hK K
  try simp only [Act.put, List.getElem_toArray, List.getElem_cons_succ, List.getElem_cons_zero, List.setIfInBounds_toArray, List.set_cons_zero, List.set_cons_succ]
  refine wpAnyH_take (i := 8) (v := ?_) rfl (by kernel_rfl) (by kernel_rfl) (by kernel_rfl) (fun _ _ _ h => h) (Or.inl ⟨by kernel_rfl, ?_⟩) (by assumption) ?_
  rotate_left 1
  · intro w hSw; (try dsimp only at hSw); go_simp; try (with_reducible rfl)
  try simp only [Act.put, List.getElem_toArray, List.getElem_cons_succ, List.getElem_cons_zero, List.setIfInBounds_toArray, List.set_cons_zero, List.set_cons_succ]
  refine wpAnyH_ready (rs := [7]) (by kernel_rfl) (by simp) ?_
  refine AllReadyH.cons rfl (fun K hK => ?_) AllReadyH.nil
  go_simp
  refine (HSD.out _ pA.bl).mono ?_
  rintro e wB ⟨rfl, hbB⟩
  have pB := pA.below hbB
  have hS : (fun w' => (w'.cell? ⟨g, 2, none⟩ = some (.string c) ∧ w'.cell? ⟨g, 3, none⟩ = some (.string d)) ∧ ∃ y, PP w w' g q ws y) wB := ⟨⟨pB.wd 2 c HC2.out, pB.wd 3 d HD3.out⟩, _, pB⟩
  have hgq := pB.gq
  have hql := pB.ql
  obtain ⟨d0, d1, d2, d3, d4⟩ := pB.st
  simp only [Nat.zero_add] at d0 d1 d2 d3 d4
  have f2 := pB.sf 2
  have f3 := pB.sf 3
  refine hK.out _ _ hS (fun hHeld => ?_)
  clear hK K
  try simp only [Act.put, List.getElem_toArray, List.getElem_cons_succ, List.getElem_cons_zero, List.setIfInBounds_toArray, List.set_cons_zero, List.set_cons_succ]
  refine wpAnyH_ready (rs := [9]) (by kernel_rfl) (by simp) ?_
  refine AllReadyH.cons rfl (fun K hK => ?_) AllReadyH.nil
  go_simp
  have p9 := pB.put2 vf
  have hS : (fun w' => (w'.cell? ⟨g, 2, none⟩ = some (.string c) ∧ w'.cell? ⟨g, 3, none⟩ = some (.string d)) ∧ ∃ y, PP w w' g q ws y) (wB.setCell ⟨q, 2, none⟩ (.int .i64 vf)) := ⟨⟨p9.wd 2 c HC2.out, p9.wd 3 d HD3.out⟩, _, p9⟩
  refine hK.out _ _ hS (fun hHeld => ?_)
  clear hK K
  try simp only [Act.put, List.getElem_toArray, List.getElem_cons_succ, List.getElem_cons_zero, List.setIfInBounds_toArray, List.set_cons_zero, List.set_cons_succ]
  refine wpAnyH_take (i := 10) (v := ?_) rfl (by kernel_rfl) (by kernel_rfl) (by kernel_rfl) (fun _ _ _ h => h) (Or.inl ⟨by kernel_rfl, ?_⟩) (by assumption) ?_
  rotate_left 1
  · intro w hSw; (try dsimp only at hSw); go_simp; try (with_reducible rfl)
  try simp only [Act.put, List.getElem_toArray, List.getElem_cons_succ, List.getElem_cons_zero, List.setIfInBounds_toArray, List.set_cons_zero, List.set_cons_succ]
  refine wpAnyH_ready (rs := [11]) (by kernel_rfl) (by simp) ?_
  refine AllReadyH.cons rfl (fun K hK => ?_) AllReadyH.nil
  go_simp
  have p11 := p9.put3 vs
  have hS : (fun w' => (w'.cell? ⟨g, 2, none⟩ = some (.string c) ∧ w'.cell? ⟨g, 3, none⟩ = some (.string d)) ∧ ∃ y, PP w w' g q ws y) ((wB.setCell ⟨q, 2, none⟩ (.int .i64 vf)).setCell ⟨q, 3, none⟩ (.int .i64 vs)) := ⟨⟨p11.wd 2 c HC2.out, p11.wd 3 d HD3.out⟩, _, p11⟩
  refine hK.out _ _ hS (fun hHeld => ?_)
  clear hK K
  try simp only [Act.put, List.getElem_toArray, List.getElem_cons_succ, List.getElem_cons_zero, List.setIfInBounds_toArray, List.set_cons_zero, List.set_cons_succ]
  refine wpAnyH_done (by kernel_rfl) ?_ _
  have PX : Hid (PP w ((wB.setCell ⟨q, 2, none⟩ (.int .i64 vf)).setCell ⟨q, 3, none⟩ (.int .i64 vs)) g q ws ⟨k, 0, vf, vs, 0⟩) := p11
  clear pA pB p9 p11 hgq hql d0 d1 d2 d3 d4 f2 f3 hS hHeld hx2 hPP x2 x3 hbA hbB hgV hgq' hql'
  go_upto_region 8 with fail
  generalize (wB.setCell ⟨q, 2, none⟩ (.int .i64 vf)).setCell ⟨q, 3, none⟩ (.int .i64 vs) = X at PX ⊢
  have hgq := PX.out.gq
  have hql := PX.out.ql
  have hgX : g < X.heap.size := by omega
  have x1 := PX.out.wd 1 b HB.out
  go_wp2_with fail
  refine (HNB.out _ PX.out.bl).mono ?_
  rintro e w5 ⟨rfl, hb5⟩
  have P5 := PX.out.below hb5
  have PY : Hid (PP w (w5.setCell ⟨q, 1, none⟩ (.int .i64 ve)) g q ws y) := by rw [HY.out]; exact P5.put1 ve
  clear hgq hql hgX x1 PX
  have hgq := P5.gq
  have hql := P5.ql
  obtain ⟨d0, d1, d2, d3, d4⟩ := P5.st
  simp only [Nat.zero_add] at d0 d1 d2 d3 d4
  have f1 := P5.sf 1
  clear P5 hb5
  go_upto_region 9 with fail
  clear hgq hql d0 d1 d2 d3 d4 f1
  generalize w5.setCell ⟨q, 1, none⟩ (.int .i64 ve) = X at PY ⊢
  have hql := PY.out.ql
  obtain ⟨d0, d1, d2, d3, d4⟩ := PY.out.st
  simp only [Nat.zero_add] at d0 d1 d2 d3 d4
  go_wp2_with fail
  refine (HTX.out _).mono ?_
  rintro e w6 ⟨rfl, hb6⟩
  have PZ : Hid (PP w w6 g q ws y) := PY.out.below hb6
  clear hql d0 d1 d2 d3 d4 PY hb6
  go_wp2_with fail
  refine (demand_ok _).mono ?_
  rintro e w' ⟨rfl, rfl⟩
  have hql := PZ.out.ql
  have hgl := PZ.out.gl
  have hgq := PZ.out.gq
  have hwq : w.heap.size ≠ q := by omega
  have hwZ : w.heap.size < w6.heap.size := by omega
  obtain ⟨d0, d1, d2, d3, d4⟩ := PZ.out.st
  simp only [Nat.zero_add] at d0 d1 d2 d3 d4
  obtain ⟨z, r0, r1, r2, r3, r4⟩ := PZ.out.rs
  simp only [Nat.zero_add] at r0 r1 r2 r3 r4
  have e0 := PZ.out.rf 0
  have e1 := PZ.out.rf 1
  have e2 := PZ.out.rf 2
  have e3 := PZ.out.rf 3
  have e4 := PZ.out.rf 4
  go_wp2_with fail
  refine bodyPost_ret (v := .agg #[.int .i64 y.k, .int .i64 y.e, .int .i64 y.f, .int .i64 y.s, .int .i64 y.n]) (by simp [results, Tryz.results25, go_sem, r0, r1, r2, r3, r4]) rfl ⟨rfl, ?_⟩
  exact PZ.out.bl.setCell (Nat.le_refl _) _ |>.setCell (Nat.le_refl _) _ |>.setCell (Nat.le_refl _) _ |>.setCell (Nat.le_refl _) _ |>.setCell (Nat.le_refl _) _

set_option maxRecDepth 20000 in
set_option maxHeartbeats 1000000 in
theorem statementIn_next_c (t : ByteArray) (w : World) (ht : t.size ≤ 1048576) (hE : PE w) (a : ByteArray) (hA : (spW t)[0]? = some a) (k : Int) (hk1 : 1 ≤ k) (hk4 : k ≤ 4) (hka : swT k = a) (hf : formK k = false) (b c : ByteArray) (hws3 : spW t = [a, b, c]) (hnc : numT c = none) :
    Calls Tryz.prog 25 #[.string t] w fun e w' => Panics e ∧ Below w.heap.size w w' := by
  obtain ⟨W, hW⟩ : ∃ W, W = w.alloc (.cells #[.int .i64 0, .int .i64 0, .int .i64 0, .int .i64 0, .int .i64 0] 26) := ⟨_, rfl⟩
  have HW : Hid (W = w.alloc (.cells #[.int .i64 0, .int .i64 0, .int .i64 0, .int .i64 0, .int .i64 0] 26)) := hW
  have B0 : Below w.heap.size w W := by rw [hW]; exact (Below.refl _ _).alloc (Nat.le_refl _) _
  have zW : W.heap.size = w.heap.size + 1 := by rw [hW]; simp
  have X0 : Hid (StAt W w.heap.size 0 ⟨0, 0, 0, 0, 0⟩ ∧ ∀ j, W.frozen? ⟨w.heap.size, j, none⟩ = false) := by rw [hW]; exact ⟨by simp [StAt], fun j => by simp [go_sem]⟩
  have HE : Hid (∀ w2, Below w.heap.size w w2 → PE w2) := fun w2 hb => hE.below hb
  have HSZ : Hid (∀ (k : Nat) (x : ByteArray), (spW t)[k]? = some x → x.size ≤ 1048576) := fun k x e => Nat.le_trans (spW_size t k x e) ht
  obtain ⟨ws, hws⟩ : ∃ ws, spW t = ws := ⟨_, rfl⟩
  have HL : Hid (Calls Tryz.prog 47 #[.string t, .string ⟨#[32]⟩, .int .i64 5] W fun e w' => ∃ g cap, e = .returned (.slice (some ⟨g, 0, none⟩) ws.length cap) ∧ (∀ (k : Nat) (x : ByteArray), ws[k]? = some x → w'.cell? ⟨g, k, none⟩ = some (.string x)) ∧ (W.heap.size ≤ g ∧ g < w'.heap.size) ∧ Below W.heap.size W w') := by
    have := split_c t W ht (HE.out W B0).ml
    rw [hws] at this
    exact this
  rw [hws] at HSZ hA
  have HA : Hid (ws[0]? = some a) := hA
  have h0l : 0 < ws.length := by
    by_cases q : 0 < ws.length
    · exact q
    · rw [List.getElem?_eq_none (by omega)] at hA; cases hA
  have h0l' : (0 : Int) < (ws.length : Int) := by omega
  have HKI : Hid (∀ w2 : World, Calls Tryz.prog 48 #[.string a] w2 fun e w' => e = .returned (.int .i64 k) ∧ Below w2.heap.size w2 w') := fun w2 => by rw [← hka]; exact kindIn_ok k w2 hk1 hk4
  have HF : Hid (formK k = false) := hf
  clear hka hf
  rw [hws] at hws3
  have HB : Hid (ws[1]? = some b) := by rw [hws3]; exact rfl
  have HC2 : Hid (ws[2]? = some c) := by rw [hws3]; exact rfl
  have hn3 : ws.length = 3 := by rw [hws3]; rfl
  clear hws3
  have HNC : Hid (∀ w2, Below w.heap.size w w2 → Calls Tryz.prog 50 #[.string c] w2 fun e w' => Panics e ∧ Below w2.heap.size w2 w') := fun w2 hb => numberIn_bad c w2 (HSZ.out _ _ HC2.out) hnc (HE.out w2 hb)
  clear hW hE hA
  go_enter Tryz.func25, Tryz.ntmps25
  go_wp2_with fail
  rw [← HW.out]
  refine HL.out.mono ?_
  rintro e w1 ⟨g, cap, rfl, hwd, hg1, hb1⟩
  have x0 := hwd 0 a HA.out
  have HWD : Hid (∀ (k : Nat) (x : ByteArray), ws[k]? = some x → w1.cell? ⟨g, k, none⟩ = some (.string x)) := hwd
  have hgw := hg1.2
  have B1 : Hid (Below w.heap.size w w1) := B0.trans (hb1.mono B0.size)
  have hnp : ws.length ≤ cap ∨ True := .inr trivial
  clear hwd
  go_wp2_with fail
  refine (HKI.out _).mono ?_
  rintro e w2 ⟨rfl, hb2⟩
  obtain ⟨V, hV⟩ : ∃ V, V = w2.alloc (.cells #[.int .i64 k, .int .i64 0, .int .i64 0, .int .i64 0, .int .i64 0] 26) := ⟨_, rfl⟩
  have PV : Hid (PP w V g w2.heap.size ws ⟨k, 0, 0, 0, 0⟩) := by
    have A1 : Below w2.heap.size w2 V := by rw [hV]; exact (Below.refl _ _).alloc (Nat.le_refl _) _
    have hb12 : Below w1.heap.size w1 V := hb2.trans (A1.mono hb2.size)
    have hb : Below W.heap.size W V := hb1.trans (hb12.mono hb1.size)
    have hz2 := hb2.size
    exact ⟨B0.trans (hb.mono B0.size), fun j x e => (hb12.cell (p := ⟨g, j, none⟩) hg1.2).trans (HWD.out j x e), by rw [hV]; simp [StAt], fun j => by rw [hV]; simp [go_sem], ⟨_, X0.out.1.below hb (by omega)⟩, fun j => (hb.frozen (p := ⟨w.heap.size, j, none⟩) (by show w.heap.size < W.heap.size; omega)).trans (X0.out.2 j), by omega, by omega, by rw [hV]; simp⟩
  clear hb1 hb2 HL X0 B0 zW x0 hgw hg1 HWD B1 HKI
  go_upto_region 3 with fail
  rw [← hV]
  clear hV HW
  generalize w2.heap.size = q at PV ⊢
  have hgq := PV.out.gq
  have hql := PV.out.ql
  have hgV : g < V.heap.size := by omega
  obtain ⟨d0, d1, d2, d3, d4⟩ := PV.out.st
  simp only [Nat.zero_add] at d0 d1 d2 d3 d4
  have f0 := PV.out.sf 0
  have f1 := PV.out.sf 1
  have f2 := PV.out.sf 2
  have f3 := PV.out.sf 3
  have f4 := PV.out.sf 4
  go_wp2_with fail
  refine (saysForm_c k _).mono ?_
  rintro e w3 ⟨rfl, rfl⟩
  rw [HF.out]
  clear hgq hql hgV d0 d1 d2 d3 d4 f0 f1 f2 f3 f4
  go_wp2_with fail
  refine (demand_ok _).mono ?_
  rintro e w' ⟨rfl, rfl⟩
  have hgq' := PV.out.gq
  have hql' := PV.out.ql
  have hgV : g < V.heap.size := by omega
  have x2 := PV.out.wd 2 c HC2.out
  go_wp2_with fail
  refine (HNC.out _ PV.out.bl).mono ?_
  rintro e wP ⟨⟨u, pv, rfl⟩, hbP⟩
  go_wp2_with fail
  exact ⟨rfl, ⟨_, _, rfl⟩, PV.out.bl.trans (hbP.mono PV.out.bl.size)⟩

set_option maxRecDepth 20000 in
set_option maxHeartbeats 1000000 in
theorem statementIn_next_b (t : ByteArray) (w : World) (ht : t.size ≤ 1048576) (hE : PE w) (a : ByteArray) (hA : (spW t)[0]? = some a) (k : Int) (hk1 : 1 ≤ k) (hk4 : k ≤ 4) (hka : swT k = a) (hf : formK k = false) (b c : ByteArray) (hws3 : spW t = [a, b, c]) (vn : Int) (hnc : numT c = some vn) (hnb : numT b = none) :
    Calls Tryz.prog 25 #[.string t] w fun e w' => Panics e ∧ Below w.heap.size w w' := by
  obtain ⟨W, hW⟩ : ∃ W, W = w.alloc (.cells #[.int .i64 0, .int .i64 0, .int .i64 0, .int .i64 0, .int .i64 0] 26) := ⟨_, rfl⟩
  have HW : Hid (W = w.alloc (.cells #[.int .i64 0, .int .i64 0, .int .i64 0, .int .i64 0, .int .i64 0] 26)) := hW
  have B0 : Below w.heap.size w W := by rw [hW]; exact (Below.refl _ _).alloc (Nat.le_refl _) _
  have zW : W.heap.size = w.heap.size + 1 := by rw [hW]; simp
  have X0 : Hid (StAt W w.heap.size 0 ⟨0, 0, 0, 0, 0⟩ ∧ ∀ j, W.frozen? ⟨w.heap.size, j, none⟩ = false) := by rw [hW]; exact ⟨by simp [StAt], fun j => by simp [go_sem]⟩
  have HE : Hid (∀ w2, Below w.heap.size w w2 → PE w2) := fun w2 hb => hE.below hb
  have HSZ : Hid (∀ (k : Nat) (x : ByteArray), (spW t)[k]? = some x → x.size ≤ 1048576) := fun k x e => Nat.le_trans (spW_size t k x e) ht
  obtain ⟨ws, hws⟩ : ∃ ws, spW t = ws := ⟨_, rfl⟩
  have HL : Hid (Calls Tryz.prog 47 #[.string t, .string ⟨#[32]⟩, .int .i64 5] W fun e w' => ∃ g cap, e = .returned (.slice (some ⟨g, 0, none⟩) ws.length cap) ∧ (∀ (k : Nat) (x : ByteArray), ws[k]? = some x → w'.cell? ⟨g, k, none⟩ = some (.string x)) ∧ (W.heap.size ≤ g ∧ g < w'.heap.size) ∧ Below W.heap.size W w') := by
    have := split_c t W ht (HE.out W B0).ml
    rw [hws] at this
    exact this
  rw [hws] at HSZ hA
  have HA : Hid (ws[0]? = some a) := hA
  have h0l : 0 < ws.length := by
    by_cases q : 0 < ws.length
    · exact q
    · rw [List.getElem?_eq_none (by omega)] at hA; cases hA
  have h0l' : (0 : Int) < (ws.length : Int) := by omega
  have HKI : Hid (∀ w2 : World, Calls Tryz.prog 48 #[.string a] w2 fun e w' => e = .returned (.int .i64 k) ∧ Below w2.heap.size w2 w') := fun w2 => by rw [← hka]; exact kindIn_ok k w2 hk1 hk4
  have HF : Hid (formK k = false) := hf
  clear hka hf
  rw [hws] at hws3
  have HB : Hid (ws[1]? = some b) := by rw [hws3]; exact rfl
  have HC2 : Hid (ws[2]? = some c) := by rw [hws3]; exact rfl
  have hn3 : ws.length = 3 := by rw [hws3]; rfl
  clear hws3
  have HNC : Hid (∀ w2, Below w.heap.size w w2 → Calls Tryz.prog 50 #[.string c] w2 fun e w' => e = .returned (.int .i64 vn) ∧ Below w2.heap.size w2 w') := fun w2 hb => numberIn_ok c vn w2 (HSZ.out _ _ HC2.out) hnc
  have HNB : Hid (∀ w2, Below w.heap.size w w2 → Calls Tryz.prog 50 #[.string b] w2 fun e w' => Panics e ∧ Below w2.heap.size w2 w') := fun w2 hb => numberIn_bad b w2 (HSZ.out _ _ HB.out) hnb (HE.out w2 hb)
  clear hW hE hA
  go_enter Tryz.func25, Tryz.ntmps25
  go_wp2_with fail
  rw [← HW.out]
  refine HL.out.mono ?_
  rintro e w1 ⟨g, cap, rfl, hwd, hg1, hb1⟩
  have x0 := hwd 0 a HA.out
  have HWD : Hid (∀ (k : Nat) (x : ByteArray), ws[k]? = some x → w1.cell? ⟨g, k, none⟩ = some (.string x)) := hwd
  have hgw := hg1.2
  have B1 : Hid (Below w.heap.size w w1) := B0.trans (hb1.mono B0.size)
  have hnp : ws.length ≤ cap ∨ True := .inr trivial
  clear hwd
  go_wp2_with fail
  refine (HKI.out _).mono ?_
  rintro e w2 ⟨rfl, hb2⟩
  obtain ⟨V, hV⟩ : ∃ V, V = w2.alloc (.cells #[.int .i64 k, .int .i64 0, .int .i64 0, .int .i64 0, .int .i64 0] 26) := ⟨_, rfl⟩
  have PV : Hid (PP w V g w2.heap.size ws ⟨k, 0, 0, 0, 0⟩) := by
    have A1 : Below w2.heap.size w2 V := by rw [hV]; exact (Below.refl _ _).alloc (Nat.le_refl _) _
    have hb12 : Below w1.heap.size w1 V := hb2.trans (A1.mono hb2.size)
    have hb : Below W.heap.size W V := hb1.trans (hb12.mono hb1.size)
    have hz2 := hb2.size
    exact ⟨B0.trans (hb.mono B0.size), fun j x e => (hb12.cell (p := ⟨g, j, none⟩) hg1.2).trans (HWD.out j x e), by rw [hV]; simp [StAt], fun j => by rw [hV]; simp [go_sem], ⟨_, X0.out.1.below hb (by omega)⟩, fun j => (hb.frozen (p := ⟨w.heap.size, j, none⟩) (by show w.heap.size < W.heap.size; omega)).trans (X0.out.2 j), by omega, by omega, by rw [hV]; simp⟩
  clear hb1 hb2 HL X0 B0 zW x0 hgw hg1 HWD B1 HKI
  go_upto_region 3 with fail
  rw [← hV]
  clear hV HW
  generalize w2.heap.size = q at PV ⊢
  have hgq := PV.out.gq
  have hql := PV.out.ql
  have hgV : g < V.heap.size := by omega
  obtain ⟨d0, d1, d2, d3, d4⟩ := PV.out.st
  simp only [Nat.zero_add] at d0 d1 d2 d3 d4
  have f0 := PV.out.sf 0
  have f1 := PV.out.sf 1
  have f2 := PV.out.sf 2
  have f3 := PV.out.sf 3
  have f4 := PV.out.sf 4
  go_wp2_with fail
  refine (saysForm_c k _).mono ?_
  rintro e w3 ⟨rfl, rfl⟩
  rw [HF.out]
  clear hgq hql hgV d0 d1 d2 d3 d4 f0 f1 f2 f3 f4
  go_wp2_with fail
  refine (demand_ok _).mono ?_
  rintro e w' ⟨rfl, rfl⟩
  have hgq' := PV.out.gq
  have hql' := PV.out.ql
  have hgV : g < V.heap.size := by omega
  have x2 := PV.out.wd 2 c HC2.out
  go_wp2_with fail
  refine (HNC.out _ PV.out.bl).mono ?_
  rintro e w4 ⟨rfl, hb4⟩
  have P4 := PV.out.below hb4
  have PX : Hid (PP w (w4.setCell ⟨q, 4, none⟩ (.int .i64 vn)) g q ws ⟨k, 0, 0, 0, vn⟩) := P4.put4 vn
  clear hgq' hql' hgV x2
  have hgq := P4.gq
  have hql := P4.ql
  obtain ⟨d0, d1, d2, d3, d4⟩ := P4.st
  simp only [Nat.zero_add] at d0 d1 d2 d3 d4
  have f4 := P4.sf 4
  clear P4 hb4
  go_upto_region 8 with fail
  clear hgq hql d0 d1 d2 d3 d4 f4
  generalize w4.setCell ⟨q, 4, none⟩ (.int .i64 vn) = X at PX ⊢
  have hgq := PX.out.gq
  have hql := PX.out.ql
  have hgX : g < X.heap.size := by omega
  have x1 := PX.out.wd 1 b HB.out
  go_wp2_with fail
  refine (HNB.out _ PX.out.bl).mono ?_
  rintro e wP ⟨⟨u, pv, rfl⟩, hbP⟩
  go_wp2_with fail
  exact ⟨rfl, ⟨_, _, rfl⟩, PX.out.bl.trans (hbP.mono PX.out.bl.size)⟩

set_option maxRecDepth 20000 in
set_option maxHeartbeats 1000000 in
theorem statementIn_next_no (t : ByteArray) (w : World) (ht : t.size ≤ 1048576) (hE : PE w) (a : ByteArray) (hA : (spW t)[0]? = some a) (k : Int) (hk1 : 1 ≤ k) (hk4 : k ≤ 4) (hka : swT k = a) (hf : formK k = false) (b c : ByteArray) (hws3 : spW t = [a, b, c]) (vn : Int) (hnc : numT c = some vn) (ve : Int) (hnb : numT b = some ve) (y : StI) (hy : y = ⟨k, ve, 0, 0, vn⟩) (cc : Int) (tx : ByteArray) (htx : ∀ w, GivesX 7 y cc tx w) (htb : (tx.toList == t.toList) = false) :
    Calls Tryz.prog 25 #[.string t] w fun e w' => Panics e ∧ Below w.heap.size w w' := by
  obtain ⟨W, hW⟩ : ∃ W, W = w.alloc (.cells #[.int .i64 0, .int .i64 0, .int .i64 0, .int .i64 0, .int .i64 0] 26) := ⟨_, rfl⟩
  have HW : Hid (W = w.alloc (.cells #[.int .i64 0, .int .i64 0, .int .i64 0, .int .i64 0, .int .i64 0] 26)) := hW
  have B0 : Below w.heap.size w W := by rw [hW]; exact (Below.refl _ _).alloc (Nat.le_refl _) _
  have zW : W.heap.size = w.heap.size + 1 := by rw [hW]; simp
  have X0 : Hid (StAt W w.heap.size 0 ⟨0, 0, 0, 0, 0⟩ ∧ ∀ j, W.frozen? ⟨w.heap.size, j, none⟩ = false) := by rw [hW]; exact ⟨by simp [StAt], fun j => by simp [go_sem]⟩
  have HE : Hid (∀ w2, Below w.heap.size w w2 → PE w2) := fun w2 hb => hE.below hb
  have HSZ : Hid (∀ (k : Nat) (x : ByteArray), (spW t)[k]? = some x → x.size ≤ 1048576) := fun k x e => Nat.le_trans (spW_size t k x e) ht
  obtain ⟨ws, hws⟩ : ∃ ws, spW t = ws := ⟨_, rfl⟩
  have HL : Hid (Calls Tryz.prog 47 #[.string t, .string ⟨#[32]⟩, .int .i64 5] W fun e w' => ∃ g cap, e = .returned (.slice (some ⟨g, 0, none⟩) ws.length cap) ∧ (∀ (k : Nat) (x : ByteArray), ws[k]? = some x → w'.cell? ⟨g, k, none⟩ = some (.string x)) ∧ (W.heap.size ≤ g ∧ g < w'.heap.size) ∧ Below W.heap.size W w') := by
    have := split_c t W ht (HE.out W B0).ml
    rw [hws] at this
    exact this
  rw [hws] at HSZ hA
  have HA : Hid (ws[0]? = some a) := hA
  have h0l : 0 < ws.length := by
    by_cases q : 0 < ws.length
    · exact q
    · rw [List.getElem?_eq_none (by omega)] at hA; cases hA
  have h0l' : (0 : Int) < (ws.length : Int) := by omega
  have HKI : Hid (∀ w2 : World, Calls Tryz.prog 48 #[.string a] w2 fun e w' => e = .returned (.int .i64 k) ∧ Below w2.heap.size w2 w') := fun w2 => by rw [← hka]; exact kindIn_ok k w2 hk1 hk4
  have HF : Hid (formK k = false) := hf
  clear hka hf
  rw [hws] at hws3
  have HB : Hid (ws[1]? = some b) := by rw [hws3]; exact rfl
  have HC2 : Hid (ws[2]? = some c) := by rw [hws3]; exact rfl
  have hn3 : ws.length = 3 := by rw [hws3]; rfl
  clear hws3
  have HNC : Hid (∀ w2, Below w.heap.size w w2 → Calls Tryz.prog 50 #[.string c] w2 fun e w' => e = .returned (.int .i64 vn) ∧ Below w2.heap.size w2 w') := fun w2 hb => numberIn_ok c vn w2 (HSZ.out _ _ HC2.out) hnc
  have HNB : Hid (∀ w2, Below w.heap.size w w2 → Calls Tryz.prog 50 #[.string b] w2 fun e w' => e = .returned (.int .i64 ve) ∧ Below w2.heap.size w2 w') := fun w2 hb => numberIn_ok b ve w2 (HSZ.out _ _ HB.out) hnb
  have HY : Hid (y = ⟨k, ve, 0, 0, vn⟩) := hy
  have HTX : Hid (∀ w, GivesX 7 y cc tx w) := htx
  clear hy htx
  clear hW hE hA
  go_enter Tryz.func25, Tryz.ntmps25
  go_wp2_with fail
  rw [← HW.out]
  refine HL.out.mono ?_
  rintro e w1 ⟨g, cap, rfl, hwd, hg1, hb1⟩
  have x0 := hwd 0 a HA.out
  have HWD : Hid (∀ (k : Nat) (x : ByteArray), ws[k]? = some x → w1.cell? ⟨g, k, none⟩ = some (.string x)) := hwd
  have hgw := hg1.2
  have B1 : Hid (Below w.heap.size w w1) := B0.trans (hb1.mono B0.size)
  have hnp : ws.length ≤ cap ∨ True := .inr trivial
  clear hwd
  go_wp2_with fail
  refine (HKI.out _).mono ?_
  rintro e w2 ⟨rfl, hb2⟩
  obtain ⟨V, hV⟩ : ∃ V, V = w2.alloc (.cells #[.int .i64 k, .int .i64 0, .int .i64 0, .int .i64 0, .int .i64 0] 26) := ⟨_, rfl⟩
  have PV : Hid (PP w V g w2.heap.size ws ⟨k, 0, 0, 0, 0⟩) := by
    have A1 : Below w2.heap.size w2 V := by rw [hV]; exact (Below.refl _ _).alloc (Nat.le_refl _) _
    have hb12 : Below w1.heap.size w1 V := hb2.trans (A1.mono hb2.size)
    have hb : Below W.heap.size W V := hb1.trans (hb12.mono hb1.size)
    have hz2 := hb2.size
    exact ⟨B0.trans (hb.mono B0.size), fun j x e => (hb12.cell (p := ⟨g, j, none⟩) hg1.2).trans (HWD.out j x e), by rw [hV]; simp [StAt], fun j => by rw [hV]; simp [go_sem], ⟨_, X0.out.1.below hb (by omega)⟩, fun j => (hb.frozen (p := ⟨w.heap.size, j, none⟩) (by show w.heap.size < W.heap.size; omega)).trans (X0.out.2 j), by omega, by omega, by rw [hV]; simp⟩
  clear hb1 hb2 HL X0 B0 zW x0 hgw hg1 HWD B1 HKI
  go_upto_region 3 with fail
  rw [← hV]
  clear hV HW
  generalize w2.heap.size = q at PV ⊢
  have hgq := PV.out.gq
  have hql := PV.out.ql
  have hgV : g < V.heap.size := by omega
  obtain ⟨d0, d1, d2, d3, d4⟩ := PV.out.st
  simp only [Nat.zero_add] at d0 d1 d2 d3 d4
  have f0 := PV.out.sf 0
  have f1 := PV.out.sf 1
  have f2 := PV.out.sf 2
  have f3 := PV.out.sf 3
  have f4 := PV.out.sf 4
  go_wp2_with fail
  refine (saysForm_c k _).mono ?_
  rintro e w3 ⟨rfl, rfl⟩
  rw [HF.out]
  clear hgq hql hgV d0 d1 d2 d3 d4 f0 f1 f2 f3 f4
  go_wp2_with fail
  refine (demand_ok _).mono ?_
  rintro e w' ⟨rfl, rfl⟩
  have hgq' := PV.out.gq
  have hql' := PV.out.ql
  have hgV : g < V.heap.size := by omega
  have x2 := PV.out.wd 2 c HC2.out
  go_wp2_with fail
  refine (HNC.out _ PV.out.bl).mono ?_
  rintro e w4 ⟨rfl, hb4⟩
  have P4 := PV.out.below hb4
  have PX : Hid (PP w (w4.setCell ⟨q, 4, none⟩ (.int .i64 vn)) g q ws ⟨k, 0, 0, 0, vn⟩) := P4.put4 vn
  clear hgq' hql' hgV x2
  have hgq := P4.gq
  have hql := P4.ql
  obtain ⟨d0, d1, d2, d3, d4⟩ := P4.st
  simp only [Nat.zero_add] at d0 d1 d2 d3 d4
  have f4 := P4.sf 4
  clear P4 hb4
  go_upto_region 8 with fail
  clear hgq hql d0 d1 d2 d3 d4 f4
  generalize w4.setCell ⟨q, 4, none⟩ (.int .i64 vn) = X at PX ⊢
  have hgq := PX.out.gq
  have hql := PX.out.ql
  have hgX : g < X.heap.size := by omega
  have x1 := PX.out.wd 1 b HB.out
  go_wp2_with fail
  refine (HNB.out _ PX.out.bl).mono ?_
  rintro e w5 ⟨rfl, hb5⟩
  have P5 := PX.out.below hb5
  have PY : Hid (PP w (w5.setCell ⟨q, 1, none⟩ (.int .i64 ve)) g q ws y) := by rw [HY.out]; exact P5.put1 ve
  clear hgq hql hgX x1 PX
  have hgq := P5.gq
  have hql := P5.ql
  obtain ⟨d0, d1, d2, d3, d4⟩ := P5.st
  simp only [Nat.zero_add] at d0 d1 d2 d3 d4
  have f1 := P5.sf 1
  clear P5 hb5
  go_upto_region 9 with fail
  clear hgq hql d0 d1 d2 d3 d4 f1
  generalize w5.setCell ⟨q, 1, none⟩ (.int .i64 ve) = X at PY ⊢
  have hql := PY.out.ql
  obtain ⟨d0, d1, d2, d3, d4⟩ := PY.out.st
  simp only [Nat.zero_add] at d0 d1 d2 d3 d4
  go_wp2_with fail
  refine (HTX.out _).mono ?_
  rintro e w6 ⟨rfl, hb6⟩
  have PZ : Hid (PP w w6 g q ws y) := PY.out.below hb6
  clear hql d0 d1 d2 d3 d4 PY hb6
  go_wp2_with fail
  refine (demand_bad _ (HE.out _ PZ.out.bl).eu).mono ?_
  rintro e w' ⟨⟨u, pv, rfl⟩, rfl⟩
  go_wp2_with fail
  exact ⟨rfl, ⟨_, _, rfl⟩, PZ.out.bl⟩

set_option maxRecDepth 20000 in
set_option maxHeartbeats 1000000 in
theorem statementIn_next_yes (t : ByteArray) (w : World) (ht : t.size ≤ 1048576) (hE : PE w) (a : ByteArray) (hA : (spW t)[0]? = some a) (k : Int) (hk1 : 1 ≤ k) (hk4 : k ≤ 4) (hka : swT k = a) (hf : formK k = false) (b c : ByteArray) (hws3 : spW t = [a, b, c]) (vn : Int) (hnc : numT c = some vn) (ve : Int) (hnb : numT b = some ve) (y : StI) (hy : y = ⟨k, ve, 0, 0, vn⟩) (cc : Int) (tx : ByteArray) (htx : ∀ w, GivesX 7 y cc tx w) (htb : (tx.toList == t.toList) = true) :
    Calls Tryz.prog 25 #[.string t] w fun e w' => e = .returned (.agg #[.int .i64 y.k, .int .i64 y.e, .int .i64 y.f, .int .i64 y.s, .int .i64 y.n]) ∧ Below w.heap.size w w' := by
  obtain ⟨W, hW⟩ : ∃ W, W = w.alloc (.cells #[.int .i64 0, .int .i64 0, .int .i64 0, .int .i64 0, .int .i64 0] 26) := ⟨_, rfl⟩
  have HW : Hid (W = w.alloc (.cells #[.int .i64 0, .int .i64 0, .int .i64 0, .int .i64 0, .int .i64 0] 26)) := hW
  have B0 : Below w.heap.size w W := by rw [hW]; exact (Below.refl _ _).alloc (Nat.le_refl _) _
  have zW : W.heap.size = w.heap.size + 1 := by rw [hW]; simp
  have X0 : Hid (StAt W w.heap.size 0 ⟨0, 0, 0, 0, 0⟩ ∧ ∀ j, W.frozen? ⟨w.heap.size, j, none⟩ = false) := by rw [hW]; exact ⟨by simp [StAt], fun j => by simp [go_sem]⟩
  have HE : Hid (∀ w2, Below w.heap.size w w2 → PE w2) := fun w2 hb => hE.below hb
  have HSZ : Hid (∀ (k : Nat) (x : ByteArray), (spW t)[k]? = some x → x.size ≤ 1048576) := fun k x e => Nat.le_trans (spW_size t k x e) ht
  obtain ⟨ws, hws⟩ : ∃ ws, spW t = ws := ⟨_, rfl⟩
  have HL : Hid (Calls Tryz.prog 47 #[.string t, .string ⟨#[32]⟩, .int .i64 5] W fun e w' => ∃ g cap, e = .returned (.slice (some ⟨g, 0, none⟩) ws.length cap) ∧ (∀ (k : Nat) (x : ByteArray), ws[k]? = some x → w'.cell? ⟨g, k, none⟩ = some (.string x)) ∧ (W.heap.size ≤ g ∧ g < w'.heap.size) ∧ Below W.heap.size W w') := by
    have := split_c t W ht (HE.out W B0).ml
    rw [hws] at this
    exact this
  rw [hws] at HSZ hA
  have HA : Hid (ws[0]? = some a) := hA
  have h0l : 0 < ws.length := by
    by_cases q : 0 < ws.length
    · exact q
    · rw [List.getElem?_eq_none (by omega)] at hA; cases hA
  have h0l' : (0 : Int) < (ws.length : Int) := by omega
  have HKI : Hid (∀ w2 : World, Calls Tryz.prog 48 #[.string a] w2 fun e w' => e = .returned (.int .i64 k) ∧ Below w2.heap.size w2 w') := fun w2 => by rw [← hka]; exact kindIn_ok k w2 hk1 hk4
  have HF : Hid (formK k = false) := hf
  clear hka hf
  rw [hws] at hws3
  have HB : Hid (ws[1]? = some b) := by rw [hws3]; exact rfl
  have HC2 : Hid (ws[2]? = some c) := by rw [hws3]; exact rfl
  have hn3 : ws.length = 3 := by rw [hws3]; rfl
  clear hws3
  have HNC : Hid (∀ w2, Below w.heap.size w w2 → Calls Tryz.prog 50 #[.string c] w2 fun e w' => e = .returned (.int .i64 vn) ∧ Below w2.heap.size w2 w') := fun w2 hb => numberIn_ok c vn w2 (HSZ.out _ _ HC2.out) hnc
  have HNB : Hid (∀ w2, Below w.heap.size w w2 → Calls Tryz.prog 50 #[.string b] w2 fun e w' => e = .returned (.int .i64 ve) ∧ Below w2.heap.size w2 w') := fun w2 hb => numberIn_ok b ve w2 (HSZ.out _ _ HB.out) hnb
  have HY : Hid (y = ⟨k, ve, 0, 0, vn⟩) := hy
  have HTX : Hid (∀ w, GivesX 7 y cc tx w) := htx
  clear hy htx
  clear hW hE hA
  go_enter Tryz.func25, Tryz.ntmps25
  go_wp2_with fail
  rw [← HW.out]
  refine HL.out.mono ?_
  rintro e w1 ⟨g, cap, rfl, hwd, hg1, hb1⟩
  have x0 := hwd 0 a HA.out
  have HWD : Hid (∀ (k : Nat) (x : ByteArray), ws[k]? = some x → w1.cell? ⟨g, k, none⟩ = some (.string x)) := hwd
  have hgw := hg1.2
  have B1 : Hid (Below w.heap.size w w1) := B0.trans (hb1.mono B0.size)
  have hnp : ws.length ≤ cap ∨ True := .inr trivial
  clear hwd
  go_wp2_with fail
  refine (HKI.out _).mono ?_
  rintro e w2 ⟨rfl, hb2⟩
  obtain ⟨V, hV⟩ : ∃ V, V = w2.alloc (.cells #[.int .i64 k, .int .i64 0, .int .i64 0, .int .i64 0, .int .i64 0] 26) := ⟨_, rfl⟩
  have PV : Hid (PP w V g w2.heap.size ws ⟨k, 0, 0, 0, 0⟩) := by
    have A1 : Below w2.heap.size w2 V := by rw [hV]; exact (Below.refl _ _).alloc (Nat.le_refl _) _
    have hb12 : Below w1.heap.size w1 V := hb2.trans (A1.mono hb2.size)
    have hb : Below W.heap.size W V := hb1.trans (hb12.mono hb1.size)
    have hz2 := hb2.size
    exact ⟨B0.trans (hb.mono B0.size), fun j x e => (hb12.cell (p := ⟨g, j, none⟩) hg1.2).trans (HWD.out j x e), by rw [hV]; simp [StAt], fun j => by rw [hV]; simp [go_sem], ⟨_, X0.out.1.below hb (by omega)⟩, fun j => (hb.frozen (p := ⟨w.heap.size, j, none⟩) (by show w.heap.size < W.heap.size; omega)).trans (X0.out.2 j), by omega, by omega, by rw [hV]; simp⟩
  clear hb1 hb2 HL X0 B0 zW x0 hgw hg1 HWD B1 HKI
  go_upto_region 3 with fail
  rw [← hV]
  clear hV HW
  generalize w2.heap.size = q at PV ⊢
  have hgq := PV.out.gq
  have hql := PV.out.ql
  have hgV : g < V.heap.size := by omega
  obtain ⟨d0, d1, d2, d3, d4⟩ := PV.out.st
  simp only [Nat.zero_add] at d0 d1 d2 d3 d4
  have f0 := PV.out.sf 0
  have f1 := PV.out.sf 1
  have f2 := PV.out.sf 2
  have f3 := PV.out.sf 3
  have f4 := PV.out.sf 4
  go_wp2_with fail
  refine (saysForm_c k _).mono ?_
  rintro e w3 ⟨rfl, rfl⟩
  rw [HF.out]
  clear hgq hql hgV d0 d1 d2 d3 d4 f0 f1 f2 f3 f4
  go_wp2_with fail
  refine (demand_ok _).mono ?_
  rintro e w' ⟨rfl, rfl⟩
  have hgq' := PV.out.gq
  have hql' := PV.out.ql
  have hgV : g < V.heap.size := by omega
  have x2 := PV.out.wd 2 c HC2.out
  go_wp2_with fail
  refine (HNC.out _ PV.out.bl).mono ?_
  rintro e w4 ⟨rfl, hb4⟩
  have P4 := PV.out.below hb4
  have PX : Hid (PP w (w4.setCell ⟨q, 4, none⟩ (.int .i64 vn)) g q ws ⟨k, 0, 0, 0, vn⟩) := P4.put4 vn
  clear hgq' hql' hgV x2
  have hgq := P4.gq
  have hql := P4.ql
  obtain ⟨d0, d1, d2, d3, d4⟩ := P4.st
  simp only [Nat.zero_add] at d0 d1 d2 d3 d4
  have f4 := P4.sf 4
  clear P4 hb4
  go_upto_region 8 with fail
  clear hgq hql d0 d1 d2 d3 d4 f4
  generalize w4.setCell ⟨q, 4, none⟩ (.int .i64 vn) = X at PX ⊢
  have hgq := PX.out.gq
  have hql := PX.out.ql
  have hgX : g < X.heap.size := by omega
  have x1 := PX.out.wd 1 b HB.out
  go_wp2_with fail
  refine (HNB.out _ PX.out.bl).mono ?_
  rintro e w5 ⟨rfl, hb5⟩
  have P5 := PX.out.below hb5
  have PY : Hid (PP w (w5.setCell ⟨q, 1, none⟩ (.int .i64 ve)) g q ws y) := by rw [HY.out]; exact P5.put1 ve
  clear hgq hql hgX x1 PX
  have hgq := P5.gq
  have hql := P5.ql
  obtain ⟨d0, d1, d2, d3, d4⟩ := P5.st
  simp only [Nat.zero_add] at d0 d1 d2 d3 d4
  have f1 := P5.sf 1
  clear P5 hb5
  go_upto_region 9 with fail
  clear hgq hql d0 d1 d2 d3 d4 f1
  generalize w5.setCell ⟨q, 1, none⟩ (.int .i64 ve) = X at PY ⊢
  have hql := PY.out.ql
  obtain ⟨d0, d1, d2, d3, d4⟩ := PY.out.st
  simp only [Nat.zero_add] at d0 d1 d2 d3 d4
  go_wp2_with fail
  refine (HTX.out _).mono ?_
  rintro e w6 ⟨rfl, hb6⟩
  have PZ : Hid (PP w w6 g q ws y) := PY.out.below hb6
  clear hql d0 d1 d2 d3 d4 PY hb6
  go_wp2_with fail
  refine (demand_ok _).mono ?_
  rintro e w' ⟨rfl, rfl⟩
  have hql := PZ.out.ql
  have hgl := PZ.out.gl
  have hgq := PZ.out.gq
  have hwq : w.heap.size ≠ q := by omega
  have hwZ : w.heap.size < w6.heap.size := by omega
  obtain ⟨d0, d1, d2, d3, d4⟩ := PZ.out.st
  simp only [Nat.zero_add] at d0 d1 d2 d3 d4
  obtain ⟨z, r0, r1, r2, r3, r4⟩ := PZ.out.rs
  simp only [Nat.zero_add] at r0 r1 r2 r3 r4
  have e0 := PZ.out.rf 0
  have e1 := PZ.out.rf 1
  have e2 := PZ.out.rf 2
  have e3 := PZ.out.rf 3
  have e4 := PZ.out.rf 4
  go_wp2_with fail
  refine bodyPost_ret (v := .agg #[.int .i64 y.k, .int .i64 y.e, .int .i64 y.f, .int .i64 y.s, .int .i64 y.n]) (by simp [results, Tryz.results25, go_sem, r0, r1, r2, r3, r4]) rfl ⟨rfl, ?_⟩
  exact PZ.out.bl.setCell (Nat.le_refl _) _ |>.setCell (Nat.le_refl _) _ |>.setCell (Nat.le_refl _) _ |>.setCell (Nat.le_refl _) _ |>.setCell (Nat.le_refl _) _

end Go.Proofs.YtdmejfhojdkfbaaGreatDoor
