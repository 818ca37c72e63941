/-
  CONTRACTS for the law FnSets: impl.InSet, laws.lwHas, impl.SetOf over a list of a set's own, impl.ParseSet over a set's own text, impl.SetFault.
  Conditions: each contract bears its own.
-/
import Derived.Test.YtajdgbdpmmdlfaaDoorParse1
import Derived.Test.YtajdgbdpmmdlfaaDoorSetText1
import Derived.Test.YtajdgbdpmmdlfaaDoorSetOf1
import Derived.Test.YtajdgbdpmmdlfaaDoorSize1
import Derived.Test.YtajdgbdpmmdlfaaDoorList1
import Derived.Test.YtajdgbdpmmdlfaaDoorList2
namespace Go.Proofs.YtajdgbdpmmdlfaaDoor
open Go.RowKit
set_option linter.unusedVariables false

theorem mem_dec : ∀ n : Fin 256, ∀ p : Fin 8, (listTo (n.val : Int) 8).contains ((p.val : Int) + 1) = hasI (n.val : Int) ((p.val : Int) + 1) := by decide +kernel

theorem mem_has (s p : Int) (s0 : 0 ≤ s) (s1 : s ≤ 255) (p0 : 1 ≤ p) (p1 : p ≤ 8) : (listTo s 8).contains p = hasI s p := by
  obtain ⟨n, rfl⟩ := Int.eq_ofNat_of_zero_le s0
  have h := mem_dec ⟨n, by omega⟩ ⟨(p - 1).toNat, by omega⟩
  have e : (((p - 1).toNat : Nat) : Int) + 1 = p := by omega
  simp only [e] at h
  exact h

theorem or_list_dec : ∀ n : Fin 256, orTo (listTo (n.val : Int) 8) (listTo (n.val : Int) 8).length = (n.val : Int) := by decide +kernel

theorem or_list (s : Int) (s0 : 0 ≤ s) (s1 : s ≤ 255) : orTo (listTo s 8) (listTo s 8).length = s := by
  obtain ⟨n, rfl⟩ := Int.eq_ofNat_of_zero_le s0
  exact or_list_dec ⟨n, by omega⟩

set_option maxHeartbeats 400000 in
theorem fault_out (s : Int) (h : s < 0 ∨ 255 < s) (w : World) :
    Calls Tryd.prog 18 #[.int .i64 s] w fun e w' => e = .returned (.int .i64 3) ∧ w = w' := by
  rcases h with h | h
  · go_enter Tryd.func18, Tryd.ntmps18
    go_wp2
    go_ret
    exact ⟨rfl, rfl⟩
  · have e1 : (256 : Int) ≤ s := by omega
    have e2 : (0 : Int) ≤ s := by omega
    go_enter Tryd.func18, Tryd.ntmps18
    go_wp2
    go_ret
    exact ⟨rfl, rfl⟩

set_option maxHeartbeats 400000 in
theorem inSet_c (s p : Int) (h0 : 0 ≤ s) (h1 : s ≤ 255) (p0 : 1 ≤ p) (p1 : p ≤ 8) (w : World) :
    Calls Tryd.prog 19 #[.int .i64 s, .int .i64 p] w fun e w' => e = .returned (.bool (hasI s p)) ∧ w = w' := by
  have h2 : s < (256 : Int) := by omega
  have e0 : (decide (s < 0) || decide (256 ≤ s)) = false := by simp; omega
  have e2 : (bits .and .u8 s (bitI p) != 0) = hasI s p := and_u8 s p h0 h1 p0 p1
  go_enter Tryd.func19, Tryd.ntmps19
  go_wp2_with (first | (go_at_call 45; refine (bitOf_c p p0 p1 _).mono ?_; rintro e w' ⟨rfl, rfl⟩) | go_in)
  go_ret
  exact ⟨rfl, rfl⟩

set_option maxHeartbeats 400000 in
theorem lwHas_c (s p : Int) (s0 : 0 ≤ s) (s1 : s ≤ 255) (p0 : 1 ≤ p) (p1 : p ≤ 8) (a : Option Addr) (cap : Nat) (w : World) (hr : RowIn w a (listTo s 8).length (listTo s 8)) :
    Calls Tryd.prog 20 #[.slice a (listTo s 8).length cap, .int .i64 p] w fun e w' => e = .returned (.bool (hasI s p)) ∧ w = w' := by
  have HR : Hid (RowIn w a (listTo s 8).length (listTo s 8)) := hr
  have hl8 := listTo_le s 8
  have HM : Hid ((listTo s 8).contains p = hasI s p) := mem_has s p s0 s1 p0 p1
  clear hr
  go_enter Tryd.func20, Tryd.ntmps20
  go_wp2
  go_loop [5] (fun i => ∃ k : Nat, k ≤ (listTo s 8).length ∧ i = .int .i64 (k : Int) ∧ ∀ j, j < k → (listTo s 8)[j]?.getD 0 ≠ p) (fun i => (listTo s 8).length - (intOf i).toNat)
  case atStart => exact ⟨0, Nat.zero_le _, rfl, fun j hj => by omega⟩
  case round =>
    obtain ⟨k, hk, rfl, hno⟩ := hrel
    have HN : Hid (∀ j, j < k → (listTo s 8)[j]?.getD 0 ≠ p) := hno
    clear hno
    by_cases hlt : k < (listTo s 8).length
    · obtain ⟨g, off, ha, hc⟩ := HR.out.2 k hlt
      subst ha
      obtain ⟨y, hy⟩ : ∃ y : Int, y = (listTo s 8)[k]?.getD 0 := ⟨_, rfl⟩
      rw [← hy] at hc
      have HY : Hid (y = (listTo s 8)[k]?.getD 0) := hy
      clear hy
      have hlt' : (k : Int) < ((listTo s 8).length : Int) := by omega
      by_cases hyp : y = p
      · have hb : (y == p) = true := by simp [hyp]
        have hm : hasI s p = true := by
          rw [← HM.out, List.contains_iff_mem, ← hyp, HY.out, List.getElem?_eq_getElem hlt]
          simp
        clear hyp
        go_wp2
        go_ret
        exact ⟨rfl, rfl⟩
      · have hb : (y == p) = false := by simp [hyp]
        have HYP : Hid (y ≠ p) := hyp
        clear hyp
        go_wp2
        exact ⟨⟨k + 1, by omega, by go_num, fun j hj => by
          by_cases e : j = k
          · subst e; rw [← HY.out]; exact HYP.out
          · exact HN.out j (by omega)⟩, by simp [intOf]; omega⟩
    · have hkn : k = (listTo s 8).length := by omega
      subst hkn
      have hm : hasI s p = false := by
        rw [← HM.out]
        rw [Bool.eq_false_iff]
        intro hc
        rw [List.contains_iff_mem] at hc
        obtain ⟨j, hj, e⟩ := List.mem_iff_getElem.1 hc
        exact HN.out j hj (by rw [List.getElem?_eq_getElem hj]; exact e)
      go_wp2
      go_ret
      exact ⟨rfl, rfl⟩

set_option maxHeartbeats 400000 in
theorem setOf_zero (a : Option Addr) (cap : Nat) (w : World) :
    Calls Tryd.prog 21 #[.slice a 0 cap] w fun e w' => e = .returned (.agg #[.int .i64 0, .int .i64 0]) ∧ Below w.heap.size w w' := by
  go_enter Tryd.func21, Tryd.ntmps21
  go_wp2
  go_loop [3, 12] (fun s i => s = .int .u8 0 ∧ i = .int .i64 0) (fun _ i => (intOf i).toNat)
  case atStart => exact ⟨rfl, rfl⟩
  case round =>
    obtain ⟨rfl, rfl⟩ := hrel
    go_wp2
    exact bodyPost_ret (v := .agg #[.int .i64 0, .int .i64 0]) (by simp [results, Tryd.results21, go_sem]) rfl ⟨rfl, (Below.refl _ _).alloc (Nat.le_refl _) _⟩

theorem setOf_list (s : Int) (s0 : 0 ≤ s) (s1 : s ≤ 255) (a : Option Addr) (b cap : Nat) (w : World) (hown : w.ownsRow b 2 1 (.slice a (listTo s 8).length cap) (listTo s 8).length ((listTo s 8).map (Value.int .i64))) :
    Calls Tryd.prog 21 #[.slice a (listTo s 8).length cap] w fun e w' => e = .returned (.agg #[.int .i64 0, .int .i64 s]) ∧ Below w.heap.size w w' := by
  have hor := or_list s s0 s1
  have hl8 := listTo_le s 8
  rcases (owns_parts hown).2 with h0 | ⟨g, rfl⟩
  · rw [h0] at hor ⊢
    have e : s = 0 := hor.symm
    subst e
    exact setOf_zero a cap w
  · have hr := row_of_owns hown
    have h := implSetOf_in g (listTo s 8).length cap (listTo s 8) w (by omega) rfl (fun k hk => by
      obtain ⟨g', off, e, hc⟩ := hr.2 k hk
      simp at e
      obtain ⟨rfl, rfl⟩ := e
      rw [Nat.zero_add] at hc
      exact hc) (fun j hj => listTo_mem s 8 j hj)
    rw [hor] at h
    exact h

theorem parse_text (s : Int) (s0 : 0 ≤ s) (s1 : s ≤ 255) (w : World) :
    Calls Tryd.prog 12 #[.string (textI s)] w fun e w' => e = .returned (.agg #[.int .i64 0, .int .i64 s]) ∧ Below w.heap.size w w' := by
  have hg := gather_text s s0 s1
  have hz := textI_size s s0 s1
  exact implParse_w (textI s) w (by omega) 0 s (.inl ⟨by rw [hg], rfl, hg.symm⟩)

end Go.Proofs.YtajdgbdpmmdlfaaDoor
