/-
  CONTRACT of the draw spec.DrawParseRule: it answers some short text.
  Conditions: the code can be read, and has at most 1<<20 bytes.
-/
import Derived.Test.YtajdgbdpmmdlfaaDoorDraw2
import Derived.Test.YtajdgbdpmmdlfaaDoorDraw4
import Derived.Test.YtajdgbdpmmdlfaaDoorLine3
namespace Go.Proofs.YtajdgbdpmmdlfaaDoor
open Go.RowKit
set_option linter.unusedVariables false

theorem four_at (x y z u : Int) (k : Nat) (hk : k < 4) : [x, y, z, u][k]?.getD 0 = x ∨ [x, y, z, u][k]?.getD 0 = y ∨ [x, y, z, u][k]?.getD 0 = z ∨ [x, y, z, u][k]?.getD 0 = u := by
  match k, hk with
  | 0, _ => exact .inl rfl
  | 1, _ => exact .inr (.inl rfl)
  | 2, _ => exact .inr (.inr (.inl rfl))
  | 3, _ => exact .inr (.inr (.inr rfl))

theorem line_size (r : RuleI) : 7 ≤ (lineT r).size ∧ (lineT r).size ≤ 16 := by
  have h := tail_size r
  rw [line_eq]
  have e1 : (roleT r.ho r.hn).size = 3 := by simp [roleT, ByteArray.size]
  have e2 : (⟨#[32, 60, 45, 32]⟩ : ByteArray).size = 4 := rfl
  rw [ByteArray.size_append, ByteArray.size_append, e1, e2]
  omega

set_option maxHeartbeats 1000000 in
theorem drawParseRule_c (w : World) (a : Option Addr) (len cap : Nat) (ys : List Int) (h : CodeIn w a len ys) (hl : len ≤ 1048576) :
    Calls Tryd.prog 23 #[.slice a len cap] w fun e w' => ∃ t : ByteArray, t.size ≤ 1048576 ∧ e = .returned (.string t) ∧ Below w.heap.size w w' := by
  have HS : Hid (SrcAt (w.alloc (.cells #[.slice a len cap, .int .i64 0] 99)) w.heap.size a len cap 0 ys) := src_new w a len cap ys h
  clear h
  go_enter Tryd.func23, Tryd.ntmps23
  go_wp2_with fail
  refine (source_c a len cap w).mono ?_
  rintro e w1 ⟨rfl, rfl⟩
  go_wp2_with fail
  refine (drawRule_c _ w.heap.size a len cap 0 ys HS.out hl (by omega)).mono ?_
  rintro e w2 ⟨r, k2, hr, hk2, rfl, hS2, hG2⟩
  have B2 : Hid (Below w.heap.size w w2) := ((Below.refl _ _).alloc (Nat.le_refl _) _).grown hG2 (by simp) (fun k e => by simp at e; omega)
  have H2 : Hid (SrcAt w2 w.heap.size a len cap k2 ys) := hS2
  have HR : Hid (ruleCode r = 0) := hr
  clear HS hS2 hG2 hr
  go_wp2_with fail
  refine (l2Line_c _ _ r _ (RuleAt.new w2 r _) HR.out).mono ?_
  rintro e w3 ⟨rfl, hb3'⟩
  have hb3 : Below w2.heap.size w2 w3 := below_new hb3'
  have H3 : Hid (SrcAt w3 w.heap.size a len cap k2 ys) := H2.out.below hb3
  have B3 : Hid (Below w.heap.size w w3) := B2.out.trans (hb3.mono B2.out.size)
  have hsz := line_size r
  obtain ⟨T, hT⟩ : ∃ T : ByteArray, T = lineT r := ⟨_, rfl⟩
  rw [← hT] at hsz ⊢
  clear hT H2 B2 hb3 hb3'
  obtain ⟨capB, wB, C, hconv, hblk, hCs, hC, hbB, hcapB⟩ := conv_block w3 T
  have HB : Hid (wB.heap[w3.heap.size]? = some (.cells C 5 (C.size, C.size + 1)) ∧ T.size ≤ C.size ∧ (∀ j, j < T.size → C[j]? = some (.int .u8 ((T.data.toList[j]?.getD 0).toNat : Int))) ∧ Below w3.heap.size w3 wB) := ⟨hblk, hCs, hC, hbB⟩
  have H4 : Hid (SrcAt wB w.heap.size a len cap k2 ys) := H3.out.below hbB
  have H3l := H3.out.lt
  clear hblk hCs hC hbB H3
  go_wp2_with fail
  refine (next_c wB w.heap.size a len cap k2 ys 5 H4.out hl (by omega) (by omega) (by omega)).mono ?_
  rintro e w5 ⟨x, x0, x1, rfl, hS5, hG5⟩
  have hne : w3.heap.size ≠ w.heap.size := by have := H4.out.lt; have := H3l; omega
  have H5 : Hid (SrcAt w5 w.heap.size a len cap (k2 + 1) ys) := hS5
  have HB5 : Hid (w5.heap[w3.heap.size]? = some (.cells C 5 (C.size, C.size + 1))) := (hG5.block _ (Array.getElem?_eq_some_iff.1 HB.out.1).1 (by simpa using hne)).trans HB.out.1
  have B5 : Hid (Below w.heap.size w w5) := (B3.out.trans (HB.out.2.2.2.mono B3.out.size)).grown hG5 (by have := B3.out.size; have := HB.out.2.2.2.size; omega) (fun k e => by simp at e; omega)
  clear hS5 hG5 H4 hconv
  have hx : x = 0 ∨ x = 1 ∨ (1 < x) := by omega
  rcases hx with rfl | rfl | hx
  · go_wp2_with fail
    refine (next_c w5 w.heap.size a len cap (k2 + 1) ys (T.size : Int) H5.out hl (by omega) (by omega) (by omega)).mono ?_
    rintro e w6 ⟨k', k0, k1, rfl, hS6, hG6⟩
    obtain ⟨k, rfl⟩ := Int.eq_ofNat_of_zero_le k0
    have hkT : k < T.size := by omega
    have hkT' : (k : Int) < (T.size : Int) := by omega
    have H6 : Hid (SrcAt (w6.alloc (.cells #[.int .i64 49, .int .i64 46, .int .i64 57, .int .i64 32] 2)) w.heap.size a len cap (k2 + 2) ys) := hS6.below ((Below.refl _ _).alloc (Nat.le_refl _) _)
    have HB6 : Hid (w6.heap[w3.heap.size]? = some (.cells C 5 (C.size, C.size + 1))) := (hG6.block _ (Array.getElem?_eq_some_iff.1 HB5.out).1 (by simpa using hne)).trans HB5.out
    have B6 : Hid (Below w.heap.size w w6) := B5.out.grown hG6 (by have := B5.out.size; omega) (fun k e => by simp at e; omega)
    have hz6 := hS6.lt
    have hz3 := (Array.getElem?_eq_some_iff.1 HB6.out).1
    clear hS6 hG6 H5
    go_wp2_with fail
    refine (pick_c _ w.heap.size a len cap (k2 + 2) ys H6.out hl (by omega) w6.heap.size 4 4 [49, 46, 57, 32] rfl (by omega) (by omega) (by omega) (fun k hk => by
      match k, hk with
      | 0, _ => simp
      | 1, _ => simp
      | 2, _ => simp
      | 3, _ => simp)).mono ?_
    rintro e w7 ⟨q, hq, rfl, hS7, hG7⟩
    obtain ⟨m, hm⟩ : ∃ m : Int, m = ([49, 46, 57, 32] : List Int)[q]?.getD 0 := ⟨_, rfl⟩
    rw [← hm]
    have hmb : 0 ≤ m ∧ m ≤ 255 := by rcases four_at 49 46 57 32 q hq with e | e | e | e <;> rw [hm, e] <;> omega
    obtain ⟨m0, m1⟩ := hmb
    have HB7 : Hid (w7.heap[w3.heap.size]? = some (.cells C 5 (C.size, C.size + 1))) := (hG7.block _ (by simp; omega) (by simpa using hne)).trans ((Below.heap_alloc _ _ _ hz3).trans HB6.out)
    have B7 : Hid (Below w.heap.size w w7) := (B6.out.alloc (by omega) _).grown hG7 (by simp; omega) (fun k e => by simp at e; omega)
    clear hm hS7 hG7 H6
    have hkC : k < C.size := Nat.lt_of_lt_of_le hkT HB.out.2.1
    have hck : w7.cell? ⟨w3.heap.size, k, none⟩ = some (C[k]'hkC) := by simp [World.cell?, HB7.out, hkC]
    obtain ⟨v9, hv9⟩ : ∃ v9, w7.cell? ⟨w3.heap.size, k, none⟩ = some v9 := ⟨_, hck⟩
    have hfk : w7.frozen? ⟨w3.heap.size, k, none⟩ = false := by simp [World.frozen?, HB7.out]; omega
    have hblk2 : (w7.setCell ⟨w3.heap.size, k, none⟩ (.int .u8 m)).heap[w3.heap.size]? = some (.cells (C.setIfInBounds k (.int .u8 m)) 5 (C.size, C.size + 1)) := set_block HB7.out
    have hcv := conv_back (m := T.size) (f := fun j => if j = k then m else ((T.data.toList[j]?.getD 0).toNat : Int)) hblk2 (by simpa using HB.out.2.1) (fun j hj => by
      rw [Array.getElem?_setIfInBounds]
      by_cases e : k = j
      · subst e; simp [hkC]
      · rw [if_neg e, HB.out.2.2.1 j hj, if_neg (by omega)]) T.size capB (Nat.le_refl _)
    obtain ⟨R, hR, hcv⟩ := hcv
    clear hck hblk2
    go_wp2
    go_ret
    exact ⟨R, by omega, rfl, B7.out.setCell (p := ⟨w3.heap.size, k, none⟩) (by simp; omega) _⟩
  · go_wp2_with fail
    refine (next_c w5 w.heap.size a len cap (k2 + 1) ys (T.size : Int) H5.out hl (by omega) (by omega) (by omega)).mono ?_
    rintro e w6 ⟨k', k0, k1, rfl, hS6, hG6⟩
    obtain ⟨k, rfl⟩ := Int.eq_ofNat_of_zero_le k0
    have hkT : k < T.size := by omega
    have hkT' : (k : Int) ≤ (capB : Int) := by omega
    have HB6 : Hid (w6.heap[w3.heap.size]? = some (.cells C 5 (C.size, C.size + 1))) := (hG6.block _ (Array.getElem?_eq_some_iff.1 HB5.out).1 (by simpa using hne)).trans HB5.out
    have B6 : Hid (Below w.heap.size w w6) := B5.out.grown hG6 (by have := B5.out.size; omega) (fun k e => by simp at e; omega)
    have hcv := conv_back HB6.out HB.out.2.1 HB.out.2.2.1 k capB (by omega)
    obtain ⟨R, hR, hcv⟩ := hcv
    clear hS6 hG6 H5
    go_wp2
    go_ret
    exact ⟨R, by omega, rfl, B6.out⟩
  · have e0 : (x == 0) = false := by simp; omega
    have e1 : (x == 1) = false := by simp; omega
    have hcv := conv_back (w := w5) HB5.out HB.out.2.1 HB.out.2.2.1 T.size capB (Nat.le_refl _)
    obtain ⟨R, hR, hcv⟩ := hcv
    go_wp2
    go_ret
    exact ⟨R, by omega, rfl, B5.out⟩

end Go.Proofs.YtajdgbdpmmdlfaaDoor
