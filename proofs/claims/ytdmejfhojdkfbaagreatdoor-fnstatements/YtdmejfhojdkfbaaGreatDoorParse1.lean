/-
  CONTRACTS of spec.l1Parse, spec.ParseSet and impl.ParseSet.
  Conditions: each contract bears its own.
-/
import Derived.Test.YtdmejfhojdkfbaaGreatDoorText2
import Derived.Lib.ConvBytes
namespace Go.Proofs.YtdmejfhojdkfbaaGreatDoor
open Go.RowKit
set_option linter.unusedVariables false

/-- The set of the digits 1 to 8 among the first k of some bytes. -/
def gatherTo (bs : List UInt8) : Nat → Int
  | 0 => 0
  | k + 1 => if 1 ≤ ((bs[k]?.getD 0).toNat : Int) - 48 ∧ ((bs[k]?.getD 0).toNat : Int) - 48 ≤ 8 then bits .or .i64 (gatherTo bs k) (bitI (((bs[k]?.getD 0).toNat : Int) - 48)) else gatherTo bs k

theorem gather_bd (bs : List UInt8) (k : Nat) : 0 ≤ gatherTo bs k ∧ gatherTo bs k ≤ 255 := by
  induction k with
  | zero => simp [gatherTo]
  | succ k ih =>
    simp only [gatherTo]
    split
    · rename_i h
      exact (or_u8 _ _ ih.1 ih.2 h.1 h.2).2
    · exact ih

theorem gather_dec : ∀ n : Fin 256, gatherTo (123 :: (bodyTo (listTo (n.val : Int) 8) (listTo (n.val : Int) 8).length ++ [125])) (123 :: (bodyTo (listTo (n.val : Int) 8) (listTo (n.val : Int) 8).length ++ [125])).length = (n.val : Int) := by
  decide +kernel

theorem gather_text (s : Int) (s0 : 0 ≤ s) (s1 : s ≤ 255) : gatherTo (textI s).data.toList (textI s).size = s := by
  obtain ⟨n, rfl⟩ := Int.eq_ofNat_of_zero_le s0
  have := gather_dec ⟨n, by omega⟩
  simpa [textI, ByteArray.size] using this

theorem text_inj (s t : Int) (s0 : 0 ≤ s) (s1 : s ≤ 255) (t0 : 0 ≤ t) (t1 : t ≤ 255) (h : textI s = textI t) : s = t := by
  rw [← gather_text s s0 s1, h, gather_text t t0 t1]

theorem str_eq_of {a b : ByteArray} (h : a = b) : (a.toList == b.toList) = true := by subst h; simp
theorem str_ne_of {a b : ByteArray} (h : a ≠ b) : (a.toList == b.toList) = false := by
  rw [beq_eq_false_iff_ne]
  intro e
  rw [ByteArray.toList_eq, ByteArray.toList_eq] at e
  exact h (WideShapes.bytes_inj e)

theorem conv_bytes (w : World) (t : ByteArray) : ∃ cap wB, (convert 9 22 (.string t)).run Tryz.prog w = .ok (.slice (some ⟨w.heap.size, 0, none⟩) t.size cap) wB ∧
    (∀ j, j < t.size → wB.cell? ⟨w.heap.size, j, none⟩ = some (.int .u8 ((t.data.toList[j]?.getD 0).toNat : Int))) ∧ Below w.heap.size w wB ∧ wB.heap.size = w.heap.size + 1 := by
  refine ⟨_, _, Lib.run_convert_string_bytes (P := Tryz.prog) w 9 22 5 t Tryz.underlying9 Tryz.underlying22 Tryz.underlying5, fun j hj => ?_, ?_, Lib.bytesWorld_size _ _ _⟩
  · rw [Lib.bytesWorld_cell _ _ _ j hj]
    simp
  · refine ⟨rfl, rfl, rfl, by rw [Lib.bytesWorld_size]; omega, fun k hk => Lib.bytesWorld_at_old w _ t k hk⟩

set_option maxRecDepth 10000 in
set_option maxHeartbeats 400000 in
theorem implParse_w (t : ByteArray) (w : World) (ht : t.size ≤ 1048576) (c v : Int) (hcv : (t = textI (gatherTo t.data.toList t.size) ∧ c = 0 ∧ v = gatherTo t.data.toList t.size) ∨ (t ≠ textI (gatherTo t.data.toList t.size) ∧ c = 5 ∧ v = 0)) :
    Calls Tryz.prog 72 #[.string t] w fun e w' => e = .returned (.agg #[.int .i64 c, .int .i64 v]) ∧ Below w.heap.size w w' := by
  have ht' : (t.size : Int) ≤ 1048576 := by omega
  obtain ⟨cap, wB, hconv, hcell, hbel, hsz⟩ := conv_bytes (w.alloc (.cells #[.int .i64 0, .int .i64 0] 98)) t
  rw [World.size_alloc] at hconv hcell hsz
  have HC : Hid (∀ j, j < t.size → wB.cell? ⟨w.heap.size + 1, j, none⟩ = some (.int .u8 ((t.data.toList[j]?.getD 0).toNat : Int))) := hcell
  clear hcell
  have HCV : Hid ((t = textI (gatherTo t.data.toList t.size) ∧ c = 0 ∧ v = gatherTo t.data.toList t.size) ∨ (t ≠ textI (gatherTo t.data.toList t.size) ∧ c = 5 ∧ v = 0)) := hcv
  clear hcv
  go_enter Tryz.func72, Tryz.ntmps72
  go_wp2
  go_loop [3, 10] (fun s i => ∃ k : Nat, k ≤ t.size ∧ i = .int .i64 (k : Int) ∧ s = .int .u8 (gatherTo t.data.toList k)) (fun _ i => t.size - (intOf i).toNat)
  case atStart => exact ⟨0, Nat.zero_le _, rfl, rfl⟩
  case round =>
    obtain ⟨k, hk, rfl, rfl⟩ := hrel
    by_cases hlt : k < t.size
    · obtain ⟨y, hy⟩ : ∃ y : Int, y = ((t.data.toList[k]?.getD 0).toNat : Int) := ⟨_, rfl⟩
      have hck := HC.out k hlt
      rw [← hy] at hck
      have hy0 : 0 ≤ y := by omega
      have hy1 : y ≤ 255 := by have := (t.data.toList[k]?.getD 0).toNat_lt; omega
      have hbd := gather_bd t.data.toList k
      have HS : Hid (gatherTo t.data.toList (k + 1) = if 1 ≤ y - 48 ∧ y - 48 ≤ 8 then bits .or .i64 (gatherTo t.data.toList k) (bitI (y - 48)) else gatherTo t.data.toList k) := by rw [hy]; rfl
      clear hy
      have hlt' : (k : Int) < (t.size : Int) := by omega
      by_cases h1 : 1 ≤ y - 48 ∧ y - 48 ≤ 8
      · obtain ⟨y1, y8⟩ := h1
        have hou := or_u8 _ _ hbd.1 hbd.2 y1 y8
        have HS2 : Hid (gatherTo t.data.toList (k + 1) = bits .or .u8 (gatherTo t.data.toList k) (bitI (y - 48))) := by rw [hou.1]; exact HS.out.trans (if_pos ⟨y1, y8⟩)
        clear hou HS
        go_wp2_with (first | (go_at_call 75; refine (bitOf_c (y - 48) y1 y8 _).mono ?_; rintro e w' ⟨rfl, rfl⟩) | go_in)
        exact ⟨⟨k + 1, by omega, by go_num, by rw [HS2.out]⟩, by simp [intOf]; omega⟩
      · have HS2 : Hid (gatherTo t.data.toList (k + 1) = gatherTo t.data.toList k) := HS.out.trans (if_neg h1)
        clear HS
        by_cases hlo : 1 ≤ y - 48
        · have y8 : decide (y - 48 ≤ 8) = false := by simp; omega
          clear h1
          go_wp2
          exact ⟨⟨k + 1, by omega, by go_num, by rw [HS2.out]⟩, by simp [intOf]; omega⟩
        · have y0 : decide (1 ≤ y - 48) = false := by simp; omega
          clear h1
          go_wp2
          exact ⟨⟨k + 1, by omega, by go_num, by rw [HS2.out]⟩, by simp [intOf]; omega⟩
    · have hkn : k = t.size := by omega
      subst hkn
      have hbd := gather_bd t.data.toList t.size
      obtain ⟨b0, b1⟩ := hbd
      have HT := text_c (gatherTo t.data.toList t.size) b0 b1 wB
      have hz := hbel.size
      have HB : Hid (Below (w.heap.size + 1) (w.alloc (.cells #[.int .i64 0, .int .i64 0] 98)) wB) := by have := hbel; rw [World.size_alloc] at this; exact this
      have hr0 : wB.cell? ⟨w.heap.size, 0, none⟩ = some (.int .i64 0) := by rw [HB.out.cell (p := ⟨w.heap.size, 0, none⟩) (by simp)]; simp
      have hr1 : wB.cell? ⟨w.heap.size, 1, none⟩ = some (.int .i64 0) := by rw [HB.out.cell (p := ⟨w.heap.size, 1, none⟩) (by simp)]; simp
      have hf0 : wB.frozen? ⟨w.heap.size, 0, none⟩ = false := by rw [HB.out.frozen (p := ⟨w.heap.size, 0, none⟩) (by simp)]; simp
      have hf1 : wB.frozen? ⟨w.heap.size, 1, none⟩ = false := by rw [HB.out.frozen (p := ⟨w.heap.size, 1, none⟩) (by simp)]; simp
      obtain ⟨X, hX⟩ : ∃ X : ByteArray, X = textI (gatherTo t.data.toList t.size) := ⟨_, rfl⟩
      rw [← hX] at HT
      have HX : Hid (X = textI (gatherTo t.data.toList t.size)) := hX
      clear hX hbel hconv
      by_cases hXt : X = t
      · have hbne := str_eq_of hXt
        have HXt : Hid (X = t) := hXt
        clear hXt
        go_wp2_with (go_at_call 29; refine HT.mono ?_; rintro e w1 ⟨rfl, hb1⟩; obtain ⟨hc, hf⟩ := bcell hb1; have hz1 := hb1.size)
        have c0 : w1.cell? ⟨w.heap.size, 0, none⟩ = some (.int .i64 0) := (hc _ _ (by omega)).trans hr0
        have c1 : w1.cell? ⟨w.heap.size, 1, none⟩ = some (.int .i64 0) := (hc _ _ (by omega)).trans hr1
        refine bodyPost_ret (v := .agg #[.int .i64 0, .int .i64 (gatherTo t.data.toList t.size)]) (by simp [results, Tryz.results72, go_sem, c0, c1]) rfl ⟨?_, ?_⟩
        · rcases HCV.out with ⟨he, rfl, rfl⟩ | ⟨he, rfl, rfl⟩
          · rfl
          · exact absurd (HXt.out.symm.trans HX.out) he
        · exact ((((Below.refl _ _).alloc (Nat.le_refl _) _).trans (HB.out.mono (by omega))).trans (hb1.mono (by omega)) |>.setCell (Nat.le_refl _) _).setCell (Nat.le_refl _) _
      · have hbne := str_ne_of hXt
        have HXt : Hid (X ≠ t) := hXt
        clear hXt
        go_wp2_with (go_at_call 29; refine HT.mono ?_; rintro e w1 ⟨rfl, hb1⟩; obtain ⟨hc, hf⟩ := bcell hb1; have hz1 := hb1.size)
        have c0 : w1.cell? ⟨w.heap.size, 0, none⟩ = some (.int .i64 0) := (hc _ _ (by omega)).trans hr0
        have c1 : w1.cell? ⟨w.heap.size, 1, none⟩ = some (.int .i64 0) := (hc _ _ (by omega)).trans hr1
        refine bodyPost_ret (v := .agg #[.int .i64 5, .int .i64 0]) (by simp [results, Tryz.results72, go_sem, c0, c1]) rfl ⟨?_, ?_⟩
        · rcases HCV.out with ⟨he, rfl, rfl⟩ | ⟨he, rfl, rfl⟩
          · exact absurd (HX.out.trans he.symm) HXt.out
          · rfl
        · exact ((((Below.refl _ _).alloc (Nat.le_refl _) _).trans (HB.out.mono (by omega))).trans (hb1.mono (by omega)) |>.setCell (Nat.le_refl _) _).setCell (Nat.le_refl _) _

set_option maxHeartbeats 400000 in
theorem l1Parse_c (t : ByteArray) (w : World) (n : Nat) (hn : n ≤ 256) (hno : ∀ k : Nat, k < n → textI (k : Int) ≠ t) (v : Int) (b : Bool) (hv : (n = 256 ∧ v = 0 ∧ b = false) ∨ (n < 256 ∧ textI (n : Int) = t ∧ v = (n : Int) ∧ b = true)) :
    Calls Tryz.prog 59 #[.string t] w fun e w' => e = .returned (.tuple #[.int .i64 v, .bool b]) ∧ Below w.heap.size w w' := by
  have HN : Hid (∀ k : Nat, k < n → textI (k : Int) ≠ t) := hno
  have HV : Hid ((n = 256 ∧ v = 0 ∧ b = false) ∨ (n < 256 ∧ textI (n : Int) = t ∧ v = (n : Int) ∧ b = true)) := hv
  clear hno hv
  go_enter Tryz.func59, Tryz.ntmps59
  go_wp2
  go_loopw [4] (fun i wr => ∃ k : Nat, k ≤ n ∧ i = .int .i64 (k : Int) ∧ Below w.heap.size w wr) (fun i _ => 256 - (intOf i).toNat)
  case atStart => exact ⟨0, Nat.zero_le _, rfl, Below.refl _ _⟩
  case round =>
    obtain ⟨k, hk, rfl, hnx⟩ := hrel
    have hz := hnx.size
    by_cases hlt : k < n
    · have hne := str_ne_of (HN.out k hlt)
      have hlt' : (k : Int) < 256 := by omega
      go_wp2_with (go_at_call 45; refine (l1Text_c (k : Int) (by omega) (by omega) _).mono ?_; rintro e w1 ⟨rfl, hb1⟩)
      exact ⟨⟨k + 1, by omega, by go_num, hnx.trans (hb1.mono hz)⟩, by simp [intOf]; omega⟩
    · have hkn : k = n := by omega
      subst hkn
      rcases HV.out with ⟨rfl, rfl, rfl⟩ | ⟨h256, he, rfl, rfl⟩
      · go_wp2
        go_ret2
        exact ⟨rfl, hnx⟩
      · have heq := str_eq_of he
        have hlt' : (k : Int) < 256 := by omega
        clear he
        go_wp2_with (go_at_call 45; refine (l1Text_c (k : Int) (by omega) (by omega) _).mono ?_; rintro e w1 ⟨rfl, hb1⟩)
        go_ret2
        exact ⟨rfl, hnx.trans (hb1.mono hz)⟩

/-- The first set whose text it is, or none. -/
theorem parse_first (t : ByteArray) (m : Nat) : (∀ k : Nat, k < m → textI (k : Int) ≠ t) ∨ ∃ n, n < m ∧ textI (n : Int) = t ∧ ∀ k : Nat, k < n → textI (k : Int) ≠ t := by
  induction m with
  | zero => exact .inl (fun k hk => by omega)
  | succ m ih =>
    rcases ih with h | ⟨n, hn, h⟩
    · by_cases e : textI (m : Int) = t
      · exact .inr ⟨m, by omega, e, h⟩
      · refine .inl (fun k hk => ?_)
        by_cases e2 : k = m
        · subst e2; exact e
        · exact h k (by omega)
    · exact .inr ⟨n, by omega, h⟩

end Go.Proofs.YtdmejfhojdkfbaaGreatDoor
