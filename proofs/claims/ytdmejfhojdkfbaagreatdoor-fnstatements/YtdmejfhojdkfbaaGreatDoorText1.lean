/-
  CONTRACTS of spec.l1Digits (one digit) and spec.l1Text, for sets of 0 to 255.
  Conditions: each contract bears its own.
-/
import Derived.Test.YtdmejfhojdkfbaaGreatDoorSpec1
import Derived.WalkLawsBesides
import Derived.WalkSpells
import Derived.Laws.IdiomStrings
namespace Go.Proofs.YtdmejfhojdkfbaaGreatDoor
open Go.RowKit
set_option linter.unusedVariables false

/-- The digit of a principal. -/
def digitB (p : Int) : UInt8 := UInt8.ofNat (48 + p.toNat)

/-- The first k of a list, as digits with commas between. -/
def bodyTo (zs : List Int) : Nat → List UInt8
  | 0 => []
  | k + 1 => bodyTo zs k ++ (if 0 < k then [44] else []) ++ [digitB (zs[k]?.getD 0)]

/-- A set's text. -/
def textI (s : Int) : ByteArray := ⟨(123 :: (bodyTo (listTo s 8) (listTo s 8).length ++ [125])).toArray⟩

theorem bodyTo_len (zs : List Int) (k : Nat) : (bodyTo zs k).length ≤ 2 * k := by
  induction k with
  | zero => simp [bodyTo]
  | succ k ih =>
    simp only [bodyTo, List.length_append, List.length_cons, List.length_nil]
    split <;> simp <;> omega

theorem textI_size (s : Int) (s0 : 0 ≤ s) (s1 : s ≤ 255) : 2 ≤ (textI s).size ∧ (textI s).size ≤ 18 := by
  have h1 := bodyTo_len (listTo s 8) (listTo s 8).length
  have h2 := listTo_le s 8
  simp [textI, ByteArray.size]
  omega

theorem listTo_mem (s : Int) (m : Nat) : ∀ k, k < (listTo s m).length → 1 ≤ (listTo s m)[k]?.getD 0 ∧ (listTo s m)[k]?.getD 0 ≤ m := by
  induction m with
  | zero => intro k hk; simp [listTo] at hk
  | succ m ih =>
    intro k hk
    simp only [listTo] at hk ⊢
    split at hk <;> rename_i hh
    · rw [if_pos hh]
      by_cases e : k < (listTo s m).length
      · rw [List.getElem?_append_left e]
        have := ih k e
        omega
      · have e2 : k = (listTo s m).length := by simp at hk; omega
        subst e2
        simp
        omega
    · rw [if_neg hh]
      have := ih k hk
      omega

theorem text_first {T : ByteArray} {zs : List Int} {y : Int} (hT : T = ⟨(123 :: bodyTo zs 0).toArray⟩) (hy : y = zs[0]?.getD 0) : T ++ ⟨#[digitB y]⟩ = ⟨(123 :: bodyTo zs 1).toArray⟩ := by
  subst hT hy
  rw [ByteArray.mk_append_mk]
  simp [bodyTo]

theorem text_next {T : ByteArray} {zs : List Int} {y : Int} {k : Nat} (hk : 0 < k) (hT : T = ⟨(123 :: bodyTo zs k).toArray⟩) (hy : y = zs[k]?.getD 0) : T ++ ⟨#[44]⟩ ++ ⟨#[digitB y]⟩ = ⟨(123 :: bodyTo zs (k + 1)).toArray⟩ := by
  subst hT hy
  rw [ByteArray.mk_append_mk, ByteArray.mk_append_mk]
  simp [bodyTo, hk]

theorem text_last {T : ByteArray} {s : Int} (hT : T = ⟨(123 :: bodyTo (listTo s 8) (listTo s 8).length).toArray⟩) : T ++ ⟨#[125]⟩ = textI s := by
  subst hT
  rw [ByteArray.mk_append_mk]
  simp [textI]

theorem conv1 (w : World) (x : Int) (b : UInt8) (hx : (b.toNat : Int) = x) :
    (convert 22 9 (.slice (some ⟨w.heap.size, 0, none⟩) 1 1)).run Tryz.prog (w.alloc (.cells #[.int .u8 x] 5)) = .ok (.string ⟨#[b]⟩) (w.alloc (.cells #[.int .u8 x] 5)) := by
  have h := run_convert_bytes_back (P := Tryz.prog) (w.alloc (.cells #[.int .u8 x] 5)) 22 9 5 ⟨w.heap.size, 0, none⟩ 1 [b] Tryz.underlying22 Tryz.underlying5 Tryz.underlying9
    (fun j hj => by
      match j, hj with
      | 0, _ => simp [Addr.add, hx])
  simpa using h

set_option maxHeartbeats 400000 in
theorem l1Digits_c (p : Int) (p0 : 1 ≤ p) (p1 : p ≤ 8) (w : World) :
    Calls Tryz.prog 44 #[.int .i64 p] w fun e w' => e = .returned (.string ⟨#[digitB p]⟩) ∧ Below w.heap.size w w' := by
  have hp : p = 1 ∨ p = 2 ∨ p = 3 ∨ p = 4 ∨ p = 5 ∨ p = 6 ∨ p = 7 ∨ p = 8 := by omega
  rcases hp with rfl | rfl | rfl | rfl | rfl | rfl | rfl | rfl
  · have hcv := conv1 w 49 49 rfl
    go_enter Tryz.func44, Tryz.ntmps44
    go_wp2
    go_ret
    exact ⟨rfl, (Below.refl _ _).alloc (Nat.le_refl _) _⟩
  · have hcv := conv1 w 50 50 rfl
    go_enter Tryz.func44, Tryz.ntmps44
    go_wp2
    go_ret
    exact ⟨rfl, (Below.refl _ _).alloc (Nat.le_refl _) _⟩
  · have hcv := conv1 w 51 51 rfl
    go_enter Tryz.func44, Tryz.ntmps44
    go_wp2
    go_ret
    exact ⟨rfl, (Below.refl _ _).alloc (Nat.le_refl _) _⟩
  · have hcv := conv1 w 52 52 rfl
    go_enter Tryz.func44, Tryz.ntmps44
    go_wp2
    go_ret
    exact ⟨rfl, (Below.refl _ _).alloc (Nat.le_refl _) _⟩
  · have hcv := conv1 w 53 53 rfl
    go_enter Tryz.func44, Tryz.ntmps44
    go_wp2
    go_ret
    exact ⟨rfl, (Below.refl _ _).alloc (Nat.le_refl _) _⟩
  · have hcv := conv1 w 54 54 rfl
    go_enter Tryz.func44, Tryz.ntmps44
    go_wp2
    go_ret
    exact ⟨rfl, (Below.refl _ _).alloc (Nat.le_refl _) _⟩
  · have hcv := conv1 w 55 55 rfl
    go_enter Tryz.func44, Tryz.ntmps44
    go_wp2
    go_ret
    exact ⟨rfl, (Below.refl _ _).alloc (Nat.le_refl _) _⟩
  · have hcv := conv1 w 56 56 rfl
    go_enter Tryz.func44, Tryz.ntmps44
    go_wp2
    go_ret
    exact ⟨rfl, (Below.refl _ _).alloc (Nat.le_refl _) _⟩

set_option maxHeartbeats 400000 in
theorem l1Text_c (s : Int) (h0 : 0 ≤ s) (h1 : s ≤ 255) (w : World) :
    Calls Tryz.prog 45 #[.int .i64 s] w fun e w' => e = .returned (.string (textI s)) ∧ Below w.heap.size w w' := by
  have hl8 := listTo_le s 8
  go_enter Tryz.func45, Tryz.ntmps45
  go_wp2_with (go_at_call 69; refine (l1List_c s h0 h1 _).mono ?_; rintro e w1 ⟨g, cap, rfl, hown, hb⟩)
  go_loopw [3, 5] (fun o i wr => ∃ k : Nat, k ≤ (listTo s 8).length ∧ i = .int .i64 (k : Int) ∧ o = .string ⟨(123 :: bodyTo (listTo s 8) k).toArray⟩ ∧ Below w1.heap.size w1 wr) (fun _ i _ => (listTo s 8).length - (intOf i).toNat)
  case atStart => exact ⟨0, Nat.zero_le _, rfl, rfl, Below.refl _ _⟩
  case round =>
    obtain ⟨k, hk, rfl, rfl, hnx⟩ := hrel
    have hbl := bodyTo_len (listTo s 8) k
    by_cases hlt : k < (listTo s 8).length
    · obtain ⟨y, hy⟩ : ∃ y, y = (listTo s 8)[k]?.getD 0 := ⟨_, rfl⟩
      obtain ⟨y1, y8⟩ := listTo_mem s 8 k hlt
      rw [← hy] at y1 y8
      have hg : g < w1.heap.size := (hown.lt g rfl).2
      have hck : wr.cell? ⟨g, k, none⟩ = some (.int .i64 y) := by
        rw [hnx.cell (p := ⟨g, k, none⟩) hg, hown.cellAt k (by omega), hy]
        simp [List.getElem?_eq_getElem hlt]
      obtain ⟨T, hT⟩ : ∃ T : ByteArray, T = ⟨(123 :: bodyTo (listTo s 8) k).toArray⟩ := ⟨_, rfl⟩
      have hTs : T.size ≤ 100 := by rw [hT]; simp [ByteArray.size]; omega
      have HT : Hid (T = ⟨(123 :: bodyTo (listTo s 8) k).toArray⟩) := hT
      have HY : Hid (y = (listTo s 8)[k]?.getD 0) := hy
      rw [← hT]
      clear hT hy
      have hlt' : (k : Int) < ((listTo s 8).length : Int) := by omega
      have hz := hnx.size
      by_cases h0k : k = 0
      · subst h0k
        go_wp2_with (go_at_call 44; refine (l1Digits_c y y1 y8 _).mono ?_; rintro e w2 ⟨rfl, hb2⟩)
        exact ⟨⟨1, by omega, rfl, congrArg Value.string (text_first HT.out HY.out), hnx.trans (hb2.mono hz)⟩, by simp [intOf]; omega⟩
      · have h0k' : (0 : Int) < (k : Int) := by omega
        go_wp2_with (go_at_call 44; refine (l1Digits_c y y1 y8 _).mono ?_; rintro e w2 ⟨rfl, hb2⟩)
        exact ⟨⟨k + 1, by omega, by go_num, congrArg Value.string (text_next (by omega) HT.out HY.out), hnx.trans (hb2.mono hz)⟩, by simp [intOf]; omega⟩
    · have hkn : k = (listTo s 8).length := by omega
      subst hkn
      obtain ⟨T, hT⟩ : ∃ T : ByteArray, T = ⟨(123 :: bodyTo (listTo s 8) (listTo s 8).length).toArray⟩ := ⟨_, rfl⟩
      have hTs : T.size ≤ 100 := by rw [hT]; simp [ByteArray.size]; omega
      have HT : Hid (T = ⟨(123 :: bodyTo (listTo s 8) (listTo s 8).length).toArray⟩) := hT
      rw [← hT]
      clear hT
      go_wp2
      go_ret
      exact ⟨congrArg (fun x => Ending.returned (Value.string x)) (text_last HT.out), hb.trans (hnx.mono hb.size)⟩

end Go.Proofs.YtdmejfhojdkfbaaGreatDoor
