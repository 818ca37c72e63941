/-
  CONTRACTS of spec.l1Digits (one digit) and spec.l1Text, for sets of 0 to 255.
  Conditions: each contract bears its own.
-/
import Derived.Test.YtnmidppiakdanaaDoorSpec1
import Derived.WalkLawsBesides
import Derived.WalkSpells
import Derived.Laws.IdiomStrings
namespace Go.Proofs.YtnmidppiakdanaaDoor
open Go.RowKit
set_option linter.unusedVariables false

/-- The digit of a principal. -/
def digitB (p : Int) : UInt8 := UInt8.ofNat (48 + p.toNat)

/-- The first k of a list, as digits with commas between. -/
def bodyTo (zs : List Int) : Nat → List UInt8
  | 0 => []
  | k + 1 => bodyTo zs k ++ (if 0 < k then [44] else []) ++ [digitB (zs[k]?.getD 0)]

/-- A set's text. -/
def textI (s : Int) : ByteArray := ⟨(123 :: (bodyTo (listTo s 8) (listTo s 8).length ++ [125])).toArray⟩

theorem bodyTo_len (zs : List Int) (k : Nat) : (bodyTo zs k).length ≤ 2 * k := by
  induction k with
  | zero => simp [bodyTo]
  | succ k ih =>
    simp only [bodyTo, List.length_append, List.length_cons, List.length_nil]
    split <;> simp <;> omega

theorem textI_size (s : Int) (s0 : 0 ≤ s) (s1 : s ≤ 255) : 2 ≤ (textI s).size ∧ (textI s).size ≤ 18 := by
  have h1 := bodyTo_len (listTo s 8) (listTo s 8).length
  have h2 := listTo_le s 8
  simp [textI, ByteArray.size]
  omega

theorem listTo_mem (s : Int) (m : Nat) : ∀ k, k < (listTo s m).length → 1 ≤ (listTo s m)[k]?.getD 0 ∧ (listTo s m)[k]?.getD 0 ≤ m := by
  induction m with
  | zero => intro k hk; simp [listTo] at hk
  | succ m ih =>
    intro k hk
    simp only [listTo] at hk ⊢
    split at hk <;> rename_i hh
    · rw [if_pos hh]
      by_cases e : k < (listTo s m).length
      · rw [List.getElem?_append_left e]
        have := ih k e
        omega
      · have e2 : k = (listTo s m).length := by simp at hk; omega
        subst e2
        simp
        omega
    · rw [if_neg hh]
      have := ih k hk
      omega

theorem text_first {T : ByteArray} {zs : List Int} {y : Int} (hT : T = ⟨(123 :: bodyTo zs 0).toArray⟩) (hy : y = zs[0]?.getD 0) : T ++ ⟨#[digitB y]⟩ = ⟨(123 :: bodyTo zs 1).toArray⟩ := by
  subst hT hy
  rw [ByteArray.mk_append_mk]
  simp [bodyTo]

theorem text_next {T : ByteArray} {zs : List Int} {y : Int} {k : Nat} (hk : 0 < k) (hT : T = ⟨(123 :: bodyTo zs k).toArray⟩) (hy : y = zs[k]?.getD 0) : T ++ ⟨#[44]⟩ ++ ⟨#[digitB y]⟩ = ⟨(123 :: bodyTo zs (k + 1)).toArray⟩ := by
  subst hT hy
  rw [ByteArray.mk_append_mk, ByteArray.mk_append_mk]
  simp [bodyTo, hk]

theorem text_last {T : ByteArray} {s : Int} (hT : T = ⟨(123 :: bodyTo (listTo s 8) (listTo s 8).length).toArray⟩) : T ++ ⟨#[125]⟩ = textI s := by
  subst hT
  rw [ByteArray.mk_append_mk]
  simp [textI]

theorem conv1 (w : World) (x : Int) (b : UInt8) (hx : (b.toNat : Int) = x) :
    (convert 56 9 (.slice (some ⟨w.heap.size, 0, none⟩) 1 1)).run Tryd.prog (w.alloc (.cells #[.int .u8 x] 5)) = .ok (.string ⟨#[b]⟩) (w.alloc (.cells #[.int .u8 x] 5)) := by
  have h := run_convert_bytes_back (P := Tryd.prog) (w.alloc (.cells #[.int .u8 x] 5)) 56 9 5 ⟨w.heap.size, 0, none⟩ 1 [b] Tryd.underlying56 Tryd.underlying5 Tryd.underlying9
    (fun j hj => by
      match j, hj with
      | 0, _ => simp [Addr.add, hx])
  simpa using h

set_option maxHeartbeats 400000 in
theorem l1Digits_c (p : Int) (p0 : 1 ≤ p) (p1 : p ≤ 8) (w : World) :
    Calls Tryd.prog 25 #[.int .i64 p] w fun e w' => e = .returned (.string ⟨#[digitB p]⟩) ∧ Below w.heap.size w w' := by
  have hp : p = 1 ∨ p = 2 ∨ p = 3 ∨ p = 4 ∨ p = 5 ∨ p = 6 ∨ p = 7 ∨ p = 8 := by omega
  rcases hp with rfl | rfl | rfl | rfl | rfl | rfl | rfl | rfl
  · have hcv := conv1 w 49 49 rfl
    go_enter Tryd.func25, Tryd.ntmps25
    go_wp2
    go_ret
    exact ⟨rfl, (Below.refl _ _).alloc (Nat.le_refl _) _⟩
  · have hcv := conv1 w 50 50 rfl
    go_enter Tryd.func25, Tryd.ntmps25
    go_wp2
    go_ret
    exact ⟨rfl, (Below.refl _ _).alloc (Nat.le_refl _) _⟩
  · have hcv := conv1 w 51 51 rfl
    go_enter Tryd.func25, Tryd.ntmps25
    go_wp2
    go_ret
    exact ⟨rfl, (Below.refl _ _).alloc (Nat.le_refl _) _⟩
  · have hcv := conv1 w 52 52 rfl
    go_enter Tryd.func25, Tryd.ntmps25
    go_wp2
    go_ret
    exact ⟨rfl, (Below.refl _ _).alloc (Nat.le_refl _) _⟩
  · have hcv := conv1 w 53 53 rfl
    go_enter Tryd.func25, Tryd.ntmps25
    go_wp2
    go_ret
    exact ⟨rfl, (Below.refl _ _).alloc (Nat.le_refl _) _⟩
  · have hcv := conv1 w 54 54 rfl
    go_enter Tryd.func25, Tryd.ntmps25
    go_wp2
    go_ret
    exact ⟨rfl, (Below.refl _ _).alloc (Nat.le_refl _) _⟩
  · have hcv := conv1 w 55 55 rfl
    go_enter Tryd.func25, Tryd.ntmps25
    go_wp2
    go_ret
    exact ⟨rfl, (Below.refl _ _).alloc (Nat.le_refl _) _⟩
  · have hcv := conv1 w 56 56 rfl
    go_enter Tryd.func25, Tryd.ntmps25
    go_wp2
    go_ret
    exact ⟨rfl, (Below.refl _ _).alloc (Nat.le_refl _) _⟩

end Go.Proofs.YtnmidppiakdanaaDoor
