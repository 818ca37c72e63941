/-
  PLAIN FACTS on the bits of a set (0 to 255): no Go text is walked here.
  Conditions: each fact bears its own.
  CONTRACTS of small functions of the model of chapter 1 (spec.l1Has, spec.l1List) and of impl's, for sets of 0 to 255.
  Conditions: each contract bears its own.
  CONTRACTS of spec.l1Digits (one digit) and spec.l1Text, for sets of 0 to 255.
  Conditions: each contract bears its own.
  THE LIBRARY's OWN CONTRACTS of strings.Join and strconv.FormatInt (small numbers), laid at this program by the kit's tools (lay-shelf, lay-plain).
  Conditions: each theorem bears its own.
-/
import Derived.WalkKit
import Derived.Laws.BitsAllLaws
import Derived.Test.YtnfolmjdicfobaaGreatDoorChecked
import Derived.ProofKit
import Derived.Outline
import Derived.WalkLawsBesides
import Derived.WalkSpells
import Derived.Laws.IdiomStrings
import Derived.Shelf.Strings.Builder1
import Derived.Shelf.Strings.Builder2
import Derived.Shelf.Strings.OnBuilder
import Derived.Shelf.Small.Bits
import Derived.Shelf.Strconv.Itoa0
import Derived.Shelf.Strconv.Itoa1
import Derived.Shelf.LaysM
import Derived.Shelf.Strconv.Itoa2
import Derived.Shelf.Strconv.Itoa3
import Derived.Shelf.Strconv.Itoa4
import Derived.Test.YtnfolmjdicfobaaGreatDoorProg
namespace Go.Proofs.YtnfolmjdicfobaaGreatDoor
open Go.RowKit

/-- Principal p is in the set s. -/
def hasI (s p : Int) : Bool := s.toNat.testBit (p - 1).toNat

/-- The principals of s among 1 .. k. -/
def listTo (s : Int) : Nat → List Int
  | 0 => []
  | k + 1 => if hasI s ((k : Int) + 1) then listTo s k ++ [(k : Int) + 1] else listTo s k

theorem and_dec : ∀ n : Fin 256, ∀ k : Fin 8, (bits .and .u8 ((n.val : Nat) : Int) ((2 ^ k.val : Nat) : Int) = bits .and .i64 ((n.val : Nat) : Int) ((2 ^ k.val : Nat) : Int)) ∧ (bits .and .i64 ((n.val : Nat) : Int) ((2 ^ k.val : Nat) : Int) != 0) = n.val.testBit k.val := by
  decide +kernel

theorem and_i64 (s p : Int) (h0 : 0 ≤ s) (h1 : s ≤ 255) (p0 : 1 ≤ p) (p1 : p ≤ 8) :
    (bits .and .i64 s ((2 ^ (p - 1).toNat : Nat) : Int) != 0) = hasI s p := by
  obtain ⟨n, rfl⟩ := Int.eq_ofNat_of_zero_le h0
  have := (and_dec ⟨n, by omega⟩ ⟨(p - 1).toNat, by omega⟩).2
  simpa [hasI] using this

theorem and_u8 (s p : Int) (h0 : 0 ≤ s) (h1 : s ≤ 255) (p0 : 1 ≤ p) (p1 : p ≤ 8) :
    (bits .and .u8 s ((2 ^ (p - 1).toNat : Nat) : Int) != 0) = hasI s p := by
  obtain ⟨n, rfl⟩ := Int.eq_ofNat_of_zero_le h0
  have h := and_dec ⟨n, by omega⟩ ⟨(p - 1).toNat, by omega⟩
  have h2 := h.2
  rw [← h.1] at h2
  simpa [hasI] using h2

end Go.Proofs.YtnfolmjdicfobaaGreatDoor

namespace Go.Proofs.YtnfolmjdicfobaaGreatDoor
open Go.RowKit
set_option linter.unusedVariables false

set_option maxHeartbeats 400000 in
theorem l1Has_c (s p : Int) (h0 : 0 ≤ s) (h1 : s ≤ 255) (p0 : 1 ≤ p) (p1 : p ≤ 8) (w : World) :
    Calls Tryz.prog 103 #[.int .i64 s, .int .i64 p] w fun e w' => e = .returned (.bool (hasI s p)) ∧ w = w' := by
  have hp : p = 1 ∨ p = 2 ∨ p = 3 ∨ p = 4 ∨ p = 5 ∨ p = 6 ∨ p = 7 ∨ p = 8 := by omega
  rcases hp with rfl | rfl | rfl | rfl | rfl | rfl | rfl | rfl
  · have e1 := and_i64 s 1 h0 h1 (by omega) (by omega)
    simp at e1
    go_enter Tryz.func103, Tryz.ntmps103
    go_wp2
    go_ret
    exact ⟨rfl, rfl⟩
  · have e1 := and_i64 s 2 h0 h1 (by omega) (by omega)
    simp at e1
    go_enter Tryz.func103, Tryz.ntmps103
    go_wp2
    go_ret
    exact ⟨rfl, rfl⟩
  · have e1 := and_i64 s 3 h0 h1 (by omega) (by omega)
    simp at e1
    go_enter Tryz.func103, Tryz.ntmps103
    go_wp2
    go_ret
    exact ⟨rfl, rfl⟩
  · have e1 := and_i64 s 4 h0 h1 (by omega) (by omega)
    simp at e1
    go_enter Tryz.func103, Tryz.ntmps103
    go_wp2
    go_ret
    exact ⟨rfl, rfl⟩
  · have e1 := and_i64 s 5 h0 h1 (by omega) (by omega)
    simp at e1
    go_enter Tryz.func103, Tryz.ntmps103
    go_wp2
    go_ret
    exact ⟨rfl, rfl⟩
  · have e1 := and_i64 s 6 h0 h1 (by omega) (by omega)
    simp at e1
    go_enter Tryz.func103, Tryz.ntmps103
    go_wp2
    go_ret
    exact ⟨rfl, rfl⟩
  · have e1 := and_i64 s 7 h0 h1 (by omega) (by omega)
    simp at e1
    go_enter Tryz.func103, Tryz.ntmps103
    go_wp2
    go_ret
    exact ⟨rfl, rfl⟩
  · have e1 := and_i64 s 8 h0 h1 (by omega) (by omega)
    simp at e1
    go_enter Tryz.func103, Tryz.ntmps103
    go_wp2
    go_ret
    exact ⟨rfl, rfl⟩

theorem Tryz.info2 : (Tryz.prog.info? 2).map (fun i => (i.zero, i.size, i.bytes)) = some (some (.int .i64 0), 1, 8) := by kernel_rfl

theorem listTo_le (s : Int) (k : Nat) : (listTo s k).length ≤ k := by
  induction k with
  | zero => simp [listTo]
  | succ k ih =>
    simp only [listTo]
    split
    · simp; omega
    · omega

theorem listTo_hit (s : Int) (k : Nat) (h : hasI s ((k : Int) + 1) = true) : listTo s (k + 1) = listTo s k ++ [(k : Int) + 1] := by simp [listTo, h]
theorem listTo_miss (s : Int) (k : Nat) (h : hasI s ((k : Int) + 1) = false) : listTo s (k + 1) = listTo s k := by simp [listTo, h]

/-- An append of one more principal, behind the law of append. -/
theorem list_keep {B k : Nat} {s : Int} {w wr w1 : World} {u v' : Value} {o : Obj} (hB : B ≤ wr.heap.size) (hh : hasI s ((k : Int) + 1) = true)
    (hown : wr.ownsRow B 2 1 u (listTo s k).length ((listTo s k).map (Value.int .i64))) (hnx : Below B w wr)
    (hown' : w1.ownsRow B 2 1 v' ((listTo s k).length + 1) ((listTo s k).map (Value.int .i64) ++ [.int .i64 ((k : Int) + 1)])) (hgrow : (wr.alloc o).grownBy w1 u.ownBlock) :
    w1.ownsRow B 2 1 v' (listTo s (k + 1)).length ((listTo s (k + 1)).map (Value.int .i64)) ∧ Below B w w1 := by
  refine ⟨by rw [listTo_hit s k hh]; simpa using hown', (hnx.alloc (by omega) o).grown hgrow (by simp; omega) (fun j hj => by have := (hown.lt j hj).1; omega)⟩

theorem bcell {W w1 : World} (hb : Below W.heap.size W w1) : (∀ b o, b < W.heap.size → w1.cell? ⟨b, o, none⟩ = W.cell? ⟨b, o, none⟩) ∧ (∀ b o, b < W.heap.size → w1.frozen? ⟨b, o, none⟩ = W.frozen? ⟨b, o, none⟩) :=
  ⟨fun b o h => hb.cell (p := ⟨b, o, none⟩) h, fun b o h => hb.frozen (p := ⟨b, o, none⟩) h⟩

theorem owns_slice {w : World} {b : Nat} {t : TypeId} {v : Value} {n : Nat} {xs : List Value} (h : w.ownsRow b t 1 v n xs) : ∃ a cap, v = .slice a n cap := by
  rcases h.2 with ⟨h', h0⟩ | ⟨g, cap, cur, h', _⟩
  · exact ⟨none, 0, by rw [h0]; exact h'⟩
  · exact ⟨_, cap, h'⟩

theorem owns_shape {w : World} {b : Nat} {t : TypeId} {v : Value} {n : Nat} {xs : List Value} (h : w.ownsRow b t 1 v n xs) (hv : v ≠ .slice none 0 0) : ∃ g cap, v = .slice (some ⟨g, 0, none⟩) n cap := by
  rcases h.2 with ⟨h', _⟩ | ⟨g, cap, cur, h', _⟩
  · exact absurd h' hv
  · exact ⟨g, cap, h'⟩

set_option maxHeartbeats 400000 in
theorem l1List_c (s : Int) (h0 : 0 ≤ s) (h1 : s ≤ 255) (w : World) :
    Calls Tryz.prog 59 #[.int .i64 s] w fun e w' => ∃ g cap, e = .returned (.slice (some ⟨g, 0, none⟩) (listTo s 8).length cap) ∧
      w'.ownsRow w.heap.size 2 1 (.slice (some ⟨g, 0, none⟩) (listTo s 8).length cap) (listTo s 8).length ((listTo s 8).map (Value.int .i64)) ∧ Below w.heap.size w w' := by
  obtain ⟨i0, hi, hz0, hz1, hz2⟩ := info_parts Tryz.info2
  go_enter Tryz.func59, Tryz.ntmps59
  go_wp2
  go_loopw [3, 4] (fun v p wr => ∃ k : Nat, k ≤ 8 ∧ p = .int .i64 ((k : Int) + 1) ∧ wr.ownsRow w.heap.size 2 1 v (listTo s k).length ((listTo s k).map (Value.int .i64)) ∧ Below w.heap.size w wr ∧ v ≠ .slice none 0 0)
    (fun _ p _ => 9 - (intOf p).toNat)
  case atStart => exact ⟨0, Nat.zero_le _, rfl, World.ownsRow_lit w #[] 0 (Nat.le_refl _) (Nat.zero_le _) rfl, (Below.refl _ _).alloc (Nat.le_refl _) _, by simp⟩
  case round =>
    obtain ⟨k, hk, rfl, hown, hnx, hnn⟩ := hrel
    have hkl := listTo_le s k
    by_cases hlt : k < 8
    · have hlt' : (k : Int) + 1 ≤ 8 := by omega
      cases hh : hasI s ((k : Int) + 1) with
      | true =>
        have HH : Hid (hasI s ((k : Int) + 1) = true) := hh
        clear hh
        go_wp2_with (first
          | (at_builtin; refine wpList_append_own _ rfl _ _ 26 rfl w.heap.size 2 i0 (.int .i64 0) 1 8 Tryz.underlying26 hi hz0 hz1 hz2 rfl (by decide) _ _ _ rfl (hown.alloc _) ⟨wr.heap.size, 0, none⟩ 1 1 [.int .i64 ((k : Int) + 1)] rfl rfl ?c1 ?c2 ?c3 ?c4 ?c5 ?_)
          | (go_at_call 103; refine (l1Has_c s _ h0 h1 (by omega) (by omega) _).mono ?_; rintro e w' ⟨rfl, rfl⟩; rw [HH.out]))
        case c1 =>
          intro j u hj
          match j, hj with
          | 0, hj => simp at hj; subst hj; simp [Addr.add]
        case c2 => intro u hu; simp at hu; subst hu; rfl
        case c3 => unfold maxLen; omega
        case c4 => omega
        case c5 => have := hnx.size; simp; omega
        · intro v' w1 hown' hgrow hnil
          have hnn' : v' ≠ .slice none 0 0 := hnil
          clear hnil
          have R := list_keep (by have := hnx.size; omega) HH.out hown hnx hown' hgrow
          clear hown' hgrow hown
          go_wp2
          go_roundw
          case rel => exact ⟨k + 1, by omega, by go_num, R.1, R.2, hnn'⟩
          case measure => simp [intOf]; omega
      | false =>
        have HH : Hid (hasI s ((k : Int) + 1) = false) := hh
        clear hh
        go_wp2_with (go_at_call 103; refine (l1Has_c s _ h0 h1 (by omega) (by omega) _).mono ?_; rintro e w' ⟨rfl, rfl⟩; rw [HH.out])
        go_roundw
        case rel => exact ⟨k + 1, by omega, by go_num, by rw [listTo_miss s k HH.out]; exact hown, hnx, hnn⟩
        case measure => simp [intOf]; omega
    · have hk8 : k = 8 := by omega
      subst hk8
      obtain ⟨g, cap, hv⟩ := owns_shape hown hnn
      rw [hv] at hown ⊢
      clear hv hnn
      go_wp2
      go_ret
      exact ⟨g, cap, rfl, hown, hnx⟩

end Go.Proofs.YtnfolmjdicfobaaGreatDoor

namespace Go.Proofs.YtnfolmjdicfobaaGreatDoor
open Go.RowKit
set_option linter.unusedVariables false

/-- The digit of a principal. -/
def digitB (p : Int) : UInt8 := UInt8.ofNat (48 + p.toNat)

/-- The first k of a list, as digits with commas between. -/
def bodyTo (zs : List Int) : Nat → List UInt8
  | 0 => []
  | k + 1 => bodyTo zs k ++ (if 0 < k then [44] else []) ++ [digitB (zs[k]?.getD 0)]

/-- A set's text. -/
def textI (s : Int) : ByteArray := ⟨(123 :: (bodyTo (listTo s 8) (listTo s 8).length ++ [125])).toArray⟩

theorem bodyTo_len (zs : List Int) (k : Nat) : (bodyTo zs k).length ≤ 2 * k := by
  induction k with
  | zero => simp [bodyTo]
  | succ k ih =>
    simp only [bodyTo, List.length_append, List.length_cons, List.length_nil]
    split <;> simp <;> omega

theorem textI_size (s : Int) (s0 : 0 ≤ s) (s1 : s ≤ 255) : 2 ≤ (textI s).size ∧ (textI s).size ≤ 18 := by
  have h1 := bodyTo_len (listTo s 8) (listTo s 8).length
  have h2 := listTo_le s 8
  simp [textI, ByteArray.size]
  omega

theorem listTo_mem (s : Int) (m : Nat) : ∀ k, k < (listTo s m).length → 1 ≤ (listTo s m)[k]?.getD 0 ∧ (listTo s m)[k]?.getD 0 ≤ m := by
  induction m with
  | zero => intro k hk; simp [listTo] at hk
  | succ m ih =>
    intro k hk
    simp only [listTo] at hk ⊢
    split at hk <;> rename_i hh
    · rw [if_pos hh]
      by_cases e : k < (listTo s m).length
      · rw [List.getElem?_append_left e]
        have := ih k e
        omega
      · have e2 : k = (listTo s m).length := by simp at hk; omega
        subst e2
        simp
        omega
    · rw [if_neg hh]
      have := ih k hk
      omega

theorem text_first {T : ByteArray} {zs : List Int} {y : Int} (hT : T = ⟨(123 :: bodyTo zs 0).toArray⟩) (hy : y = zs[0]?.getD 0) : T ++ ⟨#[digitB y]⟩ = ⟨(123 :: bodyTo zs 1).toArray⟩ := by
  subst hT hy
  rw [ByteArray.mk_append_mk]
  simp [bodyTo]

theorem text_next {T : ByteArray} {zs : List Int} {y : Int} {k : Nat} (hk : 0 < k) (hT : T = ⟨(123 :: bodyTo zs k).toArray⟩) (hy : y = zs[k]?.getD 0) : T ++ ⟨#[44]⟩ ++ ⟨#[digitB y]⟩ = ⟨(123 :: bodyTo zs (k + 1)).toArray⟩ := by
  subst hT hy
  rw [ByteArray.mk_append_mk, ByteArray.mk_append_mk]
  simp [bodyTo, hk]

theorem text_last {T : ByteArray} {s : Int} (hT : T = ⟨(123 :: bodyTo (listTo s 8) (listTo s 8).length).toArray⟩) : T ++ ⟨#[125]⟩ = textI s := by
  subst hT
  rw [ByteArray.mk_append_mk]
  simp [textI]

theorem conv1 (w : World) (x : Int) (b : UInt8) (hx : (b.toNat : Int) = x) :
    (convert 22 9 (.slice (some ⟨w.heap.size, 0, none⟩) 1 1)).run Tryz.prog (w.alloc (.cells #[.int .u8 x] 5)) = .ok (.string ⟨#[b]⟩) (w.alloc (.cells #[.int .u8 x] 5)) := by
  have h := run_convert_bytes_back (P := Tryz.prog) (w.alloc (.cells #[.int .u8 x] 5)) 22 9 5 ⟨w.heap.size, 0, none⟩ 1 [b] Tryz.underlying22 Tryz.underlying5 Tryz.underlying9
    (fun j hj => by
      match j, hj with
      | 0, _ => simp [Addr.add, hx])
  simpa using h

set_option maxHeartbeats 400000 in
theorem l1Digits_c (p : Int) (p0 : 1 ≤ p) (p1 : p ≤ 8) (w : World) :
    Calls Tryz.prog 40 #[.int .i64 p] w fun e w' => e = .returned (.string ⟨#[digitB p]⟩) ∧ Below w.heap.size w w' := by
  have hp : p = 1 ∨ p = 2 ∨ p = 3 ∨ p = 4 ∨ p = 5 ∨ p = 6 ∨ p = 7 ∨ p = 8 := by omega
  rcases hp with rfl | rfl | rfl | rfl | rfl | rfl | rfl | rfl
  · have hcv := conv1 w 49 49 rfl
    go_enter Tryz.func40, Tryz.ntmps40
    go_wp2
    go_ret
    exact ⟨rfl, (Below.refl _ _).alloc (Nat.le_refl _) _⟩
  · have hcv := conv1 w 50 50 rfl
    go_enter Tryz.func40, Tryz.ntmps40
    go_wp2
    go_ret
    exact ⟨rfl, (Below.refl _ _).alloc (Nat.le_refl _) _⟩
  · have hcv := conv1 w 51 51 rfl
    go_enter Tryz.func40, Tryz.ntmps40
    go_wp2
    go_ret
    exact ⟨rfl, (Below.refl _ _).alloc (Nat.le_refl _) _⟩
  · have hcv := conv1 w 52 52 rfl
    go_enter Tryz.func40, Tryz.ntmps40
    go_wp2
    go_ret
    exact ⟨rfl, (Below.refl _ _).alloc (Nat.le_refl _) _⟩
  · have hcv := conv1 w 53 53 rfl
    go_enter Tryz.func40, Tryz.ntmps40
    go_wp2
    go_ret
    exact ⟨rfl, (Below.refl _ _).alloc (Nat.le_refl _) _⟩
  · have hcv := conv1 w 54 54 rfl
    go_enter Tryz.func40, Tryz.ntmps40
    go_wp2
    go_ret
    exact ⟨rfl, (Below.refl _ _).alloc (Nat.le_refl _) _⟩
  · have hcv := conv1 w 55 55 rfl
    go_enter Tryz.func40, Tryz.ntmps40
    go_wp2
    go_ret
    exact ⟨rfl, (Below.refl _ _).alloc (Nat.le_refl _) _⟩
  · have hcv := conv1 w 56 56 rfl
    go_enter Tryz.func40, Tryz.ntmps40
    go_wp2
    go_ret
    exact ⟨rfl, (Below.refl _ _).alloc (Nat.le_refl _) _⟩

end Go.Proofs.YtnfolmjdicfobaaGreatDoor

namespace Go.Proofs
open Go.Shelf
def Tryz.lays156_ren : Go.Shelf.Ren := ⟨fun | 156 => 79 | 165 => 119 | 166 => 120 | 169 => 121 | 240 => 149 | 241 => 150 | 276 => 164 | 277 => 165 | n => n, fun | 31 => 103 | 9 => 9 | 3 => 3 | 4 => 4 | 0 => 0 | 20 => 20 | 72 => 170 | 76 => 174 | 70 => 168 | 37 => 22 | 75 => 173 | 127 => 207 | 164 => 226 | 5 => 5 | 80 => 152 | n => n, fun | n => n⟩
theorem Tryz.lays156 : Go.Proofs.Lays.n156 Tryz.prog Tryz.lays156_ren := {
  mixed := by kernel_rfl
  f156 := Tryz.func79.trans (congrArg some (by kernel_rfl))
  f165 := Tryz.func119.trans (congrArg some (by kernel_rfl))
  f166 := Tryz.func120.trans (congrArg some (by kernel_rfl))
  f169 := Tryz.func121.trans (congrArg some (by kernel_rfl))
  f240 := Tryz.func149.trans (congrArg some (by kernel_rfl))
  f241 := Tryz.func150.trans (congrArg some (by kernel_rfl))
  f276 := Tryz.func164.trans (congrArg some (by kernel_rfl))
  f277 := Tryz.func165.trans (congrArg some (by kernel_rfl))
  t0 := Tryz.underlying0
  a0 := Tryz.isAgg0
  z0 := Tryz.sizeOf0
  v0 := Tryz.zeroValue0
  t3 := Tryz.underlying3
  a3 := Tryz.isAgg3
  z3 := Tryz.sizeOf3
  v3 := Tryz.zeroValue3
  t4 := Tryz.underlying4
  a4 := Tryz.isAgg4
  z4 := Tryz.sizeOf4
  v4 := Tryz.zeroValue4
  t9 := Tryz.underlying9
  a9 := Tryz.isAgg9
  z9 := Tryz.sizeOf9
  v9 := Tryz.zeroValue9
  t20 := Tryz.underlying20
  a20 := Tryz.isAgg20
  z20 := Tryz.sizeOf20
  v20 := Tryz.zeroValue20
  t31 := Tryz.underlying103
  a31 := Tryz.isAgg103
  z31 := Tryz.sizeOf103
  v31 := Tryz.zeroValue103
  t37 := Tryz.underlying22
  a37 := Tryz.isAgg22
  z37 := Tryz.sizeOf22
  v37 := Tryz.zeroValue22
  t70 := Tryz.underlying168
  a70 := Tryz.isAgg168
  z70 := Tryz.sizeOf168
  v70 := Tryz.zeroValue168
  t72 := Tryz.underlying170
  a72 := Tryz.isAgg170
  z72 := Tryz.sizeOf170
  v72 := Tryz.zeroValue170
  t75 := Tryz.underlying173
  a75 := Tryz.isAgg173
  z75 := Tryz.sizeOf173
  v75 := Tryz.zeroValue173
  t76 := Tryz.underlying174
  a76 := Tryz.isAgg174
  z76 := Tryz.sizeOf174
  v76 := Tryz.zeroValue174
  t127 := Tryz.underlying207
  a127 := Tryz.isAgg207
  z127 := Tryz.sizeOf207
  v127 := Tryz.zeroValue207
  t164 := Tryz.underlying226
  a164 := Tryz.isAgg226
  z164 := Tryz.sizeOf226
  v164 := Tryz.zeroValue226 }
theorem Tryz.Builder_Extra_156 : Builder.Extra Tryz.prog Tryz.lays156_ren := {
  sizeBuilder := by kernel_rfl
  liesBuilder := by kernel_rfl
  t5 := Tryz.underlying5
  a5 := Tryz.isAgg5
  z5 := Tryz.sizeOf5
  v5 := Tryz.zeroValue5
  infoByte := by kernel_rfl
  cellsByte := by kernel_rfl
  sizeByte := by kernel_rfl
  neB5 := by decide }
open Go.RowKit in
theorem Tryz.strings_Join_none (a : Option Addr) (c : Nat) (sep : ByteArray) (w : World) :
    Calls Tryz.prog 79 #[.slice a 0 c, .string sep] w fun e w' => e = .returned (.string ⟨#[]⟩) ∧ w' = w := Any.strings_Join_none Tryz.lays156 Tryz.Builder_Extra_156 a c sep w
open Go.RowKit in
theorem Tryz.strings_Join (bk o c : Nat) (xs : List ByteArray) (sep : ByteArray) (w : World) (hcells : ∀ (j : Nat) x, xs[j]? = some x → w.cell? ⟨bk, o + j, none⟩ = some (.string x)) (hbk : bk < w.heap.size) (hN : xs.length ≤ 140737488355328) (hcap : xs.length ≤ c) (hlen : (Lib.join (xs.map (·.data.toList)) sep.data.toList).length ≤ 140737488355328) :
    Calls Tryz.prog 79 #[.slice (some ⟨bk, o, none⟩) xs.length c, .string sep] w fun e w' => e = .returned (.string ⟨(Lib.join (xs.map (·.data.toList)) sep.data.toList).toArray⟩) ∧ Below w.heap.size w w' := Any.strings_Join Tryz.lays156 Tryz.Builder_Extra_156 bk o c xs sep w hcells hbk hN hcap hlen
def Tryz.lays173_ren : Go.Shelf.Ren := ⟨fun | 173 => 115 | 246 => 146 | 283 => 159 | 284 => 160 | 285 => 161 | 286 => 162 | 129 => 168 | 317 => 167 | 318 => 169 | 319 => 170 | 320 => 171 | 337 => 172 | 338 => 173 | n => n, fun | 2 => 2 | 3 => 3 | 9 => 9 | 4 => 4 | 171 => 221 | 0 => 0 | 53 => 150 | 37 => 22 | 5 => 5 | 173 => 223 | 212 => 232 | 51 => 148 | 20 => 20 | 213 => 233 | 46 => 100 | 232 => 235 | 233 => 236 | n => n, fun | 17 => 0 | 18 => 2 | 19 => 3 | n => n⟩
theorem Tryz.lays173 : Go.Proofs.Lays.n173 Tryz.prog Tryz.lays173_ren := {
  mixed := by kernel_rfl
  f129 := Tryz.func168.trans (congrArg some (by kernel_rfl))
  f173 := Tryz.func115.trans (congrArg some (by kernel_rfl))
  f246 := Tryz.func146.trans (congrArg some (by kernel_rfl))
  f283 := Tryz.func159.trans (congrArg some (by kernel_rfl))
  f284 := Tryz.func160.trans (congrArg some (by kernel_rfl))
  f285 := Tryz.func161.trans (congrArg some (by kernel_rfl))
  f286 := Tryz.func162.trans (congrArg some (by kernel_rfl))
  f317 := Tryz.func167.trans (congrArg some (by kernel_rfl))
  f318 := Tryz.func169.trans (congrArg some (by kernel_rfl))
  f319 := Tryz.func170.trans (congrArg some (by kernel_rfl))
  f320 := Tryz.func171.trans (congrArg some (by kernel_rfl))
  f337 := Tryz.func172.trans (congrArg some (by kernel_rfl))
  f338 := Tryz.func173.trans (congrArg some (by kernel_rfl))
  t0 := Tryz.underlying0
  a0 := Tryz.isAgg0
  z0 := Tryz.sizeOf0
  v0 := Tryz.zeroValue0
  t2 := Tryz.underlying2
  a2 := Tryz.isAgg2
  z2 := Tryz.sizeOf2
  v2 := Tryz.zeroValue2
  t3 := Tryz.underlying3
  a3 := Tryz.isAgg3
  z3 := Tryz.sizeOf3
  v3 := Tryz.zeroValue3
  t4 := Tryz.underlying4
  a4 := Tryz.isAgg4
  z4 := Tryz.sizeOf4
  v4 := Tryz.zeroValue4
  t5 := Tryz.underlying5
  a5 := Tryz.isAgg5
  z5 := Tryz.sizeOf5
  v5 := Tryz.zeroValue5
  t9 := Tryz.underlying9
  a9 := Tryz.isAgg9
  z9 := Tryz.sizeOf9
  v9 := Tryz.zeroValue9
  t20 := Tryz.underlying20
  a20 := Tryz.isAgg20
  z20 := Tryz.sizeOf20
  v20 := Tryz.zeroValue20
  t37 := Tryz.underlying22
  a37 := Tryz.isAgg22
  z37 := Tryz.sizeOf22
  v37 := Tryz.zeroValue22
  t46 := Tryz.underlying100
  a46 := Tryz.isAgg100
  z46 := Tryz.sizeOf100
  v46 := Tryz.zeroValue100
  t51 := Tryz.underlying148
  a51 := Tryz.isAgg148
  z51 := Tryz.sizeOf148
  v51 := Tryz.zeroValue148
  t53 := Tryz.underlying150
  a53 := Tryz.isAgg150
  z53 := Tryz.sizeOf150
  v53 := Tryz.zeroValue150
  t171 := Tryz.underlying221
  a171 := Tryz.isAgg221
  z171 := Tryz.sizeOf221
  v171 := Tryz.zeroValue221
  t173 := Tryz.underlying223
  a173 := Tryz.isAgg223
  z173 := Tryz.sizeOf223
  v173 := Tryz.zeroValue223
  t212 := Tryz.underlying232
  a212 := Tryz.isAgg232
  z212 := Tryz.sizeOf232
  v212 := Tryz.zeroValue232
  t213 := Tryz.underlying233
  a213 := Tryz.isAgg233
  z213 := Tryz.sizeOf233
  t232 := Tryz.underlying235
  a232 := Tryz.isAgg235
  z232 := Tryz.sizeOf235
  v232 := Tryz.zeroValue235
  t233 := Tryz.underlying236
  a233 := Tryz.isAgg236
  z233 := Tryz.sizeOf236
  v233 := Tryz.zeroValue236
  g17 := by kernel_rfl
  g18 := by kernel_rfl
  g19 := by kernel_rfl }
open Go.RowKit Go.Sort Go.Lib in
theorem Tryz.strconv_FormatInt_10_small (i : Nat) (hi : i < 100) (w : World) :
    Calls Tryz.prog 115 #[.int .i64 i, .int .i64 10] w fun e w' => e = .returned (.string ⟨(Lib.decDigits i).toArray⟩) ∧ w' = w := Any.strconv_FormatInt_10_small Tryz.lays173 i hi w
end Go.Proofs
