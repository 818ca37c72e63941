/-
  CONTRACT of spec.l2Cut: a text cut at a byte.
  Conditions: the text has at most 1<<20 bytes.
-/
import Derived.Test.YtdmejfhojdkfbaaGreatDoorText1
import Derived.Handy
namespace Go.Proofs.YtdmejfhojdkfbaaGreatDoor
open Go.RowKit
set_option linter.unusedVariables false

/-- The pieces that end ahead of k, and where the next one begins. -/
def cutSt (bs : List UInt8) (c : UInt8) : Nat → List (Nat × Nat) × Nat
  | 0 => ([], 0)
  | k + 1 => if bs[k]?.getD 0 = c then ((cutSt bs c k).1 ++ [((cutSt bs c k).2, k)], k + 1) else cutSt bs c k

/-- A text cut at a byte. -/
def cutB (t : ByteArray) (c : UInt8) : List ByteArray :=
  ((cutSt t.data.toList c t.size).1 ++ [((cutSt t.data.toList c t.size).2, t.size)]).map (fun p => t.extract p.1 p.2)

theorem cutSt_le (bs : List UInt8) (c : UInt8) (k : Nat) : (cutSt bs c k).2 ≤ k ∧ (cutSt bs c k).1.length ≤ k := by
  induction k with
  | zero => simp [cutSt]
  | succ k ih =>
    simp only [cutSt]
    split
    · simp; omega
    · omega

/-- As cutSt; one step behind the end the last piece is told. -/
def cutE (bs : List UInt8) (c : UInt8) (n k : Nat) : List (Nat × Nat) × Nat := if k ≤ n then cutSt bs c k else ((cutSt bs c n).1 ++ [((cutSt bs c n).2, n)], n + 1)

theorem cutE_hit (bs : List UInt8) (c : UInt8) (n k : Nat) (h : k < n) (hb : bs[k]?.getD 0 = c) : cutE bs c n (k + 1) = ((cutE bs c n k).1 ++ [((cutE bs c n k).2, k)], k + 1) := by
  simp only [cutE, if_pos (show k + 1 ≤ n by omega), if_pos (show k ≤ n by omega), cutSt, if_pos hb]
theorem cutE_miss (bs : List UInt8) (c : UInt8) (n k : Nat) (h : k < n) (hb : bs[k]?.getD 0 ≠ c) : cutE bs c n (k + 1) = cutE bs c n k := by
  simp only [cutE, if_pos (show k + 1 ≤ n by omega), if_pos (show k ≤ n by omega), cutSt, if_neg hb]
theorem cutE_last (bs : List UInt8) (c : UInt8) (n : Nat) : cutE bs c n (n + 1) = ((cutE bs c n n).1 ++ [((cutE bs c n n).2, n)], n + 1) := by
  simp only [cutE, if_neg (show ¬ n + 1 ≤ n by omega), if_pos (Nat.le_refl n)]
theorem cutE_le (bs : List UInt8) (c : UInt8) (n k : Nat) (h : k ≤ n) : (cutE bs c n k).2 ≤ k ∧ (cutE bs c n k).1.length ≤ k := by
  simp only [cutE, if_pos h]
  exact cutSt_le bs c k

theorem byte_at (t : ByteArray) (k : Nat) (h : k < t.size) : t[((k : Nat) : Int).toNat]'(by omega) = t.data.toList[k]?.getD 0 := by
  have h2 : k < t.data.toList.length := by rw [Array.length_toList]; exact h
  rw [List.getElem?_eq_getElem h2]
  simp only [Int.toNat_natCast, Option.getD_some, Array.getElem_toList]
  rfl

theorem str_idx (t : ByteArray) (k : Nat) (h : k < t.size) (w : World) : (Instr.index 9 (.string t) (.int .i64 (k : Int))).run Tryz.prog w = .ok (.int .u8 ((t.data.toList[k]?.getD 0).toNat : Int)) w := by
  rw [run_index_string w 9 t .i64 (k : Int) Tryz.underlying9, dif_pos ⟨by omega, by omega⟩]
  rw [byte_at t k h]

/-- An append of one more piece, behind the law of append. -/
theorem piece_keep {B : Nat} {ps : List (Nat × Nat)} {t : ByteArray} {fr k : Nat} {w wr w1 : World} {u v' : Value} {o : Obj} (hB : B ≤ wr.heap.size)
    (hown : wr.ownsRow B 9 1 u ps.length (ps.map (fun q => Value.string (t.extract q.1 q.2)))) (hnx : Below B w wr)
    (hown' : w1.ownsRow B 9 1 v' (ps.length + 1) (ps.map (fun q => Value.string (t.extract q.1 q.2)) ++ [.string (t.extract fr k)])) (hgrow : (wr.alloc o).grownBy w1 u.ownBlock) :
    w1.ownsRow B 9 1 v' (ps ++ [(fr, k)]).length ((ps ++ [(fr, k)]).map (fun q => Value.string (t.extract q.1 q.2))) ∧ Below B w w1 := by
  refine ⟨by simpa using hown', (hnx.alloc (by omega) o).grown hgrow (by simp; omega) (fun j hj => by have := (hown.lt j hj).1; omega)⟩

theorem Tryz.infos9 : (Tryz.prog.info? 9).map (fun i => (i.zero, i.size, i.bytes)) = some (some (.string ⟨#[]⟩), 1, 16) := by kernel_rfl

set_option maxRecDepth 20000 in
set_option maxHeartbeats 1000000 in
theorem l2Cut_c (t : ByteArray) (c : UInt8) (w : World) (ht : t.size ≤ 1048576) :
    Calls Tryz.prog 57 #[.string t, .int .u8 (c.toNat : Int)] w fun e w' => ∃ g cap, e = .returned (.slice (some ⟨g, 0, none⟩) (cutB t c).length cap) ∧
      w'.ownsRow w.heap.size 9 1 (.slice (some ⟨g, 0, none⟩) (cutB t c).length cap) (cutB t c).length ((cutB t c).map Value.string) ∧ Below w.heap.size w w' := by
  obtain ⟨i0, hi, hz0, hz1, hz2⟩ := info_parts Tryz.infos9
  have ht' : (t.size : Int) ≤ 1048576 := by omega
  go_enter Tryz.func57, Tryz.ntmps57
  go_wp2
  go_loopw [5, 6, 7] (fun v f p wr => ∃ k : Nat, k ≤ t.size + 1 ∧ p = .int .i64 (k : Int) ∧ f = .int .i64 ((cutE t.data.toList c t.size k).2 : Int) ∧
      wr.ownsRow w.heap.size 9 1 v (cutE t.data.toList c t.size k).1.length ((cutE t.data.toList c t.size k).1.map (fun q => Value.string (t.extract q.1 q.2))) ∧ Below w.heap.size w wr ∧ v ≠ .slice none 0 0)
    (fun _ _ p _ => t.size + 1 - (intOf p).toNat)
  case atStart => exact ⟨0, Nat.zero_le _, rfl, by simp [cutE, cutSt], by simpa [cutE, cutSt] using World.ownsRow_lit w #[] 0 (Nat.le_refl _) (Nat.zero_le _) rfl, (Below.refl _ _).alloc (Nat.le_refl _) _, by simp⟩
  case round =>
    obtain ⟨k, hk, rfl, rfl, hown, hnx, hnn⟩ := hrel
    by_cases hle : k ≤ t.size
    · obtain ⟨st, hst⟩ : ∃ st, st = cutE t.data.toList c t.size k := ⟨_, rfl⟩
      have hbd := cutE_le t.data.toList c t.size k hle
      rw [← hst] at hown hbd ⊢
      obtain ⟨ps, fr⟩ := st
      simp only at hown hbd
      obtain ⟨hfk, hpl⟩ := hbd
      have hfk' : (fr : Int) ≤ (k : Int) := by omega
      by_cases hlt : k < t.size
      · have hlt' : (k : Int) < (t.size : Int) := by omega
        have hne : ((k : Int) == (t.size : Int)) = false := by simp; omega
        have hix := str_idx t k hlt
        obtain ⟨y, hy⟩ : ∃ y : Int, y = ((t.data.toList[k]?.getD 0).toNat : Int) := ⟨_, rfl⟩
        rw [← hy] at hix
        cases hyc : (y == (c.toNat : Int))
        · have HIT : Hid (cutE t.data.toList c t.size (k + 1) = (ps, fr)) := by
            show _ = _
            rw [hst]
            refine cutE_miss _ _ _ _ hlt (fun e => ?_)
            rw [hy, e] at hyc
            simp at hyc
          clear hst hy
          go_wp2
          exact ⟨⟨k + 1, by omega, by go_num, by rw [HIT.out], by rw [HIT.out]; exact hown, hnx, hnn⟩, by simp [intOf]; omega⟩
        · have HIT : Hid (cutE t.data.toList c t.size (k + 1) = (ps ++ [(fr, k)], k + 1)) := by
            show _ = _
            have e : t.data.toList[k]?.getD 0 = c := by
              rw [hy] at hyc
              have this : (((t.data.toList[k]?.getD 0).toNat : Nat) : Int) = ((c.toNat : Nat) : Int) := by simpa using hyc
              exact UInt8.toNat_inj.1 (by omega)
            rw [cutE_hit _ _ _ _ hlt e, ← hst]
          clear hst hy
          go_wp2_with (at_builtin; refine wpList_append_own _ rfl _ _ 54 rfl w.heap.size 9 i0 (.string ⟨#[]⟩) 1 16 Tryz.underlying54 hi hz0 hz1 hz2 rfl (by decide) _ _ _ rfl (hown.alloc _) ⟨wr.heap.size, 0, none⟩ 1 1 [.string (t.extract fr k)] rfl rfl ?c1 ?c2 ?c3 ?c4 ?c5 ?_)
          case c1 =>
            intro j u hj
            match j, hj with
            | 0, hj => simp at hj; subst hj; simp [Addr.add]
          case c2 => intro u hu; simp at hu; subst hu; rfl
          case c3 => unfold maxLen; omega
          case c4 => omega
          case c5 => have := hnx.size; simp; omega
          intro v' w1 hown' hgrow hnil
          have hnn' : v' ≠ .slice none 0 0 := hnil
          clear hnil
          have Q := piece_keep (by have := hnx.size; omega) hown hnx hown' hgrow
          clear hown' hgrow hown
          go_wp2
          go_roundw
          case rel => exact ⟨k + 1, by omega, by go_num, by rw [HIT.out]; go_num, by rw [HIT.out]; exact Q.1, Q.2, hnn'⟩
          case measure => first | (simp [intOf]; omega) | simp [intOf]
      · have hkn : k = t.size := by omega
        subst hkn
        have HIT : Hid (cutE t.data.toList c t.size (t.size + 1) = (ps ++ [(fr, t.size)], t.size + 1)) := by
          show _ = _
          rw [cutE_last, ← hst]
        clear hst
        go_wp2_with (at_builtin; refine wpList_append_own _ rfl _ _ 54 rfl w.heap.size 9 i0 (.string ⟨#[]⟩) 1 16 Tryz.underlying54 hi hz0 hz1 hz2 rfl (by decide) _ _ _ rfl (hown.alloc _) ⟨wr.heap.size, 0, none⟩ 1 1 [.string (t.extract fr t.size)] rfl rfl ?c1 ?c2 ?c3 ?c4 ?c5 ?_)
        case c1 =>
          intro j u hj
          match j, hj with
          | 0, hj => simp at hj; subst hj; simp [Addr.add]
        case c2 => intro u hu; simp at hu; subst hu; rfl
        case c3 => unfold maxLen; omega
        case c4 => omega
        case c5 => have := hnx.size; simp; omega
        intro v' w1 hown' hgrow hnil
        have hnn' : v' ≠ .slice none 0 0 := hnil
        clear hnil
        have Q := piece_keep (by have := hnx.size; omega) hown hnx hown' hgrow
        clear hown' hgrow hown
        go_wp2
        go_roundw
        case rel => exact ⟨t.size + 1, by omega, by go_num, by rw [HIT.out]; go_num, by rw [HIT.out]; exact Q.1, Q.2, hnn'⟩
        case measure => first | (simp [intOf]; omega) | simp [intOf]
    · have hkn : k = t.size + 1 := by omega
      subst hkn
      have EB : cutB t c = (cutE t.data.toList c t.size (t.size + 1)).1.map (fun q => t.extract q.1 q.2) := by
        simp only [cutE, if_neg (show ¬ t.size + 1 ≤ t.size by omega), cutB]
      have hown2 : wr.ownsRow w.heap.size 9 1 u5 (cutB t c).length ((cutB t c).map Value.string) := by
        rw [EB]
        simpa [Function.comp_def] using hown
      clear hown
      obtain ⟨g, cap, hv⟩ := owns_shape hown2 hnn
      have HO : Hid (wr.ownsRow w.heap.size 9 1 (.slice (some ⟨g, 0, none⟩) (cutB t c).length cap) (cutB t c).length ((cutB t c).map Value.string)) := by rw [← hv]; exact hown2
      rw [hv]
      clear hv hnn hown2 EB
      have hnl : ¬ ((t.size : Int) + 1 ≤ (t.size : Int)) := by omega
      go_wp2
      go_ret
      exact ⟨g, cap, rfl, HO.out, hnx⟩

end Go.Proofs.YtdmejfhojdkfbaaGreatDoor
