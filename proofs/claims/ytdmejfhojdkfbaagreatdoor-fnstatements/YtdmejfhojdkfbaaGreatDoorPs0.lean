/-
  PLAIN WORDS: a statement's text cut into its words, and read back.
-/
import Derived.Test.YtdmejfhojdkfbaaGreatDoorCut2
import Derived.Test.YtdmejfhojdkfbaaGreatDoorDgt1
import Derived.Test.YtdmejfhojdkfbaaGreatDoorSt13
import Derived.Test.YtdmejfhojdkfbaaGreatDoorParse1
import Derived.Lib.SplitLaws
import Derived.Lib.ParseIntB
namespace Go.Proofs.YtdmejfhojdkfbaaGreatDoor
open Go.RowKit
set_option linter.unusedVariables false

theorem cutA_word : ∀ (v acc rest : List UInt8), (∀ b ∈ v, b ≠ 32) → cutA 32 acc (v ++ 32 :: rest) = (acc ++ v) :: cutA 32 [] rest
  | [], acc, rest, _ => by simp [cutA]
  | x :: r, acc, rest, h => by
    have hx : x ≠ 32 := h x List.mem_cons_self
    rw [List.cons_append, cutA, if_neg hx, cutA_word r (acc ++ [x]) rest (fun b hb => h b (List.mem_cons_of_mem _ hb))]
    simp

theorem cutA_last : ∀ (v acc : List UInt8), (∀ b ∈ v, b ≠ 32) → cutA 32 acc v = [acc ++ v]
  | [], acc, _ => by simp [cutA]
  | x :: r, acc, h => by
    have hx : x ≠ 32 := h x List.mem_cons_self
    rw [cutA, if_neg hx, cutA_last r (acc ++ [x]) (fun b hb => h b (List.mem_cons_of_mem _ hb))]
    simp

theorem idx_word : ∀ (v rest : List UInt8), (∀ b ∈ v, b ≠ 32) → Lib.index (v ++ 32 :: rest) [32] = (v.length : Int)
  | [], rest, _ => by simp [Lib.index]
  | x :: r, rest, h => by
    have hx : x ≠ 32 := h x List.mem_cons_self
    have ih := idx_word r rest (fun b hb => h b (List.mem_cons_of_mem _ hb))
    rw [List.cons_append, Lib.index, if_neg (by simp [hx.symm]), ih, if_neg (by simp)]
    simp

theorem idx_none : ∀ (v : List UInt8), (∀ b ∈ v, b ≠ 32) → Lib.index v [32] = -1
  | [], _ => by simp [Lib.index]
  | x :: r, h => by
    have hx : x ≠ 32 := h x List.mem_cons_self
    have ih := idx_none r (fun b hb => h b (List.mem_cons_of_mem _ hb))
    rw [Lib.index, if_neg (by simp [hx.symm]), ih, if_pos (by simp)]

theorem splitK_word (v rest : List UInt8) (k : Nat) (h : ∀ b ∈ v, b ≠ 32) : Lib.splitK [32] 0 (k + 1) (v ++ 32 :: rest) = v :: Lib.splitK [32] 0 k rest := by
  rw [Lib.splitK, idx_word v rest h, if_neg (by simp)]
  simp

theorem splitK_last (v : List UInt8) (k : Nat) (h : ∀ b ∈ v, b ≠ 32) : Lib.splitK [32] 0 k v = [v] := by
  cases k with
  | zero => rfl
  | succ k => rw [Lib.splitK, idx_none v h, if_pos (by simp)]

theorem digitB_dec : ∀ n : Fin 10, UInt8.ofNat (48 + n.val) ≠ 32 ∧ ((UInt8.ofNat (48 + n.val)).toNat : Int) = 48 + (n.val : Int) := by decide +kernel

theorem digitB_no {p : Int} (h0 : 0 ≤ p) (h9 : p ≤ 9) : digitB p ≠ 32 ∧ ((digitB p).toNat : Int) = 48 + p := by
  obtain ⟨n, rfl⟩ := Int.eq_ofNat_of_zero_le h0
  have := digitB_dec ⟨n, by omega⟩
  simpa [digitB] using this

theorem text_no_dec : ∀ n : Fin 256, (textI (n.val : Int)).data.toList.all (fun b => b != 32) = true := by decide +kernel

theorem text_no {s : Int} (h0 : 0 ≤ s) (h1 : s ≤ 255) : ∀ b ∈ (textI s).data.toList, b ≠ 32 := by
  obtain ⟨n, rfl⟩ := Int.eq_ofNat_of_zero_le h0
  have := text_no_dec ⟨n, by omega⟩
  intro b hb
  have := List.all_eq_true.1 this b hb
  simpa using this

theorem sw_no {k : Int} : ∀ b ∈ (swT k).data.toList, b ≠ 32 := by
  unfold swT
  intro b hb
  split at hb
  · revert b; decide
  split at hb
  · revert b; decide
  split at hb
  · revert b; decide
  split at hb
  · revert b; decide
  · cases hb

theorem bytes_of (l : List UInt8) : (⟨l.toArray⟩ : ByteArray).data.toList = l := by simp

theorem of_bytes (t : ByteArray) : (⟨t.data.toList.toArray⟩ : ByteArray) = t := by simp

/-- The numbers of a statement without fault. -/
theorem stn {x : StI} (h : stCode x = 0) : (1 ≤ x.k ∧ x.k ≤ 4) ∧ (1 ≤ x.e ∧ x.e ≤ 9) ∧ (0 ≤ x.n ∧ x.n ≤ 7) ∧ (0 ≤ x.f ∧ x.f ≤ 4) ∧ (0 ≤ x.s ∧ x.s ≤ 255) ∧ (formK x.k = true → x.n = 0) ∧ (formK x.k = false → x.f = 0 ∧ x.s = 0) := by
  unfold stCode at h
  cases h1 : inR x.k 1 4 with
  | false => rw [h1] at h; simp at h
  | true =>
    cases h2 : ownB x with
    | false => rw [h1, h2] at h; simp at h
    | true =>
      cases h3 : rngB x with
      | false => rw [h1, h2, h3] at h; simp at h
      | true =>
        rw [inR_iff] at h1
        have h2' : x = ownI x := by
          have : sameSt x (ownI x) = true := h2
          exact of_decide_eq_true this
        unfold rngB at h3
        cases q : inR x.e 1 9 with
        | false => rw [q] at h3; simp at h3
        | true =>
          rw [q] at h3
          rw [inR_iff] at q
          unfold ownI at h2'
          cases f : formK x.k with
          | true =>
            rw [f] at h3 h2'
            simp only [Bool.true_eq_false, ↓reduceIte] at h3 h2'
            have hn : x.n = 0 := by rw [h2']
            cases g : inR x.f 1 4 with
            | false => rw [g] at h3; simp at h3
            | true =>
              rw [g] at h3
              simp only [Bool.true_eq_false, ↓reduceIte] at h3
              rw [inR_iff] at g h3
              exact ⟨h1, q, by omega, by omega, by omega, fun _ => hn, (fun e => by cases e)⟩
          | false =>
            rw [f] at h3 h2'
            simp only [Bool.true_eq_false, Bool.false_eq_true, ↓reduceIte] at h3 h2'
            rw [inR_iff] at h3
            have hf : x.f = 0 := by rw [h2']
            have hs : x.s = 0 := by rw [h2']
            exact ⟨h1, q, by omega, by omega, by omega, (fun e => by cases e), fun _ => ⟨hf, hs⟩⟩

theorem st_cutA {x : StI} (h : stCode x = 0) : cutA 32 [] (stText x).data.toList = (stW x).map (·.data.toList) ∧ Lib.splitK [32] 0 4 (stText x).data.toList = (stW x).map (·.data.toList) := by
  obtain ⟨_, he, hn, hf, hs, _⟩ := stn h
  have e1 := (digitB_no (p := x.e) (by omega) (by omega)).1
  have n1 := (digitB_no (p := x.n) (by omega) (by omega)).1
  have f1 := (digitB_no (p := x.f) (by omega) (by omega)).1
  have one : ∀ b : UInt8, b ≠ 32 → ∀ c ∈ [b], c ≠ 32 := fun b hb c hc => by rw [List.mem_singleton] at hc; rw [hc]; exact hb
  cases hk : formK x.k with
  | true =>
    have hw : (stW x).map (·.data.toList) = [(swT x.k).data.toList, [digitB x.e], [digitB x.f], (textI x.s).data.toList] := by
      unfold stW; rw [if_pos hk]; rfl
    have ht : (stText x).data.toList = (swT x.k).data.toList ++ 32 :: ([digitB x.e] ++ 32 :: ([digitB x.f] ++ 32 :: (textI x.s).data.toList)) := by rw [stT_form hk, bytes_of]; rfl
    rw [hw, ht]
    constructor
    · rw [cutA_word _ _ _ sw_no, cutA_word _ _ _ (one _ e1), cutA_word _ _ _ (one _ f1), cutA_last _ _ (text_no hs.1 hs.2)]
      rfl
    · rw [splitK_word _ _ _ sw_no, splitK_word _ _ _ (one _ e1), splitK_word _ _ _ (one _ f1), splitK_last _ _ (text_no hs.1 hs.2)]
  | false =>
    have hw : (stW x).map (·.data.toList) = [(swT x.k).data.toList, [digitB x.e], [digitB x.n]] := by
      unfold stW; rw [if_neg (by rw [hk]; simp)]; rfl
    have ht : (stText x).data.toList = (swT x.k).data.toList ++ 32 :: ([digitB x.e] ++ 32 :: [digitB x.n]) := by rw [stT_next hk, bytes_of]; rfl
    rw [hw, ht]
    constructor
    · rw [cutA_word _ _ _ sw_no, cutA_word _ _ _ (one _ e1), cutA_last _ _ (one _ n1)]
      rfl
    · rw [splitK_word _ _ _ sw_no, splitK_word _ _ _ (one _ e1), splitK_last _ _ (one _ n1)]

theorem map_back (l : List ByteArray) : (l.map (·.data.toList)).map (fun v => (⟨v.toArray⟩ : ByteArray)) = l := by
  rw [List.map_map]
  conv => rhs; rw [← List.map_id l]
  apply List.map_congr_left
  intro a _
  exact of_bytes a

theorem st_cut {x : StI} (h : stCode x = 0) : cutB (stText x) 32 = stW x := by
  rw [cutB_eq, (st_cutA h).1, map_back]

theorem st_split {x : StI} (h : stCode x = 0) : Lib.splitB ⟨#[32]⟩ 0 4 (stText x) = stW x := by
  have h1 := Lib.splitB_data ⟨#[32]⟩ 0 4 (stText x)
  have h2 : (Lib.splitB ⟨#[32]⟩ 0 4 (stText x)).map (·.data.toList) = (stW x).map (·.data.toList) := h1.trans (st_cutA h).2
  rw [← map_back (Lib.splitB ⟨#[32]⟩ 0 4 (stText x)), h2, map_back]

theorem stT_min {x : StI} (h : stCode x = 0) : 4 ≤ (stText x).size := by
  cases hk : formK x.k with
  | true =>
    rw [stT_form hk]
    show 4 ≤ List.length ((swT x.k).data.toList ++ 32 :: digitB x.e :: 32 :: digitB x.f :: 32 :: (textI x.s).data.toList)
    simp only [List.length_append, List.length_cons]
    omega
  | false =>
    rw [stT_next hk]
    show 4 ≤ List.length ((swT x.k).data.toList ++ 32 :: digitB x.e :: 32 :: digitB x.n :: [])
    simp only [List.length_append, List.length_cons, List.length_nil]
    omega

theorem dig_of {p : Int} (h0 : 0 ≤ p) (h9 : p ≤ 9) : digI (dgT p) = p := by
  have := (digitB_no h0 h9).2
  unfold digI dgT
  rw [if_pos ⟨rfl, by simp; omega, by simp; omega⟩]
  simp
  omega

theorem pint_dec : ∀ n : Fin 10, Lib.parseIntB 64 [UInt8.ofNat (48 + n.val)] = .ok (n.val : Int) := by decide +kernel

theorem pint_of {p : Int} (h0 : 0 ≤ p) (h9 : p ≤ 9) : Lib.parseIntB 64 (dgT p).data.toList = .ok p := by
  obtain ⟨n, rfl⟩ := Int.eq_ofNat_of_zero_le h0
  have := pint_dec ⟨n, by omega⟩
  simpa [dgT, digitB] using this

def takeT : ByteArray := ⟨#[116, 97, 107, 101]⟩
def revT : ByteArray := ⟨#[114, 101, 118, 111, 107, 101]⟩

/-- The set that a word tells. -/
def setT (d : ByteArray) : Int := if d = textI (gatherTo d.data.toList d.size) then gatherTo d.data.toList d.size else 0

/-- The statement that words tell. -/
def parS (ws : List ByteArray) : StI := match ws with
  | [a, b, c] => if c.size = 1 then ⟨if a = takeT then 4 else 3, digI b, 0, 0, digI c⟩ else ⟨0, 0, 0, 0, 0⟩
  | [a, b, c, d] => ⟨if a = revT then 2 else 1, digI b, digI c, setT d, 0⟩
  | _ => ⟨0, 0, 0, 0, 0⟩

theorem set_of {s : Int} (h0 : 0 ≤ s) (h1 : s ≤ 255) : setT (textI s) = s := by
  have := gather_text s h0 h1
  unfold setT
  rw [this, if_pos rfl]

theorem par_of {x : StI} (h : stCode x = 0) : parS (stW x) = x := by
  obtain ⟨hk4, he, hn, hf, hs, h1, h2⟩ := stn h
  obtain ⟨k, e, f, s, n⟩ := x
  simp only at hk4 he hn hf hs h1 h2
  have hk : k = 1 ∨ k = 2 ∨ k = 3 ∨ k = 4 := by omega
  rcases hk with rfl | rfl | rfl | rfl
  · have := h1 rfl
    subst this
    show StI.mk (if swT 1 = revT then 2 else 1) (digI (dgT e)) (digI (dgT f)) (setT (textI s)) 0 = _
    rw [dig_of (by omega) (by omega), dig_of (by omega) (by omega), set_of hs.1 hs.2, if_neg (by decide)]
  · have := h1 rfl
    subst this
    show StI.mk (if swT 2 = revT then 2 else 1) (digI (dgT e)) (digI (dgT f)) (setT (textI s)) 0 = _
    rw [dig_of (by omega) (by omega), dig_of (by omega) (by omega), set_of hs.1 hs.2, if_pos (by decide)]
  · obtain ⟨rfl, rfl⟩ := h2 rfl
    show (if (dgT n).size = 1 then StI.mk (if swT 3 = takeT then 4 else 3) (digI (dgT e)) 0 0 (digI (dgT n)) else ⟨0, 0, 0, 0, 0⟩) = _
    have hd : (dgT n).size = 1 := rfl
    rw [if_pos hd, dig_of (by omega) (by omega), dig_of (by omega) (by omega), if_neg (by decide)]
  · obtain ⟨rfl, rfl⟩ := h2 rfl
    show (if (dgT n).size = 1 then StI.mk (if swT 4 = takeT then 4 else 3) (digI (dgT e)) 0 0 (digI (dgT n)) else ⟨0, 0, 0, 0, 0⟩) = _
    have hd : (dgT n).size = 1 := rfl
    rw [if_pos hd, dig_of (by omega) (by omega), dig_of (by omega) (by omega), if_pos (by decide)]

/-- What a text is read as. -/
def ReadsS (t : ByteArray) (c : Int) (y : StI) : Prop := (c = 0 ∧ stCode y = 0 ∧ stText y = t) ∨ (c = 5 ∧ y = ⟨0, 0, 0, 0, 0⟩ ∧ ∀ x, stCode x = 0 → stText x ≠ t)

theorem reads_of (t : ByteArray) : ∃ c y, ReadsS t c y := by
  by_cases h : ∃ x, stCode x = 0 ∧ stText x = t
  · obtain ⟨x, h1, h2⟩ := h
    exact ⟨0, x, .inl ⟨rfl, h1, h2⟩⟩
  · exact ⟨5, _, .inr ⟨rfl, rfl, fun x h1 h2 => h ⟨x, h1, h2⟩⟩⟩

end Go.Proofs.YtdmejfhojdkfbaaGreatDoor
