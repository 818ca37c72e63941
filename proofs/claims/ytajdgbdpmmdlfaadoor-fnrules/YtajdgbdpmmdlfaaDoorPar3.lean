/-
  CONTRACTS of spec.l2Parse and of spec.ParseRule.
  Conditions: the text has at most 1<<20 bytes.
-/
import Derived.Test.YtajdgbdpmmdlfaaDoorPar2
import Derived.Test.YtajdgbdpmmdlfaaDoorBack3
import Derived.Test.YtajdgbdpmmdlfaaDoorParI
namespace Go.Proofs.YtajdgbdpmmdlfaaDoor
open Go.RowKit
set_option linter.unusedVariables false
set_option linter.unusedSimpArgs false

theorem cuts_of (t : ByteArray) (c : UInt8) (ht : t.size ≤ 1048576) (xs : List (Nat × ByteArray)) (h : ∀ j x, (j, x) ∈ xs → (cutB t c)[j]? = some x) : Cuts t (c.toNat : Int) (cutB t c).length xs := by
  intro w
  refine (l2Cut_c t c w ht).mono ?_
  rintro e w' ⟨g, cap, rfl, hown, hb⟩
  refine ⟨g, cap, rfl, (hown.lt g rfl).1, (hown.lt g rfl).2, fun j x hj => ?_, hb⟩
  have hx := h j x hj
  have hl : j < (cutB t c).length := by
    by_cases q : j < (cutB t c).length
    · exact q
    · rw [List.getElem?_eq_none (by omega)] at hx; cases hx
  rw [hown.cellAt j (by omega), List.getElem?_map, hx]
  rfl

theorem cut_len (t : ByteArray) (c : UInt8) : (cutB t c).length ≤ t.size + 1 := by
  have := (cutSt_le t.data.toList c t.size).2
  simp only [cutB, List.length_map, List.length_append, List.length_cons, List.length_nil]
  omega

theorem wd_of {t : ByteArray} {j : Nat} (h : j < (cutB t 32).length) : (cutB t 32)[j]? = some (wd t j) := by
  rw [List.getElem?_eq_getElem h]
  simp [wd, List.getElem?_eq_getElem h]

theorem wd_size {t : ByteArray} {j : Nat} (h : j < (cutB t 32).length) : (wd t j).size ≤ t.size := cut_size t 32 j _ (wd_of h)

def emptyR : RuleI := ⟨0, 0, 0, 0, 0, 0, 0, 0⟩
def specOk (t : ByteArray) : Prop := ruleCode (parseW t) = 0 ∧ lineT (parseW t) = t

theorem l2Parse_in (t : ByteArray) (ht : t.size ≤ 1048576) (h3 : 3 ≤ (cutB t 32).length) (b : Bool) (hb : b = true ↔ specOk t) (w : World) :
    Calls Tryd.prog 60 #[.string t] w fun e w' => e = .returned (.tuple #[.agg #[.int .i64 (parseW t).k, .int .i64 (parseW t).ho, .int .i64 (parseW t).hn, .int .i64 (parseW t).w, .int .i64 (parseW t).oo, .int .i64 (parseW t).on, .int .i64 (parseW t).to, .int .i64 (parseW t).tn], .bool b]) ∧ Below w.heap.size w w' := by
  have hl := cut_len t 32
  have s0 := wd_size (t := t) (j := 0) (by omega)
  have s2 := wd_size (t := t) (j := 2) (by omega)
  have hl2 := cut_len (wd t 2) 46
  have pw : ∀ j, j < (cutB (wd t 2) 46).length → (cutB (wd t 2) 46)[j]? = some ((cutB (wd t 2) 46)[j]?.getD ⟨#[]⟩) := fun j hj => by rw [List.getElem?_eq_getElem hj]; rfl
  have ps : ∀ j, j < (cutB (wd t 2) 46).length → ((cutB (wd t 2) 46)[j]?.getD ⟨#[]⟩).size ≤ 1048576 := fun j hj => by have := cut_size (wd t 2) 46 j _ (pw j hj); omega
  have R : ∀ b : ByteArray, b.size ≤ 1048576 → Reads b (readI b).1 (readI b).2 := fun b hb w => l2Read_c b w hb
  have D : ∀ b : ByteArray, b.size ≤ 1048576 → Digs b (digI b) := fun b hb w => l2Digit_c b w hb
  have main : ∀ (c : Int) (L : ByteArray) (ls lp : List (Nat × ByteArray)), (∀ j x, (j, x) ∈ ls → (cutB t 32)[j]? = some x) → (0, wd t 0) ∈ ls → (2, wd t 2) ∈ ls → (∀ j x, (j, x) ∈ lp → (cutB (wd t 2) 46)[j]? = some x) →
      Kinds (cutB t 32).length (cutB (wd t 2) 46).length (readI (wd t 0)).1 (readI (wd t 0)).2 (wd t 2) ls lp (parseW t) → ruleCode (parseW t) = c → (c = 0 → L = lineT (parseW t)) → b = (c == 0 && L.toList == t.toList) →
      Calls Tryd.prog 60 #[.string t] w fun e w' => e = .returned (.tuple #[.agg #[.int .i64 (parseW t).k, .int .i64 (parseW t).ho, .int .i64 (parseW t).hn, .int .i64 (parseW t).w, .int .i64 (parseW t).oo, .int .i64 (parseW t).on, .int .i64 (parseW t).to, .int .i64 (parseW t).tn], .bool b]) ∧ Below w.heap.size w w' := by
    intro c L ls lp h1 m0 m2 h2 hk hc hL hbb
    exact par_main t (wd t 0) (wd t 2) L _ _ _ _ c (parseW t) b ls lp w h3 (by omega) (by omega) (cuts_of t 32 ht ls h1) m0 m2 (cuts_of (wd t 2) 46 (by omega) lp h2) (R _ (by omega)) hk
      (fun g w h => by rw [← hc]; exact l2Rule_c g 0 _ w h) (fun h0 g w h => by rw [hL h0]; exact l2Line_c g 0 _ w h (by rw [hc]; exact h0)) hbb
  have fin : ∀ (ls lp : List (Nat × ByteArray)), (∀ j x, (j, x) ∈ ls → (cutB t 32)[j]? = some x) → (0, wd t 0) ∈ ls → (2, wd t 2) ∈ ls → (∀ j x, (j, x) ∈ lp → (cutB (wd t 2) 46)[j]? = some x) →
      Kinds (cutB t 32).length (cutB (wd t 2) 46).length (readI (wd t 0)).1 (readI (wd t 0)).2 (wd t 2) ls lp (parseW t) →
      Calls Tryd.prog 60 #[.string t] w fun e w' => e = .returned (.tuple #[.agg #[.int .i64 (parseW t).k, .int .i64 (parseW t).ho, .int .i64 (parseW t).hn, .int .i64 (parseW t).w, .int .i64 (parseW t).oo, .int .i64 (parseW t).on, .int .i64 (parseW t).to, .int .i64 (parseW t).tn], .bool b]) ∧ Below w.heap.size w w' := by
    intro ls lp h1 m0 m2 h2 hk
    refine main (ruleCode (parseW t)) (lineT (parseW t)) ls lp h1 m0 m2 h2 hk rfl (fun _ => rfl) ?_
    rw [Bool.eq_iff_iff, hb]
    unfold specOk
    by_cases e : lineT (parseW t) = t
    · rw [str_eq_of e]
      simp [e]
    · rw [str_ne_of e]
      simp [e]
  clear main
  by_cases h5 : (cutB t 32).length = 5
  · have s4 := wd_size (t := t) (j := 4) (by omega)
    refine fin [(0, wd t 0), (2, wd t 2), (4, wd t 4)] [] (fun j x hj => ?_) (by simp) (by simp) (fun j x hj => by simp at hj) (Or.inl ⟨h5, wd t 4, _, _, _, _, by simp, R _ (by omega), R (wd t 4) (by omega), ?_⟩)
    · simp at hj
      rcases hj with ⟨rfl, rfl⟩ | ⟨rfl, rfl⟩ | ⟨rfl, rfl⟩ <;> exact wd_of (by omega)
    · simp [parseW, h5]
  · have l2 : ∀ j x, (j, x) ∈ [(0, wd t 0), (2, wd t 2)] → (cutB t 32)[j]? = some x := fun j x hj => by
      simp at hj
      rcases hj with ⟨rfl, rfl⟩ | ⟨rfl, rfl⟩ <;> exact wd_of (by omega)
    by_cases m1 : (cutB (wd t 2) 46).length = 1
    · refine fin [(0, wd t 0), (2, wd t 2)] [] l2 (by simp) (by simp) (fun j x hj => by simp at hj) (Or.inr (Or.inl ⟨h5, m1, _, D (wd t 2) (by omega), ?_⟩))
      simp [parseW, h5, m1]
    · by_cases m3 : (cutB (wd t 2) 46).length = 3
      · refine fin [(0, wd t 0), (2, wd t 2)] [(0, (cutB (wd t 2) 46)[0]?.getD ⟨#[]⟩), (1, (cutB (wd t 2) 46)[1]?.getD ⟨#[]⟩), (2, (cutB (wd t 2) 46)[2]?.getD ⟨#[]⟩)] l2 (by simp) (by simp) (fun j x hj => ?_)
          (Or.inr (Or.inr (Or.inl ⟨h5, m3, _, _, _, by simp, by simp, by simp, ps 0 (by omega), ps 1 (by omega), ps 2 (by omega), ?_⟩)))
        · simp only [List.mem_cons, Prod.mk.injEq, List.not_mem_nil, or_false] at hj
          rcases hj with ⟨rfl, rfl⟩ | ⟨rfl, rfl⟩ | ⟨rfl, rfl⟩ <;> exact pw _ (by omega)
        · simp [parseW, h5, m1, m3]
      · refine fin [(0, wd t 0), (2, wd t 2)] [] l2 (by simp) (by simp) (fun j x hj => by simp at hj) (Or.inr (Or.inr (Or.inr ⟨h5, m1, m3, _, _, R (wd t 2) (by omega), ?_⟩)))
        simp [parseW, h5, m1, m3]

end Go.Proofs.YtajdgbdpmmdlfaaDoor
