/-
  PLAIN WORDS on slices of rules that are new, as rows of cells. No Go text is walked here.
  Conditions: each fact bears its own.
-/
import Derived.Test.YtpeddanicenohaaGreatPol3
import Derived.Test.YtpeddanicenohaaGreatBlk0
import Derived.Deep.AppendLies
namespace Go.Proofs.YtpeddanicenohaaGreat
open Go.RowKit
set_option linter.unusedVariables false
set_option linter.unusedSimpArgs false

def row8 (p : RuleI) : List Value := [.int .i64 p.k, .int .i64 p.ho, .int .i64 p.hn, .int .i64 p.w, .int .i64 p.oo, .int .i64 p.on, .int .i64 p.to, .int .i64 p.tn]

def flatR : List RuleI → List Value
  | [] => []
  | p :: ps => .int .i64 p.k :: .int .i64 p.ho :: .int .i64 p.hn :: .int .i64 p.w :: .int .i64 p.oo :: .int .i64 p.on :: .int .i64 p.to :: .int .i64 p.tn :: flatR ps

theorem flatR_append (a b : List RuleI) : flatR (a ++ b) = flatR a ++ flatR b := by
  induction a with
  | nil => rfl
  | cons p ps ih => simp [flatR, ih]

theorem flatR_one1 (p : RuleI) : flatR [p] = row8 p := rfl

theorem flatR_len (a : List RuleI) : (flatR a).length = a.length * 8 := by
  induction a with
  | nil => rfl
  | cons p ps ih => simp [flatR, ih]; omega

theorem flatR_at : ∀ (a : List RuleI) (k : Nat) (p : RuleI), a[k]? = some p → ∀ j u, (row8 p)[j]? = some u → (flatR a)[k * 8 + j]? = some u
  | [], _, _, h => by simp at h
  | q :: qs, 0, p, h => by
    simp at h
    subst h
    intro j u hj
    rw [Nat.zero_mul, Nat.zero_add]
    have hl : j < 8 := by
      by_cases c : j < 8
      · exact c
      · rw [List.getElem?_eq_none (by simp [row8]; omega)] at hj; cases hj
    have e : flatR (q :: qs) = row8 q ++ flatR qs := rfl
    rw [e, List.getElem?_append_left (by simpa [row8] using hl)]
    exact hj
  | q :: qs, k + 1, p, h => by
    intro j u hj
    have := flatR_at qs k p (by simpa using h) j u hj
    have e : flatR (q :: qs) = row8 q ++ flatR qs := rfl
    have hl8 : (row8 q).length = 8 := rfl
    rw [e, List.getElem?_append_right (by rw [hl8]; omega), hl8, show (k + 1) * 8 + j - 8 = k * 8 + j by omega]
    exact this

theorem flatR_cells (a : List RuleI) : ∀ u ∈ flatR a, u.oneCell' = true := by
  induction a with
  | nil => simp [flatR]
  | cons p ps ih =>
    intro u hu
    simp only [flatR, List.mem_cons] at hu
    rcases hu with rfl | rfl | rfl | rfl | rfl | rfl | rfl | rfl | hu
    all_goals first | rfl | exact ih _ hu

/-- A slice of rules that is new since B. -/
def Own8 (w : World) (B : Nat) (v : Value) (zs : List RuleI) : Prop := w.ownsRow B 35 8 v zs.length (flatR zs)

theorem Own8.shape {w : World} {B : Nat} {v : Value} {zs : List RuleI} (h : Own8 w B v zs) (hv : v ≠ .slice none 0 0) : ∃ g cap, v = .slice (some ⟨g, 0, none⟩) zs.length cap := by
  have h0 : w.ownsRow B 35 8 v zs.length (flatR zs) := h
  rcases h0.2 with ⟨h', _⟩ | ⟨g, cap, cur, h', _⟩
  · exact absurd h' hv
  · exact ⟨g, cap, h'⟩

theorem Own8.cells {w : World} {B g n cap : Nat} {zs : List RuleI} (hn : zs.length = n) (h : Own8 w B (.slice (some ⟨g, 0, none⟩) n cap) zs) : ∀ j u, (flatR zs)[j]? = some u → w.cell? ⟨g, j, none⟩ = some u := by
  subst hn
  have h0 : w.ownsRow B 35 8 (.slice (some ⟨g, 0, none⟩) zs.length cap) zs.length (flatR zs) := h
  intro j u hj
  have hl : j < zs.length * 8 := by
    by_cases c : j < zs.length * 8
    · exact c
    · rw [List.getElem?_eq_none (by rw [flatR_len]; omega)] at hj; cases hj
  exact (h0.cellAt j hl).trans hj

theorem Own8.read {w : World} {B g n cap : Nat} {zs : List RuleI} (hn : zs.length = n) (h : Own8 w B (.slice (some ⟨g, 0, none⟩) n cap) zs) : RulesIn w (some ⟨g, 0, none⟩) n zs := by
  have hc := h.cells hn
  refine ⟨hn, fun _ => ⟨g, 0, rfl, fun k x hx => ?_⟩⟩
  rw [Nat.zero_add]
  have f := flatR_at zs k x hx
  exact ⟨hc _ _ (f 0 _ rfl), hc _ _ (f 1 _ rfl), hc _ _ (f 2 _ rfl), hc _ _ (f 3 _ rfl), hc _ _ (f 4 _ rfl), hc _ _ (f 5 _ rfl), hc _ _ (f 6 _ rfl), hc _ _ (f 7 _ rfl)⟩

theorem Own8.below {w w' : World} {B : Nat} {v : Value} {zs : List RuleI} (h : Own8 w B v zs) (hb : Below w.heap.size w w') : Own8 w' B v zs :=
  World.ownsRow.kept (row := none) h ⟨hb.os, hb.tape, hb.output, hb.size, fun k hk _ => hb.block k hk⟩ (by cases v.ownBlock <;> simp)

theorem Own8.grown {w w' : World} {B g n cap q : Nat} {zs : List RuleI} (h : Own8 w B (.slice (some ⟨g, 0, none⟩) n cap) zs) (hg : w.grownBy w' (some q)) (hne : g ≠ q) : Own8 w' B (.slice (some ⟨g, 0, none⟩) n cap) zs :=
  World.ownsRow.kept (row := some q) h hg (.inr (by simp [Value.ownBlock]; exact hne))

theorem own8_lower {w : World} {B B' : Nat} {v : Value} {zs : List RuleI} (h : Own8 w B v zs) (hb : B' ≤ B) : Own8 w B' v zs := by
  have h0 : w.ownsRow B 35 8 v zs.length (flatR zs) := h
  refine ⟨h0.1, ?_⟩
  rcases h0.2 with h' | ⟨g, cap, cur, e, hg, rest⟩
  · exact .inl h'
  · exact .inr ⟨g, cap, cur, e, Nat.le_trans hb hg, rest⟩

/-- A rule's eight cells in a new block. -/
theorem cell_new8 (W : World) (x : RuleI) (T : TypeId) : ∀ j u, (row8 x)[j]? = some u → (W.alloc (.cells #[.int .i64 x.k, .int .i64 x.ho, .int .i64 x.hn, .int .i64 x.w, .int .i64 x.oo, .int .i64 x.on, .int .i64 x.to, .int .i64 x.tn] T)).cell? ((⟨W.heap.size, 0, none⟩ : Addr).add j) = some u := by
  intro j u hj
  match j, hj with
  | 0, hj => simp [row8] at hj; subst hj; simp [Addr.add]
  | 1, hj => simp [row8] at hj; subst hj; simp [Addr.add]
  | 2, hj => simp [row8] at hj; subst hj; simp [Addr.add]
  | 3, hj => simp [row8] at hj; subst hj; simp [Addr.add]
  | 4, hj => simp [row8] at hj; subst hj; simp [Addr.add]
  | 5, hj => simp [row8] at hj; subst hj; simp [Addr.add]
  | 6, hj => simp [row8] at hj; subst hj; simp [Addr.add]
  | 7, hj => simp [row8] at hj; subst hj; simp [Addr.add]
  | j + 8, hj => simp [row8] at hj

end Go.Proofs.YtpeddanicenohaaGreat
