/-
  CONTRACT: slices.Compact over roles that do not fall.
  Conditions: each contract bears its own.
-/
import Derived.Test.YtajdgbdpmmdlfaaRol4
import Derived.Test.YtajdgbdpmmdlfaaRol6
import Derived.Laws.IdiomCopy
namespace Go.Proofs.Ytajdgbdpmmdlfaa
open Go.RowKit
set_option linter.unusedVariables false
set_option linter.unusedSimpArgs false

theorem role_neql (p q : RoI) (w : World) : (binOp .neq 25 (.agg #[.int .i64 p.1, .int .i64 p.2]) (.agg #[.int .i64 q.1, .int .i64 q.2])).run Try.prog w = .ok (.bool (!sameR p q)) w := by
  obtain ⟨a0, a1⟩ := p
  obtain ⟨b0, b1⟩ := q
  simp only [sameR]
  cases e0 : (a0 == b0)
  · simp [go_sem, e0]
  cases e1 : (a1 == b1)
  · simp [go_sem, e0, e1]
  · simp [go_sem, e0, e1]

attribute [local go_sem ↓] role_eql role_neql

/-- Values set one behind another. -/
def setL (fs : List Value) : Nat → List Value → List Value
  | _, [] => fs
  | o, v :: r => setL (fs.set o v) (o + 1) r

theorem setL_take (vs : List Value) : ∀ (fs : List Value) (o k : Nat), k ≤ o → (setL fs o vs).take k = fs.take k := by
  induction vs with
  | nil => intro fs o k _; rfl
  | cons v r ih =>
    intro fs o k hk
    show (setL (fs.set o v) (o + 1) r).take k = fs.take k
    rw [ih _ _ _ (by omega), List.take_set_of_le hk]

theorem owns_setCells (vs : List Value) : ∀ (w : World) (B g n cap : Nat) (fs : List Value) (o : Nat), w.ownsRow B 25 2 (.slice (some ⟨g, 0, none⟩) n cap) n fs →
    (w.setCells g o vs).ownsRow B 25 2 (.slice (some ⟨g, 0, none⟩) n cap) n (setL fs o vs) ∧ w.grownBy (w.setCells g o vs) (some g) := by
  induction vs with
  | nil => intro w B g n cap fs o h; exact ⟨h, grown_refl _ _⟩
  | cons v r ih =>
    intro w B g n cap fs o h
    have h1 := h.stored o v
    have h2 := ih _ B g n cap _ (o + 1) h1.1
    exact ⟨h2.1, grown_tr h1.2 h2.2⟩

theorem owns_cut {w : World} {B g n cap k : Nat} {fs : List Value} (h : w.ownsRow B 25 2 (.slice (some ⟨g, 0, none⟩) n cap) n fs) (hk : k ≤ n) : w.ownsRow B 25 2 (.slice (some ⟨g, 0, none⟩) k cap) k (fs.take (k * 2)) := by
  rcases h.2 with ⟨e0, _⟩ | ⟨g', cap', cur, e0, hb, hg, hn, hm, hs, ht⟩
  · cases e0
  · injection e0 with e1 _ e3
    injection e1 with e1
    injection e1 with e1
    subst e1; subst e3
    refine ⟨by have := h.1; rw [List.length_take]; omega, .inr ⟨g, cap, cur, rfl, hb, hg, by omega, hm, hs, ?_⟩⟩
    rw [← ht, List.take_take, Nat.min_eq_left (by omega)]

def zc (n : Nat) : List Value := (Builtin.zeroCells (Value.agg #[.int .i64 0, .int .i64 0]).cells n).toList

theorem run_clear2 (w : World) (g o n c : Nat) (hn : 0 < n) (hc : ∀ j, j < n * 2 → (w.cell? ⟨g, o + j, none⟩).isSome = true) (hf : ∀ j, j < n * 2 → w.frozen? ⟨g, o + j, none⟩ = false) (ty : TypeId) :
    (Builtin.clear_ #[42] ty #[.slice (some ⟨g, o, none⟩) n c]).run Try.prog w = .ok (.tuple #[]) (w.setCells g o (zc n)) := by
  have hl : (zc n).length = n * 2 := by simp [zc, Builtin.zeroCells, Value.cells]
  have h1 : ∀ v ∈ zc n, v.oneCell' = true := by
    intro v hv
    simp [zc, Builtin.zeroCells, Value.cells] at hv
    obtain ⟨i, _, rfl⟩ := hv
    rcases Nat.mod_two_eq_zero_or_one i with e | e <;> simp [e, Value.oneCell']
  have hst := run_storeCells_cells (P := Try.prog) g o (zc n) 0 w (by rw [hl]; simpa using hc) (by rw [hl]; simpa using hf) h1
  have hv : ∀ w, (zeroValue 25).run Try.prog w = .ok (.agg #[.int .i64 0, .int .i64 0]) w := fun w => by kernel_rfl
  simp only [Nat.add_zero] at hst
  unfold zc at hst ⊢
  obtain ⟨m, rfl⟩ : ∃ m, n = m + 1 := ⟨n - 1, by omega⟩
  simp [Builtin.clear_, run_underlying Try.underlying42, hv, hst]

end Go.Proofs.Ytajdgbdpmmdlfaa
