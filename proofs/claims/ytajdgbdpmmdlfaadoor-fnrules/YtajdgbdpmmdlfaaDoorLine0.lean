/-
  CONTRACTS on the line of a rule: what it is.
  Conditions: each contract bears its own.
-/
import Derived.Test.YtajdgbdpmmdlfaaDoorText3
import Derived.Test.YtajdgbdpmmdlfaaDoorRule4
namespace Go.Proofs.YtajdgbdpmmdlfaaDoor
open Go.RowKit
set_option linter.unusedVariables false
set_option linter.unusedSimpArgs false

/-- What stands behind the arrow. -/
def tailL (r : RuleI) : List UInt8 :=
  if r.k = 1 then [digitB r.w]
  else if r.k = 2 then [digitB r.oo, 46, digitB r.on]
  else if r.k = 3 then [digitB r.oo, 46, digitB r.on, 46, digitB r.tn]
  else [digitB r.oo, 46, digitB r.on, 32, 38, 32, digitB r.to, 46, digitB r.tn]

/-- A rule's line. -/
def lineL (r : RuleI) : List UInt8 := [digitB r.ho, 46, digitB r.hn, 32, 60, 45, 32] ++ tailL r
def lineT (r : RuleI) : ByteArray := ⟨(lineL r).toArray⟩
def tailT (r : RuleI) : ByteArray := ⟨(tailL r).toArray⟩

theorem code0 {r : RuleI} (h : ruleCode r = 0) : (1 ≤ r.k ∧ r.k ≤ 4) ∧ roleB r.ho r.hn = true ∧ bareB r = true ∧ hasB r = true := by
  unfold ruleCode at h
  split at h
  · omega
  · rename_i hk
    split at h
    · omega
    · split at h
      · omega
      · split at h
        · omega
        · rename_i h1 h2 h3
          refine ⟨by omega, ?_, ?_, ?_⟩
          · cases e : roleB r.ho r.hn <;> simp_all
          · cases e : bareB r <;> simp_all
          · cases e : hasB r <;> simp_all

theorem tail_size (r : RuleI) : (tailT r).size ≤ 9 := by
  simp only [tailT, tailL, ByteArray.size]
  split
  · simp
  · split
    · simp
    · split <;> simp

theorem tail_1 (r : RuleI) (h : r.k = 1) : tailT r = ⟨#[digitB r.w]⟩ := by simp [tailT, tailL, h]
theorem tail_2 (r : RuleI) (h : r.k = 2) : tailT r = roleT r.oo r.on := by simp [tailT, tailL, h, roleT]
theorem tail_3 (r : RuleI) (h : r.k = 3) : tailT r = roleT r.oo r.on ++ ⟨#[46]⟩ ++ ⟨#[digitB r.tn]⟩ := by
  simp [tailT, tailL, h, roleT, ByteArray.mk_append_mk]
theorem tail_4 (r : RuleI) (h : r.k = 4) : tailT r = roleT r.oo r.on ++ ⟨#[32, 38, 32]⟩ ++ roleT r.to r.tn := by
  simp [tailT, tailL, h, roleT, ByteArray.mk_append_mk]
theorem line_eq (r : RuleI) : lineT r = roleT r.ho r.hn ++ ⟨#[32, 60, 45, 32]⟩ ++ tailT r := by
  simp [lineT, lineL, tailT, roleT, ByteArray.mk_append_mk]
theorem cat_assoc (a b c : ByteArray) : a ++ b ++ c = a ++ (b ++ c) := ByteArray.append_assoc

theorem withS {P : Program} {f : Nat} {args : Array Value} {w : World} {e0 : Ending} {S : World → Prop} (K : ∀ w', Below w.heap.size w w' → S w')
    (h : Calls P f args w fun e w' => e = e0 ∧ Below w.heap.size w w') : Calls P f args w fun e w' => e = e0 ∧ S w' := h.mono fun e w' hh => ⟨hh.1, K w' hh.2⟩

theorem keepS3 {g : Nat} {x0 x1 x2 : Int} {w0 w w' : World} (h : w.cell? ⟨g, 0, none⟩ = some (.int .i64 x0) ∧ w.cell? ⟨g, 1, none⟩ = some (.int .i64 x1) ∧ w.cell? ⟨g, 2, none⟩ = some (.int .i64 x2) ∧ Below w0.heap.size w0 w) (hb : Below w.heap.size w w') : w'.cell? ⟨g, 0, none⟩ = some (.int .i64 x0) ∧ w'.cell? ⟨g, 1, none⟩ = some (.int .i64 x1) ∧ w'.cell? ⟨g, 2, none⟩ = some (.int .i64 x2) ∧ Below w0.heap.size w0 w' := by
  have key : ∀ (o : Nat) (v : Value), w.cell? ⟨g, o, none⟩ = some v → w'.cell? ⟨g, o, none⟩ = some v := fun o v e => (hb.cell (p := ⟨g, o, none⟩) (World.block_lt_of_cell? w ⟨g, o, none⟩ e)).trans e
  obtain ⟨h0, h1, h2, hB⟩ := h
  exact ⟨key _ _ h0, key _ _ h1, key _ _ h2, hB.trans (hb.mono hB.size)⟩

theorem keepS4 {g : Nat} {x0 x1 x2 x3 : Int} {w0 w w' : World} (h : w.cell? ⟨g, 0, none⟩ = some (.int .i64 x0) ∧ w.cell? ⟨g, 1, none⟩ = some (.int .i64 x1) ∧ w.cell? ⟨g, 2, none⟩ = some (.int .i64 x2) ∧ w.cell? ⟨g, 3, none⟩ = some (.int .i64 x3) ∧ Below w0.heap.size w0 w) (hb : Below w.heap.size w w') : w'.cell? ⟨g, 0, none⟩ = some (.int .i64 x0) ∧ w'.cell? ⟨g, 1, none⟩ = some (.int .i64 x1) ∧ w'.cell? ⟨g, 2, none⟩ = some (.int .i64 x2) ∧ w'.cell? ⟨g, 3, none⟩ = some (.int .i64 x3) ∧ Below w0.heap.size w0 w' := by
  have key : ∀ (o : Nat) (v : Value), w.cell? ⟨g, o, none⟩ = some v → w'.cell? ⟨g, o, none⟩ = some v := fun o v e => (hb.cell (p := ⟨g, o, none⟩) (World.block_lt_of_cell? w ⟨g, o, none⟩ e)).trans e
  obtain ⟨h0, h1, h2, h3, hB⟩ := h
  exact ⟨key _ _ h0, key _ _ h1, key _ _ h2, key _ _ h3, hB.trans (hb.mono hB.size)⟩

theorem keepS8 {g : Nat} {x0 x1 x2 x3 x4 x5 x6 x7 : Int} {w0 w w' : World} (h : w.cell? ⟨g, 0, none⟩ = some (.int .i64 x0) ∧ w.cell? ⟨g, 1, none⟩ = some (.int .i64 x1) ∧ w.cell? ⟨g, 2, none⟩ = some (.int .i64 x2) ∧ w.cell? ⟨g, 3, none⟩ = some (.int .i64 x3) ∧ w.cell? ⟨g, 4, none⟩ = some (.int .i64 x4) ∧ w.cell? ⟨g, 5, none⟩ = some (.int .i64 x5) ∧ w.cell? ⟨g, 6, none⟩ = some (.int .i64 x6) ∧ w.cell? ⟨g, 7, none⟩ = some (.int .i64 x7) ∧ Below w0.heap.size w0 w) (hb : Below w.heap.size w w') : w'.cell? ⟨g, 0, none⟩ = some (.int .i64 x0) ∧ w'.cell? ⟨g, 1, none⟩ = some (.int .i64 x1) ∧ w'.cell? ⟨g, 2, none⟩ = some (.int .i64 x2) ∧ w'.cell? ⟨g, 3, none⟩ = some (.int .i64 x3) ∧ w'.cell? ⟨g, 4, none⟩ = some (.int .i64 x4) ∧ w'.cell? ⟨g, 5, none⟩ = some (.int .i64 x5) ∧ w'.cell? ⟨g, 6, none⟩ = some (.int .i64 x6) ∧ w'.cell? ⟨g, 7, none⟩ = some (.int .i64 x7) ∧ Below w0.heap.size w0 w' := by
  have key : ∀ (o : Nat) (v : Value), w.cell? ⟨g, o, none⟩ = some v → w'.cell? ⟨g, o, none⟩ = some v := fun o v e => (hb.cell (p := ⟨g, o, none⟩) (World.block_lt_of_cell? w ⟨g, o, none⟩ e)).trans e
  obtain ⟨h0, h1, h2, h3, h4, h5, h6, h7, hB⟩ := h
  exact ⟨key _ _ h0, key _ _ h1, key _ _ h2, key _ _ h3, key _ _ h4, key _ _ h5, key _ _ h6, key _ _ h7, hB.trans (hb.mono hB.size)⟩

end Go.Proofs.YtajdgbdpmmdlfaaDoor
