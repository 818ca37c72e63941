/-
  A QUEUE OF RULES in memory: its first rule, the rest, one more behind; slices.Clone of rules.
  Conditions: each contract bears its own.
-/
import Derived.Test.YtnmidppiakdanaaLe0
import Derived.Test.YtnmidppiakdanaaPol3
import Derived.ArgAppend
import Derived.Lib.SliceRun
import Derived.Deep.AppendLies
namespace Go.Proofs.Ytnmidppiakdanaa
open Go.RowKit
set_option linter.unusedVariables false
set_option linter.unusedSimpArgs false

theorem Try.under24 : Try.prog.underlying 24 = some (.slice 105) := by kernel_rfl

def ruC8 (r : RuleI) : List Value := [.int .i64 r.k, .int .i64 r.ho, .int .i64 r.hn, .int .i64 r.w, .int .i64 r.oo, .int .i64 r.on, .int .i64 r.to, .int .i64 r.tn]

def flat8 : List RuleI → List Value
  | [] => []
  | r :: rs => ruC8 r ++ flat8 rs

theorem flat8_len : ∀ zs : List RuleI, (flat8 zs).length = zs.length * 8
  | [] => rfl
  | r :: rs => by simp [flat8, ruC8, flat8_len rs]; omega

theorem flat8_one : ∀ zs : List RuleI, ∀ u ∈ flat8 zs, u.oneCell' = true
  | [], u, h => by simp [flat8] at h
  | r :: rs, u, h => by
    rcases List.mem_append.1 h with q | q
    · simp [ruC8] at q
      rcases q with rfl | rfl | rfl | rfl | rfl | rfl | rfl | rfl <;> rfl
    · exact flat8_one rs u q

theorem flat8_at : ∀ (zs : List RuleI) (k : Nat) (r : RuleI), zs[k]? = some r → ∀ i, i < 8 → (flat8 zs)[k * 8 + i]? = (ruC8 r)[i]?
  | [], k, r, h, i, hi => by simp at h
  | z :: zs, 0, r, h, i, hi => by
    simp at h
    subst h
    rw [flat8, List.getElem?_append_left (by simp [ruC8]; omega)]
    simp
  | z :: zs, k + 1, r, h, i, hi => by
    have := flat8_at zs k r (by simpa using h) i hi
    rw [flat8, List.getElem?_append_right (by simp [ruC8]; omega), show (k + 1) * 8 + i - (ruC8 z).length = k * 8 + i by simp [ruC8]; omega]
    exact this

/-- The cells of rules, from a block's offset on. -/
theorem rulesAt_of {w : World} {g off : Nat} {zs : List RuleI} (h : ∀ j u, (flat8 zs)[j]? = some u → w.cell? ⟨g, off + j, none⟩ = some u) : RulesAt w g off zs := by
  intro k r hr
  have q : ∀ i, i < 8 → ∀ u, (ruC8 r)[i]? = some u → w.cell? ⟨g, off + k * 8 + i, none⟩ = some u := fun i hi u hu => by
    have := h (k * 8 + i) u ((flat8_at zs k r hr i hi).trans hu)
    rwa [← Nat.add_assoc] at this
  exact ⟨q 0 (by omega) _ rfl, q 1 (by omega) _ rfl, q 2 (by omega) _ rfl, q 3 (by omega) _ rfl, q 4 (by omega) _ rfl, q 5 (by omega) _ rfl, q 6 (by omega) _ rfl, q 7 (by omega) _ rfl⟩

theorem rule_cells {w : World} {g o : Nat} {r : RuleI} (h : RuleAt w g o r) : ∀ j u, (ruC8 r)[j]? = some u → w.cell? ⟨g, o + j, none⟩ = some u := by
  obtain ⟨h0, h1, h2, h3, h4, h5, h6, h7⟩ := h
  intro j u hu
  match j, hu with
  | 0, hu => simp [ruC8] at hu; subst hu; exact h0
  | 1, hu => simp [ruC8] at hu; subst hu; exact h1
  | 2, hu => simp [ruC8] at hu; subst hu; exact h2
  | 3, hu => simp [ruC8] at hu; subst hu; exact h3
  | 4, hu => simp [ruC8] at hu; subst hu; exact h4
  | 5, hu => simp [ruC8] at hu; subst hu; exact h5
  | 6, hu => simp [ruC8] at hu; subst hu; exact h6
  | 7, hu => simp [ruC8] at hu; subst hu; exact h7
  | j + 8, hu => simp [ruC8] at hu

theorem rules_cells {w : World} {g off : Nat} {zs : List RuleI} (h : RulesAt w g off zs) : ∀ j u, (flat8 zs)[j]? = some u → w.cell? ⟨g, off + j, none⟩ = some u := by
  intro j u hu
  have hj : j < zs.length * 8 := by
    rw [← flat8_len]
    by_cases q : j < (flat8 zs).length
    · exact q
    · rw [List.getElem?_eq_none (by omega)] at hu; cases hu
  have hk : j / 8 < zs.length := by omega
  have hr := List.getElem?_eq_getElem hk
  have e := flat8_at zs (j / 8) _ hr (j % 8) (by omega)
  rw [show j / 8 * 8 + j % 8 = j by omega] at e
  have := rule_cells (h (j / 8) _ hr) (j % 8) u (e.symm.trans hu)
  rwa [show off + j / 8 * 8 + j % 8 = off + j by omega] at this

/-- A queue that may be written: its rules, and the room behind them. -/
structure QAt (w : World) (B g off cap : Nat) (ws : List RuleI) : Prop where
  old : B ≤ g
  lt : g < w.heap.size
  at' : RulesAt w g off ws
  le : ws.length ≤ cap
  room : ∀ j, j < cap * 8 → (w.cell? ⟨g, off + j, none⟩).isSome = true ∧ w.frozen? ⟨g, off + j, none⟩ = false

def Q1 (w : World) (B : Nat) (v : Value) (ws : List RuleI) : Prop := ∃ g off cap, v = .slice (some ⟨g, off, none⟩) ws.length cap ∧ QAt w B g off cap ws

/-- What is kept where the queue's block is not touched. -/
theorem QAt.kept {w w' : World} {B g off cap : Nat} {ws : List RuleI} (h : QAt w B g off cap ws) (hs : w.heap.size ≤ w'.heap.size) (hb : w'.heap[g]? = w.heap[g]?) : QAt w' B g off cap ws := by
  have hc : ∀ o, w'.cell? ⟨g, o, none⟩ = w.cell? ⟨g, o, none⟩ := fun o => World.cell?_of_block hb
  have hf : ∀ o, w'.frozen? ⟨g, o, none⟩ = w.frozen? ⟨g, o, none⟩ := fun o => by simp [World.frozen?, hb]
  refine ⟨h.old, Nat.lt_of_lt_of_le h.lt hs, fun k r hr => ?_, h.le, fun j hj => ?_⟩
  · obtain ⟨h0, h1, h2, h3, h4, h5, h6, h7⟩ := h.at' k r hr
    exact ⟨(hc _).trans h0, (hc _).trans h1, (hc _).trans h2, (hc _).trans h3, (hc _).trans h4, (hc _).trans h5, (hc _).trans h6, (hc _).trans h7⟩
  · rw [hc, hf]
    exact h.room j hj

theorem QAt.below {w w' : World} {B g off cap : Nat} {ws : List RuleI} (h : QAt w B g off cap ws) {K : Nat} (hK : g < K) (hb : Below K w w') : QAt w' B g off cap ws := h.kept hb.size (hb.block g hK)

/-- Without its first rule. -/
theorem QAt.pop {w : World} {B g off cap : Nat} {z : RuleI} {ws : List RuleI} (h : QAt w B g off cap (z :: ws)) : QAt w B g (off + 8) (cap - 1) ws := by
  have hl := h.le
  simp only [List.length_cons] at hl
  refine ⟨h.old, h.lt, fun k r hr => ?_, by omega, fun j hj => ?_⟩
  · have := h.at' (k + 1) r (by simpa using hr)
    rwa [show off + (k + 1) * 8 = off + 8 + k * 8 by omega] at this
  · have := h.room (8 + j) (by omega)
    rwa [← Nat.add_assoc] at this

theorem QAt.empty {w : World} {B g off off' : Nat} (h : QAt w B g off 0 []) : QAt w B g off' 0 [] :=
  ⟨h.old, h.lt, fun k r hr => by simp at hr, Nat.le_refl _, fun j hj => by omega⟩

/-- A row that is owned is a queue. -/
theorem q_of_row {w : World} {B : Nat} {v : Value} {ws : List RuleI} (h : w.ownsRow B 105 8 v ws.length (flat8 ws)) (hn : v ≠ .slice none 0 0) : Q1 w B v ws := by
  rcases h.2 with ⟨q, _⟩ | ⟨g, cap, cur, rfl, hB, hg, hnc, hcm, hsz, htk⟩
  · exact absurd q hn
  · refine ⟨g, 0, cap, rfl, hB, (h.lt g rfl).2, rulesAt_of (fun j u hu => ?_), hnc, fun j hj => ?_⟩
    · rw [Nat.zero_add]
      have hj : j < ws.length * 8 := by
        rw [← flat8_len]
        by_cases q : j < (flat8 ws).length
        · exact q
        · rw [List.getElem?_eq_none (by omega)] at hu; cases hu
      exact (h.cellAt j hj).trans hu
    · rw [Nat.zero_add]
      refine ⟨?_, by simp [World.frozen?, hg]⟩
      simp [World.cell?, hg]
      omega

set_option maxRecDepth 100000 in
set_option maxHeartbeats 1000000 in
theorem cloneR_c (a : Option Addr) (n cap : Nat) (zs : List RuleI) (w : World) (hn : n ≤ 1000) (h : RulesIn w a n zs) :
    Calls Try.prog 111 #[.slice a n cap] w fun e w' => ∃ v, e = .returned v ∧ (n = 0 → ∃ a' c', v = .slice a' 0 c') ∧ (0 < n → Q1 w' w.heap.size v zs) ∧ Below w.heap.size w w' := by
  obtain ⟨i0, hi, hz0, hz1, hz2⟩ := info_parts Try.info105
  have HZ : Hid (zs.length = n) := h.1
  cases a with
  | none =>
    have hn0 : n = 0 := by
      by_cases q : 0 < n
      · obtain ⟨_, _, e, _⟩ := h.2 q; cases e
      · omega
    subst hn0
    clear h
    have hq := fun w => Go.Lib.run_eql_slice_nil (P := Try.prog) w 24 _ (none : Option Addr) 0 cap 0 0 Try.under24
    go_enter Try.func111, Try.ntmps111
    go_wp2
    go_ret
    exact ⟨_, rfl, fun _ => ⟨_, _, rfl⟩, fun q => by omega, Below.refl _ _⟩
  | some ad =>
    have HC : Hid (∀ j u, (flat8 zs)[j]? = some u → (w.alloc (.cells #[] 105)).cell? (ad.add j) = some u) := by
      intro j u hu
      have hj : j < zs.length * 8 := by
        rw [← flat8_len]
        by_cases q : j < (flat8 zs).length
        · exact q
        · rw [List.getElem?_eq_none (by omega)] at hu; cases hu
      have hz := h.1
      obtain ⟨b, off, e, hat⟩ := h.2 (by omega)
      cases e
      rw [Go.WideShapes.add_plain]
      have h1 := rules_cells hat j u hu
      exact (((Below.refl _ w).alloc (Nat.le_refl _) _).cell (p := ⟨b, off + j, none⟩) (World.block_lt_of_cell? w ⟨b, off + j, none⟩ h1)).trans h1
    clear h
    have hq := fun w => Go.Lib.run_eql_slice_nil (P := Try.prog) w 24 _ (some ad) n cap 0 0 Try.under24
    go_enter Try.func111, Try.ntmps111
    go_wp2_with (first | (at_builtin; refine wpList_append_own _ rfl _ _ 24 rfl w.heap.size 105 i0 (.agg #[.int .i64 0, .int .i64 0, .int .i64 0, .int .i64 0, .int .i64 0, .int .i64 0, .int .i64 0, .int .i64 0]) 8 64 Try.under24 hi hz0 hz1 hz2 rfl (by decide) (.slice (some ⟨w.heap.size, 0, none⟩) 0 0) 0 [] rfl ?c0 ad n cap (flat8 zs) rfl ?cl ?c1 ?c2 ?c3 ?c4 ?c5 ?_))
    case c0 => exact World.ownsRow_lit w #[] 0 (Nat.le_refl _) (Nat.zero_le _) rfl
    case cl => rw [flat8_len, HZ.out]
    case c1 => exact HC.out
    case c2 => exact flat8_one zs
    case c3 => unfold maxLen; omega
    case c4 => omega
    case c5 => simp
    · intro v1 w1 hown hgrow hnil
      have hnn : v1 ≠ .slice none 0 0 := by first | exact hnil | simpa using hnil
      have R1 : w1.ownsRow w.heap.size 105 8 v1 zs.length (flat8 zs) := by
        rw [HZ.out]
        simpa using hown
      have R2 : Below w.heap.size w w1 := ((Below.refl _ _).alloc (Nat.le_refl _) _).grown hgrow (by simp) (fun j hj => by simp [Value.ownBlock] at hj; omega)
      have hq := q_of_row R1 hnn
      have HQ : Hid (Q1 w1 w.heap.size v1 zs) := hq
      clear R1 hown hgrow hnil hnn hq
      go_wp2
      go_ret
      refine ⟨v1, rfl, fun q => ?_, fun _ => HQ.out, R2⟩
      obtain ⟨g, off, c, e, _⟩ := HQ.out
      rw [HZ.out, q] at e
      exact ⟨_, _, e⟩

end Go.Proofs.Ytnmidppiakdanaa
