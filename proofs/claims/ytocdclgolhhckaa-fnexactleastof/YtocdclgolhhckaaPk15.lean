/-
  A QUEUE OF RULES in memory: its first rule, the rest, one more behind; slices.Clone of rules.
  Conditions: each contract bears its own.
  A SCOPE WITH SEVERAL LABELS: what holds at each jump, with a number that every pass from a label lowers. No Go text is walked here.
  Conditions: each fact bears its own.
  CONTRACTS: maps.Clone of the map of grants; (impl.grantMap).step: one step of all rules.
  Conditions: each contract bears its own.
-/
import Derived.Test.YtocdclgolhhckaaPk14
import Derived.Test.YtocdclgolhhckaaPk06
import Derived.ArgAppend
import Derived.Lib.SliceRun
import Derived.Deep.AppendLies
import Derived.Scope
import Derived.ScopeJumps
import Derived.WalkMore
import Derived.Test.YtocdclgolhhckaaPk10
import Derived.Shelf.SlMaps.Clone
import Derived.Deep.RegionWith
namespace Go.Proofs.Ytocdclgolhhckaa
open Go.RowKit
set_option linter.unusedVariables false
set_option linter.unusedSimpArgs false

theorem Try.under29 : Try.prog.underlying 29 = some (.slice 80) := by kernel_rfl

def ruC8 (r : RuleI) : List Value := [.int .i64 r.k, .int .i64 r.ho, .int .i64 r.hn, .int .i64 r.w, .int .i64 r.oo, .int .i64 r.on, .int .i64 r.to, .int .i64 r.tn]

def flat8 : List RuleI → List Value
  | [] => []
  | r :: rs => ruC8 r ++ flat8 rs

theorem flat8_len : ∀ zs : List RuleI, (flat8 zs).length = zs.length * 8
  | [] => rfl
  | r :: rs => by simp [flat8, ruC8, flat8_len rs]; omega

theorem flat8_one : ∀ zs : List RuleI, ∀ u ∈ flat8 zs, u.oneCell' = true
  | [], u, h => by simp [flat8] at h
  | r :: rs, u, h => by
    rcases List.mem_append.1 h with q | q
    · simp [ruC8] at q
      rcases q with rfl | rfl | rfl | rfl | rfl | rfl | rfl | rfl <;> rfl
    · exact flat8_one rs u q

theorem flat8_at : ∀ (zs : List RuleI) (k : Nat) (r : RuleI), zs[k]? = some r → ∀ i, i < 8 → (flat8 zs)[k * 8 + i]? = (ruC8 r)[i]?
  | [], k, r, h, i, hi => by simp at h
  | z :: zs, 0, r, h, i, hi => by
    simp at h
    subst h
    rw [flat8, List.getElem?_append_left (by simp [ruC8]; omega)]
    simp
  | z :: zs, k + 1, r, h, i, hi => by
    have := flat8_at zs k r (by simpa using h) i hi
    rw [flat8, List.getElem?_append_right (by simp [ruC8]; omega), show (k + 1) * 8 + i - (ruC8 z).length = k * 8 + i by simp [ruC8]; omega]
    exact this

/-- The cells of rules, from a block's offset on. -/
theorem rulesAt_of {w : World} {g off : Nat} {zs : List RuleI} (h : ∀ j u, (flat8 zs)[j]? = some u → w.cell? ⟨g, off + j, none⟩ = some u) : RulesAt w g off zs := by
  intro k r hr
  have q : ∀ i, i < 8 → ∀ u, (ruC8 r)[i]? = some u → w.cell? ⟨g, off + k * 8 + i, none⟩ = some u := fun i hi u hu => by
    have := h (k * 8 + i) u ((flat8_at zs k r hr i hi).trans hu)
    rwa [← Nat.add_assoc] at this
  exact ⟨q 0 (by omega) _ rfl, q 1 (by omega) _ rfl, q 2 (by omega) _ rfl, q 3 (by omega) _ rfl, q 4 (by omega) _ rfl, q 5 (by omega) _ rfl, q 6 (by omega) _ rfl, q 7 (by omega) _ rfl⟩

theorem rule_cells {w : World} {g o : Nat} {r : RuleI} (h : RuleAt w g o r) : ∀ j u, (ruC8 r)[j]? = some u → w.cell? ⟨g, o + j, none⟩ = some u := by
  obtain ⟨h0, h1, h2, h3, h4, h5, h6, h7⟩ := h
  intro j u hu
  match j, hu with
  | 0, hu => simp [ruC8] at hu; subst hu; exact h0
  | 1, hu => simp [ruC8] at hu; subst hu; exact h1
  | 2, hu => simp [ruC8] at hu; subst hu; exact h2
  | 3, hu => simp [ruC8] at hu; subst hu; exact h3
  | 4, hu => simp [ruC8] at hu; subst hu; exact h4
  | 5, hu => simp [ruC8] at hu; subst hu; exact h5
  | 6, hu => simp [ruC8] at hu; subst hu; exact h6
  | 7, hu => simp [ruC8] at hu; subst hu; exact h7
  | j + 8, hu => simp [ruC8] at hu

theorem rules_cells {w : World} {g off : Nat} {zs : List RuleI} (h : RulesAt w g off zs) : ∀ j u, (flat8 zs)[j]? = some u → w.cell? ⟨g, off + j, none⟩ = some u := by
  intro j u hu
  have hj : j < zs.length * 8 := by
    rw [← flat8_len]
    by_cases q : j < (flat8 zs).length
    · exact q
    · rw [List.getElem?_eq_none (by omega)] at hu; cases hu
  have hk : j / 8 < zs.length := by omega
  have hr := List.getElem?_eq_getElem hk
  have e := flat8_at zs (j / 8) _ hr (j % 8) (by omega)
  rw [show j / 8 * 8 + j % 8 = j by omega] at e
  have := rule_cells (h (j / 8) _ hr) (j % 8) u (e.symm.trans hu)
  rwa [show off + j / 8 * 8 + j % 8 = off + j by omega] at this

/-- A queue that may be written: its rules, and the room behind them. -/
structure QAt (w : World) (B g off cap : Nat) (ws : List RuleI) : Prop where
  old : B ≤ g
  lt : g < w.heap.size
  at' : RulesAt w g off ws
  le : ws.length ≤ cap
  room : ∀ j, j < cap * 8 → (w.cell? ⟨g, off + j, none⟩).isSome = true ∧ w.frozen? ⟨g, off + j, none⟩ = false

def Q1 (w : World) (B : Nat) (v : Value) (ws : List RuleI) : Prop := ∃ g off cap, v = .slice (some ⟨g, off, none⟩) ws.length cap ∧ QAt w B g off cap ws

/-- What is kept where the queue's block is not touched. -/
theorem QAt.kept {w w' : World} {B g off cap : Nat} {ws : List RuleI} (h : QAt w B g off cap ws) (hs : w.heap.size ≤ w'.heap.size) (hb : w'.heap[g]? = w.heap[g]?) : QAt w' B g off cap ws := by
  have hc : ∀ o, w'.cell? ⟨g, o, none⟩ = w.cell? ⟨g, o, none⟩ := fun o => World.cell?_of_block hb
  have hf : ∀ o, w'.frozen? ⟨g, o, none⟩ = w.frozen? ⟨g, o, none⟩ := fun o => by simp [World.frozen?, hb]
  refine ⟨h.old, Nat.lt_of_lt_of_le h.lt hs, fun k r hr => ?_, h.le, fun j hj => ?_⟩
  · obtain ⟨h0, h1, h2, h3, h4, h5, h6, h7⟩ := h.at' k r hr
    exact ⟨(hc _).trans h0, (hc _).trans h1, (hc _).trans h2, (hc _).trans h3, (hc _).trans h4, (hc _).trans h5, (hc _).trans h6, (hc _).trans h7⟩
  · rw [hc, hf]
    exact h.room j hj

theorem QAt.below {w w' : World} {B g off cap : Nat} {ws : List RuleI} (h : QAt w B g off cap ws) {K : Nat} (hK : g < K) (hb : Below K w w') : QAt w' B g off cap ws := h.kept hb.size (hb.block g hK)

/-- Without its first rule. -/
theorem QAt.pop {w : World} {B g off cap : Nat} {z : RuleI} {ws : List RuleI} (h : QAt w B g off cap (z :: ws)) : QAt w B g (off + 8) (cap - 1) ws := by
  have hl := h.le
  simp only [List.length_cons] at hl
  refine ⟨h.old, h.lt, fun k r hr => ?_, by omega, fun j hj => ?_⟩
  · have := h.at' (k + 1) r (by simpa using hr)
    rwa [show off + (k + 1) * 8 = off + 8 + k * 8 by omega] at this
  · have := h.room (8 + j) (by omega)
    rwa [← Nat.add_assoc] at this

theorem QAt.empty {w : World} {B g off off' : Nat} (h : QAt w B g off 0 []) : QAt w B g off' 0 [] :=
  ⟨h.old, h.lt, fun k r hr => by simp at hr, Nat.le_refl _, fun j hj => by omega⟩

/-- A row that is owned is a queue. -/
theorem q_of_row {w : World} {B : Nat} {v : Value} {ws : List RuleI} (h : w.ownsRow B 80 8 v ws.length (flat8 ws)) (hn : v ≠ .slice none 0 0) : Q1 w B v ws := by
  rcases h.2 with ⟨q, _⟩ | ⟨g, cap, cur, rfl, hB, hg, hnc, hcm, hsz, htk⟩
  · exact absurd q hn
  · refine ⟨g, 0, cap, rfl, hB, (h.lt g rfl).2, rulesAt_of (fun j u hu => ?_), hnc, fun j hj => ?_⟩
    · rw [Nat.zero_add]
      have hj : j < ws.length * 8 := by
        rw [← flat8_len]
        by_cases q : j < (flat8 ws).length
        · exact q
        · rw [List.getElem?_eq_none (by omega)] at hu; cases hu
      exact (h.cellAt j hj).trans hu
    · rw [Nat.zero_add]
      refine ⟨?_, by simp [World.frozen?, hg]⟩
      simp [World.cell?, hg]
      omega

set_option maxRecDepth 100000 in
set_option maxHeartbeats 1000000 in
theorem cloneR_c (a : Option Addr) (n cap : Nat) (zs : List RuleI) (w : World) (hn : n ≤ 1000) (h : RulesIn w a n zs) :
    Calls Try.prog 99 #[.slice a n cap] w fun e w' => ∃ v, e = .returned v ∧ (n = 0 → ∃ a' c', v = .slice a' 0 c') ∧ (0 < n → Q1 w' w.heap.size v zs) ∧ Below w.heap.size w w' := by
  obtain ⟨i0, hi, hz0, hz1, hz2⟩ := info_parts Try.info80
  have HZ : Hid (zs.length = n) := h.1
  cases a with
  | none =>
    have hn0 : n = 0 := by
      by_cases q : 0 < n
      · obtain ⟨_, _, e, _⟩ := h.2 q; cases e
      · omega
    subst hn0
    clear h
    have hq := fun w => Go.Lib.run_eql_slice_nil (P := Try.prog) w 29 _ (none : Option Addr) 0 cap 0 0 Try.under29
    go_enter Try.func99, Try.ntmps99
    go_wp2
    go_ret
    exact ⟨_, rfl, fun _ => ⟨_, _, rfl⟩, fun q => by omega, Below.refl _ _⟩
  | some ad =>
    have HC : Hid (∀ j u, (flat8 zs)[j]? = some u → (w.alloc (.cells #[] 80)).cell? (ad.add j) = some u) := by
      intro j u hu
      have hj : j < zs.length * 8 := by
        rw [← flat8_len]
        by_cases q : j < (flat8 zs).length
        · exact q
        · rw [List.getElem?_eq_none (by omega)] at hu; cases hu
      have hz := h.1
      obtain ⟨b, off, e, hat⟩ := h.2 (by omega)
      cases e
      rw [Go.WideShapes.add_plain]
      have h1 := rules_cells hat j u hu
      exact (((Below.refl _ w).alloc (Nat.le_refl _) _).cell (p := ⟨b, off + j, none⟩) (World.block_lt_of_cell? w ⟨b, off + j, none⟩ h1)).trans h1
    clear h
    have hq := fun w => Go.Lib.run_eql_slice_nil (P := Try.prog) w 29 _ (some ad) n cap 0 0 Try.under29
    go_enter Try.func99, Try.ntmps99
    go_wp2_with (first | (at_builtin; refine wpList_append_own _ rfl _ _ 29 rfl w.heap.size 80 i0 (.agg #[.int .i64 0, .int .i64 0, .int .i64 0, .int .i64 0, .int .i64 0, .int .i64 0, .int .i64 0, .int .i64 0]) 8 64 Try.under29 hi hz0 hz1 hz2 rfl (by decide) (.slice (some ⟨w.heap.size, 0, none⟩) 0 0) 0 [] rfl ?c0 ad n cap (flat8 zs) rfl ?cl ?c1 ?c2 ?c3 ?c4 ?c5 ?_))
    case c0 => exact World.ownsRow_lit w #[] 0 (Nat.le_refl _) (Nat.zero_le _) rfl
    case cl => rw [flat8_len, HZ.out]
    case c1 => exact HC.out
    case c2 => exact flat8_one zs
    case c3 => unfold maxLen; omega
    case c4 => omega
    case c5 => simp
    · intro v1 w1 hown hgrow hnil
      have hnn : v1 ≠ .slice none 0 0 := by first | exact hnil | simpa using hnil
      have R1 : w1.ownsRow w.heap.size 80 8 v1 zs.length (flat8 zs) := by
        rw [HZ.out]
        simpa using hown
      have R2 : Below w.heap.size w w1 := ((Below.refl _ _).alloc (Nat.le_refl _) _).grown hgrow (by simp) (fun j hj => by simp [Value.ownBlock] at hj; omega)
      have hq := q_of_row R1 hnn
      have HQ : Hid (Q1 w1 w.heap.size v1 zs) := hq
      clear R1 hown hgrow hnil hnn hq
      go_wp2
      go_ret
      refine ⟨v1, rfl, fun q => ?_, fun _ => HQ.out, R2⟩
      obtain ⟨g, off, c, e, _⟩ := HQ.out
      rw [HZ.out, q] at e
      exact ⟨_, _, e⟩

end Go.Proofs.Ytocdclgolhhckaa

namespace Go.Proofs.Ytocdclgolhhckaa
open Go

/-- As Q; by a goto: what is to hold at that label. -/
def jumpsTo (J : Nat → Act → World → Prop) (Q : Exit → Act → World → Prop) : Exit → Act → World → Prop
  | .goto l, a, w => J l a w
  | e, a, w => Q e a w

theorem wp_weaken {P : Program} {c : Code} {Q Q' : Exit → Act → World → Prop} {a : Act} {w : World} (h : c.wp P Q a w) (hq : ∀ e a w, Q e a w → Q' e a w) : c.wp P Q' a w := by
  intro b k cs
  obtain ⟨e, a', w', h1, h2⟩ := h b k cs
  exact ⟨e, a', w', hq e a' w' h1, h2⟩

theorem wp_scope_labels {P : Program} {c : Code} {Q : Exit → Act → World → Prop} {a : Act} {w : World} (rest : Nat → Code) (J : Nat → Nat → Act → World → Prop) (hf : ∀ l m a w, J l m a w → findLabel c l = some (rest l))
    (first : c.wp P (jumpsTo (fun l a' w' => ∃ m, J l m a' w') Q) a w)
    (pass : ∀ l m a w, J l m a w → (rest l).wp P (jumpsTo (fun l' a' w' => ∃ m', m' < m ∧ J l' m' a' w') Q) a w) : (Code.scope c).wp P Q a w := by
  intro b k cs
  have again : ∀ m l a w, J l m a w → ∃ e a' w', Q e a' w' ∧ Arrives P (lone (b.at a (.code (rest l) :: .inScope c :: k)) cs w) b k cs e a' w' := by
    intro m
    induction m using Nat.strongRecOn with
    | _ m ih =>
      intro l a w hJ
      obtain ⟨e, a1, w1, hq, har⟩ := pass l m a w hJ b (.inScope c :: k) cs
      cases e with
      | goto l' =>
        obtain ⟨m', hlt, hJ'⟩ := hq
        obtain ⟨e2, a2, w2, hq2, har2⟩ := ih m' hlt l' a1 w1 hJ'
        have hg : gotoIn l' (.inScope c :: k) = some (.code (rest l') :: .inScope c :: k) := by simp [gotoIn, hf l' m' a1 w1 hJ']
        exact ⟨e2, a2, w2, hq2, .of_steps (har _ hg) har2⟩
      | normal => exact ⟨.normal, a1, w1, hq, Steps.trans har (.one step_inScope)⟩
      | exit id => exact ⟨.exit id, a1, w1, hq, fun k' hk => har k' (by simp [exitTo, hk])⟩
      | ret => exact ⟨_, a1, w1, hq, har⟩
      | panic ch => exact ⟨_, a1, w1, hq, har⟩
      | outgrown => exact ⟨_, a1, w1, hq, har⟩
  obtain ⟨e, a1, w1, hq, har⟩ := first b (.inScope c :: k) cs
  cases e with
  | goto l =>
    obtain ⟨m, hJ⟩ := hq
    obtain ⟨e2, a2, w2, hq2, har2⟩ := again m l a1 w1 hJ
    have hg : gotoIn l (.inScope c :: k) = some (.code (rest l) :: .inScope c :: k) := by simp [gotoIn, hf l m a1 w1 hJ]
    exact ⟨e2, a2, w2, hq2, .of_steps (.head step_scope (har _ hg)) har2⟩
  | normal => exact ⟨.normal, a1, w1, hq, .head step_scope (Steps.trans har (.one step_inScope))⟩
  | exit id => exact ⟨.exit id, a1, w1, hq, fun k' hk => .head step_scope (har k' (by simp [exitTo, hk]))⟩
  | ret => exact ⟨_, a1, w1, hq, .of_steps (.one step_scope) har⟩
  | panic ch => exact ⟨_, a1, w1, hq, .of_steps (.one step_scope) har⟩
  | outgrown => exact ⟨_, a1, w1, hq, .of_steps (.one step_scope) har⟩

/-- .. the first pass may lean on what is shown of the others. -/
theorem wp_scope_labels2 {P : Program} {c : Code} {Q : Exit → Act → World → Prop} {a : Act} {w : World} (rest : Nat → Code) (J : Nat → Nat → Act → World → Prop) (hf : ∀ l m a w, J l m a w → findLabel c l = some (rest l))
    (first : (∀ l m a w, J l m a w → (rest l).wp P (jumpsTo (fun l' a' w' => ∃ m', m' < m ∧ J l' m' a' w') Q) a w) → c.wp P (jumpsTo (fun l a' w' => ∃ m, J l m a' w') Q) a w)
    (pass : ∀ l m a w, J l m a w → (rest l).wp P (jumpsTo (fun l' a' w' => ∃ m', m' < m ∧ J l' m' a' w') Q) a w) : (Code.scope c).wp P Q a w :=
  wp_scope_labels rest J hf (first pass) pass

theorem jumps_weaken {J : Nat → Act → World → Prop} {J' : Nat → Act → World → Prop} {Q : Exit → Act → World → Prop} (h : ∀ l a w, J l a w → J' l a w) : ∀ e a w, jumpsTo J Q e a w → jumpsTo J' Q e a w
  | .goto l, a, w, q => h l a w q
  | .normal, _, _, q => q
  | .exit _, _, _, q => q
  | .ret, _, _, q => q
  | .panic _, _, _, q => q
  | .outgrown, _, _, q => q

def two (x y : Code) : Nat → Code
  | 0 => x
  | _ => y

/-- Two labels, the code behind each; the first pass may lean on what is shown of the first label. -/
theorem wp_scope_two {P : Program} {c r0 r1 : Code} {Q : Exit → Act → World → Prop} {a : Act} {w : World} (J : Nat → Nat → Act → World → Prop) (hf0 : findLabel c 0 = some (Code.seq .skip r0)) (hf1 : findLabel c 1 = some (Code.seq .skip r1)) (hJ : ∀ l m a w, J l m a w → l = 0 ∨ l = 1)
    (first : (∀ m a w, J 0 m a w → r0.wp P (jumpsTo (fun l' a' w' => ∃ m', m' < m ∧ J l' m' a' w') Q) a w) → c.wp P (jumpsTo (fun l a' w' => ∃ m, J l m a' w') Q) a w)
    (core0 : ∀ m a w, J 0 m a w → r0.wp P (jumpsTo (fun l' a' w' => ∃ m', m' < m ∧ J l' m' a' w') Q) a w)
    (core1 : ∀ m a w, J 1 m a w → r1.wp P (jumpsTo (fun l' a' w' => ∃ m', m' < m ∧ J l' m' a' w') Q) a w) : (Code.scope c).wp P Q a w := by
  refine wp_scope_labels (two (Code.seq .skip r0) (Code.seq .skip r1)) J ?_ (first core0) ?_
  · intro l m a w h
    rcases hJ l m a w h with rfl | rfl
    · exact hf0
    · exact hf1
  · intro l m a w h
    rcases hJ l m a w h with rfl | rfl
    · exact wp_seq (wp_skip (core0 m a w h))
    · exact wp_seq (wp_skip (core1 m a w h))

end Go.Proofs.Ytocdclgolhhckaa

namespace Go.Proofs.Ytocdclgolhhckaa
open Go.RowKit Go.Maps Go.Proofs
set_option linter.unusedVariables false
set_option linter.unusedSimpArgs false

theorem told_c (b : Nat) (f : RoI → Int) (r : RuleI) (w : World) (h : GM w b f) (hc : ruleCode r = 0) :
    Calls Try.prog 101 #[.map (some b), .agg #[.int .i64 r.k, .int .i64 r.ho, .int .i64 r.hn, .int .i64 r.w, .int .i64 r.oo, .int .i64 r.on, .int .i64 r.to, .int .i64 r.tn]] w fun e w' => e = .returned (.int .u8 (byF f r)) ∧ Below w.heap.size w w' := by
  have hk := rule_has hc
  have h4 : r.k = 1 ∨ r.k = 2 ∨ r.k = 3 ∨ r.k = 4 := by omega
  rcases h4 with e | e | e | e
  · exact told_1 b f r w h hc e
  · exact told_2 b f r w h hc e
  · exact told_3 b f r w h hc e
  · exact told_4 b f r w h hc e

set_option maxRecDepth 100000 in
set_option maxHeartbeats 1000000 in
theorem clone_c (b : Nat) (f : RoI → Int) (w : World) (h : GM w b f) :
    Calls Try.prog 109 #[.map (some b)] w fun e w' => e = .returned (.map (some w.heap.size)) ∧ GM w' w.heap.size f ∧ Below w.heap.size w w' := by
  obtain ⟨es, clock, hb, hGM⟩ := fit_of h
  have hq := fun w => run_eql_map_nil_sl (P := Try.prog) w 88 _ _ (some b) mp_map
  go_enter Try.func109, Try.ntmps109
  go_wp2
  rw [run_callFunc_extern Try.func131 (by kernel_rfl) (by kernel_rfl) (by kernel_rfl) (e := Extern.MapsClone.clone) (by kernel_rfl), run_maps_clone_sl w 88 hb]
  simp only [Result.andThen]
  rw [Oper.upon_value]
  go_wp2
  rw [run_typeAssert_map_sl _ 88 _ _ _ _ mp_map]
  simp only [Result.andThen]
  rw [Oper.upon_value]
  go_wp2
  go_ret
  exact ⟨rfl, gm_heap h ((MapKept.heap_alloc w _).1.trans hb.symm), (Below.refl _ w).alloc (Nat.le_refl _) _⟩

theorem Below.turn {B : Nat} {w w1 w2 : World} {b : Nat} (h : Below B w w1) (hB : B ≤ w1.heap.size) (hb : B ≤ b) (hg : w1.grownBy w2 (some b)) : Below B w w2 := h.grown hg hB (fun k e => by cases e; exact hb)

set_option maxRecDepth 100000 in
set_option maxHeartbeats 2000000 in
theorem step_c (b : Nat) (f : RoI → Int) (a : Option Addr) (n cap : Nat) (zs : List RuleI) (w : World) (h : GM w b f) (hr : RulesIn w a n zs) (hn : n ≤ 1000) (hz : ∀ z ∈ zs, ruleCode z = 0) :
    Calls Try.prog 70 #[.map (some b), .slice a n cap] w fun e w' => ∃ b', e = .returned (.map (some b')) ∧ GM w' b' (stepF zs f) ∧ w.heap.size ≤ b' ∧ Below w.heap.size w w' := by
  have HR : Hid (RulesIn w a n zs) := hr
  have HN : Hid (zs.length = n) := hr.1
  have HZ : Hid (∀ z ∈ zs, ruleCode z = 0) := hz
  have HG : Hid (GM w b f) := h
  have hlt := h.lt
  have hn' : (n : Int) ≤ 1000 := by omega
  clear h hr hz
  go_enter Try.func70, Try.ntmps70
  go_wp2_with fail
  refine (clone_c b f _ HG.out).mono ?_
  rintro e w1 ⟨rfl, hG1, hb1⟩
  have HG1 : Hid (GM w1 w.heap.size f) := hG1
  have hs1 := hG1.lt
  clear hG1
  go_wp2
  go_loopw [12] (fun i wr => ∃ k : Nat, k ≤ n ∧ i = .int .i64 (k : Int) ∧ GM wr w.heap.size (stepFTo zs f k) ∧ Below w.heap.size w wr ∧ w.heap.size < wr.heap.size) (fun i _ => n - (intOf i).toNat)
  case atStart => exact ⟨0, Nat.zero_le _, rfl, by simpa [stepFTo] using HG1.out, hb1, hs1⟩
  case round =>
    obtain ⟨k, hk, rfl, hG, hnx, hsz⟩ := hrel
    have HGk : Hid (GM wr w.heap.size (stepFTo zs f k)) := hG
    clear hG
    by_cases hltk : k < n
    · obtain ⟨g, off, z, rfl, hs, hx⟩ := HR.out.at hltk
      have HS : Hid (zs[k]? = some z) := hs
      have hc : ruleCode z = 0 := HZ.out z (List.mem_of_getElem? hs)
      have HC : Hid (ruleCode z = 0) := hc
      have HB : Hid (roleB z.ho z.hn = true ∧ okR z) := ⟨(rule_has hc).2.2.1, (okR_of hc).1⟩
      clear hs hc
      obtain ⟨h0, h1, h2, h3, h4, h5, h6, h7⟩ := hx.below hnx
      clear hx
      have hlt' : (k : Int) < (n : Int) := by omega
      obtain ⟨w2, hw2⟩ : ∃ w2, w2 = wr.alloc (.cells #[.int .i64 z.k, .int .i64 z.ho, .int .i64 z.hn, .int .i64 z.w, .int .i64 z.oo, .int .i64 z.on, .int .i64 z.to, .int .i64 z.tn] 80) := ⟨_, rfl⟩
      have hA : Below wr.heap.size wr w2 := by rw [hw2]; exact (Below.refl _ _).alloc (Nat.le_refl _) _
      have HR2 : Hid (RuleAt w2 wr.heap.size 0 z) := by rw [hw2]; exact RuleAt.new wr z _
      have hsz2 : w2.heap.size = wr.heap.size + 1 := by rw [hw2]; simp
      have hG2 : GM w2 w.heap.size (stepFTo zs f k) := HGk.out.below (by omega) hA
      have hF2 : GM w2 b f := (HG.out.below hlt hnx).below (by omega) hA
      go_wp2
      rw [← hw2]
      clear hw2
      obtain ⟨c0, c1, c2, c3, c4, c5, c6, c7⟩ := HR2.out
      simp only [Nat.zero_add] at c0 c1 c2 c3 c4 c5 c6 c7
      have HT : Hid (∀ W : World, Below w2.heap.size w2 W → Calls Try.prog 101 #[.map (some b), .agg #[.int .i64 z.k, .int .i64 z.ho, .int .i64 z.hn, .int .i64 z.w, .int .i64 z.oo, .int .i64 z.on, .int .i64 z.to, .int .i64 z.tn]] W fun e w' => e = .returned (.int .u8 (byF f z)) ∧ Below W.heap.size W w') := fun W hW => told_c b f z W (hF2.below (by omega) hW) HC.out
      have HV : Hid (∀ W : World, Below w2.heap.size w2 W → Calls Try.prog 100 #[.map (some w.heap.size), .agg #[.int .i64 z.ho, .int .i64 z.hn], .int .u8 (byF f z)] W fun e w' => (∃ t, e = .returned (.bool t)) ∧ GM w' w.heap.size (giveF (stepFTo zs f k) (z.ho, z.hn) (byF f z)) ∧ W.grownBy w' (some w.heap.size)) := fun W hW =>
        (give_c w.heap.size (stepFTo zs f k) (z.ho, z.hn) (byF f z) W (hG2.below (by omega) hW) HB.out.1 (byF_set HG.out.fn.st HB.out.2)).mono (fun e w' q => ⟨⟨_, q.1⟩, q.2.1, q.2.2⟩)
      have HE : Hid (stepFTo zs f (k + 1) = giveF (stepFTo zs f k) (z.ho, z.hn) (byF f z)) := stepFTo_succ HS.out f
      have hnx2 : Below w.heap.size w w2 := hnx.trans (hA.mono (by omega))
      clear hG2 hF2 h0 h1 h2 h3 h4 h5 h6 h7 hA
      go_region_with (first
        | (go_at_call 101; refine (HT.out w2.drew (Below.refl _ w2).drew).mono ?_; rintro e w3 ⟨rfl, hb3d⟩; have hb3 : Below w2.heap.size w2 w3 := (Below.refl _ w2).drew.trans hb3d; clear hb3d; have q1 := (hb3.cell (p := ⟨wr.heap.size, 1, none⟩) (by show wr.heap.size < w2.heap.size; omega)).trans c1; have q2 := (hb3.cell (p := ⟨wr.heap.size, 2, none⟩) (by show wr.heap.size < w2.heap.size; omega)).trans c2)
        | (go_at_call 100; refine (HV.out _ hb3).mono ?_; rintro e w4 ⟨⟨t, rfl⟩, hG4, hg4⟩))
      all_goals go_wp2
      all_goals
        have hb23 : Below w.heap.size w w3 := hnx2.trans (hb3.mono (by show w.heap.size ≤ w2.heap.size; omega))
        have hsz3 : w2.heap.size ≤ w3.heap.size := hb3.size
        exact ⟨⟨k + 1, by omega, by go_num, by rw [HE.out]; exact hG4, Below.turn hb23 hb23.size (Nat.le_refl _) hg4, by have := hg4.size; omega⟩, by simp [intOf]; omega⟩
    · have hkn : k = n := by omega
      subst hkn
      go_wp2
      go_ret
      refine ⟨w.heap.size, rfl, ?_, Nat.le_refl _, hnx⟩
      unfold stepF
      rw [HN.out]
      exact HGk.out

end Go.Proofs.Ytocdclgolhhckaa
