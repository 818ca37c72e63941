/-
  A QUEUE OF RULES in memory: its first rule, the rest, one more behind; slices.Clone of rules.
  Conditions: each contract bears its own.
  A SCOPE WITH SEVERAL LABELS: what holds at each jump, with a number that every pass from a label lowers. No Go text is walked here.
  Conditions: each fact bears its own.
  CONTRACTS: maps.Clone of the map of grants; (impl.grantMap).step: one step of all rules.
  Conditions: each contract bears its own.
  WORDS FOR THE WORKLIST of impl.settle: what stays between its jumps, its queue, its measure. No Go text is walked here.
  Conditions: each fact bears its own.
-/
import Derived.Test.YtnfolmjdicfobaaGreatDoorPl17
import Derived.Test.YtnfolmjdicfobaaGreatDoorPl02
import Derived.ArgAppend
import Derived.Lib.SliceRun
import Derived.Deep.AppendLies
import Derived.Scope
import Derived.ScopeJumps
import Derived.WalkMore
import Derived.Test.YtnfolmjdicfobaaGreatDoorPl15
import Derived.Shelf.SlMaps.Clone
import Derived.Deep.RegionWith
import Derived.Test.YtnfolmjdicfobaaGreatDoorPl16
namespace Go.Proofs.YtnfolmjdicfobaaGreatDoor
open Go.RowKit
set_option linter.unusedVariables false
set_option linter.unusedSimpArgs false

theorem Tryz.under24 : Tryz.prog.underlying 24 = some (.slice 81) := by kernel_rfl

def ruC8 (r : RuleI) : List Value := [.int .i64 r.k, .int .i64 r.ho, .int .i64 r.hn, .int .i64 r.w, .int .i64 r.oo, .int .i64 r.on, .int .i64 r.to, .int .i64 r.tn]

def flat8 : List RuleI → List Value
  | [] => []
  | r :: rs => ruC8 r ++ flat8 rs

theorem flat8_len : ∀ zs : List RuleI, (flat8 zs).length = zs.length * 8
  | [] => rfl
  | r :: rs => by simp [flat8, ruC8, flat8_len rs]; omega

theorem flat8_one : ∀ zs : List RuleI, ∀ u ∈ flat8 zs, u.oneCell' = true
  | [], u, h => by simp [flat8] at h
  | r :: rs, u, h => by
    rcases List.mem_append.1 h with q | q
    · simp [ruC8] at q
      rcases q with rfl | rfl | rfl | rfl | rfl | rfl | rfl | rfl <;> rfl
    · exact flat8_one rs u q

theorem flat8_at : ∀ (zs : List RuleI) (k : Nat) (r : RuleI), zs[k]? = some r → ∀ i, i < 8 → (flat8 zs)[k * 8 + i]? = (ruC8 r)[i]?
  | [], k, r, h, i, hi => by simp at h
  | z :: zs, 0, r, h, i, hi => by
    simp at h
    subst h
    rw [flat8, List.getElem?_append_left (by simp [ruC8]; omega)]
    simp
  | z :: zs, k + 1, r, h, i, hi => by
    have := flat8_at zs k r (by simpa using h) i hi
    rw [flat8, List.getElem?_append_right (by simp [ruC8]; omega), show (k + 1) * 8 + i - (ruC8 z).length = k * 8 + i by simp [ruC8]; omega]
    exact this

/-- The cells of rules, from a block's offset on. -/
theorem rulesAt_of {w : World} {g off : Nat} {zs : List RuleI} (h : ∀ j u, (flat8 zs)[j]? = some u → w.cell? ⟨g, off + j, none⟩ = some u) : RulesAt w g off zs := by
  intro k r hr
  have q : ∀ i, i < 8 → ∀ u, (ruC8 r)[i]? = some u → w.cell? ⟨g, off + k * 8 + i, none⟩ = some u := fun i hi u hu => by
    have := h (k * 8 + i) u ((flat8_at zs k r hr i hi).trans hu)
    rwa [← Nat.add_assoc] at this
  exact ⟨q 0 (by omega) _ rfl, q 1 (by omega) _ rfl, q 2 (by omega) _ rfl, q 3 (by omega) _ rfl, q 4 (by omega) _ rfl, q 5 (by omega) _ rfl, q 6 (by omega) _ rfl, q 7 (by omega) _ rfl⟩

theorem rule_cells {w : World} {g o : Nat} {r : RuleI} (h : RuleAt w g o r) : ∀ j u, (ruC8 r)[j]? = some u → w.cell? ⟨g, o + j, none⟩ = some u := by
  obtain ⟨h0, h1, h2, h3, h4, h5, h6, h7⟩ := h
  intro j u hu
  match j, hu with
  | 0, hu => simp [ruC8] at hu; subst hu; exact h0
  | 1, hu => simp [ruC8] at hu; subst hu; exact h1
  | 2, hu => simp [ruC8] at hu; subst hu; exact h2
  | 3, hu => simp [ruC8] at hu; subst hu; exact h3
  | 4, hu => simp [ruC8] at hu; subst hu; exact h4
  | 5, hu => simp [ruC8] at hu; subst hu; exact h5
  | 6, hu => simp [ruC8] at hu; subst hu; exact h6
  | 7, hu => simp [ruC8] at hu; subst hu; exact h7
  | j + 8, hu => simp [ruC8] at hu

theorem rules_cells {w : World} {g off : Nat} {zs : List RuleI} (h : RulesAt w g off zs) : ∀ j u, (flat8 zs)[j]? = some u → w.cell? ⟨g, off + j, none⟩ = some u := by
  intro j u hu
  have hj : j < zs.length * 8 := by
    rw [← flat8_len]
    by_cases q : j < (flat8 zs).length
    · exact q
    · rw [List.getElem?_eq_none (by omega)] at hu; cases hu
  have hk : j / 8 < zs.length := by omega
  have hr := List.getElem?_eq_getElem hk
  have e := flat8_at zs (j / 8) _ hr (j % 8) (by omega)
  rw [show j / 8 * 8 + j % 8 = j by omega] at e
  have := rule_cells (h (j / 8) _ hr) (j % 8) u (e.symm.trans hu)
  rwa [show off + j / 8 * 8 + j % 8 = off + j by omega] at this

/-- A queue that may be written: its rules, and the room behind them. -/
structure QAt (w : World) (B g off cap : Nat) (ws : List RuleI) : Prop where
  old : B ≤ g
  lt : g < w.heap.size
  at' : RulesAt w g off ws
  le : ws.length ≤ cap
  room : ∀ j, j < cap * 8 → (w.cell? ⟨g, off + j, none⟩).isSome = true ∧ w.frozen? ⟨g, off + j, none⟩ = false

def Q1 (w : World) (B : Nat) (v : Value) (ws : List RuleI) : Prop := ∃ g off cap, v = .slice (some ⟨g, off, none⟩) ws.length cap ∧ QAt w B g off cap ws

/-- What is kept where the queue's block is not touched. -/
theorem QAt.kept {w w' : World} {B g off cap : Nat} {ws : List RuleI} (h : QAt w B g off cap ws) (hs : w.heap.size ≤ w'.heap.size) (hb : w'.heap[g]? = w.heap[g]?) : QAt w' B g off cap ws := by
  have hc : ∀ o, w'.cell? ⟨g, o, none⟩ = w.cell? ⟨g, o, none⟩ := fun o => World.cell?_of_block hb
  have hf : ∀ o, w'.frozen? ⟨g, o, none⟩ = w.frozen? ⟨g, o, none⟩ := fun o => by simp [World.frozen?, hb]
  refine ⟨h.old, Nat.lt_of_lt_of_le h.lt hs, fun k r hr => ?_, h.le, fun j hj => ?_⟩
  · obtain ⟨h0, h1, h2, h3, h4, h5, h6, h7⟩ := h.at' k r hr
    exact ⟨(hc _).trans h0, (hc _).trans h1, (hc _).trans h2, (hc _).trans h3, (hc _).trans h4, (hc _).trans h5, (hc _).trans h6, (hc _).trans h7⟩
  · rw [hc, hf]
    exact h.room j hj

theorem QAt.below {w w' : World} {B g off cap : Nat} {ws : List RuleI} (h : QAt w B g off cap ws) {K : Nat} (hK : g < K) (hb : Below K w w') : QAt w' B g off cap ws := h.kept hb.size (hb.block g hK)

/-- Without its first rule. -/
theorem QAt.pop {w : World} {B g off cap : Nat} {z : RuleI} {ws : List RuleI} (h : QAt w B g off cap (z :: ws)) : QAt w B g (off + 8) (cap - 1) ws := by
  have hl := h.le
  simp only [List.length_cons] at hl
  refine ⟨h.old, h.lt, fun k r hr => ?_, by omega, fun j hj => ?_⟩
  · have := h.at' (k + 1) r (by simpa using hr)
    rwa [show off + (k + 1) * 8 = off + 8 + k * 8 by omega] at this
  · have := h.room (8 + j) (by omega)
    rwa [← Nat.add_assoc] at this

theorem QAt.empty {w : World} {B g off off' : Nat} (h : QAt w B g off 0 []) : QAt w B g off' 0 [] :=
  ⟨h.old, h.lt, fun k r hr => by simp at hr, Nat.le_refl _, fun j hj => by omega⟩

/-- A row that is owned is a queue. -/
theorem q_of_row {w : World} {B : Nat} {v : Value} {ws : List RuleI} (h : w.ownsRow B 81 8 v ws.length (flat8 ws)) (hn : v ≠ .slice none 0 0) : Q1 w B v ws := by
  rcases h.2 with ⟨q, _⟩ | ⟨g, cap, cur, rfl, hB, hg, hnc, hcm, hsz, htk⟩
  · exact absurd q hn
  · refine ⟨g, 0, cap, rfl, hB, (h.lt g rfl).2, rulesAt_of (fun j u hu => ?_), hnc, fun j hj => ?_⟩
    · rw [Nat.zero_add]
      have hj : j < ws.length * 8 := by
        rw [← flat8_len]
        by_cases q : j < (flat8 ws).length
        · exact q
        · rw [List.getElem?_eq_none (by omega)] at hu; cases hu
      exact (h.cellAt j hj).trans hu
    · rw [Nat.zero_add]
      refine ⟨?_, by simp [World.frozen?, hg]⟩
      simp [World.cell?, hg]
      omega

set_option maxRecDepth 100000 in
set_option maxHeartbeats 1000000 in
theorem cloneR_c (a : Option Addr) (n cap : Nat) (zs : List RuleI) (w : World) (hn : n ≤ 1000) (h : RulesIn w a n zs) :
    Calls Tryz.prog 124 #[.slice a n cap] w fun e w' => ∃ v, e = .returned v ∧ (n = 0 → ∃ a' c', v = .slice a' 0 c') ∧ (0 < n → Q1 w' w.heap.size v zs) ∧ Below w.heap.size w w' := by
  obtain ⟨i0, hi, hz0, hz1, hz2⟩ := info_parts Tryz.info81
  have HZ : Hid (zs.length = n) := h.1
  cases a with
  | none =>
    have hn0 : n = 0 := by
      by_cases q : 0 < n
      · obtain ⟨_, _, e, _⟩ := h.2 q; cases e
      · omega
    subst hn0
    clear h
    have hq := fun w => Go.Lib.run_eql_slice_nil (P := Tryz.prog) w 24 _ (none : Option Addr) 0 cap 0 0 Tryz.under24
    go_enter Tryz.func124, Tryz.ntmps124
    go_wp2
    go_ret
    exact ⟨_, rfl, fun _ => ⟨_, _, rfl⟩, fun q => by omega, Below.refl _ _⟩
  | some ad =>
    have HC : Hid (∀ j u, (flat8 zs)[j]? = some u → (w.alloc (.cells #[] 81)).cell? (ad.add j) = some u) := by
      intro j u hu
      have hj : j < zs.length * 8 := by
        rw [← flat8_len]
        by_cases q : j < (flat8 zs).length
        · exact q
        · rw [List.getElem?_eq_none (by omega)] at hu; cases hu
      have hz := h.1
      obtain ⟨b, off, e, hat⟩ := h.2 (by omega)
      cases e
      rw [Go.WideShapes.add_plain]
      have h1 := rules_cells hat j u hu
      exact (((Below.refl _ w).alloc (Nat.le_refl _) _).cell (p := ⟨b, off + j, none⟩) (World.block_lt_of_cell? w ⟨b, off + j, none⟩ h1)).trans h1
    clear h
    have hq := fun w => Go.Lib.run_eql_slice_nil (P := Tryz.prog) w 24 _ (some ad) n cap 0 0 Tryz.under24
    go_enter Tryz.func124, Tryz.ntmps124
    go_wp2_with (first | (at_builtin; refine wpList_append_own _ rfl _ _ 24 rfl w.heap.size 81 i0 (.agg #[.int .i64 0, .int .i64 0, .int .i64 0, .int .i64 0, .int .i64 0, .int .i64 0, .int .i64 0, .int .i64 0]) 8 64 Tryz.under24 hi hz0 hz1 hz2 rfl (by decide) (.slice (some ⟨w.heap.size, 0, none⟩) 0 0) 0 [] rfl ?c0 ad n cap (flat8 zs) rfl ?cl ?c1 ?c2 ?c3 ?c4 ?c5 ?_))
    case c0 => exact World.ownsRow_lit w #[] 0 (Nat.le_refl _) (Nat.zero_le _) rfl
    case cl => rw [flat8_len, HZ.out]
    case c1 => exact HC.out
    case c2 => exact flat8_one zs
    case c3 => unfold maxLen; omega
    case c4 => omega
    case c5 => simp
    · intro v1 w1 hown hgrow hnil
      have hnn : v1 ≠ .slice none 0 0 := by first | exact hnil | simpa using hnil
      have R1 : w1.ownsRow w.heap.size 81 8 v1 zs.length (flat8 zs) := by
        rw [HZ.out]
        simpa using hown
      have R2 : Below w.heap.size w w1 := ((Below.refl _ _).alloc (Nat.le_refl _) _).grown hgrow (by simp) (fun j hj => by simp [Value.ownBlock] at hj; omega)
      have hq := q_of_row R1 hnn
      have HQ : Hid (Q1 w1 w.heap.size v1 zs) := hq
      clear R1 hown hgrow hnil hnn hq
      go_wp2
      go_ret
      refine ⟨v1, rfl, fun q => ?_, fun _ => HQ.out, R2⟩
      obtain ⟨g, off, c, e, _⟩ := HQ.out
      rw [HZ.out, q] at e
      exact ⟨_, _, e⟩

end Go.Proofs.YtnfolmjdicfobaaGreatDoor

namespace Go.Proofs.YtnfolmjdicfobaaGreatDoor
open Go

/-- As Q; by a goto: what is to hold at that label. -/
def jumpsTo (J : Nat → Act → World → Prop) (Q : Exit → Act → World → Prop) : Exit → Act → World → Prop
  | .goto l, a, w => J l a w
  | e, a, w => Q e a w

theorem wp_weaken {P : Program} {c : Code} {Q Q' : Exit → Act → World → Prop} {a : Act} {w : World} (h : c.wp P Q a w) (hq : ∀ e a w, Q e a w → Q' e a w) : c.wp P Q' a w := by
  intro b k cs
  obtain ⟨e, a', w', h1, h2⟩ := h b k cs
  exact ⟨e, a', w', hq e a' w' h1, h2⟩

theorem wp_scope_labels {P : Program} {c : Code} {Q : Exit → Act → World → Prop} {a : Act} {w : World} (rest : Nat → Code) (J : Nat → Nat → Act → World → Prop) (hf : ∀ l m a w, J l m a w → findLabel c l = some (rest l))
    (first : c.wp P (jumpsTo (fun l a' w' => ∃ m, J l m a' w') Q) a w)
    (pass : ∀ l m a w, J l m a w → (rest l).wp P (jumpsTo (fun l' a' w' => ∃ m', m' < m ∧ J l' m' a' w') Q) a w) : (Code.scope c).wp P Q a w := by
  intro b k cs
  have again : ∀ m l a w, J l m a w → ∃ e a' w', Q e a' w' ∧ Arrives P (lone (b.at a (.code (rest l) :: .inScope c :: k)) cs w) b k cs e a' w' := by
    intro m
    induction m using Nat.strongRecOn with
    | _ m ih =>
      intro l a w hJ
      obtain ⟨e, a1, w1, hq, har⟩ := pass l m a w hJ b (.inScope c :: k) cs
      cases e with
      | goto l' =>
        obtain ⟨m', hlt, hJ'⟩ := hq
        obtain ⟨e2, a2, w2, hq2, har2⟩ := ih m' hlt l' a1 w1 hJ'
        have hg : gotoIn l' (.inScope c :: k) = some (.code (rest l') :: .inScope c :: k) := by simp [gotoIn, hf l' m' a1 w1 hJ']
        exact ⟨e2, a2, w2, hq2, .of_steps (har _ hg) har2⟩
      | normal => exact ⟨.normal, a1, w1, hq, Steps.trans har (.one step_inScope)⟩
      | exit id => exact ⟨.exit id, a1, w1, hq, fun k' hk => har k' (by simp [exitTo, hk])⟩
      | ret => exact ⟨_, a1, w1, hq, har⟩
      | panic ch => exact ⟨_, a1, w1, hq, har⟩
      | outgrown => exact ⟨_, a1, w1, hq, har⟩
  obtain ⟨e, a1, w1, hq, har⟩ := first b (.inScope c :: k) cs
  cases e with
  | goto l =>
    obtain ⟨m, hJ⟩ := hq
    obtain ⟨e2, a2, w2, hq2, har2⟩ := again m l a1 w1 hJ
    have hg : gotoIn l (.inScope c :: k) = some (.code (rest l) :: .inScope c :: k) := by simp [gotoIn, hf l m a1 w1 hJ]
    exact ⟨e2, a2, w2, hq2, .of_steps (.head step_scope (har _ hg)) har2⟩
  | normal => exact ⟨.normal, a1, w1, hq, .head step_scope (Steps.trans har (.one step_inScope))⟩
  | exit id => exact ⟨.exit id, a1, w1, hq, fun k' hk => .head step_scope (har k' (by simp [exitTo, hk]))⟩
  | ret => exact ⟨_, a1, w1, hq, .of_steps (.one step_scope) har⟩
  | panic ch => exact ⟨_, a1, w1, hq, .of_steps (.one step_scope) har⟩
  | outgrown => exact ⟨_, a1, w1, hq, .of_steps (.one step_scope) har⟩

/-- .. the first pass may lean on what is shown of the others. -/
theorem wp_scope_labels2 {P : Program} {c : Code} {Q : Exit → Act → World → Prop} {a : Act} {w : World} (rest : Nat → Code) (J : Nat → Nat → Act → World → Prop) (hf : ∀ l m a w, J l m a w → findLabel c l = some (rest l))
    (first : (∀ l m a w, J l m a w → (rest l).wp P (jumpsTo (fun l' a' w' => ∃ m', m' < m ∧ J l' m' a' w') Q) a w) → c.wp P (jumpsTo (fun l a' w' => ∃ m, J l m a' w') Q) a w)
    (pass : ∀ l m a w, J l m a w → (rest l).wp P (jumpsTo (fun l' a' w' => ∃ m', m' < m ∧ J l' m' a' w') Q) a w) : (Code.scope c).wp P Q a w :=
  wp_scope_labels rest J hf (first pass) pass

theorem jumps_weaken {J : Nat → Act → World → Prop} {J' : Nat → Act → World → Prop} {Q : Exit → Act → World → Prop} (h : ∀ l a w, J l a w → J' l a w) : ∀ e a w, jumpsTo J Q e a w → jumpsTo J' Q e a w
  | .goto l, a, w, q => h l a w q
  | .normal, _, _, q => q
  | .exit _, _, _, q => q
  | .ret, _, _, q => q
  | .panic _, _, _, q => q
  | .outgrown, _, _, q => q

def two (x y : Code) : Nat → Code
  | 0 => x
  | _ => y

/-- Two labels, the code behind each; the first pass may lean on what is shown of the first label. -/
theorem wp_scope_two {P : Program} {c r0 r1 : Code} {Q : Exit → Act → World → Prop} {a : Act} {w : World} (J : Nat → Nat → Act → World → Prop) (hf0 : findLabel c 0 = some (Code.seq .skip r0)) (hf1 : findLabel c 1 = some (Code.seq .skip r1)) (hJ : ∀ l m a w, J l m a w → l = 0 ∨ l = 1)
    (first : (∀ m a w, J 0 m a w → r0.wp P (jumpsTo (fun l' a' w' => ∃ m', m' < m ∧ J l' m' a' w') Q) a w) → c.wp P (jumpsTo (fun l a' w' => ∃ m, J l m a' w') Q) a w)
    (core0 : ∀ m a w, J 0 m a w → r0.wp P (jumpsTo (fun l' a' w' => ∃ m', m' < m ∧ J l' m' a' w') Q) a w)
    (core1 : ∀ m a w, J 1 m a w → r1.wp P (jumpsTo (fun l' a' w' => ∃ m', m' < m ∧ J l' m' a' w') Q) a w) : (Code.scope c).wp P Q a w := by
  refine wp_scope_labels (two (Code.seq .skip r0) (Code.seq .skip r1)) J ?_ (first core0) ?_
  · intro l m a w h
    rcases hJ l m a w h with rfl | rfl
    · exact hf0
    · exact hf1
  · intro l m a w h
    rcases hJ l m a w h with rfl | rfl
    · exact wp_seq (wp_skip (core0 m a w h))
    · exact wp_seq (wp_skip (core1 m a w h))

end Go.Proofs.YtnfolmjdicfobaaGreatDoor

namespace Go.Proofs.YtnfolmjdicfobaaGreatDoor
open Go.RowKit Go.Maps Go.Proofs
set_option linter.unusedVariables false
set_option linter.unusedSimpArgs false

theorem told_c (b : Nat) (f : RoI → Int) (r : RuleI) (w : World) (h : GM w b f) (hc : ruleCode r = 0) :
    Calls Tryz.prog 126 #[.map (some b), .agg #[.int .i64 r.k, .int .i64 r.ho, .int .i64 r.hn, .int .i64 r.w, .int .i64 r.oo, .int .i64 r.on, .int .i64 r.to, .int .i64 r.tn]] w fun e w' => e = .returned (.int .u8 (byF f r)) ∧ Below w.heap.size w w' := by
  have hk := rule_has hc
  have h4 : r.k = 1 ∨ r.k = 2 ∨ r.k = 3 ∨ r.k = 4 := by omega
  rcases h4 with e | e | e | e
  · exact told_1 b f r w h hc e
  · exact told_2 b f r w h hc e
  · exact told_3 b f r w h hc e
  · exact told_4 b f r w h hc e

theorem Below.turn {B : Nat} {w w1 w2 : World} {b : Nat} (h : Below B w w1) (hB : B ≤ w1.heap.size) (hb : B ≤ b) (hg : w1.grownBy w2 (some b)) : Below B w w2 := h.grown hg hB (fun k e => by cases e; exact hb)

end Go.Proofs.YtnfolmjdicfobaaGreatDoor

namespace Go.Proofs.YtnfolmjdicfobaaGreatDoor
open Go.RowKit Go.Maps
set_option linter.unusedVariables false
set_option linter.unusedSimpArgs false

theorem pol_nodup {zs : List RuleI} (h : polCode zs = 0) : zs.Nodup := by
  unfold polCode at h
  split at h
  · cases h
  · have key : ∀ k, k ≤ zs.length → polTo zs k = 0 → (zs.take k).Nodup := by
      intro k
      induction k with
      | zero => intro _ _; simp
      | succ k ih =>
        intro hk hp
        have h0 : polTo zs k = 0 := by
          by_cases q : polTo zs k = 0
          · exact q
          · exact absurd (polTo_stay zs k (k + 1) _ q rfl (by omega)) (by rw [hp]; exact fun e => q e.symm)
        have hr : zs[k]? = some zs[k] := List.getElem?_eq_getElem (by omega)
        have hnm : ¬ zs[k] ∈ zs.take k := fun q => by
          by_cases e : ruleCode zs[k] = 0
          · rw [polTo_same zs k _ hr h0 e q] at hp; cases hp
          · rw [polTo_bad zs k _ hr h0 e] at hp; exact e hp
        rw [List.take_succ_eq_append_getElem (by omega)]
        exact List.nodup_append.2 ⟨ih (by omega) h0, by simp, fun x hx y hy e => hnm (by simp at hy; rw [← hy, ← e]; exact hx)⟩
    have := key zs.length (Nat.le_refl _) h
    rwa [List.take_length] at this

theorem pol_codes {zs : List RuleI} (h : polCode zs = 0) : ∀ z ∈ zs, ruleCode z = 0 := by
  unfold polCode at h
  split at h
  · cases h
  · intro z hz
    obtain ⟨j, hj⟩ := List.mem_iff_getElem?.1 hz
    have hl : j < zs.length := by
      by_cases q : j < zs.length
      · exact q
      · rw [List.getElem?_eq_none (by omega)] at hj; cases hj
    exact polTo_all _ h j z hl hj

/-- The queue of the worklist: apart from the rule's box and from the map. -/
def QS (W : World) (b g5 : Nat) (v : Value) (ws : List RuleI) : Prop := ∃ g off c, v = .slice (some ⟨g, off, none⟩) ws.length c ∧ QAt W b g off c ws ∧ g ≠ g5 ∧ g ≠ b

/-- What stays between the jumps. -/
structure SetS (w : World) (b g5 : Nat) (f : RoI → Int) (W : World) : Prop where
  below : Below w.heap.size w W
  gm : GM W b f
  room : RoomAt W g5 1
  lt5 : g5 < W.heap.size
  ne5 : g5 ≠ b
  old5 : w.heap.size ≤ g5
  oldb : w.heap.size ≤ b

def meas (f : RoI → Int) (x : Nat) : Nat := (10200 - sumF f).toNat * 1000 + x

/-- What holds at each label. -/
def atL (w : World) (zs : List RuleI) (a : Option Addr) (n cap b g5 l m : Nat) (t : Act) (W : World) : Prop :=
  ∃ (f : RoI → Int) (ws : List RuleI) (v4 u1 u6 u7 u8 u9 u10 u11 u12 u13 u14 u15 u16 u17 u18 u19 u20 u21 u22 u23 u24 u25 u26 u27 u28 u29 u30 u31 u32 u33 u34 u35 u36 u37 u38 u39 u40 u41 u42 u43 u44 u45 u46 u47 : Value), t = { tmps := #[.slice a n cap, u1, .map none, .map (some b), v4, .pointer (some ⟨g5, 0, none⟩), u6, u7, u8, u9, u10, u11, u12, u13, u14, u15, u16, u17, u18, u19, u20, u21, u22, u23, u24, u25, u26, u27, u28, u29, u30, u31, u32, u33, u34, u35, u36, u37, u38, u39, u40, u41, u42, u43, u44, u45, u46, u47], defers := [] } ∧ SetS w b g5 f W ∧
    ((l = 0 ∧ (∃ av cv, v4 = .slice av ws.length cv) ∧ (ws ≠ [] → QS W b g5 v4 ws) ∧ Work zs f ws ∧ m = meas f (2 * ws.length + 1)) ∨
     (l = 1 ∧ QS W b g5 v4 ws ∧ m = meas f 500 ∧ ∃ z f0, RuleAt W g5 0 z ∧ Work zs f0 (z :: ws) ∧ f = giveF f0 (z.ho, z.hn) (byF f0 z)))

abbrev put8n (W : World) (g : Nat) (s : RuleI) : World := ((((((((W.setCell ⟨g, 0, none⟩ (.int .i64 s.k)).setCell ⟨g, 1, none⟩ (.int .i64 s.ho)).setCell ⟨g, 2, none⟩ (.int .i64 s.hn)).setCell ⟨g, 3, none⟩ (.int .i64 s.w)).setCell ⟨g, 4, none⟩ (.int .i64 s.oo)).setCell ⟨g, 5, none⟩ (.int .i64 s.on)).setCell ⟨g, 6, none⟩ (.int .i64 s.to)).setCell ⟨g, 7, none⟩ (.int .i64 s.tn))

theorem put8n_eq (W : World) (g : Nat) (s : RuleI) : put8n W g s = put8 W g 0 s := by
  show put8n W g s = ((((((((W.setCell ⟨g, 0, none⟩ (.int .i64 s.k)).setCell ⟨g, 0 + 1, none⟩ (.int .i64 s.ho)).setCell ⟨g, 0 + 2, none⟩ (.int .i64 s.hn)).setCell ⟨g, 0 + 3, none⟩ (.int .i64 s.w)).setCell ⟨g, 0 + 4, none⟩ (.int .i64 s.oo)).setCell ⟨g, 0 + 5, none⟩ (.int .i64 s.on)).setCell ⟨g, 0 + 6, none⟩ (.int .i64 s.to)).setCell ⟨g, 0 + 7, none⟩ (.int .i64 s.tn))
  simp only [Nat.zero_add]

theorem put8n_other (W : World) (g : Nat) (s : RuleI) (i : Nat) (h : i ≠ g) : (put8n W g s).heap[i]? = W.heap[i]? := by
  rw [Below.heap_setCell _ _ _ i h, Below.heap_setCell _ _ _ i h, Below.heap_setCell _ _ _ i h, Below.heap_setCell _ _ _ i h, Below.heap_setCell _ _ _ i h, Below.heap_setCell _ _ _ i h, Below.heap_setCell _ _ _ i h, Below.heap_setCell _ _ _ i h]

theorem put8n_size (W : World) (g : Nat) (s : RuleI) : (put8n W g s).heap.size = W.heap.size := by simp only [World.size_setCell]

theorem set_put {w : World} {b g5 : Nat} {f : RoI → Int} {W X : World} (h : SetS w b g5 f W) (z : RuleI) (hX : X = put8n W g5 z) :
    SetS w b g5 f X.drew ∧ RuleAt X.drew g5 0 z ∧ (∀ i, i ≠ g5 → X.drew.heap[i]? = W.heap[i]?) ∧ X.drew.heap.size = W.heap.size := by
  have e : X = put8 W g5 0 z := hX.trans (put8n_eq W g5 z)
  have ho : ∀ i, i ≠ g5 → X.heap[i]? = W.heap[i]? := fun i hi => by rw [hX]; exact put8n_other W g5 z i hi
  have hz : X.heap.size = W.heap.size := by rw [hX]; exact put8n_size W g5 z
  have hbw : Below w.heap.size w X := by rw [e]; exact put8_below (o := 0) h.below h.old5 z
  have hroom := h.room
  have hd : RulesAt W g5 0 (([z] : List RuleI).take 0) := fun k r e => by simp at e
  have hr := put8_room hroom hd (show ([z] : List RuleI)[0]? = some z from rfl) (Nat.zero_lt_one)
  rw [Nat.zero_mul, ← e] at hr
  clear e hX
  have hr2 : RuleAt X g5 0 z := by
    have := hr.2 0 z rfl
    rwa [Nat.zero_mul, Nat.add_zero] at this
  have hl5 := h.lt5
  exact ⟨⟨hbw.drew, gm_heap h.gm (ho b h.ne5.symm), hr.1, by show g5 < X.heap.size; omega, h.ne5, h.old5, h.oldb⟩, hr2, ho, hz⟩

theorem meas_lt {f : RoI → Int} (x y : Nat) (h : x < y) : meas f x < meas f y := by unfold meas; omega

theorem meas_grow {f g : RoI → Int} (hf : FN f) (hg : FN g) (h : sumF f < sumF g) (x y : Nat) (hx : x ≤ 900) : meas g x < meas f y := by
  have h1 := sumF_bd hf
  have h2 := sumF_bd hg
  have e1 := Int.toNat_of_nonneg (a := 10200 - sumF f) (by omega)
  have e2 := Int.toNat_of_nonneg (a := 10200 - sumF g) (by omega)
  unfold meas
  generalize (10200 - sumF f).toNat = A at *
  generalize (10200 - sumF g).toNat = B at *
  omega

/-- A turn of the map's block alone, behind calls that leave what lay. -/
theorem set_turn {w : World} {b g5 : Nat} {f f' : RoI → Int} {W W2 W3 : World} (h : SetS w b g5 f W) (hb : Below W.heap.size W W2) (hg : W2.grownBy W3 (some b)) (hG : GM W3 b f') :
    SetS w b g5 f' W3 ∧ (∀ i, i ≠ b → i < W.heap.size → W3.heap[i]? = W.heap[i]?) ∧ W.heap.size ≤ W3.heap.size := by
  have hs := hb.size
  have hs2 := hg.size
  have ho : ∀ i, i ≠ b → i < W.heap.size → W3.heap[i]? = W.heap[i]? := fun i hi hl => (hg.block i (by omega) (fun e => hi (Option.some.inj e))).trans (hb.block i hl)
  have h5 := ho g5 h.ne5 h.lt5
  refine ⟨⟨?_, hG, ⟨fun j hj => ?_, fun j => ?_⟩, by have := h.lt5; omega, h.ne5, h.old5, h.oldb⟩, ho, by omega⟩
  · exact Below.turn (h.below.trans (hb.mono h.below.size)) (by have := h.below.size; omega) h.oldb hg
  · rw [World.cell?_of_block (a := ⟨g5, j, none⟩) h5]; exact h.room.1 j hj
  · have := h.room.2 j
    simpa [World.frozen?, h5] using this

theorem rule_kept {W W' : World} {g : Nat} {z : RuleI} (h : RuleAt W g 0 z) (hb : W'.heap[g]? = W.heap[g]?) : RuleAt W' g 0 z := by
  obtain ⟨h0, h1, h2, h3, h4, h5, h6, h7⟩ := h
  have hc : ∀ o, W'.cell? ⟨g, o, none⟩ = W.cell? ⟨g, o, none⟩ := fun o => World.cell?_of_block hb
  exact ⟨(hc _).trans h0, (hc _).trans h1, (hc _).trans h2, (hc _).trans h3, (hc _).trans h4, (hc _).trans h5, (hc _).trans h6, (hc _).trans h7⟩

theorem setCells_other (b : Nat) (i : Nat) (h : i ≠ b) : ∀ (vs : List Value) (o : Nat) (w : World), (w.setCells b o vs).heap[i]? = w.heap[i]?
  | [], _, _ => rfl
  | v :: r, o, w => by rw [World.setCells, setCells_other b i h r, Below.heap_setCell _ _ _ i h]

theorem setCells_size (b : Nat) : ∀ (vs : List Value) (o : Nat) (w : World), (w.setCells b o vs).heap.size = w.heap.size
  | [], _, _ => rfl
  | v :: r, o, w => by rw [World.setCells, setCells_size b r, World.size_setCell]

theorem setCells_below {B b : Nat} {w0 : World} (hB : B ≤ b) : ∀ (vs : List Value) (o : Nat) (w : World), Below B w0 w → Below B w0 (w.setCells b o vs)
  | [], _, _, h => h
  | v :: r, o, w, h => by rw [World.setCells]; exact setCells_below hB r _ _ (h.setCell (p := ⟨b, o, none⟩) hB v)

/-- One more behind, where there is room. -/
theorem QAt.push {w : World} {B g off c : Nat} {ws : List RuleI} (h : QAt w B g off c ws) (y : RuleI) (hc : ws.length + 1 ≤ c) : QAt (w.setCells g (off + ws.length * 8) (ruC8 y)) B g off c (ws ++ [y]) := by
  have hin : ∀ j, j < (ruC8 y).length → (w.cell? ⟨g, off + ws.length * 8 + j, none⟩).isSome = true := fun j hj => by
    have := (h.room (ws.length * 8 + j) (by simp [ruC8] at hj; omega)).1
    rwa [← Nat.add_assoc] at this
  have cin := World.cell?_setCells_in g (ruC8 y) (off + ws.length * 8) w hin
  have cout : ∀ o, (o < off + ws.length * 8 ∨ off + ws.length * 8 + 8 ≤ o) → (w.setCells g (off + ws.length * 8) (ruC8 y)).cell? ⟨g, o, none⟩ = w.cell? ⟨g, o, none⟩ := fun o ho => World.cell?_setCells_out g _ _ w ⟨g, o, none⟩ (fun _ _ => by simpa [ruC8] using ho)
  refine ⟨h.old, by rw [setCells_size]; exact h.lt, fun k r hr => ?_, by simp; omega, fun j hj => ⟨?_, ?_⟩⟩
  · by_cases e : k < ws.length
    · rw [List.getElem?_append_left e] at hr
      obtain ⟨h0, h1, h2, h3, h4, h5, h6, h7⟩ := h.at' k r hr
      exact ⟨(cout _ (by omega)).trans h0, (cout _ (by omega)).trans h1, (cout _ (by omega)).trans h2, (cout _ (by omega)).trans h3, (cout _ (by omega)).trans h4, (cout _ (by omega)).trans h5, (cout _ (by omega)).trans h6, (cout _ (by omega)).trans h7⟩
    · have hk : k = ws.length := by
        by_cases q : k < (ws ++ [y]).length
        · simp at q; omega
        · rw [List.getElem?_eq_none (by omega)] at hr; cases hr
      subst hk
      simp at hr
      subst hr
      have q : ∀ i (hi : i < 8), (w.setCells g (off + ws.length * 8) (ruC8 y)).cell? ⟨g, off + ws.length * 8 + i, none⟩ = some ((ruC8 y)[i]'(by simp [ruC8]; omega)) := fun i hi => cin i (by simp [ruC8]; omega)
      exact ⟨q 0 (by omega), q 1 (by omega), q 2 (by omega), q 3 (by omega), q 4 (by omega), q 5 (by omega), q 6 (by omega), q 7 (by omega)⟩
  · by_cases e : ws.length * 8 ≤ j ∧ j < ws.length * 8 + 8
    · have := cin (j - ws.length * 8) (by simp [ruC8]; omega)
      rw [show off + ws.length * 8 + (j - ws.length * 8) = off + j by omega] at this
      rw [this]; rfl
    · rw [cout _ (by omega)]
      exact (h.room j hj).1
  · rw [World.frozen?_setCells]
    exact (h.room j hj).2

theorem SetS.after {w : World} {b g5 : Nat} {f : RoI → Int} {W W' : World} (h : SetS w b g5 f W) (hb : Below W.heap.size W W') : SetS w b g5 f W' := by
  have h5 := hb.block g5 h.lt5
  refine ⟨h.below.trans (hb.mono h.below.size), h.gm.below h.gm.lt hb, ⟨fun j hj => ?_, fun j => ?_⟩, Nat.lt_of_lt_of_le h.lt5 hb.size, h.ne5, h.old5, h.oldb⟩
  · rw [World.cell?_of_block (a := ⟨g5, j, none⟩) h5]; exact h.room.1 j hj
  · have := h.room.2 j
    simpa [World.frozen?, h5] using this

theorem SetS.write {w : World} {b g5 : Nat} {f : RoI → Int} {W : World} (h : SetS w b g5 f W) {g : Nat} (hg : w.heap.size ≤ g) (hne5 : g ≠ g5) (hneb : g ≠ b) (o : Nat) (vs : List Value) : SetS w b g5 f (W.setCells g o vs) := by
  have ho : ∀ i, i ≠ g → (W.setCells g o vs).heap[i]? = W.heap[i]? := fun i hi => setCells_other g i hi vs o W
  refine ⟨setCells_below hg vs o W h.below, gm_heap h.gm (ho b hneb.symm), ⟨fun j hj => ?_, fun j => ?_⟩, by rw [setCells_size]; exact h.lt5, h.ne5, h.old5, h.oldb⟩
  · rw [World.cell?_of_block (a := ⟨g5, j, none⟩) (ho g5 hne5.symm)]; exact h.room.1 j hj
  · rw [World.frozen?_setCells]; exact h.room.2 j

theorem flat8_snoc : ∀ (a : List RuleI) (y : RuleI), flat8 (a ++ [y]) = flat8 a ++ ruC8 y
  | [], y => by simp [flat8]
  | z :: zs, y => by simp [flat8, flat8_snoc zs y]

theorem wake_len {zs : List RuleI} {f : RoI → Int} {z : RuleI} {ws : List RuleI} (h : Work zs f (z :: ws)) (r : RoI) (k : Nat) : (wakeTo zs r ws k).length ≤ zs.length := by
  have w := wake_fold r zs (zs.take k) ws (fun x hx => List.mem_of_mem_take hx) (fun x hx => h.sub x (by simp [hx])) (List.nodup_cons.1 h.nd).2
  exact nodup_len _ _ w.1 w.2.1

theorem new_apart {W' : World} {B b g5 : Nat} {v : Value} {ws : List RuleI} (h : W'.ownsRow B 81 8 v ws.length (flat8 ws)) (hne : ws ≠ []) (hb : b < B) (h5 : g5 < B) : QS W' b g5 v ws := by
  have hn : v ≠ .slice none 0 0 := fun e => by
    rcases h.2 with ⟨_, q⟩ | ⟨g, cap, cur, q, _⟩
    · exact hne (List.eq_nil_of_length_eq_zero q)
    · rw [e] at q; cases q
  obtain ⟨g, off, c, e, q⟩ := q_of_row h hn
  have := q.old
  exact ⟨g, off, c, e, ⟨by omega, q.lt, q.at', q.le, q.room⟩, by omega, by omega⟩

end Go.Proofs.YtnfolmjdicfobaaGreatDoor
