/-
  PLAIN WORDS on lists of roles: strictly rising lists, what is put into one, what a policy's roles are. No Go text is walked here.
  Conditions: each fact bears its own.
  CONTRACTS: laws.eqRoleS, laws.markRoleS, laws.heldRoleS, of results too; laws.markRuleS.
  Conditions: each contract bears its own.
  CONTRACTS: spec.l2Put, a role put into its place.
  Conditions: each contract bears its own.
  CONTRACT: spec.l2Policy: some rules, few of them.
  Conditions: each contract bears its own.
-/
import Derived.Test.YtnfolmjdicfobaaGreatDoorPl01
import Derived.Test.YtnfolmjdicfobaaGreatDoorPl02
import Derived.WalkSmall
import Derived.BigQuiet
import Derived.Deep.QuietTactic
import Derived.Deep.RegionHeld3
import Derived.Deep.AppendLies
import Derived.Deep.DeepCutAuto
import Derived.Deep.CutBlock
import Derived.Test.YtnfolmjdicfobaaGreatDoorPl03
import Derived.Test.YtnfolmjdicfobaaGreatDoorPl04
namespace Go.Proofs.YtnfolmjdicfobaaGreatDoor
open Go.RowKit

abbrev RoI := Int × Int

def ltR (a b : RoI) : Bool := decide (a.1 < b.1 ∨ (a.1 = b.1 ∧ a.2 < b.2))

theorem ltR_irrefl (a : RoI) : ltR a a = false := by simp [ltR]
theorem ltR_trans {a b c : RoI} (h : ltR a b = true) (k : ltR b c = true) : ltR a c = true := by
  simp [ltR] at *; omega
theorem ltR_total {a b : RoI} (h : ltR a b = false) (hne : a ≠ b) : ltR b a = true := by
  obtain ⟨a1, a2⟩ := a
  obtain ⟨b1, b2⟩ := b
  have hne' : ¬ (a1 = b1 ∧ a2 = b2) := fun e => hne (by rw [e.1, e.2])
  simp [ltR] at *; omega

/-- Strictly rising. -/
def SS (zs : List RoI) : Prop := zs.Pairwise (fun a b => ltR a b = true)

theorem ss_unique : ∀ (a b : List RoI), SS a → SS b → (∀ x, x ∈ a ↔ x ∈ b) → a = b
  | [], [], _, _, _ => rfl
  | [], y :: ys, _, _, h => absurd ((h y).2 (by simp)) (by simp)
  | x :: xs, [], _, _, h => absurd ((h x).1 (by simp)) (by simp)
  | x :: xs, y :: ys, ha, hb, h => by
    have ha' := List.pairwise_cons.1 ha
    have hb' := List.pairwise_cons.1 hb
    have e : x = y := by
      rcases List.mem_cons.1 ((h x).1 (by simp)) with e | e
      · exact e
      · rcases List.mem_cons.1 ((h y).2 (by simp)) with e2 | e2
        · exact e2.symm
        · have h1 := hb'.1 x e
          have h2 := ha'.1 y e2
          have := ltR_trans h1 h2
          rw [ltR_irrefl] at this
          cases this
    subst e
    rw [ss_unique xs ys ha'.2 hb'.2 (fun z => ?_)]
    constructor
    · intro hz
      rcases List.mem_cons.1 ((h z).1 (by simp [hz])) with e | e
      · subst e
        have := ha'.1 z hz
        rw [ltR_irrefl] at this
        cases this
      · exact e
    · intro hz
      rcases List.mem_cons.1 ((h z).2 (by simp [hz])) with e | e
      · subst e
        have := hb'.1 z hz
        rw [ltR_irrefl] at this
        cases this
      · exact e

/-- A role put at its place: all ahead are less, the one there is not less and is another. -/
theorem ss_insert {zs : List RoI} {r : RoI} {k : Nat} (hs : SS zs) (hlo : ∀ j x, j < k → zs[j]? = some x → ltR x r = true) (hhi : ∀ x, zs[k]? = some x → ltR x r = false ∧ x ≠ r) : SS (zs.take k ++ r :: zs.drop k) := by
  have hs2 : SS (zs.take k ++ zs.drop k) := by rw [List.take_append_drop]; exact hs
  obtain ⟨h1, h2, h3⟩ := List.pairwise_append.1 hs2
  have hr : ∀ b ∈ zs.drop k, ltR r b = true := by
    intro b hb
    cases e : zs.drop k with
    | nil => rw [e] at hb; cases hb
    | cons y ys =>
      have hy : zs[k]? = some y := by
        have : (zs.drop k)[0]? = some y := by rw [e]; rfl
        rw [List.getElem?_drop] at this
        simpa using this
      obtain ⟨h4, h5⟩ := hhi y hy
      have h6 := ltR_total h4 h5
      rw [e] at hb h2
      rcases List.mem_cons.1 hb with rfl | hb'
      · exact h6
      · exact ltR_trans h6 ((List.pairwise_cons.1 h2).1 b hb')
  refine List.pairwise_append.2 ⟨h1, List.pairwise_cons.2 ⟨hr, h2⟩, fun a ha b hb => ?_⟩
  rcases List.mem_cons.1 hb with rfl | hb'
  · obtain ⟨j, hj⟩ := List.mem_iff_getElem?.1 ha
    rw [List.getElem?_take] at hj
    split at hj
    · rename_i hjk
      exact hlo j a hjk hj
    · cases hj
  · exact h3 a ha b hb'

theorem mem_insert {zs : List RoI} {r : RoI} (k : Nat) (x : RoI) : x ∈ zs.take k ++ r :: zs.drop k ↔ x = r ∨ x ∈ zs := by
  have : x ∈ zs ↔ x ∈ zs.take k ++ zs.drop k := by rw [List.take_append_drop]
  rw [this]
  simp only [List.mem_append, List.mem_cons]
  constructor
  · rintro (h | h | h)
    · exact .inr (.inl h)
    · exact .inl h
    · exact .inr (.inr h)
  · rintro (h | h | h)
    · exact .inr (.inl h)
    · exact .inl h
    · exact .inr (.inr h)

/-- The roles that a rule names. -/
def bodyR (r : RuleI) : List RoI := if r.k = 1 then [] else if r.k = 4 then [(r.oo, r.on), (r.to, r.tn)] else [(r.oo, r.on)]
def rawR (r : RuleI) : List RoI := (r.ho, r.hn) :: bodyR r
def rawTo (zs : List RuleI) (k : Nat) : List RoI := (zs.take k).flatMap rawR

theorem rawTo_succ {zs : List RuleI} {k : Nat} {r : RuleI} (h : zs[k]? = some r) : rawTo zs (k + 1) = rawTo zs k ++ rawR r := by
  have hk : k < zs.length := by
    by_cases q : k < zs.length
    · exact q
    · rw [List.getElem?_eq_none (by omega)] at h; cases h
  have e : zs[k] = r := by rw [List.getElem?_eq_getElem hk] at h; exact Option.some.inj h
  rw [rawTo, List.take_succ_eq_append_getElem hk, List.flatMap_append, e]
  simp [rawTo]

theorem rawR_len (r : RuleI) : (rawR r).length ≤ 3 := by
  unfold rawR bodyR
  split
  · simp
  · split <;> simp

theorem rawTo_len (zs : List RuleI) (k : Nat) : (rawTo zs k).length ≤ 3 * k := by
  induction k with
  | zero => simp [rawTo]
  | succ k ih =>
    cases h : zs[k]? with
    | none =>
      have hk : zs.length ≤ k := by
        by_cases q : k < zs.length
        · rw [List.getElem?_eq_getElem q] at h; cases h
        · omega
      have : rawTo zs (k + 1) = rawTo zs k := by unfold rawTo; rw [List.take_of_length_le (by omega), List.take_of_length_le (by omega)]
      rw [this]; omega
    | some r =>
      rw [rawTo_succ h, List.length_append]
      have := rawR_len r
      omega

/-- Roles laid out flat. -/
def flat2 : List RoI → List Value
  | [] => []
  | p :: ps => .int .i64 p.1 :: .int .i64 p.2 :: flat2 ps

theorem flat2_append (a b : List RoI) : flat2 (a ++ b) = flat2 a ++ flat2 b := by
  induction a with
  | nil => rfl
  | cons p ps ih => simp [flat2, ih]

theorem flat2_len (a : List RoI) : (flat2 a).length = a.length * 2 := by
  induction a with
  | nil => rfl
  | cons p ps ih => simp [flat2, ih]; omega

theorem flat2_fst : ∀ (a : List RoI) (k : Nat) (p : RoI), a[k]? = some p → (flat2 a)[k * 2]? = some (.int .i64 p.1)
  | [], _, _, h => by simp at h
  | q :: qs, 0, p, h => by simp at h; subst h; rfl
  | q :: qs, k + 1, p, h => by
    have := flat2_fst qs k p (by simpa using h)
    rw [show (k + 1) * 2 = k * 2 + 1 + 1 by omega]
    simpa [flat2] using this

theorem flat2_snd : ∀ (a : List RoI) (k : Nat) (p : RoI), a[k]? = some p → (flat2 a)[k * 2 + 1]? = some (.int .i64 p.2)
  | [], _, _, h => by simp at h
  | q :: qs, 0, p, h => by simp at h; subst h; rfl
  | q :: qs, k + 1, p, h => by
    have := flat2_snd qs k p (by simpa using h)
    rw [show (k + 1) * 2 + 1 = k * 2 + 1 + 1 + 1 by omega]
    simpa [flat2] using this

theorem flat2_one (a : List RoI) : ∀ u ∈ flat2 a, u.oneCell' = true := by
  induction a with
  | nil => simp [flat2]
  | cons p ps ih =>
    intro u hu
    simp only [flat2, List.mem_cons] at hu
    rcases hu with rfl | rfl | hu
    · rfl
    · rfl
    · exact ih u hu

theorem flat2_take (a : List RoI) (k : Nat) : flat2 (a.take k) = (flat2 a).take (k * 2) := by
  induction a generalizing k with
  | nil => simp [flat2]
  | cons p ps ih =>
    cases k with
    | zero => simp [flat2]
    | succ k =>
      rw [show (k + 1) * 2 = k * 2 + 1 + 1 by omega]
      simp [flat2, ih]

theorem flat2_drop (a : List RoI) (k : Nat) : flat2 (a.drop k) = (flat2 a).drop (k * 2) := by
  induction a generalizing k with
  | nil => simp [flat2]
  | cons p ps ih =>
    cases k with
    | zero => simp [flat2]
    | succ k =>
      rw [show (k + 1) * 2 = k * 2 + 1 + 1 by omega]
      simp [flat2, ih]

theorem flat2_set (a : List RoI) (k : Nat) (p : RoI) : flat2 (a.set k p) = ((flat2 a).set (k * 2) (.int .i64 p.1)).set (k * 2 + 1) (.int .i64 p.2) := by
  induction a generalizing k with
  | nil => simp [flat2]
  | cons q qs ih =>
    cases k with
    | zero => simp [flat2]
    | succ k =>
      rw [show (k + 1) * 2 = k * 2 + 1 + 1 by omega]
      simp [flat2, ih]

/-- A row of roles that is owned. -/
def Owns2 (w : World) (B : Nat) (v : Value) (zs : List RoI) : Prop := w.ownsRow B 79 2 v zs.length (flat2 zs)

end Go.Proofs.YtnfolmjdicfobaaGreatDoor

namespace Go.Proofs.YtnfolmjdicfobaaGreatDoor
open Go.RowKit
set_option linter.unusedVariables false
set_option linter.unusedSimpArgs false

/-- A slice of roles, read. -/
def RolesV (w : World) (a : Option Addr) (zs : List RoI) : Prop := ∀ k p, zs[k]? = some p → ∃ g, a = some ⟨g, 0, none⟩ ∧ w.cell? ⟨g, k * 2, none⟩ = some (.int .i64 p.1) ∧ w.cell? ⟨g, k * 2 + 1, none⟩ = some (.int .i64 p.2)

theorem RolesV.below {w w' : World} {a : Option Addr} {zs : List RoI} (h : RolesV w a zs) (hb : Below w.heap.size w w') : RolesV w' a zs := fun k p e => by
  obtain ⟨g, ha, h1, h2⟩ := h k p e
  exact ⟨g, ha, (hb.cell (p := ⟨g, k * 2, none⟩) (World.block_lt_of_cell? w ⟨g, k * 2, none⟩ h1)).trans h1, (hb.cell (p := ⟨g, k * 2 + 1, none⟩) (World.block_lt_of_cell? w ⟨g, k * 2 + 1, none⟩ h2)).trans h2⟩

theorem RolesV.kept {w w' : World} {a : Option Addr} {zs : List RoI} {row : Option Nat} (h : RolesV w a zs) (hg : w.grownBy w' row) (hne : ∀ g, a = some ⟨g, 0, none⟩ → some g ≠ row) : RolesV w' a zs := fun k p e => by
  obtain ⟨g, ha, h1, h2⟩ := h k p e
  exact ⟨g, ha, hg.cell h1 (hne g ha), hg.cell h2 (hne g ha)⟩

theorem Owns2.read {w : World} {B : Nat} {a : Option Addr} {n cap : Nat} {zs : List RoI} (h : Owns2 w B (.slice a n cap) zs) : RolesV w a zs := by
  intro k p e
  have hk : k < zs.length := by
    by_cases q : k < zs.length
    · exact q
    · rw [List.getElem?_eq_none (by omega)] at e; cases e
  have h0 : w.ownsRow B 79 2 (.slice a n cap) zs.length (flat2 zs) := h
  rcases h0.2 with ⟨h', h''⟩ | ⟨g, cap', cur, h', _⟩
  · omega
  · simp at h'
    obtain ⟨rfl, rfl, rfl⟩ := h'
    refine ⟨g, rfl, ?_, ?_⟩
    · rw [h0.cellAt (k * 2) (by omega)]; exact flat2_fst zs k p e
    · rw [h0.cellAt (k * 2 + 1) (by omega)]; exact flat2_snd zs k p e

theorem Owns2.shape {w : World} {B : Nat} {v : Value} {zs : List RoI} (h : Owns2 w B v zs) : (v = .slice none 0 0 ∧ zs = []) ∨ ∃ g cap, v = .slice (some ⟨g, 0, none⟩) zs.length cap ∧ B ≤ g ∧ g < w.heap.size ∧ zs.length ≤ cap ∧ cap ≤ maxLen := by
  have h0 : w.ownsRow B 79 2 v zs.length (flat2 zs) := h
  rcases h0.2 with ⟨h', h''⟩ | ⟨g, cap', cur, h', hb, hg, hc, hm, _⟩
  · exact .inl ⟨h', List.length_eq_zero_iff.1 h''⟩
  · exact .inr ⟨g, cap', h', hb, (Array.getElem?_eq_some_iff.1 hg).1, hc, hm⟩

theorem Owns2.below {w w' : World} {B : Nat} {v : Value} {zs : List RoI} (h : Owns2 w B v zs) (hb : Below w.heap.size w w') : Owns2 w' B v zs :=
  World.ownsRow.kept (row := none) h ⟨hb.os, hb.tape, hb.output, hb.size, fun k hk _ => hb.block k hk⟩ (by cases v.ownBlock <;> simp)

/-- The marks of n roles. -/
def mk2 (n : Nat) : List RoI := (List.range n).map fun j => (((1 + 2 * j : Nat) : Int), ((2 + 2 * j : Nat) : Int))
theorem mk2_len (n : Nat) : (mk2 n).length = n := by simp [mk2]
theorem mk2_at (n j : Nat) (h : j < n) : (mk2 n)[j]? = some (((1 + 2 * j : Nat) : Int), ((2 + 2 * j : Nat) : Int)) := by simp [mk2, h]

theorem Owns2.put {w : World} {B g cap : Nat} {zs : List RoI} {n : Nat} (hn : n = zs.length) (h : Owns2 w B (.slice (some ⟨g, 0, none⟩) n cap) zs) (j : Nat) (p : RoI) :
    Owns2 ((w.setCell ⟨g, j * 2, none⟩ (.int .i64 p.1)).setCell ⟨g, j * 2 + 1, none⟩ (.int .i64 p.2)) B (.slice (some ⟨g, 0, none⟩) n cap) (zs.set j p) ∧ w.grownBy ((w.setCell ⟨g, j * 2, none⟩ (.int .i64 p.1)).setCell ⟨g, j * 2 + 1, none⟩ (.int .i64 p.2)) (some g) := by
  subst hn
  have h0 : w.ownsRow B 79 2 (.slice (some ⟨g, 0, none⟩) zs.length cap) zs.length (flat2 zs) := h
  have h1 := h0.stored (j * 2) (.int .i64 p.1)
  have h2 := h1.1.stored (j * 2 + 1) (.int .i64 p.2)
  refine ⟨?_, ⟨h2.2.os.trans h1.2.os, h2.2.tape.trans h1.2.tape, h2.2.output.trans h1.2.output, Nat.le_trans h1.2.size h2.2.size, fun q hq hne => (h2.2.block q (Nat.lt_of_lt_of_le hq h1.2.size) hne).trans (h1.2.block q hq hne)⟩⟩
  show World.ownsRow _ B 79 2 _ (zs.set j p).length (flat2 (zs.set j p))
  rw [flat2_set, List.length_set]
  exact h2.1

theorem Owns2.cell {w : World} {B g cap : Nat} {zs : List RoI} {n : Nat} (hn : n = zs.length) (h : Owns2 w B (.slice (some ⟨g, 0, none⟩) n cap) zs) (j : Nat) (hj : j < n * 2) : (∃ v, w.cell? ⟨g, j, none⟩ = some v) ∧ w.frozen? ⟨g, j, none⟩ = false := by
  subst hn
  have h0 : w.ownsRow B 79 2 (.slice (some ⟨g, 0, none⟩) zs.length cap) zs.length (flat2 zs) := h
  exact ⟨⟨_, (h0.cellAt j hj).trans (List.getElem?_eq_getElem (by rw [flat2_len]; exact hj))⟩, h0.frozenAt j⟩

theorem grown_refl (w : World) (row : Option Nat) : w.grownBy w row := ⟨rfl, rfl, rfl, Nat.le_refl _, fun _ _ _ => rfl⟩
theorem grown_tr {a b c : World} {row : Option Nat} (h : a.grownBy b row) (k : b.grownBy c row) : a.grownBy c row :=
  ⟨k.os.trans h.os, k.tape.trans h.tape, k.output.trans h.output, Nat.le_trans h.size k.size, fun q hq hne => (k.block q (Nat.lt_of_lt_of_le hq h.size) hne).trans (h.block q hq hne)⟩

theorem Owns2.alloc {w : World} {B : Nat} {v : Value} {zs : List RoI} (h : Owns2 w B v zs) (o : Obj) : Owns2 (w.alloc o) B v zs := World.ownsRow.alloc h o

theorem RoomAt.set {w : World} {g n : Nat} (h : RoomAt w g n) (j : Nat) (v : Value) : RoomAt (w.setCell ⟨g, j, none⟩ v) g n := by
  refine ⟨fun i hi => ?_, fun i => by simp only [World.frozen?_setCell]; exact h.2 i⟩
  obtain ⟨u, hu⟩ := h.1 i hi
  by_cases e : i = j
  · subst e
    exact ⟨v, World.cell?_setCell_same' _ _ _ (by rw [hu]; rfl)⟩
  · exact ⟨u, (World.cell?_setCell_other w ⟨g, j, none⟩ ⟨g, i, none⟩ v (fun q => e (congrArg Addr.off q).symm)).trans hu⟩

theorem grown_set (w : World) (g j : Nat) (v : Value) : w.grownBy (w.setCell ⟨g, j, none⟩ v) (some g) :=
  ⟨rfl, rfl, rfl, by simp [World.setCell], fun k _ hk => Below.heap_setCell _ _ _ _ (fun e => hk (by rw [e]))⟩

end Go.Proofs.YtnfolmjdicfobaaGreatDoor

namespace Go.Proofs.YtnfolmjdicfobaaGreatDoor
open Go.RowKit
set_option linter.unusedVariables false
set_option linter.unusedSimpArgs false

theorem Tryz.info79 : (Tryz.prog.info? 79).map (fun i => (i.zero, i.size, i.bytes)) = some (some (.agg #[.int .i64 0, .int .i64 0]), 2, 16) := by kernel_rfl

theorem drewN2 (W : World) (a b : Nat) : (W.drewN a).drewN b = W.drewN (a + b) := by simp [World.drewN, Nat.add_assoc]

def sameR (p q : RoI) : Bool := p.1 == q.1 && p.2 == q.2
theorem sameR_iff (p q : RoI) : sameR p q = true ↔ p = q := by
  obtain ⟨a, b⟩ := p
  obtain ⟨c, d⟩ := q
  simp [sameR]

set_option maxHeartbeats 400000 in
theorem role_eql (p q : RoI) (w : World) : (binOp .eql 79 (.agg #[.int .i64 p.1, .int .i64 p.2]) (.agg #[.int .i64 q.1, .int .i64 q.2])).run Tryz.prog w = .ok (.bool (sameR p q)) w := by
  obtain ⟨a0, a1⟩ := p
  obtain ⟨b0, b1⟩ := q
  simp only [sameR]
  cases e0 : (a0 == b0)
  · simp [go_sem, e0]
  cases e1 : (a1 == b1)
  · simp [go_sem, e0, e1]
  · simp [go_sem, e0, e1]

attribute [local go_sem ↓] role_eql

/-- An append at a step of a region that draws its order. -/
theorem step_append_own2 {P : Program} {w : World} {ops : Array Oper} {o : Oper} {a : Act} {K : Act → World → Prop} {Q : Exit → Act → World → Prop} {E : Prop} (hgd : o.guard = none) (s x : Operand) (t : TypeId)
    (ho : o.op = .call { callee := .builtin .append, args := #[s, x], argTypes := #[t, t] })
    (base : Nat) (e : TypeId) (i : TypeInfo) (z : Value) (size bytes : Nat) (ht : P.underlying t = some (.slice e)) (hi : P.info? e = some i) (hz : i.zero = some z)
    (hsize : i.size = size) (hby : i.bytes = bytes) (hzs : z.cells.size = size) (hsz : 0 < size)
    (v : Value) (n : Nat) (xs : List Value) (hs : a.eval s = v) (hown : w.ownsRow base e size v n xs)
    (ad : Addr) (m c : Nat) (news : List Value) (hx : a.eval x = .slice (some ad) m c) (hl : news.length = m * size) (hnews : ∀ j u, news[j]? = some u → w.cell? (ad.add j) = some u) (h1 : ∀ u ∈ news, u.oneCell' = true)
    (h63 : n + m ≤ maxLen) (hbytes : (n + m) * bytes ≤ 140737488355328) (hbase : base ≤ w.heap.size)
    (h : ∀ v' w', w'.ownsRow base e size v' (n + m) (xs ++ news) → w.grownBy w' v.ownBlock → (v' = .slice none 0 0 ↔ v = .slice none 0 0 ∧ m = 0) → K (a.put o.dst v') w') :
    if Region.wanted o (yielded ops a.tmps) = true then Oper.wp P o a w K Q else E := by
  have hw : Region.wanted o (yielded ops a.tmps) = true := by simp [Region.wanted, hgd]
  rw [if_pos hw]
  exact wp_append_own w s x t ho base e i z size bytes ht hi hz hsize hby hzs hsz v n xs hs hown ad m c news hx hl hnews h1 h63 hbytes hbase h

theorem kpB {Bd : Nat} {W w' : World} (hb : Below Bd W w') : (∀ b o, b < Bd → w'.cell? ⟨b, o, none⟩ = W.cell? ⟨b, o, none⟩) ∧ Below Bd W w' :=
  ⟨fun b o h => hb.cell (p := ⟨b, o, none⟩) h, hb⟩

theorem news_take {w w' : World} {B Bd g n cap k : Nat} {zs : List RoI} (hz : n = zs.length) (h : Owns2 w B (.slice (some ⟨g, 0, none⟩) n cap) zs) (hg : g < Bd) (hb : Below Bd w w') (hk : k ≤ n) : ∀ j u, (flat2 (zs.take k))[j]? = some u → w'.cell? ((⟨g, 0, none⟩ : Addr).add j) = some u := by
  intro j u hj
  subst hz
  have h0 : w.ownsRow B 79 2 (.slice (some ⟨g, 0, none⟩) zs.length cap) zs.length (flat2 zs) := h
  have hjl : j < k * 2 := by
    by_cases q : j < k * 2
    · exact q
    · rw [List.getElem?_eq_none (by rw [flat2_len, List.length_take]; omega)] at hj; cases hj
  rw [Go.WideShapes.add_plain, Nat.zero_add, hb.cell (p := ⟨g, j, none⟩) hg, h0.cellAt j (by omega)]
  rw [flat2_take, List.getElem?_take, if_pos hjl] at hj
  exact hj

theorem news_drop {w w' : World} {B Bd g n cap k : Nat} {zs : List RoI} (hz : n = zs.length) (h : Owns2 w B (.slice (some ⟨g, 0, none⟩) n cap) zs) (hg : g < Bd) (hb : Below Bd w w') (hk : k ≤ n) : ∀ j u, (flat2 (zs.drop k))[j]? = some u → w'.cell? ((⟨g, k * 2, none⟩ : Addr).add j) = some u := by
  intro j u hj
  subst hz
  have h0 : w.ownsRow B 79 2 (.slice (some ⟨g, 0, none⟩) zs.length cap) zs.length (flat2 zs) := h
  have hjl : j < (zs.length - k) * 2 := by
    by_cases q : j < (zs.length - k) * 2
    · exact q
    · rw [List.getElem?_eq_none (by rw [flat2_len, List.length_drop]; omega)] at hj; cases hj
  rw [Go.WideShapes.add_plain, hb.cell (p := ⟨g, k * 2 + j, none⟩) hg, h0.cellAt (k * 2 + j) (by omega)]
  rw [flat2_drop, List.getElem?_drop] at hj
  exact hj

theorem owns_lower {w : World} {B B' : Nat} {v : Value} {n : Nat} {xs : List Value} (h : w.ownsRow B 79 2 v n xs) (hb : B' ≤ B) : w.ownsRow B' 79 2 v n xs := by
  refine ⟨h.1, ?_⟩
  rcases h.2 with h' | ⟨g, cap, cur, e, hg, rest⟩
  · exact .inl h'
  · exact .inr ⟨g, cap, cur, e, Nat.le_trans hb hg, rest⟩

theorem owns2_shape {w : World} {b : Nat} {v : Value} {n : Nat} {xs : List Value} (h : w.ownsRow b 79 2 v n xs) (hv : v ≠ .slice none 0 0) : ∃ g cap, v = .slice (some ⟨g, 0, none⟩) n cap := by
  rcases h.2 with ⟨h', _⟩ | ⟨g, cap, cur, h', _⟩
  · exact absurd h' hv
  · exact ⟨g, cap, h'⟩

end Go.Proofs.YtnfolmjdicfobaaGreatDoor

namespace Go.Proofs.YtnfolmjdicfobaaGreatDoor
open Go.RowKit
set_option linter.unusedVariables false
set_option linter.unusedSimpArgs false

theorem new_kept {X X' : World} {x : RuleI} {b : Nat} (h : ∀ j u, (row8 x)[j]? = some u → X.cell? ((⟨b, 0, none⟩ : Addr).add j) = some u) (hb : Below X.heap.size X X') : ∀ j u, (row8 x)[j]? = some u → X'.cell? ((⟨b, 0, none⟩ : Addr).add j) = some u := fun j u hj =>
  (hb.cell (World.block_lt_of_cell? X _ (h j u hj))).trans (h j u hj)

theorem new_grown {X X' : World} {x : RuleI} {b : Nat} {row : Option Nat} (h : ∀ j u, (row8 x)[j]? = some u → X.cell? ((⟨b, 0, none⟩ : Addr).add j) = some u) (hg : X.grownBy X' row) (hne : some b ≠ row) : ∀ j u, (row8 x)[j]? = some u → X'.cell? ((⟨b, 0, none⟩ : Addr).add j) = some u := fun j u hj => by
  have h0 := h j u hj
  rw [Go.WideShapes.add_plain] at h0 ⊢
  exact hg.cell h0 hne

/-- What stands at a round of l2Policy. -/
structure LP (w wr : World) (B : Nat) (a : Option Addr) (len cap k0 kk : Nat) (ys : List Int) (g n c : Nat) (zs : List RuleI) : Prop where
  ow : Own8 wr w.heap.size (.slice (some ⟨g, 0, none⟩) n c) zs
  ln : zs.length = n
  ds : DS w wr B a len cap kk ys
  gw : w.heap.size ≤ g
  gl : g < wr.heap.size

theorem LP.below {w wr wr' : World} {B : Nat} {a : Option Addr} {len cap k0 kk : Nat} {ys : List Int} {g n c : Nat} {zs : List RuleI} (h : LP w wr B a len cap k0 kk ys g n c zs) (hb : Below wr.heap.size wr wr') : LP w wr' B a len cap k0 kk ys g n c zs :=
  ⟨h.ow.below hb, h.ln, ⟨h.ds.src.below hb, grown_trans h.ds.gr (grown_none ⟨hb.os, hb.tape, hb.output, hb.size, fun k hk _ => hb.block k hk⟩ _)⟩, h.gw, Nat.lt_of_lt_of_le h.gl hb.size⟩

/-- One more rule behind an append. -/
theorem LP.next {w wr w' : World} {B : Nat} {a : Option Addr} {len cap k0 kk : Nat} {ys : List Int} {g n c : Nat} {zs : List RuleI} {x : RuleI} {o : Obj} {v' : Value} (h : LP w wr B a len cap k0 kk ys g n c zs) (hcode : ∀ b off, a = some ⟨b, off, none⟩ → len = 0 ∨ b < w.heap.size) (hB : B < w.heap.size)
    (hown : w'.ownsRow w.heap.size 81 8 v' (n + 1) (flatR zs ++ row8 x)) (hg : (wr.alloc o).grownBy w' (Value.ownBlock (.slice (some ⟨g, 0, none⟩) n c))) (hn : v' ≠ .slice none 0 0) :
    ∃ g' c', v' = .slice (some ⟨g', 0, none⟩) (n + 1) c' ∧ LP w w' B a len cap k0 kk ys g' (n + 1) c' (zs ++ [x]) := by
  have hl : (zs ++ [x]).length = n + 1 := by rw [List.length_append, h.ln]; rfl
  have how : Own8 w' w.heap.size v' (zs ++ [x]) := by unfold Own8; rw [hl, flatR_append]; exact hown
  obtain ⟨g', c', e⟩ := how.shape hn
  rw [hl] at e
  subst e
  have hlt := hown.lt g' (by simp [Value.ownBlock])
  have hg' : (wr.alloc o).grownBy w' (some g) := hg
  have ds1 := h.ds.alloc o
  refine ⟨g', c', rfl, how, hl, ⟨ds1.src.kept hg' (by have := h.gw; simp; omega) (fun b off e => (hcode b off e).imp id (fun q => by have := h.gw; simp; omega)), ⟨hg'.os.trans ds1.gr.os, hg'.tape.trans ds1.gr.tape, hg'.output.trans ds1.gr.output, Nat.le_trans ds1.gr.size hg'.size, fun i hi hne => ?_⟩⟩, hlt.1, hlt.2⟩
  rw [hg'.block i (Nat.lt_of_lt_of_le hi ds1.gr.size) (by have := h.gw; simp; omega)]
  exact ds1.gr.block i hi hne

set_option maxRecDepth 100000 in
set_option maxHeartbeats 2000000 in
theorem policy_c (w : World) (B : Nat) (a : Option Addr) (len cap k0 : Nat) (ys : List Int) (h : SrcAt w B a len cap k0 ys) (hl : len ≤ 1048576) (hk0 : k0 ≤ 500) :
    Calls Tryz.prog 108 #[.pointer (some ⟨B, 0, none⟩)] w fun e w' => ∃ (g n c kk : Nat) (zs : List RuleI), e = .returned (.slice (some ⟨g, 0, none⟩) n c) ∧ n ≤ 11 ∧ kk ≤ k0 + 78 ∧ LP w w' B a len cap k0 kk ys g n c zs := by
  have hB := h.lt
  have HCode : Hid (∀ b off, a = some ⟨b, off, none⟩ → len = 0 ∨ b < w.heap.size) := h.code_lt
  have D0 : Hid (DS w (w.alloc (.cells #[] 81)) B a len cap k0 ys) := (DS.start h).alloc _
  have O0 : Hid (Own8 (w.alloc (.cells #[] 81)) w.heap.size (.slice (some ⟨w.heap.size, 0, none⟩) 0 0) []) := World.ownsRow_lit (base := w.heap.size) (e := 81) (size := 8) w #[] 0 (Nat.le_refl _) (Nat.zero_le _) rfl
  obtain ⟨i0, hi, hz0, hz1, hz2⟩ := info_parts Tryz.info81
  have hun : Tryz.prog.underlying 24 = some (.slice 81) := by kernel_rfl
  clear h
  go_enter Tryz.func108, Tryz.ntmps108
  go_wp2_with fail
  refine (next_c _ B a len cap k0 ys 12 D0.out.src hl (by omega) (by omega) (by omega)).mono ?_
  rintro e w1 ⟨v1, x0, x1, rfl, hS1, hG1⟩
  have D1 : Hid (DS w w1 B a len cap (k0 + 1) ys) := D0.out.draw hS1 hG1
  have hz1' : w.heap.size < w1.heap.size := by have := hG1.size; simp at this; omega
  have O1 : Hid (Own8 w1 w.heap.size (.slice (some ⟨w.heap.size, 0, none⟩) 0 0) []) := O0.out.grown hG1 (by omega)
  obtain ⟨r1, rfl⟩ := Int.eq_ofNat_of_zero_le x0
  clear hS1 hG1 D0 O0
  go_wp2_with fail
  go_loopw [3, 4] (fun v i wr => ∃ (g n c kk r : Nat) (zs : List RuleI), v = .slice (some ⟨g, 0, none⟩) n c ∧ i = .int .i64 (r : Int) ∧ n + r ≤ 11 ∧ kk + 7 * r ≤ k0 + 78 ∧ Hid (LP w wr B a len cap k0 kk ys g n c zs)) (fun _ i _ => (intOf i).toNat)
  case atStart => exact ⟨_, 0, 0, k0 + 1, r1, [], rfl, rfl, by omega, by omega, O1.out, rfl, D1.out, Nat.le_refl _, hz1'⟩
  case round =>
    obtain ⟨g, n, c, kk, r, zs, rfl, rfl, hnr, hkr, HL⟩ := hrel
    by_cases hr : 0 < r
    · have hr' : (0 : Int) < (r : Int) := by omega
      go_wp2_with fail
      refine (drawRule_c _ B a len cap kk ys HL.out.ds.src hl (by omega)).mono ?_
      rintro e w2 ⟨x, k2, _, hk2, rfl, hS2, hG2⟩
      have HL2 : Hid (LP w w2 B a len cap k0 k2 ys g n c zs) := ⟨HL.out.ow.grown hG2 (by have := HL.out.gw; omega), HL.out.ln, HL.out.ds.draw hS2 hG2, HL.out.gw, Nat.lt_of_lt_of_le HL.out.gl hG2.size⟩
      clear hS2 hG2 HL
      obtain ⟨V, hV⟩ : ∃ V, V = w2.alloc (.cells #[.int .i64 x.k, .int .i64 x.ho, .int .i64 x.hn, .int .i64 x.w, .int .i64 x.oo, .int .i64 x.on, .int .i64 x.to, .int .i64 x.tn] 81) := ⟨_, rfl⟩
      have hBV : Below w2.heap.size w2 V := by rw [hV]; exact (Below.refl _ _).alloc (Nat.le_refl _) _
      have HX : Hid (BlkAt V w2.heap.size x.k x.ho x.hn x.w x.oo x.on x.to x.tn) := by rw [hV]; exact BlkAt.new w2 _ _ _ _ _ _ _ _ _
      have HLV : Hid (LP w V B a len cap k0 k2 ys g n c zs) := ⟨HL2.out.ow.below hBV, HL2.out.ln, ⟨HL2.out.ds.src.below hBV, grown_trans HL2.out.ds.gr (grown_none ⟨hBV.os, hBV.tape, hBV.output, hBV.size, fun k hk _ => hBV.block k hk⟩ _)⟩, HL2.out.gw, Nat.lt_of_lt_of_le HL2.out.gl hBV.size⟩
      obtain ⟨q, hq⟩ : ∃ q, q = w2.heap.size := ⟨_, rfl⟩
      rw [← hq] at HX
      go_upto_region 6 with fail
      rw [← hV, ← hq]
      clear hV hq hBV HL2
      obtain ⟨Z, hZ⟩ : ∃ Z, V.heap.size = Z := ⟨_, rfl⟩
      have HZ : Hid (V.heap.size = Z) := hZ
      clear hZ
      go_cut [22] from 15 to 22 (fun s22 wx => ∃ t, s22 = .bool t ∧ Below Z V wx)
      case first =>
        obtain ⟨y0, y1, y2, y3, y4, y5, y6, y7, _⟩ := HX.out
        have hqV : q < Z := by rw [← HZ.out]; exact World.block_lt_of_cell? V ⟨q, 0, none⟩ y0
        refine wp_region_held_drew (S := (fun w' => (∀ b o, b < Z → w'.cell? ⟨b, o, none⟩ = V.cell? ⟨b, o, none⟩) ∧ Below Z V w')) (by kernel_rfl) (kpB ⟨rfl, rfl, rfl, Nat.le_refl _, fun _ _ => rfl⟩) (fun hHeld => ?_)
        (try dsimp only at hHeld)
        refine wpAnyH_take (i := 1) (v := ?_) rfl (by kernel_rfl) (by kernel_rfl) (by kernel_rfl) (fun _ _ _ h => h) (Or.inl ⟨by kernel_rfl, ?_⟩) (by assumption) ?_
        rotate_left 1
        · intro w hSw; (try dsimp only at hSw); go_simp; try (with_reducible rfl)
        try simp only [Act.put, List.getElem_toArray, List.getElem_cons_succ, List.getElem_cons_zero, List.setIfInBounds_toArray, List.set_cons_zero, List.set_cons_succ]
        refine wpAnyH_take (i := 3) (v := ?_) rfl (by kernel_rfl) (by kernel_rfl) (by kernel_rfl) (fun _ _ _ h => h) (Or.inl ⟨by kernel_rfl, ?_⟩) (by assumption) ?_
        rotate_left 1
        · intro w hSw; (try dsimp only at hSw); go_simp; try (with_reducible rfl)
        try simp only [Act.put, List.getElem_toArray, List.getElem_cons_succ, List.getElem_cons_zero, List.setIfInBounds_toArray, List.set_cons_zero, List.set_cons_succ]
        refine wpAnyH_ready (rs := [0, 4]) (by kernel_rfl) (by simp) ?_
        refine AllReadyH.cons rfl (fun K hK => ?_) (AllReadyH.cons rfl (fun K hK => ?_) AllReadyH.nil)
        · skip
          have hsz : Z ≤ V.heap.size := by have h1 : V.heap.size ≤ V.heap.size := hHeld.2.size; have := HZ.out; omega
          go_simp
          have hS := kpB (hHeld.2.alloc hsz (.cells #[] 81))
          have E0 : Hid ((V.alloc (.cells #[] 81)).ownsRow Z 81 8 (.slice (some ⟨V.heap.size, 0, none⟩) 0 0) 0 []) := World.ownsRow_lit (base := Z) (e := 81) (size := 8) V #[] 0 hsz (Nat.zero_le _) rfl
          refine hK.out _ _ hS (fun hHeld => ?_)
          clear hK K hS hsz
          try simp only [Act.put, List.getElem_toArray, List.getElem_cons_succ, List.getElem_cons_zero, List.setIfInBounds_toArray, List.set_cons_zero, List.set_cons_succ]
          obtain ⟨b0, hb0⟩ : ∃ b0, b0 = V.heap.size := ⟨_, rfl⟩
          rw [← hb0] at E0 ⊢
          have k0' : Z ≤ b0 := (E0.out.lt b0 (by simp [Value.ownBlock])).1
          generalize V.alloc (.cells #[] 81) = X1 at hHeld E0 ⊢
          clear hb0
          refine wpAnyH_ready (rs := [2, 4]) (by kernel_rfl) (by simp) ?_
          refine AllReadyH.cons rfl (fun K hK => ?_) (AllReadyH.cons rfl (fun K hK => ?_) AllReadyH.nil)
          · skip
            have hsz : Z ≤ X1.heap.size := by have h1 : V.heap.size ≤ X1.heap.size := hHeld.2.size; have := HZ.out; omega
            refine step_append_own2 rfl (.tmp 15) (.tmp 16) 24 rfl Z 81 i0 (.agg #[.int .i64 0, .int .i64 0, .int .i64 0, .int .i64 0, .int .i64 0, .int .i64 0, .int .i64 0, .int .i64 0]) 8 64 hun hi hz0 hz1 hz2 rfl (by decide) (.slice (some ⟨b0, 0, none⟩) 0 0) 0 [] (by rfl) E0.out ⟨g, 0, none⟩ n c (flatR zs) (by rfl) (by rw [flatR_len, HLV.out.ln]) (fun j u hj => ?nw) (flatR_cells _) (by unfold maxLen; omega) (by omega) hsz ?_
            case nw => rw [Go.WideShapes.add_plain, Nat.zero_add, hHeld.1 g j (by have := HLV.out.gl; have := HZ.out; omega)]; exact HLV.out.ow.cells HLV.out.ln j u hj
            intro v2 X2 hown hgrow hnil
            have hS := kpB (hHeld.2.grown hgrow hsz (fun q e => (E0.out.lt q e).1))
            have H2 : Hid (X2.ownsRow Z 81 8 v2 n (flatR zs)) := by have h0 := hown; simp only [Nat.zero_add, List.nil_append] at h0; exact h0
            have M2 : Hid (v2 ≠ .slice none 0 0) := fun e => by have := (hnil.1 e).1; simp at this
            refine hK.out _ _ hS (fun hHeld => ?_)
            clear hK K hS hsz hown hgrow hnil E0
            try simp only [Act.put, List.getElem_toArray, List.getElem_cons_succ, List.getElem_cons_zero, List.setIfInBounds_toArray, List.set_cons_zero, List.set_cons_succ]
            refine wpAnyH_ready (rs := [4]) (by kernel_rfl) (by simp) ?_
            refine AllReadyH.cons rfl (fun K hK => ?_) AllReadyH.nil
            have hsz : Z ≤ X2.heap.size := by have h1 : V.heap.size ≤ X2.heap.size := hHeld.2.size; have := HZ.out; omega
            go_simp
            have hS := kpB (hHeld.2.alloc hsz (.cells #[.int .i64 x.k, .int .i64 x.ho, .int .i64 x.hn, .int .i64 x.w, .int .i64 x.oo, .int .i64 x.on, .int .i64 x.to, .int .i64 x.tn] 81))
            have N4 : Hid (∀ j u, (row8 x)[j]? = some u → (X2.alloc (.cells #[.int .i64 x.k, .int .i64 x.ho, .int .i64 x.hn, .int .i64 x.w, .int .i64 x.oo, .int .i64 x.on, .int .i64 x.to, .int .i64 x.tn] 81)).cell? ((⟨X2.heap.size, 0, none⟩ : Addr).add j) = some u) := cell_new8 X2 x 81
            have l4 : X2.heap.size < (X2.alloc (.cells #[.int .i64 x.k, .int .i64 x.ho, .int .i64 x.hn, .int .i64 x.w, .int .i64 x.oo, .int .i64 x.on, .int .i64 x.to, .int .i64 x.tn] 81)).heap.size := by simp
            have H2' := H2.out.alloc (.cells #[.int .i64 x.k, .int .i64 x.ho, .int .i64 x.hn, .int .i64 x.w, .int .i64 x.oo, .int .i64 x.on, .int .i64 x.to, .int .i64 x.tn] 81)
            clear H2
            have H2 : Hid ((X2.alloc (.cells #[.int .i64 x.k, .int .i64 x.ho, .int .i64 x.hn, .int .i64 x.w, .int .i64 x.oo, .int .i64 x.on, .int .i64 x.to, .int .i64 x.tn] 81)).ownsRow Z 81 8 v2 n (flatR zs)) := H2'
            clear H2'
            refine hK.out _ _ hS (fun hHeld => ?_)
            clear hK K hS hsz
            try simp only [Act.put, List.getElem_toArray, List.getElem_cons_succ, List.getElem_cons_zero, List.setIfInBounds_toArray, List.set_cons_zero, List.set_cons_succ]
            obtain ⟨b4, hb4⟩ : ∃ b4, b4 = X2.heap.size := ⟨_, rfl⟩
            rw [← hb4] at N4 l4  ⊢
            generalize X2.alloc (.cells #[.int .i64 x.k, .int .i64 x.ho, .int .i64 x.hn, .int .i64 x.w, .int .i64 x.oo, .int .i64 x.on, .int .i64 x.to, .int .i64 x.tn] 81) = X3 at hHeld N4 l4 H2 ⊢
            clear hb4
            refine wpAnyH_ready (rs := [5]) (by kernel_rfl) (by simp) ?_
            refine AllReadyH.cons rfl (fun K hK => ?_) AllReadyH.nil
            have hsz : Z ≤ X3.heap.size := by have h1 : V.heap.size ≤ X3.heap.size := hHeld.2.size; have := HZ.out; omega
            refine step_append_own2 rfl (.tmp 17) (.tmp 19) 24 rfl Z 81 i0 (.agg #[.int .i64 0, .int .i64 0, .int .i64 0, .int .i64 0, .int .i64 0, .int .i64 0, .int .i64 0, .int .i64 0]) 8 64 hun hi hz0 hz1 hz2 rfl (by decide) v2 n (flatR zs) (by rfl) H2.out ⟨b4, 0, none⟩ 1 1 (row8 x) (by rfl) (by rfl) N4.out (flatR_cells [x]) (by unfold maxLen; omega) (by omega) hsz ?_
            intro v5 X4 hown hgrow hnil
            have hS := kpB (hHeld.2.grown hgrow hsz (fun q e => (H2.out.lt q e).1))
            have H5 : Hid (Own8 X4 Z v5 (zs ++ [x])) := by have h0 := hown; show World.ownsRow _ _ _ _ _ _ _; rw [List.length_append, HLV.out.ln, flatR_append]; exact h0
            have M5 : v5 ≠ .slice none 0 0 := fun e => M2.out (hnil.1 e).1
            obtain ⟨g5, c5, hv5⟩ := H5.out.shape M5
            obtain ⟨m5, hm5⟩ : ∃ m, (zs ++ [x]).length = m := ⟨_, rfl⟩
            rw [hm5] at hv5
            subst hv5
            have R5 : Hid (RulesIn X4 (some ⟨g5, 0, none⟩) m5 (zs ++ [x])) := H5.out.read hm5
            have HF : Hid (∀ w2 : World, RulesIn w2 (some ⟨g5, 0, none⟩) m5 (zs ++ [x]) → Calls Tryz.prog 71 #[.slice (some ⟨g5, 0, none⟩) m5 c5] w2 fun e w' => e = .returned (.int .i64 (polCode (zs ++ [x]))) ∧ Below w2.heap.size w2 w') := fun w2 q => l2Fault_c _ m5 c5 (zs ++ [x]) w2 (by have := HLV.out.ln; simp at hm5; omega) q
            clear hm5
            refine hK.out _ _ hS (fun hHeld => ?_)
            clear hK K hS hsz hown hgrow hnil H2 M2 M5 H5
            try simp only [Act.put, List.getElem_toArray, List.getElem_cons_succ, List.getElem_cons_zero, List.setIfInBounds_toArray, List.set_cons_zero, List.set_cons_succ]
            refine wpAnyH_ready (rs := [6]) (by kernel_rfl) (by simp) ?_
            refine AllReadyH.cons rfl (fun K hK => ?_) AllReadyH.nil
            have hsz : Z ≤ X4.heap.size := by have h1 : V.heap.size ≤ X4.heap.size := hHeld.2.size; have := HZ.out; omega
            go_simp
            refine (HF.out _ ?rd).mono ?_
            case rd => exact R5.out
            rintro e X5 ⟨rfl, hb6⟩
            have hS := kpB (hHeld.2.trans (hb6.mono hsz))
            refine hK.out _ _ hS (fun hHeld => ?_)
            clear hK K hS hsz hb6
            try simp only [Act.put, List.getElem_toArray, List.getElem_cons_succ, List.getElem_cons_zero, List.setIfInBounds_toArray, List.set_cons_zero, List.set_cons_succ]
            refine wpAnyH_take (i := 7) (v := ?_) rfl (by kernel_rfl) (by kernel_rfl) (by kernel_rfl) (fun _ _ _ h => h) (Or.inl ⟨by kernel_rfl, ?_⟩) (by assumption) ?_
            rotate_left 1
            · intro w hSw; (try dsimp only at hSw); go_simp; try (with_reducible rfl)
            try simp only [Act.put, List.getElem_toArray, List.getElem_cons_succ, List.getElem_cons_zero, List.setIfInBounds_toArray, List.set_cons_zero, List.set_cons_succ]
            refine wpAnyH_done (by kernel_rfl) ?_ _
            go_wp2_with fail
            go_meet
            case rel => exact ⟨_, rfl, hHeld.2⟩
          · skip
            have hsz : Z ≤ X1.heap.size := by have h1 : V.heap.size ≤ X1.heap.size := hHeld.2.size; have := HZ.out; omega
            go_simp
            have hS := kpB (hHeld.2.alloc hsz (.cells #[.int .i64 x.k, .int .i64 x.ho, .int .i64 x.hn, .int .i64 x.w, .int .i64 x.oo, .int .i64 x.on, .int .i64 x.to, .int .i64 x.tn] 81))
            have N4 : Hid (∀ j u, (row8 x)[j]? = some u → (X1.alloc (.cells #[.int .i64 x.k, .int .i64 x.ho, .int .i64 x.hn, .int .i64 x.w, .int .i64 x.oo, .int .i64 x.on, .int .i64 x.to, .int .i64 x.tn] 81)).cell? ((⟨X1.heap.size, 0, none⟩ : Addr).add j) = some u) := cell_new8 X1 x 81
            have l4 : X1.heap.size < (X1.alloc (.cells #[.int .i64 x.k, .int .i64 x.ho, .int .i64 x.hn, .int .i64 x.w, .int .i64 x.oo, .int .i64 x.on, .int .i64 x.to, .int .i64 x.tn] 81)).heap.size := by simp
            have n4 : X1.heap.size ≠ b0 := by have := (E0.out.lt b0 (by simp [Value.ownBlock])).2; omega
            have E0' := E0.out.alloc (.cells #[.int .i64 x.k, .int .i64 x.ho, .int .i64 x.hn, .int .i64 x.w, .int .i64 x.oo, .int .i64 x.on, .int .i64 x.to, .int .i64 x.tn] 81)
            clear E0
            have E0 : Hid ((X1.alloc (.cells #[.int .i64 x.k, .int .i64 x.ho, .int .i64 x.hn, .int .i64 x.w, .int .i64 x.oo, .int .i64 x.on, .int .i64 x.to, .int .i64 x.tn] 81)).ownsRow Z 81 8 (.slice (some ⟨b0, 0, none⟩) 0 0) 0 []) := E0'
            clear E0'
            refine hK.out _ _ hS (fun hHeld => ?_)
            clear hK K hS hsz
            try simp only [Act.put, List.getElem_toArray, List.getElem_cons_succ, List.getElem_cons_zero, List.setIfInBounds_toArray, List.set_cons_zero, List.set_cons_succ]
            obtain ⟨b4, hb4⟩ : ∃ b4, b4 = X1.heap.size := ⟨_, rfl⟩
            rw [← hb4] at N4 l4 n4 ⊢
            generalize X1.alloc (.cells #[.int .i64 x.k, .int .i64 x.ho, .int .i64 x.hn, .int .i64 x.w, .int .i64 x.oo, .int .i64 x.on, .int .i64 x.to, .int .i64 x.tn] 81) = X6 at hHeld N4 l4 E0 ⊢
            clear hb4
            refine wpAnyH_ready (rs := [2]) (by kernel_rfl) (by simp) ?_
            refine AllReadyH.cons rfl (fun K hK => ?_) AllReadyH.nil
            have hsz : Z ≤ X6.heap.size := by have h1 : V.heap.size ≤ X6.heap.size := hHeld.2.size; have := HZ.out; omega
            refine step_append_own2 rfl (.tmp 15) (.tmp 16) 24 rfl Z 81 i0 (.agg #[.int .i64 0, .int .i64 0, .int .i64 0, .int .i64 0, .int .i64 0, .int .i64 0, .int .i64 0, .int .i64 0]) 8 64 hun hi hz0 hz1 hz2 rfl (by decide) (.slice (some ⟨b0, 0, none⟩) 0 0) 0 [] (by rfl) E0.out ⟨g, 0, none⟩ n c (flatR zs) (by rfl) (by rw [flatR_len, HLV.out.ln]) (fun j u hj => ?nw) (flatR_cells _) (by unfold maxLen; omega) (by omega) hsz ?_
            case nw => rw [Go.WideShapes.add_plain, Nat.zero_add, hHeld.1 g j (by have := HLV.out.gl; have := HZ.out; omega)]; exact HLV.out.ow.cells HLV.out.ln j u hj
            intro v2 X7 hown hgrow hnil
            have hS := kpB (hHeld.2.grown hgrow hsz (fun q e => (E0.out.lt q e).1))
            have H2 : Hid (X7.ownsRow Z 81 8 v2 n (flatR zs)) := by have h0 := hown; simp only [Nat.zero_add, List.nil_append] at h0; exact h0
            have M2 : Hid (v2 ≠ .slice none 0 0) := fun e => by have := (hnil.1 e).1; simp at this
            have hg0 : X6.grownBy X7 (some b0) := ⟨hgrow.os, hgrow.tape, hgrow.output, hgrow.size, hgrow.block⟩
            have N4' := new_grown N4.out hg0 (by simp; exact n4)
            have l4' := Nat.lt_of_lt_of_le l4 hgrow.size
            clear N4 l4
            have N4 : Hid (∀ j u, (row8 x)[j]? = some u → X7.cell? ((⟨b4, 0, none⟩ : Addr).add j) = some u) := N4'
            have l4 := l4'
            clear N4' l4' hg0
            refine hK.out _ _ hS (fun hHeld => ?_)
            clear hK K hS hsz hown hgrow hnil E0
            try simp only [Act.put, List.getElem_toArray, List.getElem_cons_succ, List.getElem_cons_zero, List.setIfInBounds_toArray, List.set_cons_zero, List.set_cons_succ]
            refine wpAnyH_ready (rs := [5]) (by kernel_rfl) (by simp) ?_
            refine AllReadyH.cons rfl (fun K hK => ?_) AllReadyH.nil
            have hsz : Z ≤ X7.heap.size := by have h1 : V.heap.size ≤ X7.heap.size := hHeld.2.size; have := HZ.out; omega
            refine step_append_own2 rfl (.tmp 17) (.tmp 19) 24 rfl Z 81 i0 (.agg #[.int .i64 0, .int .i64 0, .int .i64 0, .int .i64 0, .int .i64 0, .int .i64 0, .int .i64 0, .int .i64 0]) 8 64 hun hi hz0 hz1 hz2 rfl (by decide) v2 n (flatR zs) (by rfl) H2.out ⟨b4, 0, none⟩ 1 1 (row8 x) (by rfl) (by rfl) N4.out (flatR_cells [x]) (by unfold maxLen; omega) (by omega) hsz ?_
            intro v5 X8 hown hgrow hnil
            have hS := kpB (hHeld.2.grown hgrow hsz (fun q e => (H2.out.lt q e).1))
            have H5 : Hid (Own8 X8 Z v5 (zs ++ [x])) := by have h0 := hown; show World.ownsRow _ _ _ _ _ _ _; rw [List.length_append, HLV.out.ln, flatR_append]; exact h0
            have M5 : v5 ≠ .slice none 0 0 := fun e => M2.out (hnil.1 e).1
            obtain ⟨g5, c5, hv5⟩ := H5.out.shape M5
            obtain ⟨m5, hm5⟩ : ∃ m, (zs ++ [x]).length = m := ⟨_, rfl⟩
            rw [hm5] at hv5
            subst hv5
            have R5 : Hid (RulesIn X8 (some ⟨g5, 0, none⟩) m5 (zs ++ [x])) := H5.out.read hm5
            have HF : Hid (∀ w2 : World, RulesIn w2 (some ⟨g5, 0, none⟩) m5 (zs ++ [x]) → Calls Tryz.prog 71 #[.slice (some ⟨g5, 0, none⟩) m5 c5] w2 fun e w' => e = .returned (.int .i64 (polCode (zs ++ [x]))) ∧ Below w2.heap.size w2 w') := fun w2 q => l2Fault_c _ m5 c5 (zs ++ [x]) w2 (by have := HLV.out.ln; simp at hm5; omega) q
            clear hm5
            refine hK.out _ _ hS (fun hHeld => ?_)
            clear hK K hS hsz hown hgrow hnil H2 M2 M5 H5
            try simp only [Act.put, List.getElem_toArray, List.getElem_cons_succ, List.getElem_cons_zero, List.setIfInBounds_toArray, List.set_cons_zero, List.set_cons_succ]
            refine wpAnyH_ready (rs := [6]) (by kernel_rfl) (by simp) ?_
            refine AllReadyH.cons rfl (fun K hK => ?_) AllReadyH.nil
            have hsz : Z ≤ X8.heap.size := by have h1 : V.heap.size ≤ X8.heap.size := hHeld.2.size; have := HZ.out; omega
            go_simp
            refine (HF.out _ ?rd).mono ?_
            case rd => exact R5.out
            rintro e X9 ⟨rfl, hb6⟩
            have hS := kpB (hHeld.2.trans (hb6.mono hsz))
            refine hK.out _ _ hS (fun hHeld => ?_)
            clear hK K hS hsz hb6
            try simp only [Act.put, List.getElem_toArray, List.getElem_cons_succ, List.getElem_cons_zero, List.setIfInBounds_toArray, List.set_cons_zero, List.set_cons_succ]
            refine wpAnyH_take (i := 7) (v := ?_) rfl (by kernel_rfl) (by kernel_rfl) (by kernel_rfl) (fun _ _ _ h => h) (Or.inl ⟨by kernel_rfl, ?_⟩) (by assumption) ?_
            rotate_left 1
            · intro w hSw; (try dsimp only at hSw); go_simp; try (with_reducible rfl)
            try simp only [Act.put, List.getElem_toArray, List.getElem_cons_succ, List.getElem_cons_zero, List.setIfInBounds_toArray, List.set_cons_zero, List.set_cons_succ]
            refine wpAnyH_done (by kernel_rfl) ?_ _
            go_wp2_with fail
            go_meet
            case rel => exact ⟨_, rfl, hHeld.2⟩
        · skip
          have hsz : Z ≤ V.heap.size := by have h1 : V.heap.size ≤ V.heap.size := hHeld.2.size; have := HZ.out; omega
          go_simp
          have hS := kpB (hHeld.2.alloc hsz (.cells #[.int .i64 x.k, .int .i64 x.ho, .int .i64 x.hn, .int .i64 x.w, .int .i64 x.oo, .int .i64 x.on, .int .i64 x.to, .int .i64 x.tn] 81))
          have N4 : Hid (∀ j u, (row8 x)[j]? = some u → (V.alloc (.cells #[.int .i64 x.k, .int .i64 x.ho, .int .i64 x.hn, .int .i64 x.w, .int .i64 x.oo, .int .i64 x.on, .int .i64 x.to, .int .i64 x.tn] 81)).cell? ((⟨V.heap.size, 0, none⟩ : Addr).add j) = some u) := cell_new8 V x 81
          have l4 : V.heap.size < (V.alloc (.cells #[.int .i64 x.k, .int .i64 x.ho, .int .i64 x.hn, .int .i64 x.w, .int .i64 x.oo, .int .i64 x.on, .int .i64 x.to, .int .i64 x.tn] 81)).heap.size := by simp
          refine hK.out _ _ hS (fun hHeld => ?_)
          clear hK K hS hsz
          try simp only [Act.put, List.getElem_toArray, List.getElem_cons_succ, List.getElem_cons_zero, List.setIfInBounds_toArray, List.set_cons_zero, List.set_cons_succ]
          obtain ⟨b4, hb4⟩ : ∃ b4, b4 = V.heap.size := ⟨_, rfl⟩
          rw [← hb4] at N4 l4  ⊢
          generalize V.alloc (.cells #[.int .i64 x.k, .int .i64 x.ho, .int .i64 x.hn, .int .i64 x.w, .int .i64 x.oo, .int .i64 x.on, .int .i64 x.to, .int .i64 x.tn] 81) = X10 at hHeld N4 l4  ⊢
          clear hb4
          refine wpAnyH_ready (rs := [0]) (by kernel_rfl) (by simp) ?_
          refine AllReadyH.cons rfl (fun K hK => ?_) AllReadyH.nil
          have hsz : Z ≤ X10.heap.size := by have h1 : V.heap.size ≤ X10.heap.size := hHeld.2.size; have := HZ.out; omega
          go_simp
          have hS := kpB (hHeld.2.alloc hsz (.cells #[] 81))
          have E0 : Hid ((X10.alloc (.cells #[] 81)).ownsRow Z 81 8 (.slice (some ⟨X10.heap.size, 0, none⟩) 0 0) 0 []) := World.ownsRow_lit (base := Z) (e := 81) (size := 8) X10 #[] 0 hsz (Nat.zero_le _) rfl
          have N4' : Hid (∀ j u, (row8 x)[j]? = some u → (X10.alloc (.cells #[] 81)).cell? ((⟨b4, 0, none⟩ : Addr).add j) = some u) := fun j u hj => new_kept N4.out (Below.alloc (Below.refl _ _) (Nat.le_refl _) _) j u hj
          clear N4
          have N4 : Hid (∀ j u, (row8 x)[j]? = some u → (X10.alloc (.cells #[] 81)).cell? ((⟨b4, 0, none⟩ : Addr).add j) = some u) := N4'.out
          clear N4'
          have g4 : b4 < (X10.alloc (.cells #[] 81)).heap.size ∧ b4 ≠ X10.heap.size := ⟨by simp; omega, by omega⟩
          clear l4
          have l4 := g4.1
          have n4 := g4.2
          clear g4
          refine hK.out _ _ hS (fun hHeld => ?_)
          clear hK K hS hsz
          try simp only [Act.put, List.getElem_toArray, List.getElem_cons_succ, List.getElem_cons_zero, List.setIfInBounds_toArray, List.set_cons_zero, List.set_cons_succ]
          obtain ⟨b0, hb0⟩ : ∃ b0, b0 = X10.heap.size := ⟨_, rfl⟩
          rw [← hb0] at E0 ⊢
          rw [← hb0] at n4
          have k0' : Z ≤ b0 := (E0.out.lt b0 (by simp [Value.ownBlock])).1
          generalize X10.alloc (.cells #[] 81) = X11 at hHeld E0 N4 l4 ⊢
          clear hb0
          refine wpAnyH_ready (rs := [2]) (by kernel_rfl) (by simp) ?_
          refine AllReadyH.cons rfl (fun K hK => ?_) AllReadyH.nil
          have hsz : Z ≤ X11.heap.size := by have h1 : V.heap.size ≤ X11.heap.size := hHeld.2.size; have := HZ.out; omega
          refine step_append_own2 rfl (.tmp 15) (.tmp 16) 24 rfl Z 81 i0 (.agg #[.int .i64 0, .int .i64 0, .int .i64 0, .int .i64 0, .int .i64 0, .int .i64 0, .int .i64 0, .int .i64 0]) 8 64 hun hi hz0 hz1 hz2 rfl (by decide) (.slice (some ⟨b0, 0, none⟩) 0 0) 0 [] (by rfl) E0.out ⟨g, 0, none⟩ n c (flatR zs) (by rfl) (by rw [flatR_len, HLV.out.ln]) (fun j u hj => ?nw) (flatR_cells _) (by unfold maxLen; omega) (by omega) hsz ?_
          case nw => rw [Go.WideShapes.add_plain, Nat.zero_add, hHeld.1 g j (by have := HLV.out.gl; have := HZ.out; omega)]; exact HLV.out.ow.cells HLV.out.ln j u hj
          intro v2 X12 hown hgrow hnil
          have hS := kpB (hHeld.2.grown hgrow hsz (fun q e => (E0.out.lt q e).1))
          have H2 : Hid (X12.ownsRow Z 81 8 v2 n (flatR zs)) := by have h0 := hown; simp only [Nat.zero_add, List.nil_append] at h0; exact h0
          have M2 : Hid (v2 ≠ .slice none 0 0) := fun e => by have := (hnil.1 e).1; simp at this
          have hg0 : X11.grownBy X12 (some b0) := ⟨hgrow.os, hgrow.tape, hgrow.output, hgrow.size, hgrow.block⟩
          have N4' := new_grown N4.out hg0 (by simp; exact n4)
          have l4' := Nat.lt_of_lt_of_le l4 hgrow.size
          clear N4 l4
          have N4 : Hid (∀ j u, (row8 x)[j]? = some u → X12.cell? ((⟨b4, 0, none⟩ : Addr).add j) = some u) := N4'
          have l4 := l4'
          clear N4' l4' hg0
          refine hK.out _ _ hS (fun hHeld => ?_)
          clear hK K hS hsz hown hgrow hnil E0
          try simp only [Act.put, List.getElem_toArray, List.getElem_cons_succ, List.getElem_cons_zero, List.setIfInBounds_toArray, List.set_cons_zero, List.set_cons_succ]
          refine wpAnyH_ready (rs := [5]) (by kernel_rfl) (by simp) ?_
          refine AllReadyH.cons rfl (fun K hK => ?_) AllReadyH.nil
          have hsz : Z ≤ X12.heap.size := by have h1 : V.heap.size ≤ X12.heap.size := hHeld.2.size; have := HZ.out; omega
          refine step_append_own2 rfl (.tmp 17) (.tmp 19) 24 rfl Z 81 i0 (.agg #[.int .i64 0, .int .i64 0, .int .i64 0, .int .i64 0, .int .i64 0, .int .i64 0, .int .i64 0, .int .i64 0]) 8 64 hun hi hz0 hz1 hz2 rfl (by decide) v2 n (flatR zs) (by rfl) H2.out ⟨b4, 0, none⟩ 1 1 (row8 x) (by rfl) (by rfl) N4.out (flatR_cells [x]) (by unfold maxLen; omega) (by omega) hsz ?_
          intro v5 X13 hown hgrow hnil
          have hS := kpB (hHeld.2.grown hgrow hsz (fun q e => (H2.out.lt q e).1))
          have H5 : Hid (Own8 X13 Z v5 (zs ++ [x])) := by have h0 := hown; show World.ownsRow _ _ _ _ _ _ _; rw [List.length_append, HLV.out.ln, flatR_append]; exact h0
          have M5 : v5 ≠ .slice none 0 0 := fun e => M2.out (hnil.1 e).1
          obtain ⟨g5, c5, hv5⟩ := H5.out.shape M5
          obtain ⟨m5, hm5⟩ : ∃ m, (zs ++ [x]).length = m := ⟨_, rfl⟩
          rw [hm5] at hv5
          subst hv5
          have R5 : Hid (RulesIn X13 (some ⟨g5, 0, none⟩) m5 (zs ++ [x])) := H5.out.read hm5
          have HF : Hid (∀ w2 : World, RulesIn w2 (some ⟨g5, 0, none⟩) m5 (zs ++ [x]) → Calls Tryz.prog 71 #[.slice (some ⟨g5, 0, none⟩) m5 c5] w2 fun e w' => e = .returned (.int .i64 (polCode (zs ++ [x]))) ∧ Below w2.heap.size w2 w') := fun w2 q => l2Fault_c _ m5 c5 (zs ++ [x]) w2 (by have := HLV.out.ln; simp at hm5; omega) q
          clear hm5
          refine hK.out _ _ hS (fun hHeld => ?_)
          clear hK K hS hsz hown hgrow hnil H2 M2 M5 H5
          try simp only [Act.put, List.getElem_toArray, List.getElem_cons_succ, List.getElem_cons_zero, List.setIfInBounds_toArray, List.set_cons_zero, List.set_cons_succ]
          refine wpAnyH_ready (rs := [6]) (by kernel_rfl) (by simp) ?_
          refine AllReadyH.cons rfl (fun K hK => ?_) AllReadyH.nil
          have hsz : Z ≤ X13.heap.size := by have h1 : V.heap.size ≤ X13.heap.size := hHeld.2.size; have := HZ.out; omega
          go_simp
          refine (HF.out _ ?rd).mono ?_
          case rd => exact R5.out
          rintro e X14 ⟨rfl, hb6⟩
          have hS := kpB (hHeld.2.trans (hb6.mono hsz))
          refine hK.out _ _ hS (fun hHeld => ?_)
          clear hK K hS hsz hb6
          try simp only [Act.put, List.getElem_toArray, List.getElem_cons_succ, List.getElem_cons_zero, List.setIfInBounds_toArray, List.set_cons_zero, List.set_cons_succ]
          refine wpAnyH_take (i := 7) (v := ?_) rfl (by kernel_rfl) (by kernel_rfl) (by kernel_rfl) (fun _ _ _ h => h) (Or.inl ⟨by kernel_rfl, ?_⟩) (by assumption) ?_
          rotate_left 1
          · intro w hSw; (try dsimp only at hSw); go_simp; try (with_reducible rfl)
          try simp only [Act.put, List.getElem_toArray, List.getElem_cons_succ, List.getElem_cons_zero, List.setIfInBounds_toArray, List.set_cons_zero, List.set_cons_succ]
          refine wpAnyH_done (by kernel_rfl) ?_ _
          go_wp2_with fail
          go_meet
          case rel => exact ⟨_, rfl, hHeld.2⟩
      case rest =>
        obtain ⟨t, rfl, hbc⟩ := hcut
        rw [← HZ.out] at hbc
        have HLC : Hid (LP w wc B a len cap k0 k2 ys g n c zs) := HLV.out.below hbc
        have HXC : Hid (BlkAt wc q x.k x.ho x.hn x.w x.oo x.on x.to x.tn) := HX.out.below hbc
        clear HX HLV HZ hbc
        cases t
        · go_wp2_with fail
          exact ⟨⟨g, n, c, k2, r - 1, zs, rfl, by go_num, by omega, by omega, HLC⟩, by simp [intOf]; omega⟩
        · obtain ⟨y0, y1, y2, y3, y4, y5, y6, y7, _⟩ := HXC.out
          have hzc : w.heap.size ≤ wc.heap.size := Nat.le_of_lt (Nat.lt_of_le_of_lt HLC.out.gw HLC.out.gl)
          go_wp2_with (first
            | (at_builtin; refine wpList_append_own _ rfl _ _ 24 rfl w.heap.size 81 i0 (.agg #[.int .i64 0, .int .i64 0, .int .i64 0, .int .i64 0, .int .i64 0, .int .i64 0, .int .i64 0, .int .i64 0]) 8 64 hun hi hz0 hz1 hz2 rfl (by decide) _ n (flatR zs) rfl (?c0) ⟨wc.heap.size, 0, none⟩ 1 1 (row8 x) rfl rfl (cell_new8 wc x _) (flatR_cells [x]) ?c3 ?c4 ?c5 ?_)
            | fail)
          case c0 => have h0 : wc.ownsRow w.heap.size 81 8 (.slice (some ⟨g, 0, none⟩) n c) n (flatR zs) := by have := HLC.out.ow; unfold Own8 at this; rw [HLC.out.ln] at this; exact this
                     exact h0.alloc _
          case c3 => unfold maxLen; omega
          case c4 => omega
          case c5 => simp; omega
          intro v' w9 hown' hgrow hnil
          have hnn : v' ≠ .slice none 0 0 := hnil
          have HN : Hid (∃ g' c', v' = .slice (some ⟨g', 0, none⟩) (n + 1) c' ∧ LP w w9 B a len cap k0 k2 ys g' (n + 1) c' (zs ++ [x])) := LP.next HLC.out HCode.out hB hown' hgrow hnn
          clear hown' hgrow hnil hnn y0 y1 y2 y3 y4 y5 y6 y7 HLC HXC
          obtain ⟨g', c', rfl, hl9⟩ := HN.out
          have HL9 : Hid (LP w w9 B a len cap k0 k2 ys g' (n + 1) c' (zs ++ [x])) := hl9
          clear hl9 HN
          go_wp2_with fail
          exact ⟨⟨g', n + 1, c', k2, r - 1, zs ++ [x], rfl, by go_num, by omega, by omega, HL9⟩, by simp [intOf]; omega⟩
    · have hr0 : r = 0 := by omega
      subst hr0
      go_wp2_with fail
      go_ret
      exact ⟨g, n, c, kk, zs, rfl, by omega, by omega, HL.out⟩

end Go.Proofs.YtnfolmjdicfobaaGreatDoor
