/-
  CONTRACTS of laws.toInt64S (a copy of a slice) and of laws.eqInt64S (two that are alike).
  Conditions: each contract bears its own.
  PLAIN WORDS on lists of roles: strictly rising lists, what is put into one, what a policy's roles are. No Go text is walked here.
  Conditions: each fact bears its own.
  CONTRACTS: laws.eqRoleS, laws.markRoleS, laws.heldRoleS, of results too; laws.markRuleS.
  Conditions: each contract bears its own.
-/
import Derived.Test.YtnfolmjdicfobaaPk03
import Derived.WalkSmall
import Derived.BigQuiet
import Derived.Deep.QuietTactic
import Derived.Test.YtnfolmjdicfobaaPk02
namespace Go.Proofs.Ytnfolmjdicfobaa
open Go.RowKit
set_option linter.unusedVariables false

/-- What laws.toInt64S needs of the slice that it copies. -/
def RowIn (w : World) (a : Option Addr) (len : Nat) (zs : List Int) : Prop :=
  len ≤ zs.length ∧ ∀ k, k < len → ∃ b off, a = some ⟨b, off, none⟩ ∧ w.cell? ⟨b, off + k, none⟩ = some (.int .i64 (zs[k]?.getD 0))

theorem made_len (n : Nat) : ((madeCells (Value.int .i64 0).cells (n * 1)).toList).length = n := by simp [madeCells, Value.cells]

theorem rows_done {n : Nat} {ys : List Value} {zs : List Int} (hz : n ≤ zs.length) (hl : ys.length = n) (h : ∀ j, j < n → ys[j]? = some (.int .i64 (zs[j]?.getD 0))) : ys = (zs.take n).map (Value.int .i64) := by
  apply List.ext_getElem?
  intro i
  by_cases hi : i < n
  · rw [h i hi]; simp [hi, List.getElem?_eq_getElem (show i < zs.length by omega)]
  · rw [List.getElem?_eq_none (by omega), List.getElem?_eq_none (by simp; omega)]

set_option maxHeartbeats 400000 in
theorem toS_c (a0 : Option Addr) (len cap : Nat) (zs : List Int) (w : World) (hl : len ≤ 1048576) (hr : RowIn w a0 len zs) :
    Calls Try.prog 28 #[.slice a0 len cap] w fun e w' => e = .returned (.slice (some ⟨w.heap.size, 0, none⟩) len len) ∧
      w'.ownsRow w.heap.size 2 1 (.slice (some ⟨w.heap.size, 0, none⟩) len len) len ((zs.take len).map (Value.int .i64)) ∧ Below w.heap.size w w' := by
  obtain ⟨i0, hi, hz0, hz1, hz2⟩ := info_parts Try.info2
  obtain ⟨wm, hmk, hownm, hgrm⟩ := run_make_full (P := Try.prog) (w := w) w.heap.size 24 2 i0 (.int .i64 0) 1 Try.underlying24 hi hz0 hz1 .i64 .i64 len (by rw [hz2]; omega) (by unfold maxLen; omega) (Nat.le_refl _)
  obtain ⟨hzl, hcs⟩ := hr
  have HC : Hid (∀ k, k < len → ∃ b off, a0 = some ⟨b, off, none⟩ ∧ w.cell? ⟨b, off + k, none⟩ = some (.int .i64 (zs[k]?.getD 0))) := hcs
  clear hcs
  have HM : Hid (wm.ownsRow w.heap.size 2 1 (.slice (some ⟨w.heap.size, 0, none⟩) len len) len (madeCells (Value.int .i64 0).cells (len * 1)).toList) := hownm
  clear hownm
  have HG : Hid (w.grownBy wm none) := hgrm
  clear hgrm
  have hl' : (len : Int) ≤ 1048576 := by omega
  go_enter Try.func28, Try.ntmps28
  go_wp2
  go_loopw [4] (fun i wr => ∃ (k : Nat) (ys : List Value), k ≤ len ∧ i = .int .i64 (k : Int) ∧ wr.ownsRow w.heap.size 2 1 (.slice (some ⟨w.heap.size, 0, none⟩) len len) len ys ∧ (∀ j, j < k → ys[j]? = some (.int .i64 (zs[j]?.getD 0))) ∧ Below w.heap.size w wr)
    (fun i _ => len - (intOf i).toNat)
  case atStart => exact ⟨0, _, Nat.zero_le _, rfl, HM.out, fun j hj => by omega, (Below.refl _ _).grown HG.out (Nat.le_refl _) (fun k e => by cases e)⟩
  case round =>
    obtain ⟨k, ys, hk, rfl, hown, hys, hnx⟩ := hrel
    by_cases hlt : k < len
    · obtain ⟨b, off, ha, hc⟩ := HC.out k hlt
      subst ha
      obtain ⟨y, hy⟩ : ∃ y, y = zs[k]?.getD 0 := ⟨_, rfl⟩
      rw [← hy] at hc
      have hb : b < w.heap.size := World.block_lt_of_cell? w ⟨b, off + k, none⟩ hc
      have hcr : wr.cell? ⟨b, off + k, none⟩ = some (.int .i64 y) := (hnx.cell (p := ⟨b, off + k, none⟩) hb).trans hc
      have hlen : ys.length = len := by simpa using hown.1
      obtain ⟨v0, hco⟩ : ∃ v0, wr.cell? ⟨w.heap.size, k, none⟩ = some v0 := ⟨_, (hown.cellAt k (by omega)).trans (List.getElem?_eq_getElem (show k < ys.length by omega))⟩
      have hfo := hown.frozenAt k
      have hst := hown.stored k (.int .i64 y)
      have R : Hid ((wr.setCell ⟨w.heap.size, k, none⟩ (.int .i64 y)).ownsRow w.heap.size 2 1 (.slice (some ⟨w.heap.size, 0, none⟩) len len) len (ys.set k (.int .i64 y)) ∧ (∀ j, j < k + 1 → (ys.set k (.int .i64 y))[j]? = some (.int .i64 (zs[j]?.getD 0))) ∧ Below w.heap.size w (wr.setCell ⟨w.heap.size, k, none⟩ (.int .i64 y))) := by
        refine ⟨hst.1, fun j hj => ?_, hnx.setCell (Nat.le_refl _) _⟩
        by_cases e : j = k
        · subst e; rw [List.getElem?_set_self (by omega), hy]
        · rw [List.getElem?_set_ne (by omega)]; exact hys j (by omega)
      clear hst hown hys hy hc hlen
      have hlt' : (k : Int) < (len : Int) := by omega
      go_wp2
      go_roundw
      case rel => exact ⟨k + 1, _, by omega, by go_num, R.out.1, R.out.2.1, R.out.2.2⟩
      case measure => simp [intOf]; omega
    · have hkn : k = len := by omega
      subst hkn
      have E := rows_done hzl (by simpa using hown.1) hys
      rw [E] at hown
      go_wp2
      go_ret
      exact ⟨rfl, hown, hnx⟩

set_option maxHeartbeats 400000 in
theorem eqS_same (a b : Option Addr) (n c d : Nat) (zs : List Int) (w : World) (hn : n ≤ 1048576)
    (ha : ∀ k, k < n → ∃ g off, a = some ⟨g, off, none⟩ ∧ w.cell? ⟨g, off + k, none⟩ = some (.int .i64 (zs[k]?.getD 0))) (hb : ∀ k, k < n → ∃ g off, b = some ⟨g, off, none⟩ ∧ w.cell? ⟨g, off + k, none⟩ = some (.int .i64 (zs[k]?.getD 0))) :
    Calls Try.prog 33 #[.slice a n c, .slice b n d] w fun e w' => e = .returned (.bool true) ∧ Below w.heap.size w w' := by
  have HA : Hid (∀ k, k < n → ∃ g off, a = some ⟨g, off, none⟩ ∧ w.cell? ⟨g, off + k, none⟩ = some (.int .i64 (zs[k]?.getD 0))) := ha
  have HB : Hid (∀ k, k < n → ∃ g off, b = some ⟨g, off, none⟩ ∧ w.cell? ⟨g, off + k, none⟩ = some (.int .i64 (zs[k]?.getD 0))) := hb
  clear ha hb
  have hn' : (n : Int) ≤ 1048576 := by omega
  go_enter Try.func33, Try.ntmps33
  go_wp2
  go_loopw [5] (fun i wr => ∃ (k : Nat), k ≤ n ∧ i = .int .i64 (k : Int) ∧ ∃ m, wr = w.drewN m) (fun i _ => n - (intOf i).toNat)
  case atStart => exact ⟨0, Nat.zero_le _, rfl, 0, rfl⟩
  case round =>
    obtain ⟨k, hk, rfl, m, rfl⟩ := hrel
    by_cases hlt : k < n
    · obtain ⟨g, off, e1, hca⟩ := HA.out k hlt
      obtain ⟨g2, off2, e2, hcb⟩ := HB.out k hlt
      subst e1 e2
      obtain ⟨y, hy⟩ : ∃ y, y = zs[k]?.getD 0 := ⟨_, rfl⟩
      rw [← hy] at hca hcb
      clear hy
      have hlt' : (k : Int) < (n : Int) := by omega
      go_wp2
      go_quiet (fail)
      go_wp2
      exact ⟨⟨k + 1, by omega, by go_num, _, rfl⟩, by simp [intOf]; omega⟩
    · have hkn : k = n := by omega
      subst hkn
      go_wp2
      go_ret
      exact ⟨rfl, below_drewN (Below.refl _ _) _⟩

theorem RowIn.below {w w' : World} {a : Option Addr} {len : Nat} {zs : List Int} (h : RowIn w a len zs) (hb : Below w.heap.size w w') : RowIn w' a len zs := by
  refine ⟨h.1, fun k hk => ?_⟩
  obtain ⟨b, off, e, hc⟩ := h.2 k hk
  exact ⟨b, off, e, (hb.cell (p := ⟨b, off + k, none⟩) (World.block_lt_of_cell? w ⟨b, off + k, none⟩ hc)).trans hc⟩

theorem owned_cells {w : World} {base g len cap : Nat} {zs : List Int} (h : w.ownsRow base 2 1 (.slice (some ⟨g, 0, none⟩) len cap) len ((zs.take len).map (Value.int .i64))) (hz : len ≤ zs.length) :
    ∀ k, k < len → w.cell? ⟨g, k, none⟩ = some (.int .i64 (zs[k]?.getD 0)) := by
  intro k hk
  rw [h.cellAt k (by omega)]
  simp [hk, List.getElem?_eq_getElem (show k < zs.length by omega)]

theorem owned_lt {w : World} {base g len cap : Nat} {xs : List Value} (h : w.ownsRow base 2 1 (.slice (some ⟨g, 0, none⟩) len cap) len xs) : g < w.heap.size := (h.lt g rfl).2

end Go.Proofs.Ytnfolmjdicfobaa

namespace Go.Proofs.Ytnfolmjdicfobaa
open Go.RowKit

abbrev RoI := Int × Int

def ltR (a b : RoI) : Bool := decide (a.1 < b.1 ∨ (a.1 = b.1 ∧ a.2 < b.2))

theorem ltR_irrefl (a : RoI) : ltR a a = false := by simp [ltR]
theorem ltR_trans {a b c : RoI} (h : ltR a b = true) (k : ltR b c = true) : ltR a c = true := by
  simp [ltR] at *; omega
theorem ltR_total {a b : RoI} (h : ltR a b = false) (hne : a ≠ b) : ltR b a = true := by
  obtain ⟨a1, a2⟩ := a
  obtain ⟨b1, b2⟩ := b
  have hne' : ¬ (a1 = b1 ∧ a2 = b2) := fun e => hne (by rw [e.1, e.2])
  simp [ltR] at *; omega

/-- Strictly rising. -/
def SS (zs : List RoI) : Prop := zs.Pairwise (fun a b => ltR a b = true)

theorem ss_unique : ∀ (a b : List RoI), SS a → SS b → (∀ x, x ∈ a ↔ x ∈ b) → a = b
  | [], [], _, _, _ => rfl
  | [], y :: ys, _, _, h => absurd ((h y).2 (by simp)) (by simp)
  | x :: xs, [], _, _, h => absurd ((h x).1 (by simp)) (by simp)
  | x :: xs, y :: ys, ha, hb, h => by
    have ha' := List.pairwise_cons.1 ha
    have hb' := List.pairwise_cons.1 hb
    have e : x = y := by
      rcases List.mem_cons.1 ((h x).1 (by simp)) with e | e
      · exact e
      · rcases List.mem_cons.1 ((h y).2 (by simp)) with e2 | e2
        · exact e2.symm
        · have h1 := hb'.1 x e
          have h2 := ha'.1 y e2
          have := ltR_trans h1 h2
          rw [ltR_irrefl] at this
          cases this
    subst e
    rw [ss_unique xs ys ha'.2 hb'.2 (fun z => ?_)]
    constructor
    · intro hz
      rcases List.mem_cons.1 ((h z).1 (by simp [hz])) with e | e
      · subst e
        have := ha'.1 z hz
        rw [ltR_irrefl] at this
        cases this
      · exact e
    · intro hz
      rcases List.mem_cons.1 ((h z).2 (by simp [hz])) with e | e
      · subst e
        have := hb'.1 z hz
        rw [ltR_irrefl] at this
        cases this
      · exact e

/-- A role put at its place: all ahead are less, the one there is not less and is another. -/
theorem ss_insert {zs : List RoI} {r : RoI} {k : Nat} (hs : SS zs) (hlo : ∀ j x, j < k → zs[j]? = some x → ltR x r = true) (hhi : ∀ x, zs[k]? = some x → ltR x r = false ∧ x ≠ r) : SS (zs.take k ++ r :: zs.drop k) := by
  have hs2 : SS (zs.take k ++ zs.drop k) := by rw [List.take_append_drop]; exact hs
  obtain ⟨h1, h2, h3⟩ := List.pairwise_append.1 hs2
  have hr : ∀ b ∈ zs.drop k, ltR r b = true := by
    intro b hb
    cases e : zs.drop k with
    | nil => rw [e] at hb; cases hb
    | cons y ys =>
      have hy : zs[k]? = some y := by
        have : (zs.drop k)[0]? = some y := by rw [e]; rfl
        rw [List.getElem?_drop] at this
        simpa using this
      obtain ⟨h4, h5⟩ := hhi y hy
      have h6 := ltR_total h4 h5
      rw [e] at hb h2
      rcases List.mem_cons.1 hb with rfl | hb'
      · exact h6
      · exact ltR_trans h6 ((List.pairwise_cons.1 h2).1 b hb')
  refine List.pairwise_append.2 ⟨h1, List.pairwise_cons.2 ⟨hr, h2⟩, fun a ha b hb => ?_⟩
  rcases List.mem_cons.1 hb with rfl | hb'
  · obtain ⟨j, hj⟩ := List.mem_iff_getElem?.1 ha
    rw [List.getElem?_take] at hj
    split at hj
    · rename_i hjk
      exact hlo j a hjk hj
    · cases hj
  · exact h3 a ha b hb'

theorem mem_insert {zs : List RoI} {r : RoI} (k : Nat) (x : RoI) : x ∈ zs.take k ++ r :: zs.drop k ↔ x = r ∨ x ∈ zs := by
  have : x ∈ zs ↔ x ∈ zs.take k ++ zs.drop k := by rw [List.take_append_drop]
  rw [this]
  simp only [List.mem_append, List.mem_cons]
  constructor
  · rintro (h | h | h)
    · exact .inr (.inl h)
    · exact .inl h
    · exact .inr (.inr h)
  · rintro (h | h | h)
    · exact .inr (.inl h)
    · exact .inl h
    · exact .inr (.inr h)

/-- The roles that a rule names. -/
def bodyR (r : RuleI) : List RoI := if r.k = 1 then [] else if r.k = 4 then [(r.oo, r.on), (r.to, r.tn)] else [(r.oo, r.on)]
def rawR (r : RuleI) : List RoI := (r.ho, r.hn) :: bodyR r
def rawTo (zs : List RuleI) (k : Nat) : List RoI := (zs.take k).flatMap rawR

theorem rawTo_succ {zs : List RuleI} {k : Nat} {r : RuleI} (h : zs[k]? = some r) : rawTo zs (k + 1) = rawTo zs k ++ rawR r := by
  have hk : k < zs.length := by
    by_cases q : k < zs.length
    · exact q
    · rw [List.getElem?_eq_none (by omega)] at h; cases h
  have e : zs[k] = r := by rw [List.getElem?_eq_getElem hk] at h; exact Option.some.inj h
  rw [rawTo, List.take_succ_eq_append_getElem hk, List.flatMap_append, e]
  simp [rawTo]

theorem rawR_len (r : RuleI) : (rawR r).length ≤ 3 := by
  unfold rawR bodyR
  split
  · simp
  · split <;> simp

theorem rawTo_len (zs : List RuleI) (k : Nat) : (rawTo zs k).length ≤ 3 * k := by
  induction k with
  | zero => simp [rawTo]
  | succ k ih =>
    cases h : zs[k]? with
    | none =>
      have hk : zs.length ≤ k := by
        by_cases q : k < zs.length
        · rw [List.getElem?_eq_getElem q] at h; cases h
        · omega
      have : rawTo zs (k + 1) = rawTo zs k := by unfold rawTo; rw [List.take_of_length_le (by omega), List.take_of_length_le (by omega)]
      rw [this]; omega
    | some r =>
      rw [rawTo_succ h, List.length_append]
      have := rawR_len r
      omega

/-- Roles laid out flat. -/
def flat2 : List RoI → List Value
  | [] => []
  | p :: ps => .int .i64 p.1 :: .int .i64 p.2 :: flat2 ps

theorem flat2_append (a b : List RoI) : flat2 (a ++ b) = flat2 a ++ flat2 b := by
  induction a with
  | nil => rfl
  | cons p ps ih => simp [flat2, ih]

theorem flat2_len (a : List RoI) : (flat2 a).length = a.length * 2 := by
  induction a with
  | nil => rfl
  | cons p ps ih => simp [flat2, ih]; omega

theorem flat2_fst : ∀ (a : List RoI) (k : Nat) (p : RoI), a[k]? = some p → (flat2 a)[k * 2]? = some (.int .i64 p.1)
  | [], _, _, h => by simp at h
  | q :: qs, 0, p, h => by simp at h; subst h; rfl
  | q :: qs, k + 1, p, h => by
    have := flat2_fst qs k p (by simpa using h)
    rw [show (k + 1) * 2 = k * 2 + 1 + 1 by omega]
    simpa [flat2] using this

theorem flat2_snd : ∀ (a : List RoI) (k : Nat) (p : RoI), a[k]? = some p → (flat2 a)[k * 2 + 1]? = some (.int .i64 p.2)
  | [], _, _, h => by simp at h
  | q :: qs, 0, p, h => by simp at h; subst h; rfl
  | q :: qs, k + 1, p, h => by
    have := flat2_snd qs k p (by simpa using h)
    rw [show (k + 1) * 2 + 1 = k * 2 + 1 + 1 + 1 by omega]
    simpa [flat2] using this

theorem flat2_one (a : List RoI) : ∀ u ∈ flat2 a, u.oneCell' = true := by
  induction a with
  | nil => simp [flat2]
  | cons p ps ih =>
    intro u hu
    simp only [flat2, List.mem_cons] at hu
    rcases hu with rfl | rfl | hu
    · rfl
    · rfl
    · exact ih u hu

theorem flat2_take (a : List RoI) (k : Nat) : flat2 (a.take k) = (flat2 a).take (k * 2) := by
  induction a generalizing k with
  | nil => simp [flat2]
  | cons p ps ih =>
    cases k with
    | zero => simp [flat2]
    | succ k =>
      rw [show (k + 1) * 2 = k * 2 + 1 + 1 by omega]
      simp [flat2, ih]

theorem flat2_drop (a : List RoI) (k : Nat) : flat2 (a.drop k) = (flat2 a).drop (k * 2) := by
  induction a generalizing k with
  | nil => simp [flat2]
  | cons p ps ih =>
    cases k with
    | zero => simp [flat2]
    | succ k =>
      rw [show (k + 1) * 2 = k * 2 + 1 + 1 by omega]
      simp [flat2, ih]

theorem flat2_set (a : List RoI) (k : Nat) (p : RoI) : flat2 (a.set k p) = ((flat2 a).set (k * 2) (.int .i64 p.1)).set (k * 2 + 1) (.int .i64 p.2) := by
  induction a generalizing k with
  | nil => simp [flat2]
  | cons q qs ih =>
    cases k with
    | zero => simp [flat2]
    | succ k =>
      rw [show (k + 1) * 2 = k * 2 + 1 + 1 by omega]
      simp [flat2, ih]

/-- A row of roles that is owned. -/
def Owns2 (w : World) (B : Nat) (v : Value) (zs : List RoI) : Prop := w.ownsRow B 76 2 v zs.length (flat2 zs)

end Go.Proofs.Ytnfolmjdicfobaa

namespace Go.Proofs.Ytnfolmjdicfobaa
open Go.RowKit
set_option linter.unusedVariables false
set_option linter.unusedSimpArgs false

/-- A slice of roles, read. -/
def RolesV (w : World) (a : Option Addr) (zs : List RoI) : Prop := ∀ k p, zs[k]? = some p → ∃ g, a = some ⟨g, 0, none⟩ ∧ w.cell? ⟨g, k * 2, none⟩ = some (.int .i64 p.1) ∧ w.cell? ⟨g, k * 2 + 1, none⟩ = some (.int .i64 p.2)

theorem RolesV.below {w w' : World} {a : Option Addr} {zs : List RoI} (h : RolesV w a zs) (hb : Below w.heap.size w w') : RolesV w' a zs := fun k p e => by
  obtain ⟨g, ha, h1, h2⟩ := h k p e
  exact ⟨g, ha, (hb.cell (p := ⟨g, k * 2, none⟩) (World.block_lt_of_cell? w ⟨g, k * 2, none⟩ h1)).trans h1, (hb.cell (p := ⟨g, k * 2 + 1, none⟩) (World.block_lt_of_cell? w ⟨g, k * 2 + 1, none⟩ h2)).trans h2⟩

theorem RolesV.kept {w w' : World} {a : Option Addr} {zs : List RoI} {row : Option Nat} (h : RolesV w a zs) (hg : w.grownBy w' row) (hne : ∀ g, a = some ⟨g, 0, none⟩ → some g ≠ row) : RolesV w' a zs := fun k p e => by
  obtain ⟨g, ha, h1, h2⟩ := h k p e
  exact ⟨g, ha, hg.cell h1 (hne g ha), hg.cell h2 (hne g ha)⟩

theorem Owns2.read {w : World} {B : Nat} {a : Option Addr} {n cap : Nat} {zs : List RoI} (h : Owns2 w B (.slice a n cap) zs) : RolesV w a zs := by
  intro k p e
  have hk : k < zs.length := by
    by_cases q : k < zs.length
    · exact q
    · rw [List.getElem?_eq_none (by omega)] at e; cases e
  have h0 : w.ownsRow B 76 2 (.slice a n cap) zs.length (flat2 zs) := h
  rcases h0.2 with ⟨h', h''⟩ | ⟨g, cap', cur, h', _⟩
  · omega
  · simp at h'
    obtain ⟨rfl, rfl, rfl⟩ := h'
    refine ⟨g, rfl, ?_, ?_⟩
    · rw [h0.cellAt (k * 2) (by omega)]; exact flat2_fst zs k p e
    · rw [h0.cellAt (k * 2 + 1) (by omega)]; exact flat2_snd zs k p e

theorem Owns2.shape {w : World} {B : Nat} {v : Value} {zs : List RoI} (h : Owns2 w B v zs) : (v = .slice none 0 0 ∧ zs = []) ∨ ∃ g cap, v = .slice (some ⟨g, 0, none⟩) zs.length cap ∧ B ≤ g ∧ g < w.heap.size ∧ zs.length ≤ cap ∧ cap ≤ maxLen := by
  have h0 : w.ownsRow B 76 2 v zs.length (flat2 zs) := h
  rcases h0.2 with ⟨h', h''⟩ | ⟨g, cap', cur, h', hb, hg, hc, hm, _⟩
  · exact .inl ⟨h', List.length_eq_zero_iff.1 h''⟩
  · exact .inr ⟨g, cap', h', hb, (Array.getElem?_eq_some_iff.1 hg).1, hc, hm⟩

theorem Owns2.below {w w' : World} {B : Nat} {v : Value} {zs : List RoI} (h : Owns2 w B v zs) (hb : Below w.heap.size w w') : Owns2 w' B v zs :=
  World.ownsRow.kept (row := none) h ⟨hb.os, hb.tape, hb.output, hb.size, fun k hk _ => hb.block k hk⟩ (by cases v.ownBlock <;> simp)

/-- The marks of n roles. -/
def mk2 (n : Nat) : List RoI := (List.range n).map fun j => (((1 + 2 * j : Nat) : Int), ((2 + 2 * j : Nat) : Int))
theorem mk2_len (n : Nat) : (mk2 n).length = n := by simp [mk2]
theorem mk2_at (n j : Nat) (h : j < n) : (mk2 n)[j]? = some (((1 + 2 * j : Nat) : Int), ((2 + 2 * j : Nat) : Int)) := by simp [mk2, h]

theorem Owns2.put {w : World} {B g cap : Nat} {zs : List RoI} {n : Nat} (hn : n = zs.length) (h : Owns2 w B (.slice (some ⟨g, 0, none⟩) n cap) zs) (j : Nat) (p : RoI) :
    Owns2 ((w.setCell ⟨g, j * 2, none⟩ (.int .i64 p.1)).setCell ⟨g, j * 2 + 1, none⟩ (.int .i64 p.2)) B (.slice (some ⟨g, 0, none⟩) n cap) (zs.set j p) ∧ w.grownBy ((w.setCell ⟨g, j * 2, none⟩ (.int .i64 p.1)).setCell ⟨g, j * 2 + 1, none⟩ (.int .i64 p.2)) (some g) := by
  subst hn
  have h0 : w.ownsRow B 76 2 (.slice (some ⟨g, 0, none⟩) zs.length cap) zs.length (flat2 zs) := h
  have h1 := h0.stored (j * 2) (.int .i64 p.1)
  have h2 := h1.1.stored (j * 2 + 1) (.int .i64 p.2)
  refine ⟨?_, ⟨h2.2.os.trans h1.2.os, h2.2.tape.trans h1.2.tape, h2.2.output.trans h1.2.output, Nat.le_trans h1.2.size h2.2.size, fun q hq hne => (h2.2.block q (Nat.lt_of_lt_of_le hq h1.2.size) hne).trans (h1.2.block q hq hne)⟩⟩
  show World.ownsRow _ B 76 2 _ (zs.set j p).length (flat2 (zs.set j p))
  rw [flat2_set, List.length_set]
  exact h2.1

theorem Owns2.cell {w : World} {B g cap : Nat} {zs : List RoI} {n : Nat} (hn : n = zs.length) (h : Owns2 w B (.slice (some ⟨g, 0, none⟩) n cap) zs) (j : Nat) (hj : j < n * 2) : (∃ v, w.cell? ⟨g, j, none⟩ = some v) ∧ w.frozen? ⟨g, j, none⟩ = false := by
  subst hn
  have h0 : w.ownsRow B 76 2 (.slice (some ⟨g, 0, none⟩) zs.length cap) zs.length (flat2 zs) := h
  exact ⟨⟨_, (h0.cellAt j hj).trans (List.getElem?_eq_getElem (by rw [flat2_len]; exact hj))⟩, h0.frozenAt j⟩

theorem grown_refl (w : World) (row : Option Nat) : w.grownBy w row := ⟨rfl, rfl, rfl, Nat.le_refl _, fun _ _ _ => rfl⟩
theorem grown_tr {a b c : World} {row : Option Nat} (h : a.grownBy b row) (k : b.grownBy c row) : a.grownBy c row :=
  ⟨k.os.trans h.os, k.tape.trans h.tape, k.output.trans h.output, Nat.le_trans h.size k.size, fun q hq hne => (k.block q (Nat.lt_of_lt_of_le hq h.size) hne).trans (h.block q hq hne)⟩

theorem Owns2.alloc {w : World} {B : Nat} {v : Value} {zs : List RoI} (h : Owns2 w B v zs) (o : Obj) : Owns2 (w.alloc o) B v zs := World.ownsRow.alloc h o

theorem RoomAt.set {w : World} {g n : Nat} (h : RoomAt w g n) (j : Nat) (v : Value) : RoomAt (w.setCell ⟨g, j, none⟩ v) g n := by
  refine ⟨fun i hi => ?_, fun i => by simp only [World.frozen?_setCell]; exact h.2 i⟩
  obtain ⟨u, hu⟩ := h.1 i hi
  by_cases e : i = j
  · subst e
    exact ⟨v, World.cell?_setCell_same' _ _ _ (by rw [hu]; rfl)⟩
  · exact ⟨u, (World.cell?_setCell_other w ⟨g, j, none⟩ ⟨g, i, none⟩ v (fun q => e (congrArg Addr.off q).symm)).trans hu⟩

theorem grown_set (w : World) (g j : Nat) (v : Value) : w.grownBy (w.setCell ⟨g, j, none⟩ v) (some g) :=
  ⟨rfl, rfl, rfl, by simp [World.setCell], fun k _ hk => Below.heap_setCell _ _ _ _ (fun e => hk (by rw [e]))⟩

end Go.Proofs.Ytnfolmjdicfobaa
