/-
  THE MAP OF SIGNERS: a block that holds it reads as a set of numbers; what is put in, taken out, counted. No Go text is walked here but put.
  Conditions: each fact bears its own.
-/
import Derived.Test.YthogdfnaojijhaaSpec1
import Derived.Maps.Own
import Derived.Maps.OwnSet
import Derived.Maps.RangeWalk
import Derived.WalkSmall
import Derived.Handy
namespace Go.Proofs.Ythogdfnaojijhaa
open Go.RowKit Go.Maps
set_option linter.unusedVariables false
set_option linter.unusedSimpArgs false

theorem sn_map : Try.prog.underlying 116 = some (.map 2 120) := by kernel_rfl
theorem sn_keyed : Keyed Try.prog 2 := int_keyed Try.underlying2
abbrev i64W (i : Int) : Prop := (Lit.int .i64 i).wf = true
theorem sn_key {i : Int} (h : i64W i) : keyOf Try.prog 2 (.int .i64 i) = some (.int .i64 i) := keyOf_int_mk Try.underlying2 h

theorem i64W_of {i : Int} (h0 : -100 ≤ i) (h1 : i ≤ 100) : i64W i := by
  simp [i64W, Lit.wf, IntKind.min, IntKind.max, IntKind.signed, IntKind.bits]; omega

noncomputable abbrev elS : Value → Option (DataW Unit × List MemPlace) := unitElem

/-- Block b holds the numbers of p, at most N. -/
def SM (w : World) (b N : Nat) (p : Int → Bool) : Prop := ∃ D n, n ≤ N ∧ w.ownsMap Try.prog 2 elS b n D ∧ ∀ i, i64W i → Maps.has D (.int .i64 i) = p i

theorem SM.lt {w : World} {b N : Nat} {p : Int → Bool} (h : SM w b N p) : b < w.heap.size := by
  obtain ⟨D, n, _, ho, _⟩ := h
  exact ho.lt

theorem sm_heap {w w' : World} {b N : Nat} {p : Int → Bool} (h : SM w b N p) (e : w'.heap[b]? = w.heap[b]?) : SM w' b N p := by
  obtain ⟨D, n, h1, ⟨es, clock, hb, F, hs, hD⟩, hv⟩ := h
  exact ⟨D, n, h1, ⟨es, clock, e.trans hb, F, hs, hD⟩, hv⟩

theorem SM.below {w w' : World} {b N k : Nat} {p : Int → Bool} (h : SM w b N p) (hk : b < k) (hb : Below k w w') : SM w' b N p := sm_heap h (hb.block b hk)

theorem sm_made (w : World) : SM (w.alloc (.map #[] 0)) w.heap.size 0 (fun _ => false) :=
  ⟨.map [], 0, Nat.le_refl _, World.ownsMap_made w _ _ _, fun i _ => rfl⟩

def putP (p : Int → Bool) (i : Int) : Int → Bool := fun j => decide (j = i) || p j
def delP (p : Int → Bool) (i : Int) : Int → Bool := fun j => !decide (j = i) && p j

theorem key_is (i : Int) : WideAt.IsKeyLit (.int .i64 i) := trivial

theorem lit_ne {i j : Int} (h : ¬ j = i) : (Lit.int .i64 j) ≠ (Lit.int .i64 i) := fun e => h (by injection e)

theorem sm_put {w : World} {b N : Nat} {p : Int → Bool} (h : SM w b N p) (hN : N < 1000000) {i : Int} (hi : i64W i) :
    ∃ w', (Instr.mapUpdate 116 (.map (some b)) (.int .i64 i) (.agg #[])).run Try.prog w = .ok () w' ∧ SM w' b (N + 1) (putP p i) ∧ w.grownBy w' (some b) := by
  obtain ⟨D, n, h1, ho, hv⟩ := h
  obtain ⟨w', hr, ho', ht⟩ := ho.store sn_keyed sn_map (by unfold maxLen; omega) (sn_key hi) (unitElem_mk (H := Unit))
  refine ⟨w', hr, ⟨_, n + 1, by omega, ho', fun j hj => ?_⟩, ht.grown⟩
  by_cases e : j = i
  · subst e
    rw [has_put_same ho.isMap (key_is _)]; simp [putP]
  · rw [has_put_other (lit_ne e), hv j hj]; simp [putP, e]

theorem sm_del {w : World} {b N : Nat} {p : Int → Bool} (h : SM w b N p) {i : Int} (hi : i64W i) (ty : TypeId) :
    ∃ w', (Builtin.delete_ #[116, 2] ty #[.map (some b), .int .i64 i]).run Try.prog w = .ok (.tuple #[]) w' ∧ SM w' b N (delP p i) ∧ w.grownBy w' (some b) := by
  obtain ⟨D, n, h1, ho, hv⟩ := h
  obtain ⟨w', hr, ho', ht⟩ := ho.drop sn_keyed sn_map (sn_key hi) ty
  refine ⟨w', hr, ⟨_, n, h1, ho', fun j hj => ?_⟩, ht.grown⟩
  by_cases e : j = i
  · subst e
    rw [has_del_same]; simp [delP]
  · rw [has_del_other (lit_ne e), hv j hj]; simp [delP, e]

theorem sm_len {w : World} {b N : Nat} {p : Int → Bool} (h : SM w b N p) (ty : TypeId) :
    ∃ m : Nat, (Builtin.len_ #[116] ty #[.map (some b)]).run Try.prog w = .ok (.int .i64 (m : Int)) w ∧ m ≤ N ∧ (m = 0 ↔ ∀ i, i64W i → p i = false) := by
  obtain ⟨D, n, h1, ho, hv⟩ := h
  refine ⟨Maps.size D, ho.len sn_map ty, Nat.le_trans ho.size_le h1, ?_⟩
  obtain ⟨es, hD, hne, hk⟩ := ho.entries sn_keyed
  constructor
  · intro h0 i hi
    rw [← hv i hi, hD]
    rw [hD, size_eq] at h0
    rw [List.eq_nil_of_length_eq_zero h0]; rfl
  · intro hp
    cases es with
    | nil => rw [hD]; rfl
    | cons e es =>
      exfalso
      obtain ⟨es0, clock, hb, F, hs, hDD⟩ := ho
      have hm : e ∈ es0.toList.map (WideElems.rg Try.prog 2 elS) := by
        rw [hD] at hDD
        have := (DataW.map.inj hDD)
        exact mem_sorted.1 (by rw [← this]; simp)
      obtain ⟨v, hvv⟩ := fit_keys F e hm
      obtain ⟨i, rfl, hw, hkl⟩ : ∃ i, v = .int .i64 i ∧ i64W i ∧ e.1 = .int .i64 i := by
        simp only [keyOf, Try.underlying2, mapKey] at hvv
        cases v <;> simp at hvv
        obtain ⟨⟨rfl, hw⟩, hh⟩ := hvv
        exact ⟨_, rfl, hw, hh.symm⟩
      have h2 := hp i hw
      rw [← hv i hw, hD, has_eq] at h2
      simp [hkl, WideAt.sameKey_self (key_is i)] at h2

theorem grown_refl9 (w : World) (row : Option Nat) : w.grownBy w row := ⟨rfl, rfl, rfl, Nat.le_refl _, fun _ _ _ => rfl⟩

set_option maxHeartbeats 400000 in
theorem snPut_c (b N : Nat) (p : Int → Bool) (i : Int) (w : World) (h : SM w b N p) (hN : N < 1000000) (hi : i64W i) :
    Calls Try.prog 81 #[.map (some b), .int .i64 i] w fun e w' => e = .returned (.tuple #[]) ∧ SM w' b (N + 1) (putP p i) ∧ w.grownBy w' (some b) := by
  obtain ⟨w', hr, hs, hg⟩ := sm_put h hN hi
  go_enter Try.func81, Try.ntmps81
  go_wp2
  go_end0
  exact ⟨rfl, hs, hg⟩

end Go.Proofs.Ythogdfnaojijhaa
