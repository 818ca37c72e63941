/-
  CONTRACTS: maps.Keys of the map of signers, slices.AppendSeq and slices.Collect over it: each signer once, in some order.
  Conditions: each contract bears its own.
-/
import Derived.Test.YthogdfnaojijhaaSn0
import Derived.Test.YthogdfnaojijhaaEx0
import Derived.RangeFuncNested
import Derived.RangeFuncBound
import Derived.RangeFuncCalls
import Derived.RangeFuncBox
import Derived.RangeFuncLeaves
import Derived.Shelf.Abstract
import Derived.WalkKit
import Derived.OwnWalkIn
import Derived.TacticsInMore
import Derived.LoopNIn
import Derived.LoopIn
import Derived.Maps.AppendAt
import Derived.Stop.RegionWithIn
import Derived.Sort.BigQuietIn
import Derived.RangeFuncSeq
import Derived.RangeFuncGives
import Derived.Sort.MapsRangeIn
import Derived.Deep.AppendLies
namespace Go.Proofs.Ythogdfnaojijhaa
open Go.RowKit Go.Shelf Go.Maps
theorem wide_fnS (k : FuncId) : Fence.wide.fn k = True := eq_true trivial
attribute [local go_sem] Oper.semAt_some
attribute [local go_sem] wide_fnS
attribute [local simp] wide_fnS
set_option linter.unusedVariables false
set_option linter.unusedSimpArgs false

/-- The numbers of p, each once. -/
def KeysS (p : Int → Bool) (ys : List Int) : Prop := ys.Nodup ∧ (∀ i ∈ ys, i64W i) ∧ ∀ i, i64W i → (i ∈ ys ↔ p i = true)

/-- What has come while the keys of D0 are gone through. -/
structure CollS (D0 : DataW Unit) (left : Lit → Bool) (ss : List Int) : Prop where
  nd : ss.Nodup
  wf : ∀ r ∈ ss, i64W r
  mem : ∀ r, i64W r → (r ∈ ss ↔ Maps.has D0 (.int .i64 r) = true ∧ left (.int .i64 r) = false)

theorem collS_start (D0 : DataW Unit) : CollS D0 (Maps.has D0) [] := by
  refine ⟨List.nodup_nil, fun r h => (by cases h), fun r _ => ⟨fun h => (by cases h), fun h => ?_⟩⟩
  have h2 := h.2
  rw [h.1] at h2
  cases h2

theorem collS_step {D0 : DataW Unit} {left : Lit → Bool} {ss : List Int} (h : CollS D0 left ss) {x : Int} (hx : i64W x) (hl : left (.int .i64 x) = true) (hh : Maps.has D0 (.int .i64 x) = true) :
    CollS D0 (fun z => left z && !z.sameKey (.int .i64 x)) (ss ++ [x]) := by
  have hn : x ∉ ss := fun q => by
    have := ((h.mem x hx).1 q).2
    rw [hl] at this; cases this
  refine ⟨List.nodup_append.2 ⟨h.nd, by simp, fun a ha b hb e => hn (by simp at hb; rw [← hb, ← e]; exact ha)⟩, fun r hr => ?_, fun r hr => ?_⟩
  · rcases List.mem_append.1 hr with q | q
    · exact h.wf r q
    · simp at q; rw [q]; exact hx
  · rw [List.mem_append, List.mem_singleton]
    by_cases e : r = x
    · subst e
      simp [hh, WideAt.sameKey_self (key_is r)]
    · have hs : (Lit.int .i64 r).sameKey (.int .i64 x) = false := sameKey_ne (lit_ne e)
      rw [hs, h.mem r hr]
      simp [e]

theorem collS_end {D0 : DataW Unit} {left : Lit → Bool} {ss : List Int} {p : Int → Bool} (h : CollS D0 left ss) (hl : ∀ kl, left kl = false) (hv : ∀ i, i64W i → Maps.has D0 (.int .i64 i) = p i) : KeysS p ss := by
  refine ⟨h.nd, h.wf, fun r hr => ?_⟩
  rw [h.mem r hr, hv r hr]
  simp [hl]

theorem keyS_inv {v : Value} {kl : Lit} (h : keyOf Try.prog 2 v = some kl) : ∃ i, i64W i ∧ v = .int .i64 i ∧ kl = .int .i64 i := by
  simp only [keyOf, Try.underlying2, mapKey] at h
  cases v <;> simp at h
  obtain ⟨⟨rfl, hw⟩, hh⟩ := h
  exact ⟨_, hw, rfl, hh.symm⟩

end Go.Proofs.Ythogdfnaojijhaa
