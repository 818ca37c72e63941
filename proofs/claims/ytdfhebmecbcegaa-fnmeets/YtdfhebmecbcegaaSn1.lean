/-
  CONTRACTS: maps.Keys of the map of signers, slices.AppendSeq and slices.Collect over it: each signer once, in some order.
  Conditions: each contract bears its own.
-/
import Derived.Test.YtdfhebmecbcegaaSn0
import Derived.Test.YtdfhebmecbcegaaEx0
import Derived.RangeFuncNested
import Derived.RangeFuncBound
import Derived.RangeFuncCalls
import Derived.RangeFuncBox
import Derived.RangeFuncLeaves
import Derived.Shelf.Abstract
import Derived.WalkKit
import Derived.OwnWalkIn
import Derived.TacticsInMore
import Derived.LoopNIn
import Derived.LoopIn
import Derived.Maps.AppendAt
import Derived.Stop.RegionWithIn
import Derived.Sort.BigQuietIn
import Derived.RangeFuncSeq
import Derived.RangeFuncGives
import Derived.Sort.MapsRangeIn
import Derived.Deep.AppendLies
namespace Go.Proofs.Ytdfhebmecbcegaa
open Go.RowKit Go.Shelf Go.Maps
theorem wide_fnS (k : FuncId) : Fence.wide.fn k = True := eq_true trivial
attribute [local go_sem] Oper.semAt_some
attribute [local go_sem] wide_fnS
attribute [local simp] wide_fnS
set_option linter.unusedVariables false
set_option linter.unusedSimpArgs false

/-- The numbers of p, each once. -/
def KeysS (p : Int → Bool) (ys : List Int) : Prop := ys.Nodup ∧ (∀ i ∈ ys, i64W i) ∧ ∀ i, i64W i → (i ∈ ys ↔ p i = true)

/-- What has come while the keys of D0 are gone through. -/
structure CollS (D0 : DataW Unit) (left : Lit → Bool) (ss : List Int) : Prop where
  nd : ss.Nodup
  wf : ∀ r ∈ ss, i64W r
  mem : ∀ r, i64W r → (r ∈ ss ↔ Maps.has D0 (.int .i64 r) = true ∧ left (.int .i64 r) = false)

theorem collS_start (D0 : DataW Unit) : CollS D0 (Maps.has D0) [] := by
  refine ⟨List.nodup_nil, fun r h => (by cases h), fun r _ => ⟨fun h => (by cases h), fun h => ?_⟩⟩
  have h2 := h.2
  rw [h.1] at h2
  cases h2

theorem collS_step {D0 : DataW Unit} {left : Lit → Bool} {ss : List Int} (h : CollS D0 left ss) {x : Int} (hx : i64W x) (hl : left (.int .i64 x) = true) (hh : Maps.has D0 (.int .i64 x) = true) :
    CollS D0 (fun z => left z && !z.sameKey (.int .i64 x)) (ss ++ [x]) := by
  have hn : x ∉ ss := fun q => by
    have := ((h.mem x hx).1 q).2
    rw [hl] at this; cases this
  refine ⟨List.nodup_append.2 ⟨h.nd, by simp, fun a ha b hb e => hn (by simp at hb; rw [← hb, ← e]; exact ha)⟩, fun r hr => ?_, fun r hr => ?_⟩
  · rcases List.mem_append.1 hr with q | q
    · exact h.wf r q
    · simp at q; rw [q]; exact hx
  · rw [List.mem_append, List.mem_singleton]
    by_cases e : r = x
    · subst e
      simp [hh, WideAt.sameKey_self (key_is r)]
    · have hs : (Lit.int .i64 r).sameKey (.int .i64 x) = false := sameKey_ne (lit_ne e)
      rw [hs, h.mem r hr]
      simp [e]

theorem collS_end {D0 : DataW Unit} {left : Lit → Bool} {ss : List Int} {p : Int → Bool} (h : CollS D0 left ss) (hl : ∀ kl, left kl = false) (hv : ∀ i, i64W i → Maps.has D0 (.int .i64 i) = p i) : KeysS p ss := by
  refine ⟨h.nd, h.wf, fun r hr => ?_⟩
  rw [h.mem r hr, hv r hr]
  simp [hl]

theorem keyS_inv {v : Value} {kl : Lit} (h : keyOf Try.prog 2 v = some kl) : ∃ i, i64W i ∧ v = .int .i64 i ∧ kl = .int .i64 i := by
  simp only [keyOf, Try.underlying2, mapKey] at h
  cases v <;> simp at h
  obtain ⟨⟨rfl, hw⟩, hh⟩ := h
  exact ⟨_, hw, rfl, hh.symm⟩

set_option maxRecDepth 100000 in
set_option maxHeartbeats 1000000 in
theorem skeys1_in (n : Nat) (hn : 1 ≤ n) (l Bm b nn : Nat) (D0 : DataW Unit) (p : Int → Bool) (hvw : ∀ i, i64W i → Maps.has D0 (.int .i64 i) = p i) (hnn : nn ≤ 1000) (J Jx : List Int → World → Prop)
    (hY : ∀ pre x W, J pre W → pre.length < 1001 → YieldAt Fence.wide (n - 1) Try.prog l #[.int .i64 x] W fun e W' =>
      (e = .returned (.bool true) ∧ J (pre ++ [x]) W' ∧ KeepsWalks W W') ∨ (e = .returned (.bool false) ∧ Jx (pre ++ [x]) W'))
    (W : World) (hJ : AbidesFrom W.heap.size J) (hm : W.cell? ⟨Bm, 0, none⟩ = some (.map (some b))) (hown : W.ownsMap Try.prog 2 elS b nn D0) (h0 : J [] W) :
    CallsIn Fence.wide n Try.prog 102 #[.func (.yield l) #[] #[], .pointer (some ⟨Bm, 0, none⟩)] W fun e W' => (∃ v, e = .returned v) ∧
      ((∃ ys, KeysS p ys ∧ J ys W') ∨ (∃ pre, True ∧ Jx pre W')) := by
  have hsz := Nat.le_trans hown.size_le hnn
  refine callsIn_of_wp Try.func102 rfl trivial ?_ rfl
  simp only [Try.ntmps102, List.size_toArray, List.length_cons, List.length_nil, Nat.reduceAdd, Nat.reduceSub, Array.replicate_succ, Array.replicate_zero, List.push_toArray, List.append_toArray, List.nil_append, List.cons_append]
  gi_wp2_with (first
    | (gi_at_range; refine wpListIn_range_own _ rfl _ 77 rfl 2 110 sn_keyed sn_map _ b nn _ rfl hown ?_; intro w0 hrg0 hg0 hs0)
    | gi_in)
  go_frame
  gi_loopw [3] (fun _ wr => ∃ (left : Lit → Bool) (cnt : Nat) (ss : List Int), wr.ranges Try.prog 2 elS b W.heap.size nn D0 left cnt ∧ ss.length + cnt ≤ Maps.size D0 ∧ CollS D0 left ss ∧ J ss wr)
    (fun _ wr => wr.rangeLeft b W.heap.size)
  case atStart =>
    exact ⟨_, _, [], hrg0, by simp, collS_start D0, hJ [] W w0 none h0 hg0 (fun r e => by cases e)⟩
  case round =>
    obtain ⟨left, cnt, ss, hrg, hcs, hC, hJs⟩ := hrel
    gi_wp2_with (first
      | (gi_at_next; refine wpListIn_next_ranges _ rfl _ rfl 2 sn_keyed elS (fun i : Int => .int .i64 i) id (fun key kl hk => by obtain ⟨r, _, hr, _⟩ := keyS_inv hk; exact ⟨r, hr⟩) (fun v _ _ => ⟨v, rfl⟩) b W.heap.size nn _ _ _ rfl hrg ?_ ?_)
      | gi_in)
    · intro hc0 hl0
      gi_wp2
      go_end0
      exact ⟨⟨_, rfl⟩, .inl ⟨ss, collS_end hC hl0 hvw, hJs⟩⟩
    · intro o c kl yd yp w2 cnt2 hkey hlk hv hat hrg2 hlt hg2 hs2 hen
      obtain ⟨r, hr, ex, rfl⟩ := keyS_inv hkey
      obtain rfl : o = r := by simpa using ex
      have hh : Maps.has D0 (.int .i64 o) = true := has_true_of_atKey hat
      have hlen : ss.length < 1001 := by omega
      have hJ2 : J ss w2 := hJ ss wr w2 (some W.heap.size) hJs hg2 (fun r e => by cases e; exact ⟨Nat.le_refl _, hrg.iter_walk⟩)
      obtain ⟨fn, tmps, assign, body, hy, hR⟩ := hY ss o _ hJ2 hlen
      have hR' := hR.mono (R' := fun e W' => ∃ b : Bool, e = .returned (.bool b) ∧ Hid ((b = true ∧ J (ss ++ [o]) W' ∧ KeepsWalks w2 W') ∨ (b = false ∧ Jx (ss ++ [o]) W'))) (by
        rintro e W' (⟨rfl, h⟩ | ⟨rfl, h⟩)
        · exact ⟨true, rfl, .inl ⟨rfl, h⟩⟩
        · exact ⟨false, rfl, .inr ⟨rfl, h⟩⟩)
      have HC : Hid (CollS D0 (fun z => left z && !z.sameKey (.int .i64 o)) (ss ++ [o])) := collS_step hC hr hlk hh
      have HM : Hid (wr.rangeLeft b W.heap.size = cnt ∧ cnt2 < cnt) := ⟨hrg.left_eq, hlt⟩
      have HR3 : Hid (w2.ranges Try.prog 2 elS b W.heap.size nn D0 (fun z => left z && !z.sameKey (.int .i64 o)) cnt2) := hrg2
      clear hR hY hJ hJ2 hJs h0 hC hrg hrg2 hs2 hat hlk hh hg2 hown hvw
      gi_wp2
      refine hR'.mono ?_
      rintro e W3 ⟨bb, rfl, HD⟩
      rcases HD.out with ⟨rfl, hJ4, hk4⟩ | ⟨rfl, hJx⟩
      · gi_wp2
        have hrg4 := World.ranges.of_walks HR3.out hk4
        go_roundw
        case rel => exact ⟨_, cnt2, ss ++ [o], hrg4, by simp; omega, HC.out, hJ4⟩
        case measure => rw [hrg4.left_eq, HM.out.1]; exact HM.out.2
      · gi_wp2
        refine bodyPost_ret (results_none rfl _ _ _) rfl ?_
        exact ⟨⟨_, rfl⟩, .inr ⟨_, trivial, hJx⟩⟩

set_option maxHeartbeats 1000000 in
theorem skeys_in (n : Nat) (b : Nat) (w : World) :
    CallsIn Fence.wide n Try.prog 88 #[.map (some b)] w fun e w' => e = .returned (.func (.func 102) #[] #[.pointer (some ⟨w.heap.size, 0, none⟩)]) ∧ w.alloc (.cells #[.map (some b)] 77) = w' := by
  refine callsIn_of_wp Try.func88 rfl trivial ?_ rfl
  simp only [Try.ntmps88, List.size_toArray, List.length_cons, List.length_nil, Nat.reduceAdd, Nat.reduceSub, Array.replicate_succ, Array.replicate_zero, List.push_toArray, List.append_toArray, List.nil_append, List.cons_append]
  gi_wp2
  go_ret
  exact ⟨rfl, rfl⟩

theorem skeys_stops (n : Nat) (hn : 1 ≤ n) (Bm b N : Nat) (p : Int → Bool) (w : World) (hN : N ≤ 1000) (hBm : Bm < w.heap.size) (hm : w.cell? ⟨Bm, 0, none⟩ = some (.map (some b))) (h : SM w b N p) :
    SeqStopsK Fence.wide n Try.prog 102 #[.pointer (some ⟨Bm, 0, none⟩)] (fun x : Int => #[.int .i64 x]) KeepsWalks (KeysS p) (fun _ => True) 1001 w := fun l J Jx W hW hJ _ hY h0 => by
  obtain ⟨D, nn, hnn, ho, hv⟩ := h.below h.lt hW
  exact skeys1_in n hn l Bm b nn D p hv (by omega) J Jx (fun pre x W hj hl => hY pre x W hj hl) W hJ ((hW.cell (p := ⟨Bm, 0, none⟩) hBm).trans hm) ho h0

end Go.Proofs.Ytdfhebmecbcegaa
