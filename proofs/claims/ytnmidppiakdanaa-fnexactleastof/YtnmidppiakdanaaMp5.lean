/-
  CONTRACTS: maps.Keys of the map of grants: its iterator tells each role that somebody has, once, in some order.
  Conditions: each contract bears its own.
-/
import Derived.Test.YtnmidppiakdanaaMp4
import Derived.RangeFuncSeq
import Derived.RangeFuncGives
import Derived.Sort.MapsRangeIn
namespace Go.Proofs.Ytnmidppiakdanaa
open Go.RowKit Go.Shelf Go.Maps
attribute [local go_sem] Oper.semAt_some
attribute [local go_sem] wide_fn
attribute [local simp] wide_fn
set_option linter.unusedVariables false
set_option linter.unusedSimpArgs false

/-- The roles that somebody has, each once. -/
def KeysIs (f : RoI → Int) (ys : List RoI) : Prop := ys.Nodup ∧ ∀ r, r ∈ ys ↔ f r ≠ 0

/-- What has come while the keys of D0 are gone through. -/
structure Coll (D0 : DataW Unit) (left : Lit → Bool) (ss : List RoI) : Prop where
  nd : ss.Nodup
  wf : ∀ r ∈ ss, roW r
  mem : ∀ r, roW r → (r ∈ ss ↔ Maps.has D0 (keyL r) = true ∧ left (keyL r) = false)

theorem coll_start (D0 : DataW Unit) : Coll D0 (Maps.has D0) [] := by
  refine ⟨List.nodup_nil, fun r h => (by cases h), fun r _ => ⟨fun h => (by cases h), fun h => ?_⟩⟩
  have h2 := h.2
  rw [h.1] at h2
  cases h2

theorem coll_step {D0 : DataW Unit} {left : Lit → Bool} {ss : List RoI} (h : Coll D0 left ss) {x : RoI} (hx : roW x) (hl : left (keyL x) = true) (hh : Maps.has D0 (keyL x) = true) :
    Coll D0 (fun z => left z && !z.sameKey (keyL x)) (ss ++ [x]) := by
  have hn : x ∉ ss := fun q => by
    have := ((h.mem x hx).1 q).2
    rw [hl] at this; cases this
  refine ⟨List.nodup_append.2 ⟨h.nd, by simp, fun a ha b hb e => hn (by simp at hb; rw [← hb, ← e]; exact ha)⟩, fun r hr => ?_, fun r hr => ?_⟩
  · rcases List.mem_append.1 hr with q | q
    · exact h.wf r q
    · simp at q; rw [q]; exact hx
  · rw [List.mem_append, List.mem_singleton]
    by_cases e : r = x
    · subst e
      simp [hh, WideAt.sameKey_self (keyL_key r)]
    · have hs : (keyL r).sameKey (keyL x) = false := sameKey_ne (fun q => e (keyL_inj hr hx q))
      rw [hs, h.mem r hr]
      simp [e]

theorem coll_end {D0 : DataW Unit} {left : Lit → Bool} {ss : List RoI} {f : RoI → Int} (h : Coll D0 left ss) (hl : ∀ kl, left kl = false) (hf : FN f) (hv : View D0 f) : KeysIs f ss := by
  refine ⟨h.nd, fun r => ⟨fun hr => ?_, fun hr => ?_⟩⟩
  · have hw := h.wf r hr
    have := ((h.mem r hw).1 hr).1
    rw [hv.has r hw] at this
    exact of_decide_eq_true this
  · have hw := roW_of (hf.ro r hr)
    refine (h.mem r hw).2 ⟨?_, hl _⟩
    rw [hv.has r hw]
    exact decide_eq_true hr

set_option maxRecDepth 100000 in
set_option maxHeartbeats 1000000 in
theorem mkeys1_in (n : Nat) (hn : 1 ≤ n) (l Bm b nn : Nat) (D0 : DataW Unit) (f : RoI → Int) (hf : FN f) (hvw : View D0 f) (J Jx : List RoI → World → Prop)
    (hY : ∀ pre x W, J pre W → pre.length < 41 → YieldAt Fence.wide (n - 1) Try.prog l #[.agg #[.int .i64 x.1, .int .i64 x.2]] W fun e W' =>
      (e = .returned (.bool true) ∧ J (pre ++ [x]) W' ∧ KeepsWalks W W') ∨ (e = .returned (.bool false) ∧ Jx (pre ++ [x]) W'))
    (W : World) (hJ : AbidesFrom W.heap.size J) (hm : W.cell? ⟨Bm, 0, none⟩ = some (.map (some b))) (hown : W.ownsMap Try.prog 35 elU b nn D0) (h0 : J [] W) :
    CallsIn Fence.wide n Try.prog 144 #[.func (.yield l) #[] #[], .pointer (some ⟨Bm, 0, none⟩)] W fun e W' => (∃ v, e = .returned v) ∧
      ((∃ ys, KeysIs f ys ∧ J ys W') ∨ (∃ pre, True ∧ Jx pre W')) := by
  have hsz := (own_size hf hown hvw).2
  refine callsIn_of_wp Try.func144 rfl trivial ?_ rfl
  simp only [Try.ntmps144, List.size_toArray, List.length_cons, List.length_nil, Nat.reduceAdd, Nat.reduceSub, Array.replicate_succ, Array.replicate_zero, List.push_toArray, List.append_toArray, List.nil_append, List.cons_append]
  gi_wp2_with (first
    | (gi_at_range; refine wpListIn_range_own _ rfl _ 92 rfl 35 102 mp_keyed mp_map _ b nn _ rfl hown ?_; intro w0 hrg0 hg0 hs0)
    | gi_in)
  go_frame
  gi_loopw [3] (fun _ wr => ∃ (left : Lit → Bool) (cnt : Nat) (ss : List RoI), wr.ranges Try.prog 35 elU b W.heap.size nn D0 left cnt ∧ ss.length + cnt ≤ Maps.size D0 ∧ Coll D0 left ss ∧ J ss wr)
    (fun _ wr => wr.rangeLeft b W.heap.size)
  case atStart =>
    exact ⟨_, _, [], hrg0, by simp, coll_start D0, hJ [] W w0 none h0 hg0 (fun r e => by cases e)⟩
  case round =>
    obtain ⟨left, cnt, ss, hrg, hcs, hC, hJs⟩ := hrel
    gi_wp2_with (first
      | (gi_at_next; refine wpListIn_next_ranges _ rfl _ rfl 35 mp_keyed elU roV id (fun key kl hk => by obtain ⟨r, _, hr, _⟩ := key_inv hk; exact ⟨r, hr⟩) (fun v _ _ => ⟨v, rfl⟩) b W.heap.size nn _ _ _ rfl hrg ?_ ?_)
      | gi_in)
    · intro hc0 hl0
      gi_wp2
      go_end0
      exact ⟨⟨_, rfl⟩, .inl ⟨ss, coll_end hC hl0 hf hvw, hJs⟩⟩
    · intro o nm c kl yd yp w2 cnt2 hkey hlk hv hat hrg2 hlt hg2 hs2 hen
      obtain ⟨r, hr, ex, rfl⟩ := key_inv hkey
      obtain rfl : (o, nm) = r := by simp at ex; exact Prod.ext ex.1 ex.2
      have hh : Maps.has D0 (keyL (o, nm)) = true := has_true_of_atKey hat
      simp only [roV] at hen
      have hlen : ss.length < 41 := by omega
      have hJ2 : J ss w2 := hJ ss wr w2 (some W.heap.size) hJs hg2 (fun r e => by cases e; exact ⟨Nat.le_refl _, hrg.iter_walk⟩)
      have hJ3 : J ss (w2.alloc (.cells #[.int .i64 o, .int .i64 nm] 35)) := hJ ss w2 _ none hJ2 (World.grownBy_alloc _ _ _) (fun r e => by cases e)
      have hrg3 := hrg2.alloc (.cells #[.int .i64 o, .int .i64 nm] 35)
      obtain ⟨fn, tmps, assign, body, hy, hR⟩ := hY ss (o, nm) _ hJ3 hlen
      have hR' := hR.mono (R' := fun e W' => ∃ b : Bool, e = .returned (.bool b) ∧ Hid ((b = true ∧ J (ss ++ [(o, nm)]) W' ∧ KeepsWalks (w2.alloc (.cells #[.int .i64 o, .int .i64 nm] 35)) W') ∨ (b = false ∧ Jx (ss ++ [(o, nm)]) W'))) (by
        rintro e W' (⟨rfl, h⟩ | ⟨rfl, h⟩)
        · exact ⟨true, rfl, .inl ⟨rfl, h⟩⟩
        · exact ⟨false, rfl, .inr ⟨rfl, h⟩⟩)
      have HC : Hid (Coll D0 (fun z => left z && !z.sameKey (keyL (o, nm))) (ss ++ [(o, nm)])) := coll_step hC hr hlk hh
      have HM : Hid (wr.rangeLeft b W.heap.size = cnt ∧ cnt2 < cnt) := ⟨hrg.left_eq, hlt⟩
      have HR3 : Hid ((w2.alloc (.cells #[.int .i64 o, .int .i64 nm] 35)).ranges Try.prog 35 elU b W.heap.size nn D0 (fun z => left z && !z.sameKey (keyL (o, nm))) cnt2) := hrg3
      clear hR hY hJ hJ2 hJ3 hJs h0 hC hrg hrg2 hrg3 hs2 hat hlk hh hg2 hown hvw
      gi_wp2
      refine hR'.mono ?_
      rintro e W3 ⟨bb, rfl, HD⟩
      rcases HD.out with ⟨rfl, hJ4, hk4⟩ | ⟨rfl, hJx⟩
      · gi_wp2
        have hrg4 := World.ranges.of_walks HR3.out hk4
        go_roundw
        case rel => exact ⟨_, cnt2, ss ++ [(o, nm)], hrg4, by simp; omega, HC.out, hJ4⟩
        case measure => rw [hrg4.left_eq, HM.out.1]; exact HM.out.2
      · gi_wp2
        refine bodyPost_ret (results_none rfl _ _ _) rfl ?_
        exact ⟨⟨_, rfl⟩, .inr ⟨_, trivial, hJx⟩⟩

set_option maxHeartbeats 1000000 in
theorem mkeys_in (n : Nat) (b : Nat) (w : World) :
    CallsIn Fence.wide n Try.prog 116 #[.map (some b)] w fun e w' => e = .returned (.func (.func 144) #[] #[.pointer (some ⟨w.heap.size, 0, none⟩)]) ∧ w.alloc (.cells #[.map (some b)] 92) = w' := by
  refine callsIn_of_wp Try.func116 rfl trivial ?_ rfl
  simp only [Try.ntmps116, List.size_toArray, List.length_cons, List.length_nil, Nat.reduceAdd, Nat.reduceSub, Array.replicate_succ, Array.replicate_zero, List.push_toArray, List.append_toArray, List.nil_append, List.cons_append]
  gi_wp2
  go_ret
  exact ⟨rfl, rfl⟩

theorem mkeys_stops (n : Nat) (hn : 1 ≤ n) (Bm b : Nat) (f : RoI → Int) (w : World) (hBm : Bm < w.heap.size) (hm : w.cell? ⟨Bm, 0, none⟩ = some (.map (some b))) (h : GM w b f) :
    SeqStopsK Fence.wide n Try.prog 144 #[.pointer (some ⟨Bm, 0, none⟩)] (fun x : RoI => #[.agg #[.int .i64 x.1, .int .i64 x.2]]) KeepsWalks (KeysIs f) (fun _ => True) 41 w := fun l J Jx W hW hJ _ hY h0 => by
  obtain ⟨hf, D, nn, ho, hv⟩ := h.below h.lt hW
  exact mkeys1_in n hn l Bm b nn D f hf hv J Jx (fun pre x W hj hl => hY pre x W hj hl) W hJ ((hW.cell (p := ⟨Bm, 0, none⟩) hBm).trans hm) ho h0

end Go.Proofs.Ytnmidppiakdanaa
