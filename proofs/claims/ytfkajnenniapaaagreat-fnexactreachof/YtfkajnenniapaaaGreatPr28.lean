/- Contracts. -/
import Derived.Test.YtfkajnenniapaaaGreatPr03
import Derived.Laws.AppendOwn
import Derived.Maps.Own
import Derived.Maps.OwnSet
import Derived.Maps.RangeWalk
import Derived.RangeFuncNested
import Derived.RangeFuncBound
import Derived.RangeFuncCalls
import Derived.RangeFuncBox
import Derived.RangeFuncLeaves
import Derived.Shelf.Abstract
import Derived.OwnWalkIn
import Derived.TacticsInMore
import Derived.LoopNIn
import Derived.LoopIn
import Derived.Maps.AppendAt
import Derived.Stop.RegionWithIn
import Derived.Sort.BigQuietIn
import Derived.RangeFuncSeq
import Derived.RangeFuncGives
import Derived.Sort.MapsRangeIn
import Derived.Deep.AppendLies
namespace Go.Proofs.YtfkajnenniapaaaGreat
set_option maxRecDepth 100000
set_option maxHeartbeats 8000000
open Go.RowKit
set_option linter.unusedVariables false
set_option linter.unusedSimpArgs false

structure Hold (lo hi : Nat) (P : World → Prop) (W : World) : Prop where
 out : P W
 le : hi ≤ W.heap.size
 kept : ∀ X X' : World, P X → (∀ b, lo ≤ b → b < hi → X'.heap[b]? = X.heap[b]?) → P X'
theorem Hold.below {lo hi : Nat} {P : World → Prop} {W W' : World} (h : Hold lo hi P W) (hb : Below W.heap.size W W') : Hold lo hi P W' :=
 ⟨h.kept _ _ h.out (fun b _ h2 => hb.block b (Nat.lt_of_lt_of_le h2 h.le)), Nat.le_trans h.le hb.size, h.kept⟩
structure Chg (lo hi : Nat) (W W' : World) : Prop where
 below : ∀ B, B ≤ lo → B ≤ W.heap.size → Below B W W'
 size : W.heap.size ≤ W'.heap.size
 block : ∀ b, b < W.heap.size → (b < lo ∨ hi ≤ b) → W'.heap[b]? = W.heap[b]?
theorem Chg.grown {lo hi : Nat} {W W' : World} {row : Option Nat} (hg : W.grownBy W' row) (h : ∀ q, row = some q → lo ≤ q ∧ q < hi) : Chg lo hi W W' :=
 ⟨fun B h1 h2 => (Below.refl _ _).grown hg h2 (fun q e => Nat.le_trans h1 (h q e).1), hg.size, fun b h1 h2 => hg.block b h1 (fun e => by have := h b e.symm; omega)⟩
theorem Chg.calls {lo hi : Nat} {W W' : World} (hb : Below W.heap.size W W') : Chg lo hi W W' :=
 ⟨fun B h1 h2 => hb.mono h2, hb.size, fun b h1 h2 => hb.block b h1⟩
theorem Chg.trans {lo hi : Nat} {A B C : World} (h : Chg lo hi A B) (k : Chg lo hi B C) : Chg lo hi A C :=
 ⟨fun b h1 h2 => (h.below b h1 h2).trans (k.below b h1 (Nat.le_trans h2 h.size)), Nat.le_trans h.size k.size, fun b h1 h2 => (k.block b (Nat.lt_of_lt_of_le h1 h.size) h2).trans (h.block b h1 h2)⟩
theorem Hold.chg {lo hi l r : Nat} {P : World → Prop} {W W' : World} (h : Hold lo hi P W) (c : Chg l r W W') (d : hi ≤ l ∨ r ≤ lo) : Hold lo hi P W' :=
 ⟨h.kept _ _ h.out (fun b h1 h2 => c.block b (Nat.lt_of_lt_of_le h2 h.le) (by omega)), Nat.le_trans h.le c.size, h.kept⟩
theorem below_chg {B l r : Nat} {w W W' : World} (h : Below B w W) (c : Chg l r W W') (h1 : B ≤ l) (h2 : B ≤ W.heap.size) : Below B w W' := h.trans (c.below B h1 h2)
theorem ownsE_set {w : World} {base : Nat} {e : TypeId} {size : Nat} {v : Value} {n : Nat} {xs : List Value} (h : w.ownsRow base e size v n xs) {a : Addr} (ha : a.block < base) (u : Value) : (w.setCell a u).ownsRow base e size v n xs := by
 refine ⟨h.1, ?_⟩
 rcases h.2 with q | ⟨g, cap, cur, e1, hg, hb, rest⟩
 ·exact .inl q
 ·exact .inr ⟨g, cap, cur, e1, hg, (Below.heap_setCell _ _ _ _ (by intro q; omega)).trans hb, rest⟩
def BoxV (b : Nat) (vs : List Value) (X : World) : Prop := ∀ j v, vs[j]? = some v → X.cell? ⟨b, j, none⟩ = some v
theorem BoxV.hold {b : Nat} {vs : List Value} {W : World} (h : BoxV b vs W) (hb : b < W.heap.size) : Hold b (b + 1) (BoxV b vs) W :=
 ⟨h, hb, fun X X' hX hk j v e => (World.cell?_of_block (w := X) (w' := X') (a := ⟨b, j, none⟩) (hk b (Nat.le_refl _) (by omega))).trans (hX j v e)⟩
theorem boxV_new (W : World) (cs : Array Value) (t : TypeId) : Hold W.heap.size (W.heap.size + 1) (BoxV W.heap.size cs.toList) (W.alloc (.cells cs t)) := by
 refine BoxV.hold (fun j v e => ?_) (by simp)
 have h : (W.alloc (.cells cs t)).heap[W.heap.size]? = some (.cells cs t) := by show (W.heap.push _)[W.heap.size]? = _; simp
 unfold World.cell?
 simp only
 rw [h]
 simpa using e
def BoxW (b : Nat) (vs : List Value) (X : World) : Prop := BoxV b vs X ∧ (∀ j, X.frozen? ⟨b, j, none⟩ = false)
theorem BoxW.hold {b : Nat} {vs : List Value} {W : World} (h : BoxW b vs W) (hb : b < W.heap.size) : Hold b (b + 1) (BoxW b vs) W :=
 ⟨h, hb, fun X X' hX hk => ⟨(BoxV.hold h.1 hb).kept X X' hX.1 hk, fun j => (World.frozen?_of_block (w := X) (w' := X') (a := ⟨b, j, none⟩) (hk b (Nat.le_refl _) (by omega))).trans (hX.2 j)⟩⟩
theorem BoxW.below {b : Nat} {vs : List Value} {W W' : World} (h : BoxW b vs W) (hb : b < W.heap.size) (hw : Below W.heap.size W W') : BoxW b vs W' := ((h.hold hb).below hw).out
theorem boxW_new (W : World) (cs : Array Value) (t : TypeId) : BoxW W.heap.size cs.toList (W.alloc (.cells cs t)) :=
 ⟨(boxV_new W cs t).out, fun j => by
  have h : (W.alloc (.cells cs t)).heap[W.heap.size]? = some (.cells cs t) := by show (W.heap.push _)[W.heap.size]? = _; simp
  unfold World.frozen?
  simp only
  rw [h]
  simp⟩
theorem owns_kept {X X' : World} {B : Nat} {t : TypeId} {sz : Nat} {v : Value} {n : Nat} {xs : List Value} (h : X.ownsRow B t sz v n xs) (hk : ∀ g, v.ownBlock = some g → X'.heap[g]? = X.heap[g]?) : X'.ownsRow B t sz v n xs := by
 refine ⟨h.1, ?_⟩
 rcases h.2 with q | ⟨g, cap, cur, e, hg, hb, rest⟩
 ·exact .inl q
 ·exact .inr ⟨g, cap, cur, e, hg, (hk g (by rw [e]; rfl)).trans hb, rest⟩
theorem owns_hold {W : World} {B : Nat} {t : TypeId} {sz : Nat} {v : Value} {n : Nat} {xs : List Value} (h : W.ownsRow B t sz v n xs) (hi : Nat) (h1 : ∀ g, v.ownBlock = some g → g < hi) (h2 : hi ≤ W.heap.size) : Hold B hi (fun X => X.ownsRow B t sz v n xs) W :=
 ⟨h, h2, fun X X' hX hk => owns_kept hX (fun g e => hk g (hX.lt g e).1 (h1 g e))⟩
theorem owns_hold0 {W : World} {B : Nat} {t : TypeId} {sz : Nat} {v : Value} {n : Nat} {xs : List Value} (h : W.ownsRow B t sz v n xs) : Hold B W.heap.size (fun X => X.ownsRow B t sz v n xs) W := owns_hold h _ (fun g e => (h.lt g e).2) (Nat.le_refl _)

section
open Go.RowKit Go.Maps
theorem sn_map : Tryz.prog.underlying 167 = some (.map 2 188) := by kernel_rfl
theorem sn_keyed : Keyed Tryz.prog 2 := int_keyed Tryz.underlying2
abbrev i64W (i : Int) : Prop := (Lit.int .i64 i).wf = true
theorem sn_key {i : Int} (h : i64W i) : keyOf Tryz.prog 2 (.int .i64 i) = some (.int .i64 i) := keyOf_int_mk Tryz.underlying2 h
theorem i64W_of {i : Int} (h0 : -100 ≤ i) (h1 : i ≤ 100) : i64W i := by
 simp [i64W, Lit.wf, IntKind.min, IntKind.max, IntKind.signed, IntKind.bits]; omega
noncomputable abbrev elS : Value → Option (DataW Unit × List MemPlace) := unitElem
def SM (w : World) (b N : Nat) (p : Int → Bool) : Prop := ∃ D n, n ≤ N ∧ w.ownsMap Tryz.prog 2 elS b n D ∧ ∀ i, i64W i → Maps.has D (.int .i64 i) = p i
theorem SM.lt {w : World} {b N : Nat} {p : Int → Bool} (h : SM w b N p) : b < w.heap.size := by
 obtain ⟨D, n, _, ho, _⟩ := h
 exact ho.lt
theorem sm_heap {w w' : World} {b N : Nat} {p : Int → Bool} (h : SM w b N p) (e : w'.heap[b]? = w.heap[b]?) : SM w' b N p := by
 obtain ⟨D, n, h1, ⟨es, clock, hb, F, hs, hD⟩, hv⟩ := h
 exact ⟨D, n, h1, ⟨es, clock, e.trans hb, F, hs, hD⟩, hv⟩
theorem SM.below {w w' : World} {b N k : Nat} {p : Int → Bool} (h : SM w b N p) (hk : b < k) (hb : Below k w w') : SM w' b N p := sm_heap h (hb.block b hk)
theorem sm_made (w : World) : SM (w.alloc (.map #[] 0)) w.heap.size 0 (fun _ => false) :=
 ⟨.map [], 0, Nat.le_refl _, World.ownsMap_made w _ _ _, fun i _ => rfl⟩
def putP (p : Int → Bool) (i : Int) : Int → Bool := fun j => decide (j = i) || p j
def delP (p : Int → Bool) (i : Int) : Int → Bool := fun j => !decide (j = i) && p j
theorem key_is (i : Int) : WideAt.IsKeyLit (.int .i64 i) := trivial
theorem lit_ne {i j : Int} (h : ¬ j = i) : (Lit.int .i64 j) ≠ (Lit.int .i64 i) := fun e => h (by injection e)
theorem sm_put {w : World} {b N : Nat} {p : Int → Bool} (h : SM w b N p) (hN : N < 1000000) {i : Int} (hi : i64W i) :
  ∃ w', (Instr.mapUpdate 167 (.map (some b)) (.int .i64 i) (.agg #[])).run Tryz.prog w = .ok () w' ∧ SM w' b (N + 1) (putP p i) ∧ w.grownBy w' (some b) := by
 obtain ⟨D, n, h1, ho, hv⟩ := h
 obtain ⟨w', hr, ho', ht⟩ := ho.store sn_keyed sn_map (by unfold maxLen; omega) (sn_key hi) (unitElem_mk (H := Unit))
 refine ⟨w', hr, ⟨_, n + 1, by omega, ho', fun j hj => ?_⟩, ht.grown⟩
 by_cases e : j = i
 ·subst e
  rw [has_put_same ho.isMap (key_is _)]; simp [putP]
 ·rw [has_put_other (lit_ne e), hv j hj]; simp [putP, e]
theorem snPut_c (b N : Nat) (p : Int → Bool) (i : Int) (w : World) (h : SM w b N p) (hN : N < 1000000) (hi : i64W i) :
  Calls Tryz.prog 105 #[.map (some b), .int .i64 i] w fun e w' => e = .returned (.tuple #[]) ∧ SM w' b (N + 1) (putP p i) ∧ w.grownBy w' (some b) := by
 obtain ⟨w', hr, hs, hg⟩ := sm_put h hN hi
 go_enter Tryz.func105, Tryz.ntmps105
 go_wp2
 go_end0
 exact ⟨rfl, hs, hg⟩
end

section
open Go.RowKit Go.Shelf Go.Maps
theorem wide_fnS (k : FuncId) : Fence.wide.fn k = True := eq_true trivial
attribute [local go_sem] Oper.semAt_some
attribute [local go_sem] wide_fnS
attribute [local simp] wide_fnS
set_option linter.unusedVariables false
set_option linter.unusedSimpArgs false
def KeysS (p : Int → Bool) (ys : List Int) : Prop := ys.Nodup ∧ (∀ i ∈ ys, i64W i) ∧ ∀ i, i64W i → (i ∈ ys ↔ p i = true)
structure CollS (D0 : DataW Unit) (left : Lit → Bool) (ss : List Int) : Prop where
 nd : ss.Nodup
 wf : ∀ r ∈ ss, i64W r
 mem : ∀ r, i64W r → (r ∈ ss ↔ Maps.has D0 (.int .i64 r) = true ∧ left (.int .i64 r) = false)
theorem collS_start (D0 : DataW Unit) : CollS D0 (Maps.has D0) [] := by
 refine ⟨List.nodup_nil, fun r h => (by cases h), fun r _ => ⟨fun h => (by cases h), fun h => ?_⟩⟩
 have h2 := h.2
 rw [h.1] at h2
 cases h2
theorem collS_step {D0 : DataW Unit} {left : Lit → Bool} {ss : List Int} (h : CollS D0 left ss) {x : Int} (hx : i64W x) (hl : left (.int .i64 x) = true) (hh : Maps.has D0 (.int .i64 x) = true) :
  CollS D0 (fun z => left z && !z.sameKey (.int .i64 x)) (ss ++ [x]) := by
 have hn : x ∉ ss := fun q => by
  have := ((h.mem x hx).1 q).2
  rw [hl] at this; cases this
 refine ⟨List.nodup_append.2 ⟨h.nd, by simp, fun a ha b hb e => hn (by simp at hb; rw [← hb, ← e]; exact ha)⟩, fun r hr => ?_, fun r hr => ?_⟩
 ·rcases List.mem_append.1 hr with q | q
  ·exact h.wf r q
  ·simp at q; rw [q]; exact hx
 ·rw [List.mem_append, List.mem_singleton]
  by_cases e : r = x
  ·subst e
   simp [hh, WideAt.sameKey_self (key_is r)]
  ·have hs : (Lit.int .i64 r).sameKey (.int .i64 x) = false := sameKey_ne (lit_ne e)
   rw [hs, h.mem r hr]
   simp [e]
theorem collS_end {D0 : DataW Unit} {left : Lit → Bool} {ss : List Int} {p : Int → Bool} (h : CollS D0 left ss) (hl : ∀ kl, left kl = false) (hv : ∀ i, i64W i → Maps.has D0 (.int .i64 i) = p i) : KeysS p ss := by
 refine ⟨h.nd, h.wf, fun r hr => ?_⟩
 rw [h.mem r hr, hv r hr]
 simp [hl]
theorem keyS_inv {v : Value} {kl : Lit} (h : keyOf Tryz.prog 2 v = some kl) : ∃ i, i64W i ∧ v = .int .i64 i ∧ kl = .int .i64 i := by
 simp only [keyOf, Tryz.underlying2, mapKey] at h
 cases v <;> simp at h
 obtain ⟨⟨rfl, hw⟩, hh⟩ := h
 exact ⟨_, hw, rfl, hh.symm⟩
theorem skeys1_in (n : Nat) (hn : 1 ≤ n) (l Bm b nn : Nat) (D0 : DataW Unit) (p : Int → Bool) (hvw : ∀ i, i64W i → Maps.has D0 (.int .i64 i) = p i) (hnn : nn ≤ 1000) (J Jx : List Int → World → Prop)
  (hY : ∀ pre x W, J pre W → pre.length < 1001 → YieldAt Fence.wide (n - 1) Tryz.prog l #[.int .i64 x] W fun e W' =>
   (e = .returned (.bool true) ∧ J (pre ++ [x]) W' ∧ KeepsWalks W W') ∨ (e = .returned (.bool false) ∧ Jx (pre ++ [x]) W'))
  (W : World) (hJ : AbidesFrom W.heap.size J) (hm : W.cell? ⟨Bm, 0, none⟩ = some (.map (some b))) (hown : W.ownsMap Tryz.prog 2 elS b nn D0) (h0 : J [] W) :
  CallsIn Fence.wide n Tryz.prog 142 #[.func (.yield l) #[] #[], .pointer (some ⟨Bm, 0, none⟩)] W fun e W' => (∃ v, e = .returned v) ∧
   ((∃ ys, KeysS p ys ∧ J ys W') ∨ (∃ pre, True ∧ Jx pre W')) := by
 have hsz := Nat.le_trans hown.size_le hnn
 refine callsIn_of_wp Tryz.func142 rfl trivial ?_ rfl
 simp only [Tryz.ntmps142, List.size_toArray, List.length_cons, List.length_nil, Nat.reduceAdd, Nat.reduceSub, Array.replicate_succ, Array.replicate_zero, List.push_toArray, List.append_toArray, List.nil_append, List.cons_append]
 gi_wp2_with (first
  | (gi_at_range; refine wpListIn_range_own _ rfl _ 167 rfl 2 188 sn_keyed sn_map _ b nn _ rfl hown ?_; intro w0 hrg0 hg0 hs0)
  | gi_in)
 go_frame
 gi_loopw [3] (fun _ wr => ∃ (left : Lit → Bool) (cnt : Nat) (ss : List Int), wr.ranges Tryz.prog 2 elS b W.heap.size nn D0 left cnt ∧ ss.length + cnt ≤ Maps.size D0 ∧ CollS D0 left ss ∧ J ss wr)
  (fun _ wr => wr.rangeLeft b W.heap.size)
 case atStart =>
  exact ⟨_, _, [], hrg0, by simp, collS_start D0, hJ [] W w0 none h0 hg0 (fun r e => by cases e)⟩
 case round =>
  obtain ⟨left, cnt, ss, hrg, hcs, hC, hJs⟩ := hrel
  gi_wp2_with (first
   | (gi_at_next; refine wpListIn_next_ranges _ rfl _ rfl 2 sn_keyed elS (fun i : Int => .int .i64 i) id (fun key kl hk => by obtain ⟨r, _, hr, _⟩ := keyS_inv hk; exact ⟨r, hr⟩) (fun v _ _ => ⟨v, rfl⟩) b W.heap.size nn _ _ _ rfl hrg ?_ ?_)
   | gi_in)
  ·intro hc0 hl0
   gi_wp2
   go_end0
   exact ⟨⟨_, rfl⟩, .inl ⟨ss, collS_end hC hl0 hvw, hJs⟩⟩
  ·intro o c kl yd yp w2 cnt2 hkey hlk hv hat hrg2 hlt hg2 hs2 hen
   obtain ⟨r, hr, ex, rfl⟩ := keyS_inv hkey
   obtain rfl : o = r := by simpa using ex
   have hh : Maps.has D0 (.int .i64 o) = true := has_true_of_atKey hat
   have hlen : ss.length < 1001 := by omega
   have hJ2 : J ss w2 := hJ ss wr w2 (some W.heap.size) hJs hg2 (fun r e => by cases e; exact ⟨Nat.le_refl _, hrg.iter_walk⟩)
   obtain ⟨fn, tmps, assign, body, hy, hR⟩ := hY ss o _ hJ2 hlen
   have hR' := hR.mono (R' := fun e W' => ∃ b : Bool, e = .returned (.bool b) ∧ Hid ((b = true ∧ J (ss ++ [o]) W' ∧ KeepsWalks w2 W') ∨ (b = false ∧ Jx (ss ++ [o]) W'))) (by
    rintro e W' (⟨rfl, h⟩ | ⟨rfl, h⟩)
    ·exact ⟨true, rfl, .inl ⟨rfl, h⟩⟩
    ·exact ⟨false, rfl, .inr ⟨rfl, h⟩⟩)
   have HC : Hid (CollS D0 (fun z => left z && !z.sameKey (.int .i64 o)) (ss ++ [o])) := collS_step hC hr hlk hh
   have HM : Hid (wr.rangeLeft b W.heap.size = cnt ∧ cnt2 < cnt) := ⟨hrg.left_eq, hlt⟩
   have HR3 : Hid (w2.ranges Tryz.prog 2 elS b W.heap.size nn D0 (fun z => left z && !z.sameKey (.int .i64 o)) cnt2) := hrg2
   clear hR hY hJ hJ2 hJs h0 hC hrg hrg2 hs2 hat hlk hh hg2 hown hvw
   gi_wp2
   refine hR'.mono ?_
   rintro e W3 ⟨bb, rfl, HD⟩
   rcases HD.out with ⟨rfl, hJ4, hk4⟩ | ⟨rfl, hJx⟩
   ·gi_wp2
    have hrg4 := World.ranges.of_walks HR3.out hk4
    go_roundw
    case rel => exact ⟨_, cnt2, ss ++ [o], hrg4, by simp; omega, HC.out, hJ4⟩
    case measure => rw [hrg4.left_eq, HM.out.1]; exact HM.out.2
   ·gi_wp2
    refine bodyPost_ret (results_none rfl _ _ _) rfl ?_
    exact ⟨⟨_, rfl⟩, .inr ⟨_, trivial, hJx⟩⟩
theorem skeys_in (n : Nat) (b : Nat) (w : World) :
  CallsIn Fence.wide n Tryz.prog 125 #[.map (some b)] w fun e w' => e = .returned (.func (.func 142) #[] #[.pointer (some ⟨w.heap.size, 0, none⟩)]) ∧ w.alloc (.cells #[.map (some b)] 167) = w' := by
 refine callsIn_of_wp Tryz.func125 rfl trivial ?_ rfl
 simp only [Tryz.ntmps125, List.size_toArray, List.length_cons, List.length_nil, Nat.reduceAdd, Nat.reduceSub, Array.replicate_succ, Array.replicate_zero, List.push_toArray, List.append_toArray, List.nil_append, List.cons_append]
 gi_wp2
 go_ret
 exact ⟨rfl, rfl⟩
theorem skeys_stops (n : Nat) (hn : 1 ≤ n) (Bm b N : Nat) (p : Int → Bool) (w : World) (hN : N ≤ 1000) (hBm : Bm < w.heap.size) (hm : w.cell? ⟨Bm, 0, none⟩ = some (.map (some b))) (h : SM w b N p) :
  SeqStopsK Fence.wide n Tryz.prog 142 #[.pointer (some ⟨Bm, 0, none⟩)] (fun x : Int => #[.int .i64 x]) KeepsWalks (KeysS p) (fun _ => True) 1001 w := fun l J Jx W hW hJ _ hY h0 => by
 obtain ⟨D, nn, hnn, ho, hv⟩ := h.below h.lt hW
 exact skeys1_in n hn l Bm b nn D p hv (by omega) J Jx (fun pre x W hj hl => hY pre x W hj hl) W hJ ((hW.cell (p := ⟨Bm, 0, none⟩) hBm).trans hm) ho h0
end

end Go.Proofs.YtfkajnenniapaaaGreat
