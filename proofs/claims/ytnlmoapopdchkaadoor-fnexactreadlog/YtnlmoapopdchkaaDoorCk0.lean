/-
  CONTRACTS: slices.Chunk over words, six at a time: the iterator.
  Conditions: each contract bears its own.
-/
import Derived.RangeFuncNested
import Derived.RangeFuncBound
import Derived.RangeFuncCalls
import Derived.RangeFuncBox
import Derived.RangeFuncLeaves
import Derived.Shelf.Abstract
import Derived.WalkKit
import Derived.OwnWalkIn
import Derived.TacticsInMore
import Derived.LoopNIn
import Derived.LoopIn
import Derived.Maps.AppendAt
import Derived.Stop.RegionWithIn
import Derived.Sort.BigQuietIn
import Derived.Outline
import Derived.Test.YtnlmoapopdchkaaDoorPg6
namespace Go.Proofs.YtnlmoapopdchkaaDoor
open Go.RowKit Go.Shelf
attribute [local go_sem] Oper.semAt_some
set_option linter.unusedVariables false
set_option linter.unusedSimpArgs false

theorem wideC_fn (k : FuncId) : Fence.wide.fn k = True := eq_true trivial
attribute [local go_sem] wideC_fn
attribute [local simp] wideC_fn

/-- A round leaves the iterator's two boxes as they were. -/
def KB2 (Bs Bn : Nat) (W W' : World) : Prop := W'.heap[Bs]? = W.heap[Bs]? ∧ W'.heap[Bn]? = W.heap[Bn]?

theorem grownC_drewN (W : World) (m : Nat) : W.grownBy (W.drewN m) none := ⟨rfl, rfl, rfl, Nat.le_refl _, fun _ _ _ => rfl⟩

theorem rangeC_next (k : Nat) : List.range (k + 1) = List.range k ++ [k] := List.range_succ

theorem rangeC_pre {k N : Nat} (h : k ≤ N) : List.range k <+: List.range N := by
  obtain ⟨d, rfl⟩ : ∃ d, N = k + d := ⟨N - k, by omega⟩
  rw [List.range_add]
  exact List.prefix_append _ _

set_option maxRecDepth 100000 in
set_option maxHeartbeats 2000000 in
theorem chunk1_in (n : Nat) (hn : 1 ≤ n) (l Bs Bn g B N : Nat) (hN : N ≤ 40) (J Jx : List Nat → World → Prop) (hJ : AbidesFrom B J)
    (hY : ∀ pre x W, J pre W → pre.length < N → x < 40 → YieldAt Fence.wide (n - 1) Tryd.prog l #[.slice (some ⟨g, x * 6, none⟩) 6 6] W fun e W' =>
      (e = .returned (.bool true) ∧ J (pre ++ [x]) W' ∧ KB2 Bs Bn W W') ∨ (e = .returned (.bool false) ∧ Jx (pre ++ [x]) W'))
    (W : World) (hs : W.cell? ⟨Bs, 0, none⟩ = some (.slice (some ⟨g, 0, none⟩) (N * 6) 240)) (h6 : W.cell? ⟨Bn, 0, none⟩ = some (.int .i64 6)) (h0 : J [] W) :
    CallsIn Fence.wide n Tryd.prog 34 #[.func (.yield l) #[] #[], .pointer (some ⟨Bs, 0, none⟩), .pointer (some ⟨Bn, 0, none⟩)] W fun e W' => (∃ v, e = .returned v) ∧
      ((∃ ys, ys = List.range N ∧ J ys W') ∨ (∃ pre, pre <+: List.range N ∧ Jx pre W')) := by
  obtain ⟨M, hM⟩ : ∃ M, N * 6 = M := ⟨_, rfl⟩
  rw [hM] at hs
  have HM := hidQ hM
  have hMn : (M : Int) ≤ 240 := by omega
  clear hM
  refine callsIn_of_wp Tryd.func34 rfl trivial ?_ rfl
  simp only [Tryd.ntmps34, List.size_toArray, List.length_cons, List.length_nil, Nat.reduceAdd, Nat.reduceSub, Array.replicate_succ, Array.replicate_zero, List.push_toArray, List.append_toArray, List.nil_append, List.cons_append]
  gi_wp2
  gi_loopw [4] (fun p wr => ∃ (k : Nat), k ≤ N ∧ p = .int .i64 ((k : Int) * 6) ∧ wr.cell? ⟨Bs, 0, none⟩ = some (.slice (some ⟨g, 0, none⟩) M 240) ∧ wr.cell? ⟨Bn, 0, none⟩ = some (.int .i64 6) ∧ J (List.range k) wr)
    (fun p _ => 240 - (intOf p).toNat)
  case atStart => exact ⟨0, Nat.zero_le _, rfl, hs, h6, h0⟩
  case round =>
    obtain ⟨k, hk, rfl, hcs, hc6, hJs⟩ := hrel
    by_cases hlt : k < N
    · have hM6 : M = N * 6 := HM.out.symm
      have hlt' : (k : Int) * 6 < (M : Int) := by omega
      have hk0 : (0 : Int) ≤ (k : Int) * 6 := by omega
      have hkl : (k : Int) * 6 ≤ (M : Int) := by omega
      have hkN : ((k : Int) * 6).toNat = k * 6 := by omega
      have hk1 : ((k : Int) * 6 + 6).toNat = k * 6 + 6 := by omega
      have hne : ¬ (240 = k * 6) := by omega
      have hne2 : ¬ (k * 6 + 6 = k * 6) := by omega
      have hmin : min (6 : Int) ((M - k * 6 : Nat) : Int) = 6 := by omega
      have HMI := hidQ hmin
      have hw6 : IntKind.i64.wrap ((k : Int) * 6 + 6) = (k : Int) * 6 + 6 := by rw [IntKind.wrap_i64]; omega
      have hq1 : (k : Int) * 6 ≤ (k : Int) * 6 + 6 := by omega
      have hq2 : (k : Int) * 6 + 6 ≤ (k : Int) * 6 + 6 := by omega
      have hq3 : (k : Int) * 6 + 6 ≤ 240 := by omega
      clear hM6 hmin
      gi_wp2
      gi_big_quiet_th (fail)
      rw [HMI.out]
      have hJd := hJ _ wr (wr.drewN nq) none hJs (grownC_drewN wr nq) (fun r e => by cases e)
      have hcsd : (wr.drewN nq).cell? ⟨Bs, 0, none⟩ = some (.slice (some ⟨g, 0, none⟩) M 240) := hcs
      have hc6d : (wr.drewN nq).cell? ⟨Bn, 0, none⟩ = some (.int .i64 6) := hc6
      obtain ⟨fn, tmps, assign, body, hy, hR⟩ := hY _ k (wr.drewN nq) hJd (by rw [List.length_range]; exact hlt) (by omega)
      have hR' := hR.mono (R' := fun e W' => ∃ b : Bool, e = .returned (.bool b) ∧ Hid ((b = true ∧ J (List.range k ++ [k]) W' ∧ KB2 Bs Bn (wr.drewN nq) W') ∨ (b = false ∧ Jx (List.range k ++ [k]) W'))) (by
        rintro e W' (⟨rfl, h⟩ | ⟨rfl, h⟩)
        · exact ⟨true, rfl, .inl ⟨rfl, h⟩⟩
        · exact ⟨false, rfl, .inr ⟨rfl, h⟩⟩)
      clear hR hY hJ hJd hJs h0
      have hlt40 : k * 6 + 6 ≤ 240 := by omega
      have hs6 : k * 6 + 6 - k * 6 = 6 := by omega
      gi_wp2_with (fail)
      refine hR'.mono ?_
      rintro e W3 ⟨b, rfl, HD⟩
      rcases HD.out with ⟨rfl, hJ3, hk3⟩ | ⟨rfl, hJx3⟩
      · have hc3 : W3.cell? ⟨Bs, 0, none⟩ = some (.slice (some ⟨g, 0, none⟩) M 240) := (World.cell?_of_block (a := ⟨Bs, 0, none⟩) hk3.1).trans hcsd
        have hc4 : W3.cell? ⟨Bn, 0, none⟩ = some (.int .i64 6) := (World.cell?_of_block (a := ⟨Bn, 0, none⟩) hk3.2).trans hc6d
        gi_wp2
        go_roundw
        case rel => exact ⟨k + 1, hlt, by congr 1; push_cast; omega, hc3, hc4, by rw [rangeC_next]; exact hJ3⟩
        case measure => simp [intOf]; omega
      · gi_wp2
        refine bodyPost_ret (results_none rfl _ _ _) rfl ?_
        exact ⟨⟨_, rfl⟩, .inr ⟨_, by rw [← rangeC_next]; exact rangeC_pre hlt, hJx3⟩⟩
    · have hkN : k = N := by omega
      subst hkN
      have hlt' : ¬ ((k : Int) * 6 < (M : Int)) := by have := HM.out; omega
      gi_wp2
      go_end0
      first | exact ⟨⟨_, rfl⟩, .inl ⟨_, rfl, hJs⟩⟩ | exact ⟨⟨_, rfl⟩, .inl hJs⟩

set_option maxHeartbeats 1000000 in
theorem chunk_in (n : Nat) (a : Option Addr) (m cap : Nat) (w : World) :
    CallsIn Fence.wide n Tryd.prog 27 #[.slice a m cap, .int .i64 6] w fun e w' => e = .returned (.func (.func 34) #[] #[.pointer (some ⟨w.heap.size, 0, none⟩), .pointer (some ⟨w.heap.size + 1, 0, none⟩)]) ∧ (w.alloc (.cells #[.slice a m cap] 22)).alloc (.cells #[.int .i64 6] 3) = w' := by
  refine callsIn_of_wp Tryd.func27 rfl trivial ?_ rfl
  simp only [Tryd.ntmps27, List.size_toArray, List.length_cons, List.length_nil, Nat.reduceAdd, Nat.reduceSub, Array.replicate_succ, Array.replicate_zero, List.push_toArray, List.append_toArray, List.nil_append, List.cons_append]
  gi_wp2
  go_ret
  exact ⟨rfl, rfl⟩

/-- A place of a statement on a page. -/
abbrev P40 := { x : Nat // x < 40 }

theorem chunk_stops (n : Nat) (hn : 1 ≤ n) (Bs Bn g N : Nat) (hN : N ≤ 40) (w : World) (hBs : Bs < w.heap.size) (hBn : Bn < w.heap.size) (hs : w.cell? ⟨Bs, 0, none⟩ = some (.slice (some ⟨g, 0, none⟩) (N * 6) 240)) (h6 : w.cell? ⟨Bn, 0, none⟩ = some (.int .i64 6)) :
    SeqStopsK Fence.wide n Tryd.prog 34 #[.pointer (some ⟨Bs, 0, none⟩), .pointer (some ⟨Bn, 0, none⟩)] (fun x : P40 => #[Value.slice (some ⟨g, x.1 * 6, none⟩) 6 6]) (KB2 Bs Bn) (fun ys => ys.map (·.1) = List.range N) (fun pre => pre.map (·.1) <+: List.range N) N w := fun l J Jx W hW hJ _ hY h0 => by
  have hY' : ∀ (pre : List Nat) (x : Nat) (W1 : World), (∃ p : List P40, p.map (·.1) = pre ∧ J p W1) → pre.length < N → x < 40 → YieldAt Fence.wide (n - 1) Tryd.prog l #[.slice (some ⟨g, x * 6, none⟩) 6 6] W1 fun e W' =>
      (e = .returned (.bool true) ∧ (∃ p : List P40, p.map (·.1) = pre ++ [x] ∧ J p W') ∧ KB2 Bs Bn W1 W') ∨ (e = .returned (.bool false) ∧ (∃ p : List P40, p.map (·.1) = pre ++ [x] ∧ Jx p W')) := by
    rintro pre x W1 ⟨p, rfl, hj⟩ hl x40
    obtain ⟨fn, tmps, assign, body, hy, hR⟩ := hY p ⟨x, x40⟩ W1 hj (by simpa using hl)
    refine ⟨fn, tmps, assign, body, hy, hR.mono ?_⟩
    rintro e W' (⟨he, h1, h2⟩ | ⟨he, h1⟩)
    · exact .inl ⟨he, ⟨p ++ [⟨x, x40⟩], by simp, h1⟩, h2⟩
    · exact .inr ⟨he, ⟨p ++ [⟨x, x40⟩], by simp, h1⟩⟩
  refine (chunk1_in n hn l Bs Bn g W.heap.size N hN (fun pre W1 => ∃ p : List P40, p.map (·.1) = pre ∧ J p W1) (fun pre W1 => ∃ p : List P40, p.map (·.1) = pre ∧ Jx p W1)
    (fun pre X Y row ⟨p, hp, hj⟩ hg hr => ⟨p, hp, hJ p X Y row hj hg hr⟩) hY' W ((hW.cell (p := ⟨Bs, 0, none⟩) hBs).trans hs) ((hW.cell (p := ⟨Bn, 0, none⟩) hBn).trans h6) ⟨[], rfl, h0⟩).mono ?_
  rintro e W' ⟨hv, ⟨ys, rfl, p, hp, hj⟩ | ⟨pre, hpre, p, hp, hj⟩⟩
  · exact ⟨hv, .inl ⟨p, hp, hj⟩⟩
  · exact ⟨hv, .inr ⟨p, by show p.map (·.1) <+: List.range N; rw [hp]; exact hpre, hj⟩⟩

end Go.Proofs.YtnlmoapopdchkaaDoor
