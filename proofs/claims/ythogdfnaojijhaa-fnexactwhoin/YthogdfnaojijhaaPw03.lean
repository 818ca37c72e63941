/-
  CONTRACTS: chapter 14: reasons told to one function; what goes against a statement.
  Conditions: each contract bears its own.
  PLAIN FACTS on the set of a list of principals: no Go text is walked here.
  Conditions: each fact bears its own.
  CONTRACTS of spec.l1Bit and impl.bitOf: the set of one principal.
  Conditions: the principal is one of 1 to 8.
  CONTRACTS of impl's iterator over the principals of a set, and of impl.ListOf.
  Conditions: each contract bears its own.
-/
import Derived.Test.YthogdfnaojijhaaCe3
import Derived.Deep.CutBlock
import Derived.Test.YthogdfnaojijhaaIn0
import Derived.Test.YthogdfnaojijhaaEx0
import Derived.Test.YthogdfnaojijhaaPw02
import Derived.Test.YthogdfnaojijhaaPlain
import Derived.Test.YthogdfnaojijhaaSpec1
import Derived.RangeFuncNested
import Derived.RangeFuncBound
import Derived.RangeFuncCalls
import Derived.RangeFuncBox
import Derived.RangeFuncLeaves
import Derived.Shelf.Abstract
import Derived.WalkKit
import Derived.OwnWalkIn
import Derived.TacticsInMore
import Derived.LoopNIn
import Derived.LoopIn
import Derived.Maps.AppendAt
import Derived.Stop.RegionWithIn
import Derived.Sort.BigQuietIn
import Derived.Outline
namespace Go.Proofs.Ythogdfnaojijhaa
open Go.RowKit
set_option linter.unusedVariables false
set_option linter.unusedSimpArgs false

/-- The first reason of several. -/
def frI : List Int → Int
  | [] => 0
  | r :: rs => if r = 0 then frI rs else r

set_option maxHeartbeats 1000000 in
theorem firstReason_c (a : Option Addr) (n cap : Nat) (rs : List Int) (w : World) (hn : n ≤ 1048576) (h : IntIn w a n rs) :
    Calls Try.prog 43 #[.slice a n cap] w fun e w' => e = .returned (.int .i64 (frI rs)) ∧ w = w' := by
  have H : Hid (IntIn w a n rs) := h
  have HZ : Hid (rs.length = n) := h.1
  clear h
  have hn' : (n : Int) ≤ 1048576 := by omega
  go_enter Try.func43, Try.ntmps43
  go_wp2_with fail
  go_loop [7] (fun i => ∃ k : Nat, k ≤ n ∧ i = .int .i64 (k : Int) ∧ frI rs = frI (rs.drop k)) (fun i => n - (intOf i).toNat)
  case atStart => exact ⟨0, Nat.zero_le _, rfl, rfl⟩
  case round =>
    obtain ⟨k, hk, rfl, hf⟩ := hrel
    have HF : Hid (frI rs = frI (rs.drop k)) := hf
    clear hf
    by_cases hlt : k < n
    · obtain ⟨b, off, x, rfl, hs, hxa, hgl⟩ := H.out.at hlt
      have hlt' : (k : Int) < (n : Int) := by omega
      have hk0 : (0 : Int) ≤ (k : Int) := by omega
      have HD : Hid (frI rs = if x = 0 then frI (rs.drop (k + 1)) else x) := by
        show _ = _
        have hkl : k < rs.length := by have := HZ.out; omega
        rw [HF.out, List.drop_eq_getElem_cons hkl]
        have : rs[k] = x := by rw [List.getElem?_eq_getElem hkl] at hs; exact Option.some.inj hs
        rw [this]
        rfl
      clear hs
      by_cases q : x = 0
      · have qb : (x != 0) = false := by simp [q]
        have HN : Hid (frI rs = frI (rs.drop (k + 1))) := by show _ = _; rw [HD.out, if_pos q]
        clear q
        go_wp2
        exact ⟨⟨k + 1, by omega, by go_num, HN.out⟩, by simp [intOf]; omega⟩
      · have qb : (x != 0) = true := by simp [q]
        have HN : Hid (frI rs = x) := by show _ = _; rw [HD.out, if_neg q]
        clear q
        go_wp2
        go_ret
        exact ⟨by rw [HN.out]; rfl, rfl⟩
    · have hkn : k = n := by omega
      subst hkn
      have HN : Hid (frI rs = 0) := by
        show _ = _
        rw [HF.out, List.drop_eq_nil_of_le (by have := HZ.out; omega)]
        rfl
      go_wp2
      go_ret
      exact ⟨by rw [HN.out]; rfl, rfl⟩

theorem intIn2 {w : World} {g : Nat} {c d : Int} (h0 : w.cell? ⟨g, 0, none⟩ = some (.int .i64 c)) (h1 : w.cell? ⟨g, 1, none⟩ = some (.int .i64 d)) : IntIn w (some ⟨g, 0, none⟩) 2 [c, d] := by
  refine ⟨rfl, fun _ => ⟨g, 0, rfl, fun k r e => ?_⟩⟩
  match k, e with
  | 0, e => simp at e; subst e; exact h0
  | 1, e => simp at e; subst e; exact h1

theorem reasons2_c (g : Nat) (c d : Int) (w : World) (h0 : w.cell? ⟨g, 0, none⟩ = some (.int .i64 c)) (h1 : w.cell? ⟨g, 1, none⟩ = some (.int .i64 d)) :
    Calls Try.prog 43 #[.slice (some ⟨g, 0, none⟩) 2 2] w fun e w' => e = .returned (.int .i64 (frI [c, d])) ∧ w = w' :=
  firstReason_c _ 2 2 _ w (by omega) (intIn2 h0 h1)

set_option maxHeartbeats 400000 in
theorem reasonIf_c (b : Bool) (k : Int) (w : World) : Calls Try.prog 44 #[.bool b, .int .i64 k] w fun e w' => e = .returned (.int .i64 (if b = true then k else 0)) ∧ w = w' := by
  cases b
  · go_enter Try.func44, Try.ntmps44
    go_wp2
    go_ret
    exact ⟨rfl, rfl⟩
  · go_enter Try.func44, Try.ntmps44
    go_wp2
    go_ret
    exact ⟨rfl, rfl⟩

/-- What is ahead stays. -/
abbrev KW (W W' : World) : Prop := (∀ b o, b < W.heap.size → W'.cell? ⟨b, o, none⟩ = W.cell? ⟨b, o, none⟩) ∧ Below W.heap.size W W'

/-- The code of a statement of which an issue is asked. -/
def isC (x : StI) : Int := if stCode x = 0 then (if x.k = 1 then 0 else 1) else stCode x

set_option maxRecDepth 20000 in
set_option maxHeartbeats 1000000 in
theorem issueFault_c (x : StI) (w : World) : Calls Try.prog 45 #[.agg #[.int .i64 x.k, .int .i64 x.e, .int .i64 x.f, .int .i64 x.s, .int .i64 x.n]] w fun e w' => e = .returned (.int .i64 (isC x)) ∧ Below w.heap.size w w' := by
  obtain ⟨V, hV⟩ : ∃ V, V = w.alloc (.cells #[.int .i64 x.k, .int .i64 x.e, .int .i64 x.f, .int .i64 x.s, .int .i64 x.n] 36) := ⟨_, rfl⟩
  have BV : Below w.heap.size w V := by rw [hV]; exact (Below.refl _ _).alloc (Nat.le_refl _) _
  have HX : StAt V w.heap.size 0 x := by rw [hV]; exact StAt.new w x _
  have hVl : w.heap.size < V.heap.size := by rw [hV]; simp
  obtain ⟨t, ht⟩ : ∃ t, stCode x = t := ⟨_, rfl⟩
  have HT : Hid (∀ w : World, Calls Try.prog 35 #[.agg #[.int .i64 x.k, .int .i64 x.e, .int .i64 x.f, .int .i64 x.s, .int .i64 x.n]] w fun e w' => e = .returned (.int .i64 t) ∧ Below w.heap.size w w') := by rw [← ht]; exact implStatementFault_c x
  obtain ⟨b, hb⟩ : ∃ b, (x.k != 1) = b := ⟨_, rfl⟩
  obtain ⟨u, hu⟩ : ∃ u, (if b = true then (1 : Int) else 0) = u := ⟨_, rfl⟩
  have HC : Hid (frI [t, u] = isC x) := by
    show _ = _
    unfold isC frI frI frI
    rw [ht, ← hu, ← hb]
    by_cases q : t = 0
    · rw [if_pos q, if_pos q]
      by_cases r : x.k = 1
      · simp [r]
      · simp [r]
    · rw [if_neg q, if_neg q]
  have HR : Hid (∀ w, Calls Try.prog 44 #[.bool b, .int .i64 1] w fun e w' => e = .returned (.int .i64 u) ∧ w = w') := fun w => by rw [← hu]; exact reasonIf_c b 1 w
  obtain ⟨x0, x1, x2, x3, x4⟩ := HX
  simp only [Nat.zero_add] at x0 x1 x2 x3 x4
  clear ht hu
  go_enter Try.func45, Try.ntmps45
  go_upto_region 1 with fail
  rw [← hV]
  clear hV
  go_region_held3 (fun w' => KW V w') (first | exact hS | exact kp_drew _ | exact kpE_new (by assumption) _ | assumption)
    (first | (go_at_call 35; refine (HT.out _).mono ?_; rintro e w' ⟨rfl, hb2⟩; have hS := kp_step (by assumption) hb2) | (go_at_call 44; refine (HR.out _).mono ?_; rintro e w' ⟨rfl, rfl⟩) | (go_at_call 43; refine (reasons2_c _ t u _ ?_ ?_).mono ?_; (· simp [go_sem]); (· simp [go_sem]); rintro e w' ⟨rfl, rfl⟩; rw [HC.out]))
  have hS3 := kpE_new hS (.cells #[.int .i64 t, .int .i64 u] 2)
  go_wp2
  go_ret
  exact ⟨rfl, BV.trans (hS3.2.mono BV.size)⟩

end Go.Proofs.Ythogdfnaojijhaa

namespace Go.Proofs.Ythogdfnaojijhaa
open Go.RowKit

/-- The set of one principal. -/
def bitI (p : Int) : Int := ((2 ^ (p - 1).toNat : Nat) : Int)

/-- The set of the first k of a list. -/
def orTo (ys : List Int) : Nat → Int
  | 0 => 0
  | k + 1 => bits .or .i64 (orTo ys k) (bitI (ys[k]?.getD 0))

/-- The first k are principals. -/
def okTo (ys : List Int) (k : Nat) : Prop := ∀ j, j < k → 1 ≤ ys[j]?.getD 0 ∧ ys[j]?.getD 0 ≤ 8

theorem or_dec : ∀ n : Fin 256, ∀ k : Fin 8, bits .or .u8 ((n.val : Nat) : Int) ((2 ^ k.val : Nat) : Int) = bits .or .i64 ((n.val : Nat) : Int) ((2 ^ k.val : Nat) : Int) ∧ 0 ≤ bits .or .i64 ((n.val : Nat) : Int) ((2 ^ k.val : Nat) : Int) ∧ bits .or .i64 ((n.val : Nat) : Int) ((2 ^ k.val : Nat) : Int) ≤ 255 := by
  decide +kernel

theorem or_u8 (m p : Int) (h0 : 0 ≤ m) (h1 : m ≤ 255) (p0 : 1 ≤ p) (p1 : p ≤ 8) :
    bits .or .u8 m (bitI p) = bits .or .i64 m (bitI p) ∧ 0 ≤ bits .or .i64 m (bitI p) ∧ bits .or .i64 m (bitI p) ≤ 255 := by
  obtain ⟨n, rfl⟩ := Int.eq_ofNat_of_zero_le h0
  exact or_dec ⟨n, by omega⟩ ⟨(p - 1).toNat, by omega⟩

theorem orTo_bd (ys : List Int) (k : Nat) (h : okTo ys k) : 0 ≤ orTo ys k ∧ orTo ys k ≤ 255 := by
  induction k with
  | zero => simp [orTo]
  | succ k ih =>
    have i := ih (fun j hj => h j (by omega))
    have y := h k (by omega)
    exact (or_u8 _ _ i.1 i.2 y.1 y.2).2

theorem okTo_or_first (ys : List Int) (n : Nat) : okTo ys n ∨ ∃ j, j < n ∧ okTo ys j ∧ ¬ (1 ≤ ys[j]?.getD 0 ∧ ys[j]?.getD 0 ≤ 8) := by
  induction n with
  | zero => exact .inl (fun j hj => by omega)
  | succ n ih =>
    rcases ih with h | ⟨j, hj, h⟩
    · by_cases hb : 1 ≤ ys[n]?.getD 0 ∧ ys[n]?.getD 0 ≤ 8
      · refine .inl (fun j hj => ?_)
        by_cases e : j = n
        · subst e; exact hb
        · exact h j (by omega)
      · exact .inr ⟨n, by omega, h, hb⟩
    · exact .inr ⟨j, by omega, h⟩

end Go.Proofs.Ythogdfnaojijhaa

namespace Go.Proofs.Ythogdfnaojijhaa
open Go.RowKit
set_option linter.unusedVariables false

set_option maxHeartbeats 400000 in
theorem l1Bit_c (p : Int) (p0 : 1 ≤ p) (p1 : p ≤ 8) (w : World) :
    Calls Try.prog 82 #[.int .i64 p] w fun e w' => e = .returned (.int .i64 (bitI p)) ∧ w = w' := by
  have hp : p = 1 ∨ p = 2 ∨ p = 3 ∨ p = 4 ∨ p = 5 ∨ p = 6 ∨ p = 7 ∨ p = 8 := by omega
  rcases hp with rfl | rfl | rfl | rfl | rfl | rfl | rfl | rfl
  all_goals
    go_enter Try.func82, Try.ntmps82
    go_wp2
    go_ret
    exact ⟨rfl, rfl⟩

set_option maxHeartbeats 400000 in
theorem bitOf_c (p : Int) (p0 : 1 ≤ p) (p1 : p ≤ 8) (w : World) :
    Calls Try.prog 84 #[.int .i64 p] w fun e w' => e = .returned (.int .u8 (bitI p)) ∧ w = w' := by
  have hp : p = 1 ∨ p = 2 ∨ p = 3 ∨ p = 4 ∨ p = 5 ∨ p = 6 ∨ p = 7 ∨ p = 8 := by omega
  rcases hp with rfl | rfl | rfl | rfl | rfl | rfl | rfl | rfl
  all_goals
    go_enter Try.func84, Try.ntmps84
    go_wp2
    go_ret
    exact ⟨rfl, rfl⟩

end Go.Proofs.Ythogdfnaojijhaa

namespace Go.Proofs.Ythogdfnaojijhaa
open Go.RowKit Go.Shelf
attribute [local go_sem] Oper.semAt_some
set_option linter.unusedVariables false

theorem wide_fn (k : FuncId) : Fence.wide.fn k = True := eq_true trivial
attribute [local go_sem] wide_fn
attribute [local simp] wide_fn

theorem listTo_pre (s : Int) (k m : Nat) (h : k ≤ m) : listTo s k <+: listTo s m := by
  induction m with
  | zero =>
    have e : k = 0 := by omega
    subst e; exact List.prefix_refl _
  | succ m ih =>
    by_cases e : k = m + 1
    · subst e; exact List.prefix_refl _
    · have := ih (by omega)
      simp only [listTo]
      split
      · exact this.trans (List.prefix_append _ _)
      · exact this

theorem listTo_lt (s : Int) (k m : Nat) (h : k < m) (hh : hasI s ((k : Int) + 1) = true) : (listTo s k).length < (listTo s m).length := by
  have h1 := (listTo_pre s (k + 1) m (by omega)).length_le
  rw [listTo_hit s k hh] at h1
  simp at h1
  omega

/-- A round leaves block b as it was. -/
def KeepBox (b : Nat) (W W' : World) : Prop := W'.heap[b]? = W.heap[b]?

theorem grown_drewN (W : World) (m : Nat) : W.grownBy (W.drewN m) none := ⟨rfl, rfl, rfl, Nat.le_refl _, fun _ _ _ => rfl⟩
theorem grown_drew (W : World) : W.grownBy W.drew none := ⟨rfl, rfl, rfl, Nat.le_refl _, fun _ _ _ => rfl⟩

set_option maxRecDepth 100000 in
set_option maxHeartbeats 1000000 in
theorem prin1_in (n : Nat) (hn : 1 ≤ n) (l Bn B : Nat) (s : Int) (s0 : 0 ≤ s) (s1 : s ≤ 255) (J Jx : List Int → World → Prop) (hJ : AbidesFrom B J)
    (hY : ∀ pre x W, J pre W → pre.length < (listTo s 8).length → 1 ≤ x → x ≤ 8 → YieldAt Fence.wide (n - 1) Try.prog l #[.int .i64 x] W fun e W' =>
      (e = .returned (.bool true) ∧ J (pre ++ [x]) W' ∧ KeepBox Bn W W') ∨ (e = .returned (.bool false) ∧ Jx (pre ++ [x]) W'))
    (W : World) (hBn : W.cell? ⟨Bn, 0, none⟩ = some (.int .u8 s)) (h0 : J [] W) :
    CallsIn Fence.wide n Try.prog 83 #[.func (.yield l) #[] #[], .pointer (some ⟨Bn, 0, none⟩)] W fun e W' => (∃ v, e = .returned v) ∧
      ((∃ ys, ys = listTo s 8 ∧ J ys W') ∨ (∃ pre, pre <+: listTo s 8 ∧ Jx pre W')) := by
  refine callsIn_of_wp Try.func83 rfl trivial ?_ rfl
  simp only [Try.ntmps83, List.size_toArray, List.length_cons, List.length_nil, Nat.reduceAdd, Nat.reduceSub, Array.replicate_succ, Array.replicate_zero, List.push_toArray, List.append_toArray, List.nil_append, List.cons_append]
  gi_wp2
  gi_loopw [3] (fun p wr => ∃ (k : Nat), k ≤ 8 ∧ p = .int .i64 ((k : Int) + 1) ∧ wr.cell? ⟨Bn, 0, none⟩ = some (.int .u8 s) ∧ J (listTo s k) wr)
    (fun p _ => 9 - (intOf p).toNat)
  case atStart => exact ⟨0, Nat.zero_le _, rfl, hBn, h0⟩
  case round =>
    obtain ⟨k, hk, rfl, hc, hJs⟩ := hrel
    by_cases hlt : k < 8
    · have hlt' : (k : Int) + 1 ≤ 8 := by omega
      cases hh : hasI s ((k : Int) + 1) with
      | true =>
        have e2 : (bits .and .u8 s (bitI ((k : Int) + 1)) != 0) = true := by rw [← hh]; exact and_u8 s _ s0 s1 (by omega) (by omega)
        have HH : Hid (hasI s ((k : Int) + 1) = true) := hh
        clear hh
        have hJd := hJ _ wr wr.drew none hJs (grown_drew wr) (fun r e => by cases e)
        have hcd : wr.drew.cell? ⟨Bn, 0, none⟩ = some (.int .u8 s) := hc
        obtain ⟨fn, tmps, assign, body, hy, hR⟩ := hY _ ((k : Int) + 1) wr.drew hJd (listTo_lt s k 8 hlt HH.out) (by omega) (by omega)
        have hR' := hR.mono (R' := fun e W' => ∃ b : Bool, e = .returned (.bool b) ∧ Hid ((b = true ∧ J (listTo s k ++ [(k : Int) + 1]) W' ∧ KeepBox Bn wr.drew W') ∨ (b = false ∧ Jx (listTo s k ++ [(k : Int) + 1]) W'))) (by
          rintro e W' (⟨rfl, h⟩ | ⟨rfl, h⟩)
          · exact ⟨true, rfl, .inl ⟨rfl, h⟩⟩
          · exact ⟨false, rfl, .inr ⟨rfl, h⟩⟩)
        clear hR hY hJ hJd hJs h0
        gi_wp2
        gi_region_with (first | (gi_at_call 84; refine (callsIn_wide.2 (bitOf_c ((k : Int) + 1) (by omega) (by omega) _)).mono ?_; rintro e w' ⟨rfl, rfl⟩) | (refine hR'.mono ?_; rintro e W3 ⟨b, rfl, HD⟩))
        all_goals
          rcases HD.out with ⟨rfl, hJ3, hk3⟩ | ⟨rfl, hJx3⟩
          · have hc3 : W3.cell? ⟨Bn, 0, none⟩ = some (.int .u8 s) := (World.cell?_of_block (a := ⟨Bn, 0, none⟩) hk3).trans hcd
            gi_wp2
            go_roundw
            case rel => exact ⟨k + 1, by omega, by go_num, hc3, by rw [listTo_hit s k HH.out]; exact hJ3⟩
            case measure => simp [intOf]; omega
          · gi_wp2
            refine bodyPost_ret (results_none rfl _ _ _) rfl ?_
            exact ⟨⟨_, rfl⟩, .inr ⟨_, by have hp := listTo_pre s (k + 1) 8 (by omega); rw [listTo_hit s k HH.out] at hp; exact hp, hJx3⟩⟩
      | false =>
        have e2 : (bits .and .u8 s (bitI ((k : Int) + 1)) != 0) = false := by rw [← hh]; exact and_u8 s _ s0 s1 (by omega) (by omega)
        have HH : Hid (hasI s ((k : Int) + 1) = false) := hh
        clear hh
        have HJ : Hid (∀ m, J (listTo s (k + 1)) (wr.drewN m)) := by rw [listTo_miss s k HH.out]; exact fun m => hJ _ wr (wr.drewN m) none hJs (grown_drewN wr m) (fun r e => by cases e)
        clear hY hJ hJs h0
        gi_wp2
        gi_big_quiet_th ((gi_at_call 84; refine CallsIn.quiet_of_same ((callsIn_wide.2 (bitOf_c ((k : Int) + 1) (by omega) (by omega) _)).mono (fun _ _ h => ⟨h.1, h.2.symm⟩))))
        gi_wp2
        go_roundw
        case rel => exact ⟨k + 1, by omega, by go_num, hc, HJ.out _⟩
        case measure => simp [intOf]; omega
    · have hk8 : k = 8 := by omega
      subst hk8
      gi_wp2
      go_end0
      exact ⟨⟨_, rfl⟩, .inl ⟨_, rfl, hJs⟩⟩

set_option maxHeartbeats 1000000 in
theorem prin_in (n : Nat) (s : Int) (w : World) :
    CallsIn Fence.wide n Try.prog 73 #[.int .u8 s] w fun e w' => e = .returned (.func (.func 83) #[] #[.pointer (some ⟨w.heap.size, 0, none⟩)]) ∧ w.alloc (.cells #[.int .u8 s] 110) = w' := by
  refine callsIn_of_wp Try.func73 rfl trivial ?_ rfl
  simp only [Try.ntmps73, List.size_toArray, List.length_cons, List.length_nil, Nat.reduceAdd, Nat.reduceSub, Array.replicate_succ, Array.replicate_zero, List.push_toArray, List.append_toArray, List.nil_append, List.cons_append]
  gi_wp2
  go_ret
  exact ⟨rfl, rfl⟩

theorem prin_stops (n : Nat) (hn : 1 ≤ n) (Bn : Nat) (s : Int) (s0 : 0 ≤ s) (s1 : s ≤ 255) (w : World) (hBn : Bn < w.heap.size) (hc : w.cell? ⟨Bn, 0, none⟩ = some (.int .u8 s)) :
    SeqStopsK Fence.wide n Try.prog 83 #[.pointer (some ⟨Bn, 0, none⟩)] (fun x : Int => #[Value.int .i64 x]) (KeepBox Bn) (fun ys => ys = listTo s 8) (fun pre => pre <+: listTo s 8) (listTo s 8).length w := fun l J Jx W hW hJ _ hY h0 =>
  prin1_in n hn l Bn W.heap.size s s0 s1 J Jx hJ (fun pre x W hj hl _ _ => hY pre x W hj hl) W ((hW.cell (p := ⟨Bn, 0, none⟩) hBn).trans hc) h0

/-- A principal, with what it is bound to. -/
abbrev P8 := { x : Int // 1 ≤ x ∧ x ≤ 8 }

theorem prin_stops8 (n : Nat) (hn : 1 ≤ n) (Bn : Nat) (s : Int) (s0 : 0 ≤ s) (s1 : s ≤ 255) (w : World) (hBn : Bn < w.heap.size) (hc : w.cell? ⟨Bn, 0, none⟩ = some (.int .u8 s)) :
    SeqStopsK Fence.wide n Try.prog 83 #[.pointer (some ⟨Bn, 0, none⟩)] (fun x : P8 => #[Value.int .i64 x.1]) (KeepBox Bn) (fun ys => ys.map (·.1) = listTo s 8) (fun pre => pre.map (·.1) <+: listTo s 8) (listTo s 8).length w := fun l J Jx W hW hJ _ hY h0 => by
  have hY' : ∀ (pre : List Int) (x : Int) (W1 : World), (∃ p : List P8, p.map (·.1) = pre ∧ J p W1) → pre.length < (listTo s 8).length → 1 ≤ x → x ≤ 8 → YieldAt Fence.wide (n - 1) Try.prog l #[.int .i64 x] W1 fun e W' =>
      (e = .returned (.bool true) ∧ (∃ p : List P8, p.map (·.1) = pre ++ [x] ∧ J p W') ∧ KeepBox Bn W1 W') ∨ (e = .returned (.bool false) ∧ (∃ p : List P8, p.map (·.1) = pre ++ [x] ∧ Jx p W')) := by
    rintro pre x W1 ⟨p, rfl, hj⟩ hl x1 x8
    obtain ⟨fn, tmps, assign, body, hy, hR⟩ := hY p ⟨x, x1, x8⟩ W1 hj (by simpa using hl)
    refine ⟨fn, tmps, assign, body, hy, hR.mono ?_⟩
    rintro e W' (⟨he, h1, h2⟩ | ⟨he, h1⟩)
    · exact .inl ⟨he, ⟨p ++ [⟨x, x1, x8⟩], by simp, h1⟩, h2⟩
    · exact .inr ⟨he, ⟨p ++ [⟨x, x1, x8⟩], by simp, h1⟩⟩
  refine (prin1_in n hn l Bn W.heap.size s s0 s1 (fun pre W1 => ∃ p : List P8, p.map (·.1) = pre ∧ J p W1) (fun pre W1 => ∃ p : List P8, p.map (·.1) = pre ∧ Jx p W1)
    (fun pre X Y row ⟨p, hp, hj⟩ hg hr => ⟨p, hp, hJ p X Y row hj hg hr⟩) hY' W ((hW.cell (p := ⟨Bn, 0, none⟩) hBn).trans hc) ⟨[], rfl, h0⟩).mono ?_
  rintro e W' ⟨hv, ⟨ys, rfl, p, hp, hj⟩ | ⟨pre, hpre, p, hp, hj⟩⟩
  · exact ⟨hv, .inl ⟨p, hp, hj⟩⟩
  · exact ⟨hv, .inr ⟨p, by show p.map (·.1) <+: listTo s 8; rw [hp]; exact hpre, hj⟩⟩

end Go.Proofs.Ythogdfnaojijhaa
