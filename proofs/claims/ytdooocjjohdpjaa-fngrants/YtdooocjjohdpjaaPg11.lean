/-
  CONTRACT: (impl.grantMap).give: a set given to a role in the map.
  Conditions: each contract bears its own.
  CONTRACTS of impl's iterator over the principals of a set, and of impl.ListOf.
  Conditions: each contract bears its own.
  CONTRACT: (impl.grantMap).linked: the sets of the roles of one name, of all owners in a set, joined.
  Conditions: each contract bears its own.
  CONTRACTS on rules in impl: bodyOf; the type switch.
  Conditions: each contract bears its own.
-/
import Derived.Test.YtdooocjjohdpjaaPg10
import Derived.WalkSmall
import Derived.BigRegion
import Derived.BigQuiet
import Derived.Deep.QuietTactic
import Derived.RangeFuncNested
import Derived.RangeFuncBound
import Derived.RangeFuncCalls
import Derived.RangeFuncBox
import Derived.RangeFuncLeaves
import Derived.Shelf.Abstract
import Derived.WalkKit
import Derived.OwnWalkIn
import Derived.TacticsInMore
import Derived.LoopNIn
import Derived.LoopIn
import Derived.Maps.AppendAt
import Derived.Stop.RegionWithIn
import Derived.Sort.BigQuietIn
import Derived.Outline
import Derived.Test.YtdooocjjohdpjaaPg07
import Derived.RegionIn
import Derived.BigRegionIn
import Derived.Test.YtdooocjjohdpjaaPg01
namespace Go.Proofs.Ytdooocjjohdpjaa
open Go.RowKit Go.Maps
open Go.ChangeMaps (setBlock heap_setBlock_same heap_setBlock_other)
set_option linter.unusedVariables false
set_option linter.unusedSimpArgs false

theorem heap_alloc_old (w : World) (o : Obj) {i : Nat} (h : i < w.heap.size) : (w.alloc o).heap[i]? = w.heap[i]? := (MapKept.heap_alloc w o).2 i h

theorem grown_mp {w : World} {b : Nat} {es es' : Array MapEntry} {c c' : Nat} (hb : w.heap[b]? = some (.map es c)) : w.grownBy (setBlock w b (.map es' c')) (some b) :=
  ⟨rfl, rfl, rfl, by simp [setBlock], fun i _ hi => heap_setBlock_other hb _ (fun e => hi (by rw [e]))⟩

theorem grown_dr (w : World) : w.grownBy w.drew none := ⟨rfl, rfl, rfl, Nat.le_refl _, fun _ _ _ => rfl⟩

theorem grown_two {a b c : World} {j : Nat} (h : a.grownBy b (some j)) (k : b.grownBy c (some j)) : a.grownBy c (some j) := h.andThen k (fun _ e => .inr e)

set_option maxRecDepth 100000 in
set_option maxHeartbeats 1000000 in
theorem give_c (b : Nat) (f : RoI → Int) (r : RoI) (s : Int) (w : World) (h : GM w b f) (hr : roleB r.1 r.2 = true) (hs : setB s) :
    Calls Try.prog 106 #[.map (some b), .agg #[.int .i64 r.1, .int .i64 r.2], .int .u8 s] w fun e w' => e = .returned (.bool (!decide (orI (f r) s = f r))) ∧ GM w' b (giveF f r s) ∧ w.grownBy w' (some b) := by
  obtain ⟨es, es1, clock, clock1, st, hb, E⟩ := entry_is h hr
  have hlt := h.lt
  have hfn := h.fn
  have hn := u8_not s (f r) hs (hfn.st r)
  have hba : (w.alloc (.cells #[.int .i64 r.1, .int .i64 r.2] 35)).heap[b]? = some (.map es clock) := (heap_alloc_old w _ hlt).trans hb
  have hl0 := E.look0 _ hba
  by_cases hsame : orI (f r) s = f r
  · have hz := hn.2.2.2 hsame
    go_enter Try.func106, Try.ntmps106
    go_wp2
    go_ret
    rw [decide_eq_true hsame, give_same hsame]
    exact ⟨rfl, gm_heap h (heap_alloc_old w _ hlt), (World.grownBy_alloc w _ none).but _⟩
  · obtain ⟨g, hg⟩ : ∃ g, bits .andNot .u8 s (f r) = g := ⟨_, rfl⟩
    have hg0 : g ≠ 0 := fun e => hsame (hn.2.2.1 (hg.trans e))
    clear hn
    go_enter Try.func106, Try.ntmps106
    go_wp2
    have c0 : (w.alloc (.cells #[.int .i64 r.1, .int .i64 r.2] 35)).cell? ⟨w.heap.size, 0, none⟩ = some (.int .i64 r.1) := by unfold World.cell?; rw [(MapKept.heap_alloc w _).1]; rfl
    have c1 : (w.alloc (.cells #[.int .i64 r.1, .int .i64 r.2] 35)).cell? ⟨w.heap.size, 1, none⟩ = some (.int .i64 r.2) := by unfold World.cell?; rw [(MapKept.heap_alloc w _).1]; rfl
    have hgr : w.grownBy (w.alloc (.cells #[.int .i64 r.1, .int .i64 r.2] 35)) none := World.grownBy_alloc w _ none
    generalize w.alloc (.cells #[.int .i64 r.1, .int .i64 r.2] 35) = w1 at *
    have hso : setB (orI (f r) s) := or_set (hfn.st r) hs
    have hor : bits .or .u8 (f r) s = orI (f r) s := u8_or _ _ (hfn.st r) hs
    have hs0 : orI (f r) s ≠ 0 := fun e => hsame (by have := or_le (hfn.st r) hs; have := (hfn.st r).1; omega)
    have a1 := E.ask w1.drew hba
    have l0 := E.look0 w1.drew hba
    have hb2 : (setBlock w1.drew b (.map es1 clock1)).heap[b]? = some (.map es1 clock1) := heap_setBlock_same (w := w1.drew) hba _
    have l1 := E.look1 _ hb2
    obtain ⟨es2, clock2, w2, hgm⟩ := E.write _ _ hb2 hso hs0
    have k3 : w1.drew.grownBy (setBlock w1.drew b (.map es1 clock1)) (some b) := grown_mp (w := w1.drew) hba
    generalize setBlock w1.drew b (.map es1 clock1) = w3 at *
    have k4 : w3.grownBy (setBlock w3 b (.map es2 clock2)) (some b) := grown_mp hb2
    generalize setBlock w3 b (.map es2 clock2) = w4 at *
    have k5 : w.grownBy w4 (some b) := grown_two (grown_two (grown_two (hgr.but _) ((grown_dr w1).but _)) k3) k4
    clear hgr k3 k4
    have w2' : (Instr.entryStore 87 (.map (some b)) (.int .i64 (st : Int)) (.int .u8 (orI (f r) s))).run Try.prog w3 = .ok () w4 := w2
    clear E w2
    go_region
    go_wp2
    go_ret
    rw [decide_eq_false hsame]
    exact ⟨rfl, hgm, k5⟩

end Go.Proofs.Ytdooocjjohdpjaa

namespace Go.Proofs.Ytdooocjjohdpjaa
open Go.RowKit Go.Shelf
attribute [local go_sem] Oper.semAt_some
set_option linter.unusedVariables false

theorem wide_fn (k : FuncId) : Fence.wide.fn k = True := eq_true trivial
attribute [local go_sem] wide_fn
attribute [local simp] wide_fn

theorem listTo_pre (s : Int) (k m : Nat) (h : k ≤ m) : listTo s k <+: listTo s m := by
  induction m with
  | zero =>
    have e : k = 0 := by omega
    subst e; exact List.prefix_refl _
  | succ m ih =>
    by_cases e : k = m + 1
    · subst e; exact List.prefix_refl _
    · have := ih (by omega)
      simp only [listTo]
      split
      · exact this.trans (List.prefix_append _ _)
      · exact this

theorem listTo_lt (s : Int) (k m : Nat) (h : k < m) (hh : hasI s ((k : Int) + 1) = true) : (listTo s k).length < (listTo s m).length := by
  have h1 := (listTo_pre s (k + 1) m (by omega)).length_le
  rw [listTo_hit s k hh] at h1
  simp at h1
  omega

/-- A round leaves block b as it was. -/
def KeepBox (b : Nat) (W W' : World) : Prop := W'.heap[b]? = W.heap[b]?

theorem grown_drewN (W : World) (m : Nat) : W.grownBy (W.drewN m) none := ⟨rfl, rfl, rfl, Nat.le_refl _, fun _ _ _ => rfl⟩
theorem grown_drew (W : World) : W.grownBy W.drew none := ⟨rfl, rfl, rfl, Nat.le_refl _, fun _ _ _ => rfl⟩

set_option maxRecDepth 100000 in
set_option maxHeartbeats 1000000 in
theorem prin1_in (n : Nat) (hn : 1 ≤ n) (l Bn B : Nat) (s : Int) (s0 : 0 ≤ s) (s1 : s ≤ 255) (J Jx : List Int → World → Prop) (hJ : AbidesFrom B J)
    (hY : ∀ pre x W, J pre W → pre.length < (listTo s 8).length → 1 ≤ x → x ≤ 8 → YieldAt Fence.wide (n - 1) Try.prog l #[.int .i64 x] W fun e W' =>
      (e = .returned (.bool true) ∧ J (pre ++ [x]) W' ∧ KeepBox Bn W W') ∨ (e = .returned (.bool false) ∧ Jx (pre ++ [x]) W'))
    (W : World) (hBn : W.cell? ⟨Bn, 0, none⟩ = some (.int .u8 s)) (h0 : J [] W) :
    CallsIn Fence.wide n Try.prog 140 #[.func (.yield l) #[] #[], .pointer (some ⟨Bn, 0, none⟩)] W fun e W' => (∃ v, e = .returned v) ∧
      ((∃ ys, ys = listTo s 8 ∧ J ys W') ∨ (∃ pre, pre <+: listTo s 8 ∧ Jx pre W')) := by
  refine callsIn_of_wp Try.func140 rfl trivial ?_ rfl
  simp only [Try.ntmps140, List.size_toArray, List.length_cons, List.length_nil, Nat.reduceAdd, Nat.reduceSub, Array.replicate_succ, Array.replicate_zero, List.push_toArray, List.append_toArray, List.nil_append, List.cons_append]
  gi_wp2
  gi_loopw [3] (fun p wr => ∃ (k : Nat), k ≤ 8 ∧ p = .int .i64 ((k : Int) + 1) ∧ wr.cell? ⟨Bn, 0, none⟩ = some (.int .u8 s) ∧ J (listTo s k) wr)
    (fun p _ => 9 - (intOf p).toNat)
  case atStart => exact ⟨0, Nat.zero_le _, rfl, hBn, h0⟩
  case round =>
    obtain ⟨k, hk, rfl, hc, hJs⟩ := hrel
    by_cases hlt : k < 8
    · have hlt' : (k : Int) + 1 ≤ 8 := by omega
      cases hh : hasI s ((k : Int) + 1) with
      | true =>
        have e2 : (bits .and .u8 s (bitI ((k : Int) + 1)) != 0) = true := by rw [← hh]; exact and_u8 s _ s0 s1 (by omega) (by omega)
        have HH : Hid (hasI s ((k : Int) + 1) = true) := hh
        clear hh
        have hJd := hJ _ wr wr.drew none hJs (grown_drew wr) (fun r e => by cases e)
        have hcd : wr.drew.cell? ⟨Bn, 0, none⟩ = some (.int .u8 s) := hc
        obtain ⟨fn, tmps, assign, body, hy, hR⟩ := hY _ ((k : Int) + 1) wr.drew hJd (listTo_lt s k 8 hlt HH.out) (by omega) (by omega)
        have hR' := hR.mono (R' := fun e W' => ∃ b : Bool, e = .returned (.bool b) ∧ Hid ((b = true ∧ J (listTo s k ++ [(k : Int) + 1]) W' ∧ KeepBox Bn wr.drew W') ∨ (b = false ∧ Jx (listTo s k ++ [(k : Int) + 1]) W'))) (by
          rintro e W' (⟨rfl, h⟩ | ⟨rfl, h⟩)
          · exact ⟨true, rfl, .inl ⟨rfl, h⟩⟩
          · exact ⟨false, rfl, .inr ⟨rfl, h⟩⟩)
        clear hR hY hJ hJd hJs h0
        gi_wp2
        gi_region_with (first | (gi_at_call 141; refine (callsIn_wide.2 (bitOf_c ((k : Int) + 1) (by omega) (by omega) _)).mono ?_; rintro e w' ⟨rfl, rfl⟩) | (refine hR'.mono ?_; rintro e W3 ⟨b, rfl, HD⟩))
        all_goals
          rcases HD.out with ⟨rfl, hJ3, hk3⟩ | ⟨rfl, hJx3⟩
          · have hc3 : W3.cell? ⟨Bn, 0, none⟩ = some (.int .u8 s) := (World.cell?_of_block (a := ⟨Bn, 0, none⟩) hk3).trans hcd
            gi_wp2
            go_roundw
            case rel => exact ⟨k + 1, by omega, by go_num, hc3, by rw [listTo_hit s k HH.out]; exact hJ3⟩
            case measure => simp [intOf]; omega
          · gi_wp2
            refine bodyPost_ret (results_none rfl _ _ _) rfl ?_
            exact ⟨⟨_, rfl⟩, .inr ⟨_, by have hp := listTo_pre s (k + 1) 8 (by omega); rw [listTo_hit s k HH.out] at hp; exact hp, hJx3⟩⟩
      | false =>
        have e2 : (bits .and .u8 s (bitI ((k : Int) + 1)) != 0) = false := by rw [← hh]; exact and_u8 s _ s0 s1 (by omega) (by omega)
        have HH : Hid (hasI s ((k : Int) + 1) = false) := hh
        clear hh
        have HJ : Hid (∀ m, J (listTo s (k + 1)) (wr.drewN m)) := by rw [listTo_miss s k HH.out]; exact fun m => hJ _ wr (wr.drewN m) none hJs (grown_drewN wr m) (fun r e => by cases e)
        clear hY hJ hJs h0
        gi_wp2
        gi_big_quiet_th ((gi_at_call 141; refine CallsIn.quiet_of_same ((callsIn_wide.2 (bitOf_c ((k : Int) + 1) (by omega) (by omega) _)).mono (fun _ _ h => ⟨h.1, h.2.symm⟩))))
        gi_wp2
        go_roundw
        case rel => exact ⟨k + 1, by omega, by go_num, hc, HJ.out _⟩
        case measure => simp [intOf]; omega
    · have hk8 : k = 8 := by omega
      subst hk8
      gi_wp2
      go_end0
      exact ⟨⟨_, rfl⟩, .inl ⟨_, rfl, hJs⟩⟩

set_option maxHeartbeats 1000000 in
theorem prin_in (n : Nat) (s : Int) (w : World) :
    CallsIn Fence.wide n Try.prog 96 #[.int .u8 s] w fun e w' => e = .returned (.func (.func 140) #[] #[.pointer (some ⟨w.heap.size, 0, none⟩)]) ∧ w.alloc (.cells #[.int .u8 s] 97) = w' := by
  refine callsIn_of_wp Try.func96 rfl trivial ?_ rfl
  simp only [Try.ntmps96, List.size_toArray, List.length_cons, List.length_nil, Nat.reduceAdd, Nat.reduceSub, Array.replicate_succ, Array.replicate_zero, List.push_toArray, List.append_toArray, List.nil_append, List.cons_append]
  gi_wp2
  go_ret
  exact ⟨rfl, rfl⟩

theorem prin_stops (n : Nat) (hn : 1 ≤ n) (Bn : Nat) (s : Int) (s0 : 0 ≤ s) (s1 : s ≤ 255) (w : World) (hBn : Bn < w.heap.size) (hc : w.cell? ⟨Bn, 0, none⟩ = some (.int .u8 s)) :
    SeqStopsK Fence.wide n Try.prog 140 #[.pointer (some ⟨Bn, 0, none⟩)] (fun x : Int => #[Value.int .i64 x]) (KeepBox Bn) (fun ys => ys = listTo s 8) (fun pre => pre <+: listTo s 8) (listTo s 8).length w := fun l J Jx W hW hJ _ hY h0 =>
  prin1_in n hn l Bn W.heap.size s s0 s1 J Jx hJ (fun pre x W hj hl _ _ => hY pre x W hj hl) W ((hW.cell (p := ⟨Bn, 0, none⟩) hBn).trans hc) h0

/-- A principal, with what it is bound to. -/
abbrev P8 := { x : Int // 1 ≤ x ∧ x ≤ 8 }

theorem prin_stops8 (n : Nat) (hn : 1 ≤ n) (Bn : Nat) (s : Int) (s0 : 0 ≤ s) (s1 : s ≤ 255) (w : World) (hBn : Bn < w.heap.size) (hc : w.cell? ⟨Bn, 0, none⟩ = some (.int .u8 s)) :
    SeqStopsK Fence.wide n Try.prog 140 #[.pointer (some ⟨Bn, 0, none⟩)] (fun x : P8 => #[Value.int .i64 x.1]) (KeepBox Bn) (fun ys => ys.map (·.1) = listTo s 8) (fun pre => pre.map (·.1) <+: listTo s 8) (listTo s 8).length w := fun l J Jx W hW hJ _ hY h0 => by
  have hY' : ∀ (pre : List Int) (x : Int) (W1 : World), (∃ p : List P8, p.map (·.1) = pre ∧ J p W1) → pre.length < (listTo s 8).length → 1 ≤ x → x ≤ 8 → YieldAt Fence.wide (n - 1) Try.prog l #[.int .i64 x] W1 fun e W' =>
      (e = .returned (.bool true) ∧ (∃ p : List P8, p.map (·.1) = pre ++ [x] ∧ J p W') ∧ KeepBox Bn W1 W') ∨ (e = .returned (.bool false) ∧ (∃ p : List P8, p.map (·.1) = pre ++ [x] ∧ Jx p W')) := by
    rintro pre x W1 ⟨p, rfl, hj⟩ hl x1 x8
    obtain ⟨fn, tmps, assign, body, hy, hR⟩ := hY p ⟨x, x1, x8⟩ W1 hj (by simpa using hl)
    refine ⟨fn, tmps, assign, body, hy, hR.mono ?_⟩
    rintro e W' (⟨he, h1, h2⟩ | ⟨he, h1⟩)
    · exact .inl ⟨he, ⟨p ++ [⟨x, x1, x8⟩], by simp, h1⟩, h2⟩
    · exact .inr ⟨he, ⟨p ++ [⟨x, x1, x8⟩], by simp, h1⟩⟩
  refine (prin1_in n hn l Bn W.heap.size s s0 s1 (fun pre W1 => ∃ p : List P8, p.map (·.1) = pre ∧ J p W1) (fun pre W1 => ∃ p : List P8, p.map (·.1) = pre ∧ Jx p W1)
    (fun pre X Y row ⟨p, hp, hj⟩ hg hr => ⟨p, hp, hJ p X Y row hj hg hr⟩) hY' W ((hW.cell (p := ⟨Bn, 0, none⟩) hBn).trans hc) ⟨[], rfl, h0⟩).mono ?_
  rintro e W' ⟨hv, ⟨ys, rfl, p, hp, hj⟩ | ⟨pre, hpre, p, hp, hj⟩⟩
  · exact ⟨hv, .inl ⟨p, hp, hj⟩⟩
  · exact ⟨hv, .inr ⟨p, by show p.map (·.1) <+: listTo s 8; rw [hp]; exact hpre, hj⟩⟩

end Go.Proofs.Ytdooocjjohdpjaa

namespace Go.Proofs.Ytdooocjjohdpjaa
open Go.RowKit Go.Shelf Go.Maps
attribute [local go_sem] Oper.semAt_some
attribute [local go_sem] wide_fn
set_option linter.unusedVariables false
set_option linter.unusedSimpArgs false

/-- The sets joined so far. -/
def accL (f : RoI → Int) (nm : Int) (pre : List P8) : Int := (pre.map (·.1)).foldl (fun o y => orI o (f (y, nm))) 0

theorem accL_snoc (f : RoI → Int) (nm : Int) (pre : List P8) (x : P8) : accL f nm (pre ++ [x]) = orI (accL f nm pre) (f (x.1, nm)) := by
  simp [accL, List.foldl_append]

theorem accL_set {f : RoI → Int} (hf : FN f) (nm : Int) (pre : List P8) : setB (accL f nm pre) := by
  unfold accL
  exact (link_fold hf.st nm _ 0 ⟨by omega, by omega⟩).1

set_option maxRecDepth 100000 in
set_option maxHeartbeats 2000000 in
theorem linked_w (n : Nat) (hn : 3 ≤ n) (b : Nat) (f : RoI → Int) (s nm : Int) (w : World) (h : GM w b f) (hs : setB s) (n0 : 1 ≤ nm) (n1 : nm ≤ 5) :
    CallsIn Fence.wide n Try.prog 142 #[.map (some b), .int .u8 s, .int .i64 nm] w fun e W' => e = .returned (.int .u8 (linkTo f nm (listTo s 8) (listTo s 8).length)) ∧ Below w.heap.size w W' := by
  have h1 : 1 ≤ n := by omega
  have s0 := hs.1
  have s1 := hs.2
  have hfn := h.fn
  have hlt := h.lt
  refine callsIn_of_wp_marks Try.func142 rfl trivial ?_ rfl
  simp only [Try.ntmps142, List.size_toArray, List.length_cons, List.length_nil, Nat.reduceAdd, Nat.reduceSub, Array.replicate_succ, Array.replicate_zero, List.push_toArray, List.append_toArray, List.nil_append, List.cons_append]
  gi_wp2_with (gi_at_call 96; refine (prin_in _ _ _).mono ?_; rintro e w' ⟨rfl, rfl⟩)
  have bM := Boxed.new w 87 (.map (some b))
  have bN := Boxed.new (w.alloc (.cells #[.map (some b)] 87)) 2 (.int .i64 nm)
  rw [World.size_alloc] at bN
  have bA := Boxed.new ((w.alloc (.cells #[.map (some b)] 87)).alloc (.cells #[.int .i64 nm] 2)) 97 (.int .u8 0)
  rw [World.size_alloc, World.size_alloc] at bA
  have bS := Boxed.new (((w.alloc (.cells #[.map (some b)] 87)).alloc (.cells #[.int .i64 nm] 2)).alloc (.cells #[.int .u8 0] 97)) 97 (.int .u8 s)
  rw [World.size_alloc, World.size_alloc, World.size_alloc] at bS
  have bM' := ((bM.alloc (.cells #[.int .i64 nm] 2)).alloc (.cells #[.int .u8 0] 97)).alloc (.cells #[.int .u8 s] 97)
  have bN' := (bN.alloc (.cells #[.int .u8 0] 97)).alloc (.cells #[.int .u8 s] 97)
  have bA' := bA.alloc (.cells #[.int .u8 s] 97)
  obtain ⟨W0, hW0⟩ : ∃ W0, (((w.alloc (.cells #[.map (some b)] 87)).alloc (.cells #[.int .i64 nm] 2)).alloc (.cells #[.int .u8 0] 97)).alloc (.cells #[.int .u8 s] 97) = W0 := ⟨_, rfl⟩
  have hsz : W0.heap.size = w.heap.size + 4 := by rw [← hW0]; simp
  have hB0 : Below w.heap.size w W0 := by rw [← hW0]; exact ((((Below.refl _ w).alloc (Nat.le_refl _) _).alloc (by simp) _).alloc (by simp; omega) _).alloc (by simp; omega) _
  rw [hW0] at bS bA' bM' bN' ⊢
  have HB0 : Hid (Below w.heap.size w W0) := hB0
  have hG0 := h.below hlt hB0
  clear bA bM bN hW0 hB0
  refine wpIn_rangeFunc_ownG rfl h1 (gf := 140) (lb := #[.pointer (some ⟨w.heap.size + 1 + 1 + 1, 0, none⟩)]) rfl trivial (enters_of Try.func140 (by kernel_rfl) rfl)
    (prin_stops8 (n - 1) (by omega) (w.heap.size + 1 + 1 + 1) s s0 s1 W0 (by omega) bS.cell) (Kp := KeepBox (w.heap.size + 1 + 1 + 1)) (fun h k => Eq.trans k h) (fun W l o o' hl h _ _ => World.putObj_heap_other (by omega)) (Below.refl _ _) (fun _ => rfl)
    (fun pre W => (Boxed W (w.heap.size + 1 + 1) 97 (.int .u8 (accL f nm pre)) ∧ Boxed W (w.heap.size + 1 + 1 + 1) 97 (.int .u8 s)) ∧ Below (w.heap.size + 1 + 1) W0 W)
    (fun _ _ _ => False)
    (OwnFrom.and (OwnFrom.and (Own.from (boxed_own _ _ (fun pre => .int .u8 (accL f nm pre))) _) (Own.from (boxed_own _ _ (fun _ => .int .u8 s)) _)) (ownFrom_below (by omega) (by omega)))
    (fun _ _ _ _ _ hs _ _ => hs)
    ⟨⟨bA', bS⟩, Below.refl _ _⟩
    (fun x => { tmps := #[.map (some b), .int .u8 s, .int .i64 nm, .pointer (some ⟨w.heap.size, 0, none⟩), undef, .pointer (some ⟨w.heap.size + 1, 0, none⟩), .int .u8 0, .pointer (some ⟨w.heap.size + 1 + 1, 0, none⟩), .int .i64 x.1, .int .u8 s, .func (.func 140) #[] #[.pointer (some ⟨w.heap.size + 1 + 1 + 1, 0, none⟩)], .int .i64 x.1, undef, undef, undef, undef, undef, undef, undef, undef], defers := [] }) ?assign ?body ?done ?stop
  case assign =>
    intro l x W K hK
    gi_wp2
    exact hK
  case body =>
    rintro l pre x W ⟨⟨hA, hS⟩, hB⟩ hlt'
    have cA : W.drew.cell? ⟨w.heap.size + 1 + 1, 0, none⟩ = some (.int .u8 (accL f nm pre)) := hA.cell
    have fA : W.drew.frozen? ⟨w.heap.size + 1 + 1, 0, none⟩ = false := hA.frozen
    have cM : W.drew.cell? ⟨w.heap.size, 0, none⟩ = some (.map (some b)) := (hB.cell (p := ⟨w.heap.size, 0, none⟩) (by simp; omega)).trans bM'.cell
    have cN : W.drew.cell? ⟨w.heap.size + 1, 0, none⟩ = some (.int .i64 nm) := (hB.cell (p := ⟨w.heap.size + 1, 0, none⟩) (by simp)).trans bN'.cell
    have hG := hG0.below (k := w.heap.size + 1 + 1) (by omega) hB
    have hlk : (Instr.lookup 87 (.map (some b)) (.agg #[.int .i64 x.1, .int .i64 nm]) false).run Try.prog W.drew = .ok (.int .u8 (f (x.1, nm))) W.drew := gm_look (w := W.drew) (gm_heap hG rfl) (r := (x.1, nm)) (roW_of (by have := x.2; simp [roleB, prinB, nameB]; omega))
    have hor : bits .or .u8 (accL f nm pre) (f (x.1, nm)) = accL f nm (pre ++ [x]) := by rw [accL_snoc]; exact u8_or _ _ (accL_set hfn nm pre) (hfn.st _)
    have hA' : Boxed W.drew (w.heap.size + 1 + 1) 97 (.int .u8 (accL f nm pre)) := hA
    have hS' : Boxed W.drew (w.heap.size + 1 + 1 + 1) 97 (.int .u8 s) := hS
    gi_wp2
    gi_region
    all_goals exact ⟨((KeepsOthers.drew W).trans (KeepsOthers.setCell W.drew ⟨w.heap.size + 1 + 1, 0, none⟩ _)).from _, (hS'.other (by omega) _).trans hS.symm, ⟨hA'.set _, hS'.other (by omega) _⟩, (hB.drew).setCell (p := ⟨w.heap.size + 1 + 1, 0, none⟩) (Nat.le_refl _) _⟩
  case done =>
    rintro D ys W hD hys ⟨⟨hA, _⟩, hB⟩ hK
    have cA := hA.cell
    gi_wp2
    refine ⟨by simp, .inl ⟨_, _, rfl, run_takeDeferred hK, ?_⟩⟩
    refine ⟨.int .u8 (accL f nm ys), ?res, ?val, ?below⟩
    case res => simp [results, Try.results142, go_sem]
    case val =>
      have : accL f nm ys = linkTo f nm (listTo s 8) (listTo s 8).length := by
        unfold accL linkTo
        rw [List.take_length, hys]
      rw [this]
    case below => exact (HB0.out.trans (hB.mono (by omega))).trans (belowK_b (w := w) (Nat.le_refl _) _ D _ _ (by omega) hK rfl rfl)
  case stop =>
    rintro D c pre W _ _ h _
    exact h.elim

theorem linked_c (b : Nat) (f : RoI → Int) (s nm : Int) (w : World) (h : GM w b f) (hs : setB s) (n0 : 1 ≤ nm) (n1 : nm ≤ 5) :
    Calls Try.prog 142 #[.map (some b), .int .u8 s, .int .i64 nm] w fun e W' => e = .returned (.int .u8 (linkTo f nm (listTo s 8) (listTo s 8).length)) ∧ Below w.heap.size w W' :=
  callsIn_wide.1 (linked_w 3 (Nat.le_refl _) b f s nm w h hs n0 n1)

end Go.Proofs.Ytdooocjjohdpjaa

namespace Go.Proofs.Ytdooocjjohdpjaa
open Go.RowKit
set_option linter.unusedVariables false
set_option linter.unusedSimpArgs false

set_option maxHeartbeats 400000 in
theorem bodyOf_1 (r : RuleI) (h : r.k = 1) (w : World) :
    Calls Try.prog 71 #[.agg #[.int .i64 r.k, .int .i64 r.ho, .int .i64 r.hn, .int .i64 r.w, .int .i64 r.oo, .int .i64 r.on, .int .i64 r.to, .int .i64 r.tn]] w fun e w' =>
      e = .returned (.iface 161 (.agg #[.int .i64 r.w])) ∧ Below w.heap.size w w' := by
  go_enter Try.func71, Try.ntmps71
  go_wp2
  go_ret
  exact ⟨rfl, by go_grown⟩

set_option maxHeartbeats 400000 in
theorem bodyOf_2 (r : RuleI) (h : r.k = 2) (w : World) :
    Calls Try.prog 71 #[.agg #[.int .i64 r.k, .int .i64 r.ho, .int .i64 r.hn, .int .i64 r.w, .int .i64 r.oo, .int .i64 r.on, .int .i64 r.to, .int .i64 r.tn]] w fun e w' =>
      e = .returned (.iface 163 (.agg #[.int .i64 r.oo, .int .i64 r.on])) ∧ Below w.heap.size w w' := by
  go_enter Try.func71, Try.ntmps71
  go_wp2
  go_ret
  exact ⟨rfl, by go_grown⟩

set_option maxHeartbeats 400000 in
theorem bodyOf_3 (r : RuleI) (h : r.k = 3) (w : World) :
    Calls Try.prog 71 #[.agg #[.int .i64 r.k, .int .i64 r.ho, .int .i64 r.hn, .int .i64 r.w, .int .i64 r.oo, .int .i64 r.on, .int .i64 r.to, .int .i64 r.tn]] w fun e w' =>
      e = .returned (.iface 165 (.agg #[.int .i64 r.oo, .int .i64 r.on, .int .i64 r.tn])) ∧ Below w.heap.size w w' := by
  go_enter Try.func71, Try.ntmps71
  go_wp2
  go_ret
  exact ⟨rfl, by go_grown⟩

set_option maxHeartbeats 400000 in
theorem bodyOf_4 (r : RuleI) (h : r.k = 4) (w : World) :
    Calls Try.prog 71 #[.agg #[.int .i64 r.k, .int .i64 r.ho, .int .i64 r.hn, .int .i64 r.w, .int .i64 r.oo, .int .i64 r.on, .int .i64 r.to, .int .i64 r.tn]] w fun e w' =>
      e = .returned (.iface 167 (.agg #[.int .i64 r.oo, .int .i64 r.on, .int .i64 r.to, .int .i64 r.tn])) ∧ Below w.heap.size w w' := by
  go_enter Try.func71, Try.ntmps71
  go_wp2
  go_ret
  exact ⟨rfl, by go_grown⟩

set_option maxHeartbeats 400000 in
theorem bodyOf_0 (r : RuleI) (h : ¬ (1 ≤ r.k ∧ r.k ≤ 4)) (w : World) :
    Calls Try.prog 71 #[.agg #[.int .i64 r.k, .int .i64 r.ho, .int .i64 r.hn, .int .i64 r.w, .int .i64 r.oo, .int .i64 r.on, .int .i64 r.to, .int .i64 r.tn]] w fun e w' =>
      e = .returned .nilIface ∧ Below w.heap.size w w' := by
  have h1 : (r.k == 1) = false := by simp; omega
  have h2 : (r.k == 2) = false := by simp; omega
  have h3 : (r.k == 3) = false := by simp; omega
  have h4 : (r.k == 4) = false := by simp; omega
  clear h
  go_enter Try.func71, Try.ntmps71
  go_wp2
  go_ret
  exact ⟨rfl, by go_grown⟩

theorem bcell2 {W w1 : World} (hb : Below W.heap.size W w1) : (∀ b o, b < W.heap.size → w1.cell? ⟨b, o, none⟩ = W.cell? ⟨b, o, none⟩) ∧ (∀ b o, b < W.heap.size → w1.frozen? ⟨b, o, none⟩ = W.frozen? ⟨b, o, none⟩) :=
  ⟨fun b o h => hb.cell (p := ⟨b, o, none⟩) h, fun b o h => hb.frozen (p := ⟨b, o, none⟩) h⟩

/-! The type switch: which body it is. -/
theorem ta11 (cs : Array Value) (w : World) : (Instr.typeAssert (.iface 161 (.agg cs)) 106 161 true).run Try.prog w = .ok (.tuple #[.agg cs, .bool true]) w := by kernel_rfl
theorem ta12 (cs : Array Value) (w : World) : (Instr.typeAssert (.iface 161 (.agg cs)) 106 163 true).run Try.prog w = .ok (.tuple #[.agg #[.int .i64 0, .int .i64 0], .bool false]) w := by kernel_rfl
theorem ta13 (cs : Array Value) (w : World) : (Instr.typeAssert (.iface 161 (.agg cs)) 106 165 true).run Try.prog w = .ok (.tuple #[.agg #[.int .i64 0, .int .i64 0, .int .i64 0], .bool false]) w := by kernel_rfl
theorem ta14 (cs : Array Value) (w : World) : (Instr.typeAssert (.iface 161 (.agg cs)) 106 167 true).run Try.prog w = .ok (.tuple #[.agg #[.int .i64 0, .int .i64 0, .int .i64 0, .int .i64 0], .bool false]) w := by kernel_rfl
theorem ta21 (cs : Array Value) (w : World) : (Instr.typeAssert (.iface 163 (.agg cs)) 106 161 true).run Try.prog w = .ok (.tuple #[.agg #[.int .i64 0], .bool false]) w := by kernel_rfl
theorem ta22 (cs : Array Value) (w : World) : (Instr.typeAssert (.iface 163 (.agg cs)) 106 163 true).run Try.prog w = .ok (.tuple #[.agg cs, .bool true]) w := by kernel_rfl
theorem ta23 (cs : Array Value) (w : World) : (Instr.typeAssert (.iface 163 (.agg cs)) 106 165 true).run Try.prog w = .ok (.tuple #[.agg #[.int .i64 0, .int .i64 0, .int .i64 0], .bool false]) w := by kernel_rfl
theorem ta24 (cs : Array Value) (w : World) : (Instr.typeAssert (.iface 163 (.agg cs)) 106 167 true).run Try.prog w = .ok (.tuple #[.agg #[.int .i64 0, .int .i64 0, .int .i64 0, .int .i64 0], .bool false]) w := by kernel_rfl
theorem ta31 (cs : Array Value) (w : World) : (Instr.typeAssert (.iface 165 (.agg cs)) 106 161 true).run Try.prog w = .ok (.tuple #[.agg #[.int .i64 0], .bool false]) w := by kernel_rfl
theorem ta32 (cs : Array Value) (w : World) : (Instr.typeAssert (.iface 165 (.agg cs)) 106 163 true).run Try.prog w = .ok (.tuple #[.agg #[.int .i64 0, .int .i64 0], .bool false]) w := by kernel_rfl
theorem ta33 (cs : Array Value) (w : World) : (Instr.typeAssert (.iface 165 (.agg cs)) 106 165 true).run Try.prog w = .ok (.tuple #[.agg cs, .bool true]) w := by kernel_rfl
theorem ta34 (cs : Array Value) (w : World) : (Instr.typeAssert (.iface 165 (.agg cs)) 106 167 true).run Try.prog w = .ok (.tuple #[.agg #[.int .i64 0, .int .i64 0, .int .i64 0, .int .i64 0], .bool false]) w := by kernel_rfl
theorem ta41 (cs : Array Value) (w : World) : (Instr.typeAssert (.iface 167 (.agg cs)) 106 161 true).run Try.prog w = .ok (.tuple #[.agg #[.int .i64 0], .bool false]) w := by kernel_rfl
theorem ta42 (cs : Array Value) (w : World) : (Instr.typeAssert (.iface 167 (.agg cs)) 106 163 true).run Try.prog w = .ok (.tuple #[.agg #[.int .i64 0, .int .i64 0], .bool false]) w := by kernel_rfl
theorem ta43 (cs : Array Value) (w : World) : (Instr.typeAssert (.iface 167 (.agg cs)) 106 165 true).run Try.prog w = .ok (.tuple #[.agg #[.int .i64 0, .int .i64 0, .int .i64 0], .bool false]) w := by kernel_rfl
theorem ta44 (cs : Array Value) (w : World) : (Instr.typeAssert (.iface 167 (.agg cs)) 106 167 true).run Try.prog w = .ok (.tuple #[.agg cs, .bool true]) w := by kernel_rfl
theorem below_new3 {w w1 : World} {o1 o2 o3 : Obj} (h : Below (((w.alloc o1).alloc o2).alloc o3).heap.size (((w.alloc o1).alloc o2).alloc o3) w1) : Below w.heap.size w w1 := below_new (below_new (below_new h))

end Go.Proofs.Ytdooocjjohdpjaa
