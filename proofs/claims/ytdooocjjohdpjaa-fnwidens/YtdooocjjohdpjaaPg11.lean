/-
  CONTRACTS of impl's iterator over the principals of a set, and of impl.ListOf.
  Conditions: each contract bears its own.
  CONTRACT: (impl.grantMap).linked: the sets of the roles of one name, of all owners in a set, joined.
  Conditions: each contract bears its own.
  CONTRACTS on rules in impl: bodyOf; the type switch.
  Conditions: each contract bears its own.
  CONTRACT: (impl.grantMap).told: whom a rule gives its head, by what is in the map.
  Conditions: each contract bears its own.
-/
import Derived.RangeFuncNested
import Derived.RangeFuncBound
import Derived.RangeFuncCalls
import Derived.RangeFuncBox
import Derived.RangeFuncLeaves
import Derived.Shelf.Abstract
import Derived.WalkKit
import Derived.OwnWalkIn
import Derived.TacticsInMore
import Derived.LoopNIn
import Derived.LoopIn
import Derived.Maps.AppendAt
import Derived.Stop.RegionWithIn
import Derived.Sort.BigQuietIn
import Derived.Outline
import Derived.Test.YtdooocjjohdpjaaPg07
import Derived.Test.YtdooocjjohdpjaaPg10
import Derived.RegionIn
import Derived.BigRegionIn
import Derived.Test.YtdooocjjohdpjaaPg01
import Derived.Deep.RegionHeld3
import Derived.Deep.RegionWith
namespace Go.Proofs.Ytdooocjjohdpjaa
open Go.RowKit Go.Shelf
attribute [local go_sem] Oper.semAt_some
set_option linter.unusedVariables false

theorem wide_fn (k : FuncId) : Fence.wide.fn k = True := eq_true trivial
attribute [local go_sem] wide_fn
attribute [local simp] wide_fn

theorem listTo_pre (s : Int) (k m : Nat) (h : k ≤ m) : listTo s k <+: listTo s m := by
  induction m with
  | zero =>
    have e : k = 0 := by omega
    subst e; exact List.prefix_refl _
  | succ m ih =>
    by_cases e : k = m + 1
    · subst e; exact List.prefix_refl _
    · have := ih (by omega)
      simp only [listTo]
      split
      · exact this.trans (List.prefix_append _ _)
      · exact this

theorem listTo_lt (s : Int) (k m : Nat) (h : k < m) (hh : hasI s ((k : Int) + 1) = true) : (listTo s k).length < (listTo s m).length := by
  have h1 := (listTo_pre s (k + 1) m (by omega)).length_le
  rw [listTo_hit s k hh] at h1
  simp at h1
  omega

/-- A round leaves block b as it was. -/
def KeepBox (b : Nat) (W W' : World) : Prop := W'.heap[b]? = W.heap[b]?

theorem grown_drewN (W : World) (m : Nat) : W.grownBy (W.drewN m) none := ⟨rfl, rfl, rfl, Nat.le_refl _, fun _ _ _ => rfl⟩
theorem grown_drew (W : World) : W.grownBy W.drew none := ⟨rfl, rfl, rfl, Nat.le_refl _, fun _ _ _ => rfl⟩

set_option maxRecDepth 100000 in
set_option maxHeartbeats 1000000 in
theorem prin1_in (n : Nat) (hn : 1 ≤ n) (l Bn B : Nat) (s : Int) (s0 : 0 ≤ s) (s1 : s ≤ 255) (J Jx : List Int → World → Prop) (hJ : AbidesFrom B J)
    (hY : ∀ pre x W, J pre W → pre.length < (listTo s 8).length → 1 ≤ x → x ≤ 8 → YieldAt Fence.wide (n - 1) Try.prog l #[.int .i64 x] W fun e W' =>
      (e = .returned (.bool true) ∧ J (pre ++ [x]) W' ∧ KeepBox Bn W W') ∨ (e = .returned (.bool false) ∧ Jx (pre ++ [x]) W'))
    (W : World) (hBn : W.cell? ⟨Bn, 0, none⟩ = some (.int .u8 s)) (h0 : J [] W) :
    CallsIn Fence.wide n Try.prog 140 #[.func (.yield l) #[] #[], .pointer (some ⟨Bn, 0, none⟩)] W fun e W' => (∃ v, e = .returned v) ∧
      ((∃ ys, ys = listTo s 8 ∧ J ys W') ∨ (∃ pre, pre <+: listTo s 8 ∧ Jx pre W')) := by
  refine callsIn_of_wp Try.func140 rfl trivial ?_ rfl
  simp only [Try.ntmps140, List.size_toArray, List.length_cons, List.length_nil, Nat.reduceAdd, Nat.reduceSub, Array.replicate_succ, Array.replicate_zero, List.push_toArray, List.append_toArray, List.nil_append, List.cons_append]
  gi_wp2
  gi_loopw [3] (fun p wr => ∃ (k : Nat), k ≤ 8 ∧ p = .int .i64 ((k : Int) + 1) ∧ wr.cell? ⟨Bn, 0, none⟩ = some (.int .u8 s) ∧ J (listTo s k) wr)
    (fun p _ => 9 - (intOf p).toNat)
  case atStart => exact ⟨0, Nat.zero_le _, rfl, hBn, h0⟩
  case round =>
    obtain ⟨k, hk, rfl, hc, hJs⟩ := hrel
    by_cases hlt : k < 8
    · have hlt' : (k : Int) + 1 ≤ 8 := by omega
      cases hh : hasI s ((k : Int) + 1) with
      | true =>
        have e2 : (bits .and .u8 s (bitI ((k : Int) + 1)) != 0) = true := by rw [← hh]; exact and_u8 s _ s0 s1 (by omega) (by omega)
        have HH : Hid (hasI s ((k : Int) + 1) = true) := hh
        clear hh
        have hJd := hJ _ wr wr.drew none hJs (grown_drew wr) (fun r e => by cases e)
        have hcd : wr.drew.cell? ⟨Bn, 0, none⟩ = some (.int .u8 s) := hc
        obtain ⟨fn, tmps, assign, body, hy, hR⟩ := hY _ ((k : Int) + 1) wr.drew hJd (listTo_lt s k 8 hlt HH.out) (by omega) (by omega)
        have hR' := hR.mono (R' := fun e W' => ∃ b : Bool, e = .returned (.bool b) ∧ Hid ((b = true ∧ J (listTo s k ++ [(k : Int) + 1]) W' ∧ KeepBox Bn wr.drew W') ∨ (b = false ∧ Jx (listTo s k ++ [(k : Int) + 1]) W'))) (by
          rintro e W' (⟨rfl, h⟩ | ⟨rfl, h⟩)
          · exact ⟨true, rfl, .inl ⟨rfl, h⟩⟩
          · exact ⟨false, rfl, .inr ⟨rfl, h⟩⟩)
        clear hR hY hJ hJd hJs h0
        gi_wp2
        gi_region_with (first | (gi_at_call 141; refine (callsIn_wide.2 (bitOf_c ((k : Int) + 1) (by omega) (by omega) _)).mono ?_; rintro e w' ⟨rfl, rfl⟩) | (refine hR'.mono ?_; rintro e W3 ⟨b, rfl, HD⟩))
        all_goals
          rcases HD.out with ⟨rfl, hJ3, hk3⟩ | ⟨rfl, hJx3⟩
          · have hc3 : W3.cell? ⟨Bn, 0, none⟩ = some (.int .u8 s) := (World.cell?_of_block (a := ⟨Bn, 0, none⟩) hk3).trans hcd
            gi_wp2
            go_roundw
            case rel => exact ⟨k + 1, by omega, by go_num, hc3, by rw [listTo_hit s k HH.out]; exact hJ3⟩
            case measure => simp [intOf]; omega
          · gi_wp2
            refine bodyPost_ret (results_none rfl _ _ _) rfl ?_
            exact ⟨⟨_, rfl⟩, .inr ⟨_, by have hp := listTo_pre s (k + 1) 8 (by omega); rw [listTo_hit s k HH.out] at hp; exact hp, hJx3⟩⟩
      | false =>
        have e2 : (bits .and .u8 s (bitI ((k : Int) + 1)) != 0) = false := by rw [← hh]; exact and_u8 s _ s0 s1 (by omega) (by omega)
        have HH : Hid (hasI s ((k : Int) + 1) = false) := hh
        clear hh
        have HJ : Hid (∀ m, J (listTo s (k + 1)) (wr.drewN m)) := by rw [listTo_miss s k HH.out]; exact fun m => hJ _ wr (wr.drewN m) none hJs (grown_drewN wr m) (fun r e => by cases e)
        clear hY hJ hJs h0
        gi_wp2
        gi_big_quiet_th ((gi_at_call 141; refine CallsIn.quiet_of_same ((callsIn_wide.2 (bitOf_c ((k : Int) + 1) (by omega) (by omega) _)).mono (fun _ _ h => ⟨h.1, h.2.symm⟩))))
        gi_wp2
        go_roundw
        case rel => exact ⟨k + 1, by omega, by go_num, hc, HJ.out _⟩
        case measure => simp [intOf]; omega
    · have hk8 : k = 8 := by omega
      subst hk8
      gi_wp2
      go_end0
      exact ⟨⟨_, rfl⟩, .inl ⟨_, rfl, hJs⟩⟩

set_option maxHeartbeats 1000000 in
theorem prin_in (n : Nat) (s : Int) (w : World) :
    CallsIn Fence.wide n Try.prog 96 #[.int .u8 s] w fun e w' => e = .returned (.func (.func 140) #[] #[.pointer (some ⟨w.heap.size, 0, none⟩)]) ∧ w.alloc (.cells #[.int .u8 s] 97) = w' := by
  refine callsIn_of_wp Try.func96 rfl trivial ?_ rfl
  simp only [Try.ntmps96, List.size_toArray, List.length_cons, List.length_nil, Nat.reduceAdd, Nat.reduceSub, Array.replicate_succ, Array.replicate_zero, List.push_toArray, List.append_toArray, List.nil_append, List.cons_append]
  gi_wp2
  go_ret
  exact ⟨rfl, rfl⟩

theorem prin_stops (n : Nat) (hn : 1 ≤ n) (Bn : Nat) (s : Int) (s0 : 0 ≤ s) (s1 : s ≤ 255) (w : World) (hBn : Bn < w.heap.size) (hc : w.cell? ⟨Bn, 0, none⟩ = some (.int .u8 s)) :
    SeqStopsK Fence.wide n Try.prog 140 #[.pointer (some ⟨Bn, 0, none⟩)] (fun x : Int => #[Value.int .i64 x]) (KeepBox Bn) (fun ys => ys = listTo s 8) (fun pre => pre <+: listTo s 8) (listTo s 8).length w := fun l J Jx W hW hJ _ hY h0 =>
  prin1_in n hn l Bn W.heap.size s s0 s1 J Jx hJ (fun pre x W hj hl _ _ => hY pre x W hj hl) W ((hW.cell (p := ⟨Bn, 0, none⟩) hBn).trans hc) h0

/-- A principal, with what it is bound to. -/
abbrev P8 := { x : Int // 1 ≤ x ∧ x ≤ 8 }

theorem prin_stops8 (n : Nat) (hn : 1 ≤ n) (Bn : Nat) (s : Int) (s0 : 0 ≤ s) (s1 : s ≤ 255) (w : World) (hBn : Bn < w.heap.size) (hc : w.cell? ⟨Bn, 0, none⟩ = some (.int .u8 s)) :
    SeqStopsK Fence.wide n Try.prog 140 #[.pointer (some ⟨Bn, 0, none⟩)] (fun x : P8 => #[Value.int .i64 x.1]) (KeepBox Bn) (fun ys => ys.map (·.1) = listTo s 8) (fun pre => pre.map (·.1) <+: listTo s 8) (listTo s 8).length w := fun l J Jx W hW hJ _ hY h0 => by
  have hY' : ∀ (pre : List Int) (x : Int) (W1 : World), (∃ p : List P8, p.map (·.1) = pre ∧ J p W1) → pre.length < (listTo s 8).length → 1 ≤ x → x ≤ 8 → YieldAt Fence.wide (n - 1) Try.prog l #[.int .i64 x] W1 fun e W' =>
      (e = .returned (.bool true) ∧ (∃ p : List P8, p.map (·.1) = pre ++ [x] ∧ J p W') ∧ KeepBox Bn W1 W') ∨ (e = .returned (.bool false) ∧ (∃ p : List P8, p.map (·.1) = pre ++ [x] ∧ Jx p W')) := by
    rintro pre x W1 ⟨p, rfl, hj⟩ hl x1 x8
    obtain ⟨fn, tmps, assign, body, hy, hR⟩ := hY p ⟨x, x1, x8⟩ W1 hj (by simpa using hl)
    refine ⟨fn, tmps, assign, body, hy, hR.mono ?_⟩
    rintro e W' (⟨he, h1, h2⟩ | ⟨he, h1⟩)
    · exact .inl ⟨he, ⟨p ++ [⟨x, x1, x8⟩], by simp, h1⟩, h2⟩
    · exact .inr ⟨he, ⟨p ++ [⟨x, x1, x8⟩], by simp, h1⟩⟩
  refine (prin1_in n hn l Bn W.heap.size s s0 s1 (fun pre W1 => ∃ p : List P8, p.map (·.1) = pre ∧ J p W1) (fun pre W1 => ∃ p : List P8, p.map (·.1) = pre ∧ Jx p W1)
    (fun pre X Y row ⟨p, hp, hj⟩ hg hr => ⟨p, hp, hJ p X Y row hj hg hr⟩) hY' W ((hW.cell (p := ⟨Bn, 0, none⟩) hBn).trans hc) ⟨[], rfl, h0⟩).mono ?_
  rintro e W' ⟨hv, ⟨ys, rfl, p, hp, hj⟩ | ⟨pre, hpre, p, hp, hj⟩⟩
  · exact ⟨hv, .inl ⟨p, hp, hj⟩⟩
  · exact ⟨hv, .inr ⟨p, by show p.map (·.1) <+: listTo s 8; rw [hp]; exact hpre, hj⟩⟩

end Go.Proofs.Ytdooocjjohdpjaa

namespace Go.Proofs.Ytdooocjjohdpjaa
open Go.RowKit Go.Shelf Go.Maps
attribute [local go_sem] Oper.semAt_some
attribute [local go_sem] wide_fn
set_option linter.unusedVariables false
set_option linter.unusedSimpArgs false

/-- The sets joined so far. -/
def accL (f : RoI → Int) (nm : Int) (pre : List P8) : Int := (pre.map (·.1)).foldl (fun o y => orI o (f (y, nm))) 0

theorem accL_snoc (f : RoI → Int) (nm : Int) (pre : List P8) (x : P8) : accL f nm (pre ++ [x]) = orI (accL f nm pre) (f (x.1, nm)) := by
  simp [accL, List.foldl_append]

theorem accL_set {f : RoI → Int} (hf : FN f) (nm : Int) (pre : List P8) : setB (accL f nm pre) := by
  unfold accL
  exact (link_fold hf.st nm _ 0 ⟨by omega, by omega⟩).1

set_option maxRecDepth 100000 in
set_option maxHeartbeats 2000000 in
theorem linked_w (n : Nat) (hn : 3 ≤ n) (b : Nat) (f : RoI → Int) (s nm : Int) (w : World) (h : GM w b f) (hs : setB s) (n0 : 1 ≤ nm) (n1 : nm ≤ 5) :
    CallsIn Fence.wide n Try.prog 142 #[.map (some b), .int .u8 s, .int .i64 nm] w fun e W' => e = .returned (.int .u8 (linkTo f nm (listTo s 8) (listTo s 8).length)) ∧ Below w.heap.size w W' := by
  have h1 : 1 ≤ n := by omega
  have s0 := hs.1
  have s1 := hs.2
  have hfn := h.fn
  have hlt := h.lt
  refine callsIn_of_wp_marks Try.func142 rfl trivial ?_ rfl
  simp only [Try.ntmps142, List.size_toArray, List.length_cons, List.length_nil, Nat.reduceAdd, Nat.reduceSub, Array.replicate_succ, Array.replicate_zero, List.push_toArray, List.append_toArray, List.nil_append, List.cons_append]
  gi_wp2_with (gi_at_call 96; refine (prin_in _ _ _).mono ?_; rintro e w' ⟨rfl, rfl⟩)
  have bM := Boxed.new w 87 (.map (some b))
  have bN := Boxed.new (w.alloc (.cells #[.map (some b)] 87)) 2 (.int .i64 nm)
  rw [World.size_alloc] at bN
  have bA := Boxed.new ((w.alloc (.cells #[.map (some b)] 87)).alloc (.cells #[.int .i64 nm] 2)) 97 (.int .u8 0)
  rw [World.size_alloc, World.size_alloc] at bA
  have bS := Boxed.new (((w.alloc (.cells #[.map (some b)] 87)).alloc (.cells #[.int .i64 nm] 2)).alloc (.cells #[.int .u8 0] 97)) 97 (.int .u8 s)
  rw [World.size_alloc, World.size_alloc, World.size_alloc] at bS
  have bM' := ((bM.alloc (.cells #[.int .i64 nm] 2)).alloc (.cells #[.int .u8 0] 97)).alloc (.cells #[.int .u8 s] 97)
  have bN' := (bN.alloc (.cells #[.int .u8 0] 97)).alloc (.cells #[.int .u8 s] 97)
  have bA' := bA.alloc (.cells #[.int .u8 s] 97)
  obtain ⟨W0, hW0⟩ : ∃ W0, (((w.alloc (.cells #[.map (some b)] 87)).alloc (.cells #[.int .i64 nm] 2)).alloc (.cells #[.int .u8 0] 97)).alloc (.cells #[.int .u8 s] 97) = W0 := ⟨_, rfl⟩
  have hsz : W0.heap.size = w.heap.size + 4 := by rw [← hW0]; simp
  have hB0 : Below w.heap.size w W0 := by rw [← hW0]; exact ((((Below.refl _ w).alloc (Nat.le_refl _) _).alloc (by simp) _).alloc (by simp; omega) _).alloc (by simp; omega) _
  rw [hW0] at bS bA' bM' bN' ⊢
  have HB0 : Hid (Below w.heap.size w W0) := hB0
  have hG0 := h.below hlt hB0
  clear bA bM bN hW0 hB0
  refine wpIn_rangeFunc_ownG rfl h1 (gf := 140) (lb := #[.pointer (some ⟨w.heap.size + 1 + 1 + 1, 0, none⟩)]) rfl trivial (enters_of Try.func140 (by kernel_rfl) rfl)
    (prin_stops8 (n - 1) (by omega) (w.heap.size + 1 + 1 + 1) s s0 s1 W0 (by omega) bS.cell) (Kp := KeepBox (w.heap.size + 1 + 1 + 1)) (fun h k => Eq.trans k h) (fun W l o o' hl h _ _ => World.putObj_heap_other (by omega)) (Below.refl _ _) (fun _ => rfl)
    (fun pre W => (Boxed W (w.heap.size + 1 + 1) 97 (.int .u8 (accL f nm pre)) ∧ Boxed W (w.heap.size + 1 + 1 + 1) 97 (.int .u8 s)) ∧ Below (w.heap.size + 1 + 1) W0 W)
    (fun _ _ _ => False)
    (OwnFrom.and (OwnFrom.and (Own.from (boxed_own _ _ (fun pre => .int .u8 (accL f nm pre))) _) (Own.from (boxed_own _ _ (fun _ => .int .u8 s)) _)) (ownFrom_below (by omega) (by omega)))
    (fun _ _ _ _ _ hs _ _ => hs)
    ⟨⟨bA', bS⟩, Below.refl _ _⟩
    (fun x => { tmps := #[.map (some b), .int .u8 s, .int .i64 nm, .pointer (some ⟨w.heap.size, 0, none⟩), undef, .pointer (some ⟨w.heap.size + 1, 0, none⟩), .int .u8 0, .pointer (some ⟨w.heap.size + 1 + 1, 0, none⟩), .int .i64 x.1, .int .u8 s, .func (.func 140) #[] #[.pointer (some ⟨w.heap.size + 1 + 1 + 1, 0, none⟩)], .int .i64 x.1, undef, undef, undef, undef, undef, undef, undef, undef], defers := [] }) ?assign ?body ?done ?stop
  case assign =>
    intro l x W K hK
    gi_wp2
    exact hK
  case body =>
    rintro l pre x W ⟨⟨hA, hS⟩, hB⟩ hlt'
    have cA : W.drew.cell? ⟨w.heap.size + 1 + 1, 0, none⟩ = some (.int .u8 (accL f nm pre)) := hA.cell
    have fA : W.drew.frozen? ⟨w.heap.size + 1 + 1, 0, none⟩ = false := hA.frozen
    have cM : W.drew.cell? ⟨w.heap.size, 0, none⟩ = some (.map (some b)) := (hB.cell (p := ⟨w.heap.size, 0, none⟩) (by simp; omega)).trans bM'.cell
    have cN : W.drew.cell? ⟨w.heap.size + 1, 0, none⟩ = some (.int .i64 nm) := (hB.cell (p := ⟨w.heap.size + 1, 0, none⟩) (by simp)).trans bN'.cell
    have hG := hG0.below (k := w.heap.size + 1 + 1) (by omega) hB
    have hlk : (Instr.lookup 87 (.map (some b)) (.agg #[.int .i64 x.1, .int .i64 nm]) false).run Try.prog W.drew = .ok (.int .u8 (f (x.1, nm))) W.drew := gm_look (w := W.drew) (gm_heap hG rfl) (r := (x.1, nm)) (roW_of (by have := x.2; simp [roleB, prinB, nameB]; omega))
    have hor : bits .or .u8 (accL f nm pre) (f (x.1, nm)) = accL f nm (pre ++ [x]) := by rw [accL_snoc]; exact u8_or _ _ (accL_set hfn nm pre) (hfn.st _)
    have hA' : Boxed W.drew (w.heap.size + 1 + 1) 97 (.int .u8 (accL f nm pre)) := hA
    have hS' : Boxed W.drew (w.heap.size + 1 + 1 + 1) 97 (.int .u8 s) := hS
    gi_wp2
    gi_region
    all_goals exact ⟨((KeepsOthers.drew W).trans (KeepsOthers.setCell W.drew ⟨w.heap.size + 1 + 1, 0, none⟩ _)).from _, (hS'.other (by omega) _).trans hS.symm, ⟨hA'.set _, hS'.other (by omega) _⟩, (hB.drew).setCell (p := ⟨w.heap.size + 1 + 1, 0, none⟩) (Nat.le_refl _) _⟩
  case done =>
    rintro D ys W hD hys ⟨⟨hA, _⟩, hB⟩ hK
    have cA := hA.cell
    gi_wp2
    refine ⟨by simp, .inl ⟨_, _, rfl, run_takeDeferred hK, ?_⟩⟩
    refine ⟨.int .u8 (accL f nm ys), ?res, ?val, ?below⟩
    case res => simp [results, Try.results142, go_sem]
    case val =>
      have : accL f nm ys = linkTo f nm (listTo s 8) (listTo s 8).length := by
        unfold accL linkTo
        rw [List.take_length, hys]
      rw [this]
    case below => exact (HB0.out.trans (hB.mono (by omega))).trans (belowK_b (w := w) (Nat.le_refl _) _ D _ _ (by omega) hK rfl rfl)
  case stop =>
    rintro D c pre W _ _ h _
    exact h.elim

theorem linked_c (b : Nat) (f : RoI → Int) (s nm : Int) (w : World) (h : GM w b f) (hs : setB s) (n0 : 1 ≤ nm) (n1 : nm ≤ 5) :
    Calls Try.prog 142 #[.map (some b), .int .u8 s, .int .i64 nm] w fun e W' => e = .returned (.int .u8 (linkTo f nm (listTo s 8) (listTo s 8).length)) ∧ Below w.heap.size w W' :=
  callsIn_wide.1 (linked_w 3 (Nat.le_refl _) b f s nm w h hs n0 n1)

end Go.Proofs.Ytdooocjjohdpjaa

namespace Go.Proofs.Ytdooocjjohdpjaa
open Go.RowKit
set_option linter.unusedVariables false
set_option linter.unusedSimpArgs false

set_option maxHeartbeats 400000 in
theorem bodyOf_1 (r : RuleI) (h : r.k = 1) (w : World) :
    Calls Try.prog 71 #[.agg #[.int .i64 r.k, .int .i64 r.ho, .int .i64 r.hn, .int .i64 r.w, .int .i64 r.oo, .int .i64 r.on, .int .i64 r.to, .int .i64 r.tn]] w fun e w' =>
      e = .returned (.iface 161 (.agg #[.int .i64 r.w])) ∧ Below w.heap.size w w' := by
  go_enter Try.func71, Try.ntmps71
  go_wp2
  go_ret
  exact ⟨rfl, by go_grown⟩

set_option maxHeartbeats 400000 in
theorem bodyOf_2 (r : RuleI) (h : r.k = 2) (w : World) :
    Calls Try.prog 71 #[.agg #[.int .i64 r.k, .int .i64 r.ho, .int .i64 r.hn, .int .i64 r.w, .int .i64 r.oo, .int .i64 r.on, .int .i64 r.to, .int .i64 r.tn]] w fun e w' =>
      e = .returned (.iface 163 (.agg #[.int .i64 r.oo, .int .i64 r.on])) ∧ Below w.heap.size w w' := by
  go_enter Try.func71, Try.ntmps71
  go_wp2
  go_ret
  exact ⟨rfl, by go_grown⟩

set_option maxHeartbeats 400000 in
theorem bodyOf_3 (r : RuleI) (h : r.k = 3) (w : World) :
    Calls Try.prog 71 #[.agg #[.int .i64 r.k, .int .i64 r.ho, .int .i64 r.hn, .int .i64 r.w, .int .i64 r.oo, .int .i64 r.on, .int .i64 r.to, .int .i64 r.tn]] w fun e w' =>
      e = .returned (.iface 165 (.agg #[.int .i64 r.oo, .int .i64 r.on, .int .i64 r.tn])) ∧ Below w.heap.size w w' := by
  go_enter Try.func71, Try.ntmps71
  go_wp2
  go_ret
  exact ⟨rfl, by go_grown⟩

set_option maxHeartbeats 400000 in
theorem bodyOf_4 (r : RuleI) (h : r.k = 4) (w : World) :
    Calls Try.prog 71 #[.agg #[.int .i64 r.k, .int .i64 r.ho, .int .i64 r.hn, .int .i64 r.w, .int .i64 r.oo, .int .i64 r.on, .int .i64 r.to, .int .i64 r.tn]] w fun e w' =>
      e = .returned (.iface 167 (.agg #[.int .i64 r.oo, .int .i64 r.on, .int .i64 r.to, .int .i64 r.tn])) ∧ Below w.heap.size w w' := by
  go_enter Try.func71, Try.ntmps71
  go_wp2
  go_ret
  exact ⟨rfl, by go_grown⟩

set_option maxHeartbeats 400000 in
theorem bodyOf_0 (r : RuleI) (h : ¬ (1 ≤ r.k ∧ r.k ≤ 4)) (w : World) :
    Calls Try.prog 71 #[.agg #[.int .i64 r.k, .int .i64 r.ho, .int .i64 r.hn, .int .i64 r.w, .int .i64 r.oo, .int .i64 r.on, .int .i64 r.to, .int .i64 r.tn]] w fun e w' =>
      e = .returned .nilIface ∧ Below w.heap.size w w' := by
  have h1 : (r.k == 1) = false := by simp; omega
  have h2 : (r.k == 2) = false := by simp; omega
  have h3 : (r.k == 3) = false := by simp; omega
  have h4 : (r.k == 4) = false := by simp; omega
  clear h
  go_enter Try.func71, Try.ntmps71
  go_wp2
  go_ret
  exact ⟨rfl, by go_grown⟩

theorem bcell2 {W w1 : World} (hb : Below W.heap.size W w1) : (∀ b o, b < W.heap.size → w1.cell? ⟨b, o, none⟩ = W.cell? ⟨b, o, none⟩) ∧ (∀ b o, b < W.heap.size → w1.frozen? ⟨b, o, none⟩ = W.frozen? ⟨b, o, none⟩) :=
  ⟨fun b o h => hb.cell (p := ⟨b, o, none⟩) h, fun b o h => hb.frozen (p := ⟨b, o, none⟩) h⟩

/-! The type switch: which body it is. -/
theorem ta11 (cs : Array Value) (w : World) : (Instr.typeAssert (.iface 161 (.agg cs)) 106 161 true).run Try.prog w = .ok (.tuple #[.agg cs, .bool true]) w := by kernel_rfl
theorem ta12 (cs : Array Value) (w : World) : (Instr.typeAssert (.iface 161 (.agg cs)) 106 163 true).run Try.prog w = .ok (.tuple #[.agg #[.int .i64 0, .int .i64 0], .bool false]) w := by kernel_rfl
theorem ta13 (cs : Array Value) (w : World) : (Instr.typeAssert (.iface 161 (.agg cs)) 106 165 true).run Try.prog w = .ok (.tuple #[.agg #[.int .i64 0, .int .i64 0, .int .i64 0], .bool false]) w := by kernel_rfl
theorem ta14 (cs : Array Value) (w : World) : (Instr.typeAssert (.iface 161 (.agg cs)) 106 167 true).run Try.prog w = .ok (.tuple #[.agg #[.int .i64 0, .int .i64 0, .int .i64 0, .int .i64 0], .bool false]) w := by kernel_rfl
theorem ta21 (cs : Array Value) (w : World) : (Instr.typeAssert (.iface 163 (.agg cs)) 106 161 true).run Try.prog w = .ok (.tuple #[.agg #[.int .i64 0], .bool false]) w := by kernel_rfl
theorem ta22 (cs : Array Value) (w : World) : (Instr.typeAssert (.iface 163 (.agg cs)) 106 163 true).run Try.prog w = .ok (.tuple #[.agg cs, .bool true]) w := by kernel_rfl
theorem ta23 (cs : Array Value) (w : World) : (Instr.typeAssert (.iface 163 (.agg cs)) 106 165 true).run Try.prog w = .ok (.tuple #[.agg #[.int .i64 0, .int .i64 0, .int .i64 0], .bool false]) w := by kernel_rfl
theorem ta24 (cs : Array Value) (w : World) : (Instr.typeAssert (.iface 163 (.agg cs)) 106 167 true).run Try.prog w = .ok (.tuple #[.agg #[.int .i64 0, .int .i64 0, .int .i64 0, .int .i64 0], .bool false]) w := by kernel_rfl
theorem ta31 (cs : Array Value) (w : World) : (Instr.typeAssert (.iface 165 (.agg cs)) 106 161 true).run Try.prog w = .ok (.tuple #[.agg #[.int .i64 0], .bool false]) w := by kernel_rfl
theorem ta32 (cs : Array Value) (w : World) : (Instr.typeAssert (.iface 165 (.agg cs)) 106 163 true).run Try.prog w = .ok (.tuple #[.agg #[.int .i64 0, .int .i64 0], .bool false]) w := by kernel_rfl
theorem ta33 (cs : Array Value) (w : World) : (Instr.typeAssert (.iface 165 (.agg cs)) 106 165 true).run Try.prog w = .ok (.tuple #[.agg cs, .bool true]) w := by kernel_rfl
theorem ta34 (cs : Array Value) (w : World) : (Instr.typeAssert (.iface 165 (.agg cs)) 106 167 true).run Try.prog w = .ok (.tuple #[.agg #[.int .i64 0, .int .i64 0, .int .i64 0, .int .i64 0], .bool false]) w := by kernel_rfl
theorem ta41 (cs : Array Value) (w : World) : (Instr.typeAssert (.iface 167 (.agg cs)) 106 161 true).run Try.prog w = .ok (.tuple #[.agg #[.int .i64 0], .bool false]) w := by kernel_rfl
theorem ta42 (cs : Array Value) (w : World) : (Instr.typeAssert (.iface 167 (.agg cs)) 106 163 true).run Try.prog w = .ok (.tuple #[.agg #[.int .i64 0, .int .i64 0], .bool false]) w := by kernel_rfl
theorem ta43 (cs : Array Value) (w : World) : (Instr.typeAssert (.iface 167 (.agg cs)) 106 165 true).run Try.prog w = .ok (.tuple #[.agg #[.int .i64 0, .int .i64 0, .int .i64 0], .bool false]) w := by kernel_rfl
theorem ta44 (cs : Array Value) (w : World) : (Instr.typeAssert (.iface 167 (.agg cs)) 106 167 true).run Try.prog w = .ok (.tuple #[.agg cs, .bool true]) w := by kernel_rfl
theorem below_new3 {w w1 : World} {o1 o2 o3 : Obj} (h : Below (((w.alloc o1).alloc o2).alloc o3).heap.size (((w.alloc o1).alloc o2).alloc o3) w1) : Below w.heap.size w w1 := below_new (below_new (below_new h))

end Go.Proofs.Ytdooocjjohdpjaa

namespace Go.Proofs.Ytdooocjjohdpjaa
open Go.RowKit Go.Maps
set_option linter.unusedVariables false
set_option linter.unusedSimpArgs false

attribute [local go_sem] ta11 ta12 ta13 ta14 ta21 ta22 ta23 ta24 ta31 ta32 ta33 ta34 ta41 ta42 ta43 ta44

theorem look_gm (w : World) {ops : Array Oper} {rest : List Oper} {o : Oper} {a : Act} {Q : Exit → Act → World → Prop} (hg : o.guard = none) (m x : Operand) (hop : o.op = Op.lookup 87 m x false)
    (b : Nat) (f : RoI → Int) (r : RoI) (hm : a.eval m = .map (some b)) (hx : a.eval x = .agg #[.int .i64 r.1, .int .i64 r.2]) {w1 : World} (hG : GM w1 b f) (hB : Below w1.heap.size w1 w) (hr : roW r)
    (hK : wpList Try.prog ops Q rest (a.put o.dst (.int .u8 (f r))) w) : wpList Try.prog ops Q (o :: rest) a w := by
  refine wpList_plain hg fun K' hK' => ?_
  have hrun := gm_look (hG.below hG.lt hB) hr
  unfold Oper.wp
  simp only [roV] at hrun
  simp [execOp, hop, hm, hx, hrun, Result.andThen]
  exact hK' _ _ hK

theorem bn_new {w w1 : World} {o : Obj} (h : Below (w.alloc o).heap.size (w.alloc o) w1) : Below w.heap.size w w1 := ((Below.refl _ _).alloc (Nat.le_refl _) _).trans (h.mono (by simp))

theorem rule_has {r : RuleI} (h : ruleCode r = 0) : 1 ≤ r.k ∧ r.k ≤ 4 ∧ roleB r.ho r.hn = true ∧ hasB r = true := by
  unfold ruleCode at h
  split at h
  · cases h
  · rename_i h1
    split at h
    · cases h
    · rename_i h2
      split at h
      · cases h
      · split at h
        · cases h
        · rename_i h4
          exact ⟨by omega, by omega, by simpa using h2, by simpa using h4⟩


set_option maxRecDepth 100000 in
set_option maxHeartbeats 400000 in
theorem told_1 (b : Nat) (f : RoI → Int) (r : RuleI) (w : World) (h : GM w b f) (hc : ruleCode r = 0) (e1 : r.k = 1) :
    Calls Try.prog 107 #[.map (some b), .agg #[.int .i64 r.k, .int .i64 r.ho, .int .i64 r.hn, .int .i64 r.w, .int .i64 r.oo, .int .i64 r.on, .int .i64 r.to, .int .i64 r.tn]] w fun e w' => e = .returned (.int .u8 (byF f r)) ∧ Below w.heap.size w w' := by
  have hh := (rule_has hc).2.2.2
  have hp : 1 ≤ r.w ∧ r.w ≤ 8 := by simpa [hasB, e1, prinB] using hh
  have eb : byF f r = bitI r.w := by simp [byF, e1]
  rw [eb]
  have E1 : Hid _ := e1
  clear hh eb hc e1
  go_enter Try.func107, Try.ntmps107
  go_wp2_with (first | (go_at_call 71; refine (bodyOf_1 r E1.out _).mono ?_; rintro e w1 ⟨rfl, hb0⟩; have hb := bn_new hb0; clear hb0) | (go_at_call 141; refine (bitOf_c r.w hp.1 hp.2 _).mono ?_; rintro e w2 ⟨rfl, rfl⟩) | go_in)
  go_ret
  exact ⟨rfl, hb.alloc hb.size _⟩

set_option maxRecDepth 100000 in
set_option maxHeartbeats 400000 in
theorem told_2 (b : Nat) (f : RoI → Int) (r : RuleI) (w : World) (h : GM w b f) (hc : ruleCode r = 0) (e1 : r.k = 2) :
    Calls Try.prog 107 #[.map (some b), .agg #[.int .i64 r.k, .int .i64 r.ho, .int .i64 r.hn, .int .i64 r.w, .int .i64 r.oo, .int .i64 r.on, .int .i64 r.to, .int .i64 r.tn]] w fun e w' => e = .returned (.int .u8 (byF f r)) ∧ Below w.heap.size w w' := by
  have hh := (rule_has hc).2.2.2
  have hp : roleB r.oo r.on = true := by simpa [hasB, e1] using hh
  have eb : byF f r = f (r.oo, r.on) := by simp [byF, e1]
  rw [eb]
  have E1 : Hid _ := e1
  clear hh eb hc e1
  go_enter Try.func107, Try.ntmps107
  go_wp2_with (first | (go_at_call 71; refine (bodyOf_2 r E1.out _).mono ?_; rintro e w1 ⟨rfl, hb0⟩; have hb := bn_new hb0; clear hb0) | (at_lookup; refine look_gm _ rfl _ _ rfl b f (r.oo, r.on) rfl rfl h (hb.alloc hb.size _) (roW_of hp) ?_) | go_in)
  go_ret
  exact ⟨rfl, hb.alloc hb.size _⟩


set_option maxRecDepth 100000 in
set_option maxHeartbeats 400000 in
theorem told_3 (b : Nat) (f : RoI → Int) (r : RuleI) (w : World) (h : GM w b f) (hc : ruleCode r = 0) (e1 : r.k = 3) :
    Calls Try.prog 107 #[.map (some b), .agg #[.int .i64 r.k, .int .i64 r.ho, .int .i64 r.hn, .int .i64 r.w, .int .i64 r.oo, .int .i64 r.on, .int .i64 r.to, .int .i64 r.tn]] w fun e w' => e = .returned (.int .u8 (byF f r)) ∧ Below w.heap.size w w' := by
  have hh := (rule_has hc).2.2.2
  have hp : roleB r.oo r.on = true ∧ 1 ≤ r.tn ∧ r.tn ≤ 5 := by simpa [hasB, e1, nameB] using hh
  have eb : byF f r = linkTo f r.tn (listTo (f (r.oo, r.on)) 8) (listTo (f (r.oo, r.on)) 8).length := by simp [byF, e1]
  rw [eb]
  have E1 : Hid _ := e1
  clear hh eb hc e1
  go_enter Try.func107, Try.ntmps107
  go_wp2_with (first | (go_at_call 71; refine (bodyOf_3 r E1.out _).mono ?_; rintro e w1 ⟨rfl, hb0⟩; have hb := bn_new hb0; clear hb0) | go_in)
  have hB1 := hb.alloc hb.size (.cells #[.int .i64 r.oo, .int .i64 r.on, .int .i64 r.tn] 165)
  have hG1 := h.below h.lt hB1
  have hl := gm_look (w := (w1.alloc (.cells #[.int .i64 r.oo, .int .i64 r.on, .int .i64 r.tn] 165)).drew) (gm_heap hG1 rfl) (roW_of (r := (r.oo, r.on)) hp.1)
  simp only [roV] at hl
  have HG : Hid (GM (w1.alloc (.cells #[.int .i64 r.oo, .int .i64 r.on, .int .i64 r.tn] 165)).drew b f) := gm_heap hG1 rfl
  have HB : Hid (Below w.heap.size w (w1.alloc (.cells #[.int .i64 r.oo, .int .i64 r.on, .int .i64 r.tn] 165)).drew) := hB1.drew
  have HS : Hid (setB (f (r.oo, r.on))) := h.fn.st _
  clear hB1 hG1 h hb
  go_region_with (first | (go_at_call 142; refine (linked_c b f (f (r.oo, r.on)) r.tn _ HG.out HS.out hp.2.1 hp.2.2).mono ?_; rintro e w2 ⟨rfl, hb2⟩))
  all_goals go_wp2
  all_goals go_ret
  all_goals exact ⟨rfl, HB.out.trans (hb2.mono HB.out.size)⟩

set_option maxRecDepth 100000 in
set_option maxHeartbeats 400000 in
theorem told_4 (b : Nat) (f : RoI → Int) (r : RuleI) (w : World) (h : GM w b f) (hc : ruleCode r = 0) (e1 : r.k = 4) :
    Calls Try.prog 107 #[.map (some b), .agg #[.int .i64 r.k, .int .i64 r.ho, .int .i64 r.hn, .int .i64 r.w, .int .i64 r.oo, .int .i64 r.on, .int .i64 r.to, .int .i64 r.tn]] w fun e w' => e = .returned (.int .u8 (byF f r)) ∧ Below w.heap.size w w' := by
  have hh := (rule_has hc).2.2.2
  have hp : roleB r.oo r.on = true ∧ roleB r.to r.tn = true := by simpa [hasB, e1] using hh
  have eb : byF f r = bits .and .u8 (f (r.oo, r.on)) (f (r.to, r.tn)) := by simp [byF, e1, u8_and _ _ (h.fn.st _) (h.fn.st _)]
  rw [eb]
  have E1 : Hid _ := e1
  clear hh eb hc e1
  go_enter Try.func107, Try.ntmps107
  go_wp2_with (first | (go_at_call 71; refine (bodyOf_4 r E1.out _).mono ?_; rintro e w1 ⟨rfl, hb0⟩; have hb := bn_new hb0; clear hb0) | go_in)
  have hB1 := hb.alloc hb.size (.cells #[.int .i64 r.oo, .int .i64 r.on, .int .i64 r.to, .int .i64 r.tn] 167)
  have hG1 := h.below h.lt hB1
  have hl1 := fun m => gm_look (w := (w1.alloc (.cells #[.int .i64 r.oo, .int .i64 r.on, .int .i64 r.to, .int .i64 r.tn] 167)).drewN m) (gm_heap hG1 rfl) (roW_of (r := (r.oo, r.on)) hp.1)
  have hl2 := fun m => gm_look (w := (w1.alloc (.cells #[.int .i64 r.oo, .int .i64 r.on, .int .i64 r.to, .int .i64 r.tn] 167)).drewN m) (gm_heap hG1 rfl) (roW_of (r := (r.to, r.tn)) hp.2)
  simp only [roV] at hl1 hl2
  have HB : Hid (Below w.heap.size w (w1.alloc (.cells #[.int .i64 r.oo, .int .i64 r.on, .int .i64 r.to, .int .i64 r.tn] 167))) := hB1
  clear hB1 hG1 h hb
  go_quiet (fail)
  go_wp2
  go_ret
  exact ⟨rfl, bdN HB.out _⟩

end Go.Proofs.Ytdooocjjohdpjaa
