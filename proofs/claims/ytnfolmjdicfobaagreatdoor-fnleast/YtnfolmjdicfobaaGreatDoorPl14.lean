/-
  CONTRACTS of impl's iterator over the principals of a set, and of impl.ListOf.
  Conditions: each contract bears its own.
  CONTRACT: (impl.grantMap).linked: the sets of the roles of one name, of all owners in a set, joined.
  Conditions: each contract bears its own.
  CONTRACT: impl.singlesOf.
  Conditions: each contract bears its own.
  CONTRACTS on grants in results: read, marked, held against their marks, compared.
  Conditions: each contract bears its own.
-/
import Derived.RangeFuncNested
import Derived.RangeFuncBound
import Derived.RangeFuncCalls
import Derived.RangeFuncBox
import Derived.RangeFuncLeaves
import Derived.Shelf.Abstract
import Derived.WalkKit
import Derived.OwnWalkIn
import Derived.TacticsInMore
import Derived.LoopNIn
import Derived.LoopIn
import Derived.Maps.AppendAt
import Derived.Stop.RegionWithIn
import Derived.Sort.BigQuietIn
import Derived.Outline
import Derived.Test.YtnfolmjdicfobaaGreatDoorPl07
import Derived.Test.YtnfolmjdicfobaaGreatDoorPl13
import Derived.RegionIn
import Derived.BigRegionIn
import Derived.Test.YtnfolmjdicfobaaGreatDoorPl08
import Derived.Test.YtnfolmjdicfobaaGreatDoorPl05
namespace Go.Proofs.YtnfolmjdicfobaaGreatDoor
open Go.RowKit Go.Shelf
attribute [local go_sem] Oper.semAt_some
set_option linter.unusedVariables false

theorem wide_fn (k : FuncId) : Fence.wide.fn k = True := eq_true trivial
attribute [local go_sem] wide_fn
attribute [local simp] wide_fn

theorem listTo_pre (s : Int) (k m : Nat) (h : k ≤ m) : listTo s k <+: listTo s m := by
  induction m with
  | zero =>
    have e : k = 0 := by omega
    subst e; exact List.prefix_refl _
  | succ m ih =>
    by_cases e : k = m + 1
    · subst e; exact List.prefix_refl _
    · have := ih (by omega)
      simp only [listTo]
      split
      · exact this.trans (List.prefix_append _ _)
      · exact this

theorem listTo_lt (s : Int) (k m : Nat) (h : k < m) (hh : hasI s ((k : Int) + 1) = true) : (listTo s k).length < (listTo s m).length := by
  have h1 := (listTo_pre s (k + 1) m (by omega)).length_le
  rw [listTo_hit s k hh] at h1
  simp at h1
  omega

/-- A round leaves block b as it was. -/
def KeepBox (b : Nat) (W W' : World) : Prop := W'.heap[b]? = W.heap[b]?

theorem grown_drewN (W : World) (m : Nat) : W.grownBy (W.drewN m) none := ⟨rfl, rfl, rfl, Nat.le_refl _, fun _ _ _ => rfl⟩
theorem grown_drew (W : World) : W.grownBy W.drew none := ⟨rfl, rfl, rfl, Nat.le_refl _, fun _ _ _ => rfl⟩

set_option maxRecDepth 100000 in
set_option maxHeartbeats 1000000 in
theorem prin1_in (n : Nat) (hn : 1 ≤ n) (l Bn B : Nat) (s : Int) (s0 : 0 ≤ s) (s1 : s ≤ 255) (J Jx : List Int → World → Prop) (hJ : AbidesFrom B J)
    (hY : ∀ pre x W, J pre W → pre.length < (listTo s 8).length → 1 ≤ x → x ≤ 8 → YieldAt Fence.wide (n - 1) Tryz.prog l #[.int .i64 x] W fun e W' =>
      (e = .returned (.bool true) ∧ J (pre ++ [x]) W' ∧ KeepBox Bn W W') ∨ (e = .returned (.bool false) ∧ Jx (pre ++ [x]) W'))
    (W : World) (hBn : W.cell? ⟨Bn, 0, none⟩ = some (.int .u8 s)) (h0 : J [] W) :
    CallsIn Fence.wide n Tryz.prog 154 #[.func (.yield l) #[] #[], .pointer (some ⟨Bn, 0, none⟩)] W fun e W' => (∃ v, e = .returned v) ∧
      ((∃ ys, ys = listTo s 8 ∧ J ys W') ∨ (∃ pre, pre <+: listTo s 8 ∧ Jx pre W')) := by
  refine callsIn_of_wp Tryz.func154 rfl trivial ?_ rfl
  simp only [Tryz.ntmps154, List.size_toArray, List.length_cons, List.length_nil, Nat.reduceAdd, Nat.reduceSub, Array.replicate_succ, Array.replicate_zero, List.push_toArray, List.append_toArray, List.nil_append, List.cons_append]
  gi_wp2
  gi_loopw [3] (fun p wr => ∃ (k : Nat), k ≤ 8 ∧ p = .int .i64 ((k : Int) + 1) ∧ wr.cell? ⟨Bn, 0, none⟩ = some (.int .u8 s) ∧ J (listTo s k) wr)
    (fun p _ => 9 - (intOf p).toNat)
  case atStart => exact ⟨0, Nat.zero_le _, rfl, hBn, h0⟩
  case round =>
    obtain ⟨k, hk, rfl, hc, hJs⟩ := hrel
    by_cases hlt : k < 8
    · have hlt' : (k : Int) + 1 ≤ 8 := by omega
      cases hh : hasI s ((k : Int) + 1) with
      | true =>
        have e2 : (bits .and .u8 s (bitI ((k : Int) + 1)) != 0) = true := by rw [← hh]; exact and_u8 s _ s0 s1 (by omega) (by omega)
        have HH : Hid (hasI s ((k : Int) + 1) = true) := hh
        clear hh
        have hJd := hJ _ wr wr.drew none hJs (grown_drew wr) (fun r e => by cases e)
        have hcd : wr.drew.cell? ⟨Bn, 0, none⟩ = some (.int .u8 s) := hc
        obtain ⟨fn, tmps, assign, body, hy, hR⟩ := hY _ ((k : Int) + 1) wr.drew hJd (listTo_lt s k 8 hlt HH.out) (by omega) (by omega)
        have hR' := hR.mono (R' := fun e W' => ∃ b : Bool, e = .returned (.bool b) ∧ Hid ((b = true ∧ J (listTo s k ++ [(k : Int) + 1]) W' ∧ KeepBox Bn wr.drew W') ∨ (b = false ∧ Jx (listTo s k ++ [(k : Int) + 1]) W'))) (by
          rintro e W' (⟨rfl, h⟩ | ⟨rfl, h⟩)
          · exact ⟨true, rfl, .inl ⟨rfl, h⟩⟩
          · exact ⟨false, rfl, .inr ⟨rfl, h⟩⟩)
        clear hR hY hJ hJd hJs h0
        gi_wp2
        gi_region_with (first | (gi_at_call 129; refine (callsIn_wide.2 (bitOf_c ((k : Int) + 1) (by omega) (by omega) _)).mono ?_; rintro e w' ⟨rfl, rfl⟩) | (refine hR'.mono ?_; rintro e W3 ⟨b, rfl, HD⟩))
        all_goals
          rcases HD.out with ⟨rfl, hJ3, hk3⟩ | ⟨rfl, hJx3⟩
          · have hc3 : W3.cell? ⟨Bn, 0, none⟩ = some (.int .u8 s) := (World.cell?_of_block (a := ⟨Bn, 0, none⟩) hk3).trans hcd
            gi_wp2
            go_roundw
            case rel => exact ⟨k + 1, by omega, by go_num, hc3, by rw [listTo_hit s k HH.out]; exact hJ3⟩
            case measure => simp [intOf]; omega
          · gi_wp2
            refine bodyPost_ret (results_none rfl _ _ _) rfl ?_
            exact ⟨⟨_, rfl⟩, .inr ⟨_, by have hp := listTo_pre s (k + 1) 8 (by omega); rw [listTo_hit s k HH.out] at hp; exact hp, hJx3⟩⟩
      | false =>
        have e2 : (bits .and .u8 s (bitI ((k : Int) + 1)) != 0) = false := by rw [← hh]; exact and_u8 s _ s0 s1 (by omega) (by omega)
        have HH : Hid (hasI s ((k : Int) + 1) = false) := hh
        clear hh
        have HJ : Hid (∀ m, J (listTo s (k + 1)) (wr.drewN m)) := by rw [listTo_miss s k HH.out]; exact fun m => hJ _ wr (wr.drewN m) none hJs (grown_drewN wr m) (fun r e => by cases e)
        clear hY hJ hJs h0
        gi_wp2
        gi_big_quiet_th ((gi_at_call 129; refine CallsIn.quiet_of_same ((callsIn_wide.2 (bitOf_c ((k : Int) + 1) (by omega) (by omega) _)).mono (fun _ _ h => ⟨h.1, h.2.symm⟩))))
        gi_wp2
        go_roundw
        case rel => exact ⟨k + 1, by omega, by go_num, hc, HJ.out _⟩
        case measure => simp [intOf]; omega
    · have hk8 : k = 8 := by omega
      subst hk8
      gi_wp2
      go_end0
      exact ⟨⟨_, rfl⟩, .inl ⟨_, rfl, hJs⟩⟩

set_option maxHeartbeats 1000000 in
theorem prin_in (n : Nat) (s : Int) (w : World) :
    CallsIn Fence.wide n Tryz.prog 128 #[.int .u8 s] w fun e w' => e = .returned (.func (.func 154) #[] #[.pointer (some ⟨w.heap.size, 0, none⟩)]) ∧ w.alloc (.cells #[.int .u8 s] 132) = w' := by
  refine callsIn_of_wp Tryz.func128 rfl trivial ?_ rfl
  simp only [Tryz.ntmps128, List.size_toArray, List.length_cons, List.length_nil, Nat.reduceAdd, Nat.reduceSub, Array.replicate_succ, Array.replicate_zero, List.push_toArray, List.append_toArray, List.nil_append, List.cons_append]
  gi_wp2
  go_ret
  exact ⟨rfl, rfl⟩

theorem prin_stops (n : Nat) (hn : 1 ≤ n) (Bn : Nat) (s : Int) (s0 : 0 ≤ s) (s1 : s ≤ 255) (w : World) (hBn : Bn < w.heap.size) (hc : w.cell? ⟨Bn, 0, none⟩ = some (.int .u8 s)) :
    SeqStopsK Fence.wide n Tryz.prog 154 #[.pointer (some ⟨Bn, 0, none⟩)] (fun x : Int => #[Value.int .i64 x]) (KeepBox Bn) (fun ys => ys = listTo s 8) (fun pre => pre <+: listTo s 8) (listTo s 8).length w := fun l J Jx W hW hJ _ hY h0 =>
  prin1_in n hn l Bn W.heap.size s s0 s1 J Jx hJ (fun pre x W hj hl _ _ => hY pre x W hj hl) W ((hW.cell (p := ⟨Bn, 0, none⟩) hBn).trans hc) h0

/-- A principal, with what it is bound to. -/
abbrev P8 := { x : Int // 1 ≤ x ∧ x ≤ 8 }

theorem prin_stops8 (n : Nat) (hn : 1 ≤ n) (Bn : Nat) (s : Int) (s0 : 0 ≤ s) (s1 : s ≤ 255) (w : World) (hBn : Bn < w.heap.size) (hc : w.cell? ⟨Bn, 0, none⟩ = some (.int .u8 s)) :
    SeqStopsK Fence.wide n Tryz.prog 154 #[.pointer (some ⟨Bn, 0, none⟩)] (fun x : P8 => #[Value.int .i64 x.1]) (KeepBox Bn) (fun ys => ys.map (·.1) = listTo s 8) (fun pre => pre.map (·.1) <+: listTo s 8) (listTo s 8).length w := fun l J Jx W hW hJ _ hY h0 => by
  have hY' : ∀ (pre : List Int) (x : Int) (W1 : World), (∃ p : List P8, p.map (·.1) = pre ∧ J p W1) → pre.length < (listTo s 8).length → 1 ≤ x → x ≤ 8 → YieldAt Fence.wide (n - 1) Tryz.prog l #[.int .i64 x] W1 fun e W' =>
      (e = .returned (.bool true) ∧ (∃ p : List P8, p.map (·.1) = pre ++ [x] ∧ J p W') ∧ KeepBox Bn W1 W') ∨ (e = .returned (.bool false) ∧ (∃ p : List P8, p.map (·.1) = pre ++ [x] ∧ Jx p W')) := by
    rintro pre x W1 ⟨p, rfl, hj⟩ hl x1 x8
    obtain ⟨fn, tmps, assign, body, hy, hR⟩ := hY p ⟨x, x1, x8⟩ W1 hj (by simpa using hl)
    refine ⟨fn, tmps, assign, body, hy, hR.mono ?_⟩
    rintro e W' (⟨he, h1, h2⟩ | ⟨he, h1⟩)
    · exact .inl ⟨he, ⟨p ++ [⟨x, x1, x8⟩], by simp, h1⟩, h2⟩
    · exact .inr ⟨he, ⟨p ++ [⟨x, x1, x8⟩], by simp, h1⟩⟩
  refine (prin1_in n hn l Bn W.heap.size s s0 s1 (fun pre W1 => ∃ p : List P8, p.map (·.1) = pre ∧ J p W1) (fun pre W1 => ∃ p : List P8, p.map (·.1) = pre ∧ Jx p W1)
    (fun pre X Y row ⟨p, hp, hj⟩ hg hr => ⟨p, hp, hJ p X Y row hj hg hr⟩) hY' W ((hW.cell (p := ⟨Bn, 0, none⟩) hBn).trans hc) ⟨[], rfl, h0⟩).mono ?_
  rintro e W' ⟨hv, ⟨ys, rfl, p, hp, hj⟩ | ⟨pre, hpre, p, hp, hj⟩⟩
  · exact ⟨hv, .inl ⟨p, hp, hj⟩⟩
  · exact ⟨hv, .inr ⟨p, by show p.map (·.1) <+: listTo s 8; rw [hp]; exact hpre, hj⟩⟩

end Go.Proofs.YtnfolmjdicfobaaGreatDoor

namespace Go.Proofs.YtnfolmjdicfobaaGreatDoor
open Go.RowKit Go.Shelf Go.Maps
attribute [local go_sem] Oper.semAt_some
attribute [local go_sem] wide_fn
set_option linter.unusedVariables false
set_option linter.unusedSimpArgs false

/-- The sets joined so far. -/
def accL (f : RoI → Int) (nm : Int) (pre : List P8) : Int := (pre.map (·.1)).foldl (fun o y => orI o (f (y, nm))) 0

theorem accL_snoc (f : RoI → Int) (nm : Int) (pre : List P8) (x : P8) : accL f nm (pre ++ [x]) = orI (accL f nm pre) (f (x.1, nm)) := by
  simp [accL, List.foldl_append]

theorem accL_set {f : RoI → Int} (hf : FN f) (nm : Int) (pre : List P8) : setB (accL f nm pre) := by
  unfold accL
  exact (link_fold hf.st nm _ 0 ⟨by omega, by omega⟩).1

set_option maxRecDepth 100000 in
set_option maxHeartbeats 2000000 in
theorem linked_w (n : Nat) (hn : 3 ≤ n) (b : Nat) (f : RoI → Int) (s nm : Int) (w : World) (h : GM w b f) (hs : setB s) (n0 : 1 ≤ nm) (n1 : nm ≤ 5) :
    CallsIn Fence.wide n Tryz.prog 152 #[.map (some b), .int .u8 s, .int .i64 nm] w fun e W' => e = .returned (.int .u8 (linkTo f nm (listTo s 8) (listTo s 8).length)) ∧ Below w.heap.size w W' := by
  have h1 : 1 ≤ n := by omega
  have s0 := hs.1
  have s1 := hs.2
  have hfn := h.fn
  have hlt := h.lt
  refine callsIn_of_wp_marks Tryz.func152 rfl trivial ?_ rfl
  simp only [Tryz.ntmps152, List.size_toArray, List.length_cons, List.length_nil, Nat.reduceAdd, Nat.reduceSub, Array.replicate_succ, Array.replicate_zero, List.push_toArray, List.append_toArray, List.nil_append, List.cons_append]
  gi_wp2_with (gi_at_call 128; refine (prin_in _ _ _).mono ?_; rintro e w' ⟨rfl, rfl⟩)
  have bM := Boxed.new w 128 (.map (some b))
  have bN := Boxed.new (w.alloc (.cells #[.map (some b)] 128)) 2 (.int .i64 nm)
  rw [World.size_alloc] at bN
  have bA := Boxed.new ((w.alloc (.cells #[.map (some b)] 128)).alloc (.cells #[.int .i64 nm] 2)) 132 (.int .u8 0)
  rw [World.size_alloc, World.size_alloc] at bA
  have bS := Boxed.new (((w.alloc (.cells #[.map (some b)] 128)).alloc (.cells #[.int .i64 nm] 2)).alloc (.cells #[.int .u8 0] 132)) 132 (.int .u8 s)
  rw [World.size_alloc, World.size_alloc, World.size_alloc] at bS
  have bM' := ((bM.alloc (.cells #[.int .i64 nm] 2)).alloc (.cells #[.int .u8 0] 132)).alloc (.cells #[.int .u8 s] 132)
  have bN' := (bN.alloc (.cells #[.int .u8 0] 132)).alloc (.cells #[.int .u8 s] 132)
  have bA' := bA.alloc (.cells #[.int .u8 s] 132)
  obtain ⟨W0, hW0⟩ : ∃ W0, (((w.alloc (.cells #[.map (some b)] 128)).alloc (.cells #[.int .i64 nm] 2)).alloc (.cells #[.int .u8 0] 132)).alloc (.cells #[.int .u8 s] 132) = W0 := ⟨_, rfl⟩
  have hsz : W0.heap.size = w.heap.size + 4 := by rw [← hW0]; simp
  have hB0 : Below w.heap.size w W0 := by rw [← hW0]; exact ((((Below.refl _ w).alloc (Nat.le_refl _) _).alloc (by simp) _).alloc (by simp; omega) _).alloc (by simp; omega) _
  rw [hW0] at bS bA' bM' bN' ⊢
  have HB0 : Hid (Below w.heap.size w W0) := hB0
  have hG0 := h.below hlt hB0
  clear bA bM bN hW0 hB0
  refine wpIn_rangeFunc_ownG rfl h1 (gf := 154) (lb := #[.pointer (some ⟨w.heap.size + 1 + 1 + 1, 0, none⟩)]) rfl trivial (enters_of Tryz.func154 (by kernel_rfl) rfl)
    (prin_stops8 (n - 1) (by omega) (w.heap.size + 1 + 1 + 1) s s0 s1 W0 (by omega) bS.cell) (Kp := KeepBox (w.heap.size + 1 + 1 + 1)) (fun h k => Eq.trans k h) (fun W l o o' hl h _ _ => World.putObj_heap_other (by omega)) (Below.refl _ _) (fun _ => rfl)
    (fun pre W => (Boxed W (w.heap.size + 1 + 1) 132 (.int .u8 (accL f nm pre)) ∧ Boxed W (w.heap.size + 1 + 1 + 1) 132 (.int .u8 s)) ∧ Below (w.heap.size + 1 + 1) W0 W)
    (fun _ _ _ => False)
    (OwnFrom.and (OwnFrom.and (Own.from (boxed_own _ _ (fun pre => .int .u8 (accL f nm pre))) _) (Own.from (boxed_own _ _ (fun _ => .int .u8 s)) _)) (ownFrom_below (by omega) (by omega)))
    (fun _ _ _ _ _ hs _ _ => hs)
    ⟨⟨bA', bS⟩, Below.refl _ _⟩
    (fun x => { tmps := #[.map (some b), .int .u8 s, .int .i64 nm, .pointer (some ⟨w.heap.size, 0, none⟩), undef, .pointer (some ⟨w.heap.size + 1, 0, none⟩), .int .u8 0, .pointer (some ⟨w.heap.size + 1 + 1, 0, none⟩), .int .i64 x.1, .int .u8 s, .func (.func 154) #[] #[.pointer (some ⟨w.heap.size + 1 + 1 + 1, 0, none⟩)], .int .i64 x.1, undef, undef, undef, undef, undef, undef, undef, undef], defers := [] }) ?assign ?body ?done ?stop
  case assign =>
    intro l x W K hK
    gi_wp2
    exact hK
  case body =>
    rintro l pre x W ⟨⟨hA, hS⟩, hB⟩ hlt'
    have cA : W.drew.cell? ⟨w.heap.size + 1 + 1, 0, none⟩ = some (.int .u8 (accL f nm pre)) := hA.cell
    have fA : W.drew.frozen? ⟨w.heap.size + 1 + 1, 0, none⟩ = false := hA.frozen
    have cM : W.drew.cell? ⟨w.heap.size, 0, none⟩ = some (.map (some b)) := (hB.cell (p := ⟨w.heap.size, 0, none⟩) (by simp; omega)).trans bM'.cell
    have cN : W.drew.cell? ⟨w.heap.size + 1, 0, none⟩ = some (.int .i64 nm) := (hB.cell (p := ⟨w.heap.size + 1, 0, none⟩) (by simp)).trans bN'.cell
    have hG := hG0.below (k := w.heap.size + 1 + 1) (by omega) hB
    have hlk : (Instr.lookup 128 (.map (some b)) (.agg #[.int .i64 x.1, .int .i64 nm]) false).run Tryz.prog W.drew = .ok (.int .u8 (f (x.1, nm))) W.drew := gm_look (w := W.drew) (gm_heap hG rfl) (r := (x.1, nm)) (roW_of (by have := x.2; simp [roleB, prinB, nameB]; omega))
    have hor : bits .or .u8 (accL f nm pre) (f (x.1, nm)) = accL f nm (pre ++ [x]) := by rw [accL_snoc]; exact u8_or _ _ (accL_set hfn nm pre) (hfn.st _)
    have hA' : Boxed W.drew (w.heap.size + 1 + 1) 132 (.int .u8 (accL f nm pre)) := hA
    have hS' : Boxed W.drew (w.heap.size + 1 + 1 + 1) 132 (.int .u8 s) := hS
    gi_wp2
    gi_region
    all_goals exact ⟨((KeepsOthers.drew W).trans (KeepsOthers.setCell W.drew ⟨w.heap.size + 1 + 1, 0, none⟩ _)).from _, (hS'.other (by omega) _).trans hS.symm, ⟨hA'.set _, hS'.other (by omega) _⟩, (hB.drew).setCell (p := ⟨w.heap.size + 1 + 1, 0, none⟩) (Nat.le_refl _) _⟩
  case done =>
    rintro D ys W hD hys ⟨⟨hA, _⟩, hB⟩ hK
    have cA := hA.cell
    gi_wp2
    refine ⟨by simp, .inl ⟨_, _, rfl, run_takeDeferred hK, ?_⟩⟩
    refine ⟨.int .u8 (accL f nm ys), ?res, ?val, ?below⟩
    case res => simp [results, Tryz.results152, go_sem]
    case val =>
      have : accL f nm ys = linkTo f nm (listTo s 8) (listTo s 8).length := by
        unfold accL linkTo
        rw [List.take_length, hys]
      rw [this]
    case below => exact (HB0.out.trans (hB.mono (by omega))).trans (belowK_b (w := w) (Nat.le_refl _) _ D _ _ (by omega) hK rfl rfl)
  case stop =>
    rintro D c pre W _ _ h _
    exact h.elim

theorem linked_c (b : Nat) (f : RoI → Int) (s nm : Int) (w : World) (h : GM w b f) (hs : setB s) (n0 : 1 ≤ nm) (n1 : nm ≤ 5) :
    Calls Tryz.prog 152 #[.map (some b), .int .u8 s, .int .i64 nm] w fun e W' => e = .returned (.int .u8 (linkTo f nm (listTo s 8) (listTo s 8).length)) ∧ Below w.heap.size w W' :=
  callsIn_wide.1 (linked_w 3 (Nat.le_refl _) b f s nm w h hs n0 n1)

end Go.Proofs.YtnfolmjdicfobaaGreatDoor

namespace Go.Proofs.YtnfolmjdicfobaaGreatDoor
open Go.RowKit Go.Shelf Go.Maps
attribute [local go_sem] Oper.semAt_some
attribute [local go_sem] wide_fn
set_option linter.unusedVariables false
set_option linter.unusedSimpArgs false

/-- The sets of one each. -/
def oneP (pre : List P8) : TS := (pre.map (·.1)).foldl (fun T p => putT T (2 ^ (p - 1).toNat)) noT

theorem oneP_snoc (pre : List P8) (x : P8) : oneP (pre ++ [x]) = putT (oneP pre) (2 ^ (x.1 - 1).toNat) := by
  simp [oneP, List.foldl_append]

theorem putL_iff (ps : List Int) : ∀ (T : TS) (x : Nat), ps.foldl (fun T p => putT T (2 ^ (p - 1).toNat)) T x = true ↔ T x = true ∨ ∃ p ∈ ps, x = 2 ^ (p - 1).toNat := by
  induction ps with
  | nil => intro T x; simp
  | cons q qs ih =>
    intro T x
    rw [List.foldl_cons, ih]
    unfold putT
    by_cases e : x = 2 ^ (q - 1).toNat
    · rw [if_pos e]
      exact ⟨fun _ => .inr ⟨q, by simp, e⟩, fun _ => .inl rfl⟩
    · rw [if_neg e]
      constructor
      · rintro (h | ⟨p, hp, e'⟩)
        · exact .inl h
        · exact .inr ⟨p, by simp [hp], e'⟩
      · rintro (h | ⟨p, hp, e'⟩)
        · exact .inl h
        · rcases List.mem_cons.1 hp with rfl | hp
          · exact absurd e' e
          · exact .inr ⟨p, hp, e'⟩

theorem oneP_end {s : Int} {ys : List P8} (h : ys.map (·.1) = listTo s 8) : oneP ys = oneT s := by
  funext x
  rw [Bool.eq_iff_iff]
  unfold oneP oneT
  rw [h, putL_iff, List.any_eq_true]
  constructor
  · rintro (q | ⟨p, hp, e⟩)
    · cases q
    · obtain ⟨h0, h1, h2⟩ := mem_listTo.1 hp
      refine ⟨(p - 1).toNat, List.mem_range.2 (by omega), ?_⟩
      rw [Bool.and_eq_true]
      refine ⟨by simp [e], ?_⟩
      rw [show (((p - 1).toNat : Nat) : Int) + 1 = p by omega]
      exact h2
  · rintro ⟨p, hp, e⟩
    rw [Bool.and_eq_true] at e
    have hp := List.mem_range.1 hp
    exact .inr ⟨(p : Int) + 1, mem_listTo.2 ⟨by omega, by omega, e.2⟩, by simpa using e.1⟩

/-- A block of 256 marks. -/
def RowT (W : World) (B : Nat) (T : TS) : Prop := W.heap[B]? = some (.cells (arrT T) 87 (0, 0))
theorem RowT.lt {W : World} {B : Nat} {T : TS} (h : RowT W B T) : B < W.heap.size := (Array.getElem?_eq_some_iff.1 h).1
theorem RowT.kept {W W' : World} {row : Option Nat} {B : Nat} {T : TS} (h : RowT W B T) (hg : W.grownBy W' row) (hne : some B ≠ row) : RowT W' B T := (hg.block B h.lt hne).trans h
theorem RowT.cell {W : World} {B : Nat} {T : TS} (h : RowT W B T) {i : Nat} (hi : i < 256) : W.cell? ⟨B, i, none⟩ = some (.bool (T i)) := by
  rw [cell_of_row _ _ i _ _ _ h]; exact arrT_at T hi
theorem RowT.frozen {W : World} {B : Nat} {T : TS} (h : RowT W B T) (i : Nat) : W.frozen? ⟨B, i, none⟩ = false := by simp [World.frozen?, show W.heap[B]? = _ from h]
theorem RowT.below {W W' : World} {B : Nat} {T : TS} (h : RowT W B T) (hb : Below W.heap.size W W') : RowT W' B T := (hb.block B h.lt).trans h
theorem RowT.put {W : World} {B : Nat} {T : TS} (h : RowT W B T) {i : Nat} (hi : i < 256) : RowT (W.setCell ⟨B, i, none⟩ (.bool true)) B (putT T i) := by
  obtain ⟨hlt, hk⟩ := Array.getElem?_eq_some_iff.1 h
  show (W.heap.modify B _)[B]? = _
  rw [Array.getElem?_eq_getElem (by rw [Array.size_modify]; exact hlt), Array.getElem_modify_self, hk, ← arrT_put T hi]
  rfl
theorem rowT_own {β : Type} (B : Nat) (f : β → TS) : Own (fun s W => RowT W B (f s)) := fun s X Y row hs hg hrow =>
  hs.kept hg (fun e' => by obtain ⟨o, ho, hc⟩ := hrow B e'.symm; rw [show X.heap[B]? = _ from hs] at ho; cases ho; cases hc)

set_option maxRecDepth 100000 in
set_option maxHeartbeats 2000000 in
theorem singles_w (n : Nat) (hn : 3 ≤ n) (s : Int) (w : World) (hs : setB s) :
    CallsIn Fence.wide n Tryz.prog 90 #[.int .u8 s] w fun e W' => e = .returned (.agg (arrT (oneT s))) ∧ Below w.heap.size w W' := by
  have h1 : 1 ≤ n := by omega
  have s0 := hs.1
  have s1 := hs.2
  have hz := ts_zero
  refine callsIn_of_wp_marks Tryz.func90 rfl trivial ?_ rfl
  simp only [Tryz.ntmps90, List.size_toArray, List.length_cons, List.length_nil, Nat.reduceAdd, Nat.reduceSub, Array.replicate_succ, Array.replicate_zero, List.push_toArray, List.append_toArray, List.nil_append, List.cons_append]
  gi_wp2_with (gi_at_call 128; refine (prin_in _ _ _).mono ?_; rintro e w' ⟨rfl, rfl⟩)
  clear hz
  have bR : RowT (w.alloc (.cells (arrT noT) 87)) w.heap.size noT := heap_alloc_last _ _
  have bT : RowT ((w.alloc (.cells (arrT noT) 87)).alloc (.cells (arrT noT) 87)) (w.heap.size + 1) noT := by
    have := heap_alloc_last (w.alloc (.cells (arrT noT) 87)) (.cells (arrT noT) 87)
    rw [World.size_alloc] at this
    exact this
  have bS := Boxed.new ((w.alloc (.cells (arrT noT) 87)).alloc (.cells (arrT noT) 87)) 132 (.int .u8 s)
  rw [World.size_alloc, World.size_alloc] at bS
  have bR' : RowT (((w.alloc (.cells (arrT noT) 87)).alloc (.cells (arrT noT) 87)).alloc (.cells #[.int .u8 s] 132)) w.heap.size noT := (bR.below ((Below.refl _ _).alloc (Nat.le_refl _) _)).below ((Below.refl _ _).alloc (Nat.le_refl _) _)
  have bT' : RowT (((w.alloc (.cells (arrT noT) 87)).alloc (.cells (arrT noT) 87)).alloc (.cells #[.int .u8 s] 132)) (w.heap.size + 1) noT := bT.below ((Below.refl _ _).alloc (Nat.le_refl _) _)
  obtain ⟨W0, hW0⟩ : ∃ W0, ((w.alloc (.cells (arrT noT) 87)).alloc (.cells (arrT noT) 87)).alloc (.cells #[.int .u8 s] 132) = W0 := ⟨_, rfl⟩
  have hsz : W0.heap.size = w.heap.size + 3 := by rw [← hW0]; simp
  have hB0 : Below w.heap.size w W0 := by rw [← hW0]; exact (((Below.refl _ w).alloc (Nat.le_refl _) _).alloc (by simp) _).alloc (by simp; omega) _
  rw [hW0] at bS bR' bT' ⊢
  have HB0 : Hid (Below w.heap.size w W0) := hB0
  clear bR bT hW0 hB0
  refine wpIn_rangeFunc_ownG rfl h1 (gf := 154) (lb := #[.pointer (some ⟨w.heap.size + 1 + 1, 0, none⟩)]) rfl trivial (enters_of Tryz.func154 (by kernel_rfl) rfl)
    (prin_stops8 (n - 1) (by omega) (w.heap.size + 1 + 1) s s0 s1 W0 (by omega) bS.cell) (Kp := KeepBox (w.heap.size + 1 + 1)) (fun h k => Eq.trans k h) (fun W l o o' hl h _ _ => World.putObj_heap_other (by omega)) (Below.refl _ _) (fun _ => rfl)
    (fun pre W => (RowT W (w.heap.size + 1) (oneP pre) ∧ Boxed W (w.heap.size + 1 + 1) 132 (.int .u8 s)) ∧ Below (w.heap.size + 1) W0 W)
    (fun _ _ _ => False)
    (OwnFrom.and (OwnFrom.and (Own.from (rowT_own _ (fun pre => oneP pre)) _) (Own.from (boxed_own _ _ (fun _ => .int .u8 s)) _)) (ownFrom_below (by omega) (by omega)))
    (fun _ _ _ _ _ hs _ _ => hs)
    ⟨⟨bT', bS⟩, Below.refl _ _⟩
    (fun x => { tmps := #[.int .u8 s, undef, .pointer (some ⟨w.heap.size, 0, none⟩), .pointer (some ⟨w.heap.size + 1, 0, none⟩), .int .i64 x.1, .int .u8 s, .func (.func 154) #[] #[.pointer (some ⟨w.heap.size + 1 + 1, 0, none⟩)], .int .i64 x.1, undef, undef, undef, undef], defers := [] }) ?assign ?body ?done ?stop
  case assign =>
    intro l x W K hK
    gi_wp2
    exact hK
  case body =>
    rintro l pre x W ⟨⟨hA, hS⟩, hB⟩ hlt'
    have hp := x.2
    have hbi : (2 : Nat) ^ (x.1 - 1).toNat < 256 := Nat.pow_lt_pow_right (by omega) (show (x.1 - 1).toNat < 8 by omega)
    obtain ⟨q, hq⟩ : ∃ q, q = 2 ^ (x.1 - 1).toNat := ⟨_, rfl⟩
    have HQ : Hid (q = 2 ^ (x.1 - 1).toNat) := hq
    have hbq : bitI x.1 = (q : Int) := by rw [hq]; rfl
    rw [← hq] at hbi
    clear hq
    have cA : W.cell? ⟨w.heap.size + 1, q, none⟩ = some (.bool (oneP pre q)) := hA.cell hbi
    have fA : W.frozen? ⟨w.heap.size + 1, q, none⟩ = false := hA.frozen q
    have hq' : (q : Int) < 256 := by omega
    have hd : 1 ≤ n - 1 - 1 := by omega
    gi_wp2_with (first | (gi_at_call 129; refine (CallsIn.inRound l (callsIn_wide.2 (bitOf_c x.1 hp.1 hp.2 _))).mono ?_; rintro e wb ⟨rfl, rfl⟩; rw [hbq]) | fail)
    refine ⟨(KeepsOthers.setCell W ⟨w.heap.size + 1, q, none⟩ _).from _, ?_, ⟨?_, ?_⟩, ?_⟩
    · exact Below.heap_setCell _ _ _ _ (by simp)
    · rw [oneP_snoc, ← HQ.out]; exact hA.put hbi
    · exact (Below.heap_setCell _ _ _ _ (by simp)).trans hS
    · exact hB.setCell (p := ⟨w.heap.size + 1, q, none⟩) (Nat.le_refl _) _
  case done =>
    rintro D ys W hD hys ⟨⟨hA, _⟩, hB⟩ hK
    have hld := loadAt_row W (w.heap.size + 1) (oneP ys) hA
    have hRs : RowT W w.heap.size noT := (hB.block w.heap.size (by omega)).trans bR'
    have hst := storeCells_row W w.heap.size noT (oneP ys) hRs
    have hl2 := loadVar_row (W.setRow w.heap.size (arrT (oneP ys))) w.heap.size (oneP ys) (heap_setRow hRs)
    gi_wp2
    unfold Oper.wpIn
    simp [Oper.semAt, execOp, Act.eval, hld, Result.andThen]
    refine ⟨fun f hf => (by cases hf), ?_⟩
    rw [Oper.uponIn_value]
    have hKs : (W.setRow w.heap.size (arrT (oneP ys))).heap[D]? = some (.deferred (some [])) := (heap_setRow_ne (by omega)).trans hK
    gi_wp2
    refine ⟨by simp, .inl ⟨_, _, rfl, run_takeDeferred hKs, ?_⟩⟩
    refine ⟨.agg (arrT (oneP ys)), ?res, ?val, ?below⟩
    case res =>
      have hl3 := loadVar_row ((W.setRow w.heap.size (arrT (oneP ys))).putObj D (Obj.deferred none)) w.heap.size (oneP ys) ((World.putObj_heap_other (by omega)).trans (heap_setRow hRs))
      simp [results, Tryz.results90, asAddr, Result.andThen, hl3]
    case val => rw [oneP_end hys]
    case below =>
      have h1 : Below w.heap.size w (W.setRow w.heap.size (arrT (oneP ys))) := below_setRow (HB0.out.trans (hB.mono (by omega))) (Nat.le_refl _) _
      exact h1.grown (grownBy_putObj' _ D _) h1.size (fun k e => by cases e; omega)
  case stop =>
    rintro D c pre W _ _ h _
    exact h.elim

theorem singles_c (s : Int) (w : World) (hs : setB s) :
    Calls Tryz.prog 90 #[.int .u8 s] w fun e W' => e = .returned (.agg (arrT (oneT s))) ∧ Below w.heap.size w W' :=
  callsIn_wide.1 (singles_w 3 (Nat.le_refl _) s w hs)

end Go.Proofs.YtnfolmjdicfobaaGreatDoor

namespace Go.Proofs.YtnfolmjdicfobaaGreatDoor
open Go.RowKit
set_option linter.unusedVariables false
set_option linter.unusedSimpArgs false

/-- A slice of grants, read. -/
def GrV (w : World) (a : Option Addr) (zs : List GrI) : Prop := ∀ k p, zs[k]? = some p → ∃ g, a = some ⟨g, 0, none⟩ ∧ GrAt w g (k * 3) p

theorem GrV.below {w w' : World} {a : Option Addr} {zs : List GrI} (h : GrV w a zs) (hb : Below w.heap.size w w') : GrV w' a zs := fun k p e => by
  obtain ⟨g, ha, h1⟩ := h k p e
  exact ⟨g, ha, h1.below hb (World.block_lt_of_cell? w ⟨g, k * 3, none⟩ h1.1)⟩

theorem GrV.kept {w w' : World} {a : Option Addr} {zs : List GrI} {row : Option Nat} (h : GrV w a zs) (hg : w.grownBy w' row) (hne : ∀ g, a = some ⟨g, 0, none⟩ → some g ≠ row) : GrV w' a zs := fun k p e => by
  obtain ⟨g, ha, h1, h2, h3⟩ := h k p e
  exact ⟨g, ha, hg.cell h1 (hne g ha), hg.cell h2 (hne g ha), hg.cell h3 (hne g ha)⟩

theorem GrV.grIn {w : World} {a : Option Addr} {n : Nat} {zs : List GrI} (hn : zs.length = n) (h : GrV w a zs) : GrIn w a n zs := by
  refine ⟨hn, fun hp => ?_⟩
  obtain ⟨g, ha, _⟩ := h 0 _ (List.getElem?_eq_getElem (by omega))
  refine ⟨g, 0, ha, fun k x e => ?_⟩
  obtain ⟨g', ha', hx⟩ := h k x e
  rw [ha] at ha'
  cases ha'
  rw [Nat.zero_add]
  exact hx

theorem Own3.view {w : World} {B : Nat} {a : Option Addr} {n cap : Nat} {zs : List GrI} (h : Own3 w B (.slice a n cap) zs) : GrV w a zs := by
  intro k p e
  have hk : k < zs.length := by
    by_cases q : k < zs.length
    · exact q
    · rw [List.getElem?_eq_none (by omega)] at e; cases e
  have h0 : w.ownsRow B 196 3 (.slice a n cap) zs.length (flat3 zs) := h
  rcases h0.2 with ⟨h', h''⟩ | ⟨g, cap', cur, h', _⟩
  · omega
  · simp at h'
    obtain ⟨rfl, rfl, rfl⟩ := h'
    obtain ⟨f1, f2, f3⟩ := flat3_at zs k p e
    refine ⟨g, rfl, ?_, ?_, ?_⟩
    · rw [h0.cellAt (k * 3) (by omega)]; exact f1
    · rw [h0.cellAt (k * 3 + 1) (by omega)]; exact f2
    · rw [h0.cellAt (k * 3 + 2) (by omega)]; exact f3

theorem Own3.form {w : World} {B : Nat} {v : Value} {zs : List GrI} (h : Own3 w B v zs) : (v = .slice none 0 0 ∧ zs = []) ∨ ∃ g cap, v = .slice (some ⟨g, 0, none⟩) zs.length cap ∧ B ≤ g ∧ g < w.heap.size ∧ zs.length ≤ cap ∧ cap ≤ maxLen := by
  have h0 : w.ownsRow B 196 3 v zs.length (flat3 zs) := h
  rcases h0.2 with ⟨h', h''⟩ | ⟨g, cap', cur, h', hb, hg, hc, hm, _⟩
  · exact .inl ⟨h', List.length_eq_zero_iff.1 h''⟩
  · exact .inr ⟨g, cap', h', hb, (Array.getElem?_eq_some_iff.1 hg).1, hc, hm⟩

theorem Own3.slice {w : World} {B : Nat} {v : Value} {zs : List GrI} (h : Own3 w B v zs) : ∃ a cap, v = .slice a zs.length cap := by
  rcases h.form with ⟨rfl, rfl⟩ | ⟨g, cap, rfl, _⟩
  · exact ⟨none, 0, rfl⟩
  · exact ⟨_, _, rfl⟩

theorem Own3.alloc {w : World} {B : Nat} {v : Value} {zs : List GrI} (h : Own3 w B v zs) (o : Obj) : Own3 (w.alloc o) B v zs := World.ownsRow.alloc h o

/-- The marks of n grants. -/
def mk3 (n : Nat) : List GrI := (List.range n).map fun j => ((((1 + 3 * j : Nat) : Int), ((2 + 3 * j : Nat) : Int)), ((3 + 3 * j : Nat) : Int))
theorem mk3_len (n : Nat) : (mk3 n).length = n := by simp [mk3]
theorem mk3_at (n j : Nat) (h : j < n) : (mk3 n)[j]? = some ((((1 + 3 * j : Nat) : Int), ((2 + 3 * j : Nat) : Int)), ((3 + 3 * j : Nat) : Int)) := by simp [mk3, h]

theorem flat3_set (a : List GrI) (k : Nat) (p : GrI) : flat3 (a.set k p) = (((flat3 a).set (k * 3) (.int .i64 p.1.1)).set (k * 3 + 1) (.int .i64 p.1.2)).set (k * 3 + 2) (.int .i64 p.2) := by
  induction a generalizing k with
  | nil => simp [flat3]
  | cons q qs ih =>
    cases k with
    | zero => simp [flat3]
    | succ k =>
      rw [show (k + 1) * 3 = k * 3 + 1 + 1 + 1 by omega]
      simp [flat3, ih]

theorem Own3.put {w : World} {B g cap : Nat} {zs : List GrI} {n : Nat} (hn : n = zs.length) (h : Own3 w B (.slice (some ⟨g, 0, none⟩) n cap) zs) (j : Nat) (p : GrI) :
    Own3 (((w.setCell ⟨g, j * 3, none⟩ (.int .i64 p.1.1)).setCell ⟨g, j * 3 + 1, none⟩ (.int .i64 p.1.2)).setCell ⟨g, j * 3 + 2, none⟩ (.int .i64 p.2)) B (.slice (some ⟨g, 0, none⟩) n cap) (zs.set j p) ∧ w.grownBy (((w.setCell ⟨g, j * 3, none⟩ (.int .i64 p.1.1)).setCell ⟨g, j * 3 + 1, none⟩ (.int .i64 p.1.2)).setCell ⟨g, j * 3 + 2, none⟩ (.int .i64 p.2)) (some g) := by
  subst hn
  have h0 : w.ownsRow B 196 3 (.slice (some ⟨g, 0, none⟩) zs.length cap) zs.length (flat3 zs) := h
  have h1 := h0.stored (j * 3) (.int .i64 p.1.1)
  have h2 := h1.1.stored (j * 3 + 1) (.int .i64 p.1.2)
  have h3 := h2.1.stored (j * 3 + 2) (.int .i64 p.2)
  refine ⟨?_, grown_tr (grown_tr h1.2 h2.2) h3.2⟩
  show World.ownsRow _ B 196 3 _ (zs.set j p).length (flat3 (zs.set j p))
  rw [flat3_set, List.length_set]
  exact h3.1

theorem Own3.cell {w : World} {B g cap : Nat} {zs : List GrI} {n : Nat} (hn : n = zs.length) (h : Own3 w B (.slice (some ⟨g, 0, none⟩) n cap) zs) (j : Nat) (hj : j < n * 3) : (∃ v, w.cell? ⟨g, j, none⟩ = some v) ∧ w.frozen? ⟨g, j, none⟩ = false := by
  subst hn
  have h0 : w.ownsRow B 196 3 (.slice (some ⟨g, 0, none⟩) zs.length cap) zs.length (flat3 zs) := h
  exact ⟨⟨_, (h0.cellAt j hj).trans (List.getElem?_eq_getElem (by rw [flat3_len]; exact hj))⟩, h0.frozenAt j⟩

end Go.Proofs.YtnfolmjdicfobaaGreatDoor
