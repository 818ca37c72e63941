/-
  CONTRACTS of impl.ListOf and spec.ListOf.
  Conditions: each contract bears its own.
  CONTRACTS: chapter 14: WhoIn of both programs.
  Conditions: each contract bears its own.
-/
import Derived.Test.YthogdfnaojijhaaPw03
import Derived.Test.YthogdfnaojijhaaSize1
import Derived.Test.YthogdfnaojijhaaPw02
import Derived.Test.YthogdfnaojijhaaList2
namespace Go.Proofs.Ythogdfnaojijhaa
open Go.RowKit Go.Shelf
attribute [local go_sem] Oper.semAt_some
attribute [local go_sem] wide_fn
set_option linter.unusedVariables false

set_option maxHeartbeats 400000 in
theorem fault_in (s : Int) (h0 : 0 ≤ s) (h1 : s ≤ 255) (w : World) :
    Calls Try.prog 72 #[.int .i64 s] w fun e w' => e = .returned (.int .i64 0) ∧ w = w' := by
  have h2 : s < (256 : Int) := by omega
  go_enter Try.func72, Try.ntmps72
  go_wp2
  go_ret
  exact ⟨rfl, rfl⟩

set_option maxRecDepth 100000 in
set_option maxHeartbeats 2000000 in
theorem implList_w (n : Nat) (hn : 3 ≤ n) (s : Int) (s0 : 0 ≤ s) (s1 : s ≤ 255) (w : World) :
    CallsIn Fence.wide n Try.prog 46 #[.int .i64 s] w fun e W' => ∃ a cap, e = .returned (.agg #[.int .i64 0, .slice a (listTo s 8).length cap]) ∧ W'.ownsRow (w.heap.size + 1) 2 1 (.slice a (listTo s 8).length cap) (listTo s 8).length ((listTo s 8).map (Value.int .i64)) ∧ Below w.heap.size w W' := by
  have h1 : 1 ≤ n := by omega
  have hs2 : s < (256 : Int) := by omega
  obtain ⟨i0, hi, hz0, hz1, hz2⟩ := info_parts Try.info2
  refine callsIn_of_wp_marks Try.func46 rfl trivial ?_ rfl
  simp only [Try.ntmps46, List.size_toArray, List.length_cons, List.length_nil, Nat.reduceAdd, Nat.reduceSub, Array.replicate_succ, Array.replicate_zero, List.push_toArray, List.append_toArray, List.nil_append, List.cons_append]
  gi_wp2_with (first | (gi_at_call 72; refine (callsIn_wide.2 (fault_in s s0 s1 _)).mono ?_; rintro e w' ⟨rfl, rfl⟩) | (gi_at_call 73; refine (prin_in _ _ _).mono ?_; rintro e w' ⟨rfl, rfl⟩))
  have b0 := World.alloc_heap_new w (.cells #[.int .i64 0, .slice none 0 0] 50)
  have bL := Boxed.new (w.alloc (.cells #[.int .i64 0, .slice none 0 0] 50)) 43 (.slice none 0 0)
  rw [World.size_alloc] at bL
  have bS := Boxed.new ((w.alloc (.cells #[.int .i64 0, .slice none 0 0] 50)).alloc (.cells #[.slice none 0 0] 43)) 110 (.int .u8 s)
  rw [World.size_alloc, World.size_alloc] at bS
  have bL' := bL.alloc (.cells #[.int .u8 s] 110)
  obtain ⟨W0, hW0⟩ : ∃ W0, ((w.alloc (.cells #[.int .i64 0, .slice none 0 0] 50)).alloc (.cells #[.slice none 0 0] 43)).alloc (.cells #[.int .u8 s] 110) = W0 := ⟨_, rfl⟩
  have hsz : W0.heap.size = w.heap.size + 3 := by rw [← hW0]; simp
  have hB0 : Below w.heap.size w W0 := by rw [← hW0]; exact (((Below.refl _ w).alloc (Nat.le_refl _) _).alloc (by simp) _).alloc (by simp; omega) _
  have hr0 : W0.cell? ⟨w.heap.size, 0, none⟩ = some (.int .i64 0) := by rw [← hW0]; simp [go_sem]
  have hr1 : W0.cell? ⟨w.heap.size, 1, none⟩ = some (.slice none 0 0) := by rw [← hW0]; simp [go_sem]
  have hf0 : W0.frozen? ⟨w.heap.size, 0, none⟩ = false := by rw [← hW0]; simp [go_sem]
  have hf1 : W0.frozen? ⟨w.heap.size, 1, none⟩ = false := by rw [← hW0]; simp [go_sem]
  rw [hW0] at bS bL' ⊢
  have HB0 : Hid (Below w.heap.size w W0) := hB0
  clear b0 bL hW0 hB0
  refine wpIn_rangeFunc_ownG rfl h1 (gf := 83) (lb := #[.pointer (some ⟨w.heap.size + 1 + 1, 0, none⟩)]) rfl trivial (enters_of Try.func83 (by kernel_rfl) rfl)
    (prin_stops (n - 1) (by omega) (w.heap.size + 1 + 1) s s0 s1 W0 (by omega) bS.cell) (Kp := KeepBox (w.heap.size + 1 + 1)) (fun h k => Eq.trans k h) (fun W l o o' hl h _ _ => World.putObj_heap_other (by omega)) (Below.refl _ _) (fun _ => rfl)
    (fun pre W => ((∃ v, Boxed W (w.heap.size + 1) 43 v ∧ W.ownsRow (w.heap.size + 1) 2 1 v pre.length (pre.map (Value.int .i64)) ∧ True) ∧ Boxed W (w.heap.size + 1 + 1) 110 (.int .u8 s)) ∧ Below (w.heap.size + 1) W0 W)
    (fun _ _ _ => False)
    (OwnFrom.and (OwnFrom.and (Own.from (holdsRow_own (w.heap.size + 1) (w.heap.size + 1) 43 2 1 (fun pre : List Int => pre.length) (fun pre => pre.map (Value.int .i64)) (fun _ _ => True)) _) (Own.from (boxed_own _ _ (fun _ => .int .u8 s)) _)) (ownFrom_below (by omega) (by omega)))
    (fun _ _ _ _ _ hs _ _ => hs)
    ⟨⟨⟨_, bL', World.ownsRow_nil _ _ _ _, trivial⟩, bS⟩, Below.refl _ _⟩
    (fun x => { tmps := #[.int .i64 s, undef, .pointer (some ⟨w.heap.size, 0, none⟩), .int .i64 0, .pointer (some ⟨w.heap.size + 1, 0, none⟩), .int .i64 x, .int .i64 s, .int .i64 0, .int .i64 0, .bool false, undef, undef, .int .i64 s, .int .u8 s, .func (.func 83) #[] #[.pointer (some ⟨w.heap.size + 1 + 1, 0, none⟩)], .int .i64 x, undef, undef, undef, undef, undef, undef], defers := [] }) ?assign ?body ?done ?stop
  case assign =>
    intro l x W K hK
    gi_wp2
    exact hK
  case body =>
    rintro l pre x W ⟨⟨⟨v, hv, hrow, _⟩, hS⟩, hB⟩ hlt
    have hc := hv.cell
    have hl8 := listTo_le s 8
    gi_wp2_with (gi_at_builtin; refine wpListIn_append_own _ rfl _ _ 43 rfl (w.heap.size + 1) 2 i0 (.int .i64 0) 1 8 Try.underlying43 hi hz0 hz1 hz2 rfl (by decide) _ _ _ rfl (hrow.alloc _) ⟨W.heap.size, 0, none⟩ 1 1 [.int .i64 x] rfl rfl (cell_one_new _ _ _) (by simp [Value.oneCell']) (by unfold maxLen; omega) (by omega) (by have := hB.size; simp; omega) ?_; intro v' w1 hown' hgrow _; obtain ⟨g', cap', rfl⟩ := ownsRow_succ hown'; obtain ⟨hv1, hv2, hr2, hk2, hb2⟩ := hv.appended (by decide) hrow (by have := hB.size; omega) (Nat.le_refl _) hown' hgrow; have hc1 := hv1.cell; have hf1 := hv1.frozen; have hS1 := ((hS.alloc _).kept hgrow (hS.not_row (by decide) hrow)).other (B' := w.heap.size + 1) (by omega) (.slice (some ⟨g', 0, none⟩) (pre.length + 1) cap'))
    exact ⟨hk2.from _, hS1.trans hS.symm, ⟨⟨_, hv2, by simpa using hr2, trivial⟩, hS1⟩, hB.trans hb2⟩
  case done =>
    rintro D ys W hD rfl ⟨⟨⟨v, hv, hrow, _⟩, _⟩, hB⟩ hK
    obtain ⟨a, cap, rfl⟩ := owns_slice hrow
    have hc := hv.cell
    have q0 : W.cell? ⟨w.heap.size, 0, none⟩ = some (.int .i64 0) := (hB.cell (p := ⟨w.heap.size, 0, none⟩) (by simp)).trans hr0
    have q1 : W.cell? ⟨w.heap.size, 1, none⟩ = some (.slice none 0 0) := (hB.cell (p := ⟨w.heap.size, 1, none⟩) (by simp)).trans hr1
    have p0 : W.frozen? ⟨w.heap.size, 0, none⟩ = false := (hB.frozen (p := ⟨w.heap.size, 0, none⟩) (by simp)).trans hf0
    have p1 : W.frozen? ⟨w.heap.size, 1, none⟩ = false := (hB.frozen (p := ⟨w.heap.size, 1, none⟩) (by simp)).trans hf1
    gi_wp2
    have hK1 := (KeepsOthers.setCell W ⟨w.heap.size, 0, none⟩ (.int .i64 0)).same D _ hK rfl
    have hK2 := (KeepsOthers.setCell (W.setCell ⟨w.heap.size, 0, none⟩ (.int .i64 0)) ⟨w.heap.size, 1, none⟩ (.slice a (listTo s 8).length cap)).same D _ hK1 rfl
    refine ⟨by simp, .inl ⟨_, _, rfl, run_takeDeferred hK2, ?_⟩⟩
    refine ⟨.agg #[.int .i64 0, .slice a (listTo s 8).length cap], ?res, a, cap, rfl, ?own, ?below⟩
    case res =>
      have hD' : w.heap.size ≠ D := by omega
      have c0 : (((W.setCell ⟨w.heap.size, 0, none⟩ (.int .i64 0)).setCell ⟨w.heap.size, 1, none⟩ (.slice a (listTo s 8).length cap)).putObj D (Obj.deferred none)).cell? ⟨w.heap.size, 0, none⟩ = some (.int .i64 0) := by
        rw [World.cell?_of_block (a := ⟨w.heap.size, 0, none⟩) (World.putObj_heap_other hD'), World.cell?_setCell_other _ _ _ _ (by simp)]
        exact World.cell?_setCell_same' _ _ _ (by rw [q0]; rfl)
      have c1 : (((W.setCell ⟨w.heap.size, 0, none⟩ (.int .i64 0)).setCell ⟨w.heap.size, 1, none⟩ (.slice a (listTo s 8).length cap)).putObj D (Obj.deferred none)).cell? ⟨w.heap.size, 1, none⟩ = some (.slice a (listTo s 8).length cap) := by
        rw [World.cell?_of_block (a := ⟨w.heap.size, 1, none⟩) (World.putObj_heap_other hD')]
        exact World.cell?_setCell_same' _ _ _ (by rw [World.cell?_setCell_other _ _ _ _ (by simp), q1]; rfl)
      generalize (((W.setCell ⟨w.heap.size, 0, none⟩ (.int .i64 0)).setCell ⟨w.heap.size, 1, none⟩ (.slice a (listTo s 8).length cap)).putObj D (Obj.deferred none)) = X at c0 c1 ⊢
      simp [results, Try.results46, go_sem, c0, c1]
    case own => exact ownsRow_putObj (ownsRow_setCell_below (ownsRow_setCell_below hrow (by simp) _) (by simp) _) _ hK2 rfl
    case below =>
      exact ((((HB0.out.trans (hB.mono (by omega))).setCell (p := ⟨w.heap.size, 0, none⟩) (Nat.le_refl _) _).setCell (p := ⟨w.heap.size, 1, none⟩) (Nat.le_refl _) _).trans (belowK_b (w := w) (Nat.le_refl _) _ D _ _ (by omega) hK2 rfl rfl))
  case stop =>
    rintro D c pre W _ _ h _
    exact h.elim

theorem implList_in (s : Int) (s0 : 0 ≤ s) (s1 : s ≤ 255) (w : World) :
    Calls Try.prog 46 #[.int .i64 s] w fun e W' => ∃ a cap, e = .returned (.agg #[.int .i64 0, .slice a (listTo s 8).length cap]) ∧ W'.ownsRow (w.heap.size + 1) 2 1 (.slice a (listTo s 8).length cap) (listTo s 8).length ((listTo s 8).map (Value.int .i64)) ∧ Below w.heap.size w W' :=
  callsIn_wide.1 (implList_w 3 (Nat.le_refl _) s s0 s1 w)

set_option maxHeartbeats 400000 in
theorem implList_out (s : Int) (h : s < 0 ∨ 255 < s) (w : World) :
    Calls Try.prog 46 #[.int .i64 s] w fun e w' => e = .returned (.agg #[.int .i64 3, .slice none 0 0]) ∧ Below w.heap.size w w' := by
  rcases h with h | h
  · go_enter Try.func46, Try.ntmps46
    go_wp2
    exact bodyPost_ret (v := .agg #[.int .i64 3, .slice none 0 0]) (by simp [results, Try.results46, go_sem]) rfl ⟨rfl, (Below.refl _ _).alloc (Nat.le_refl _) _⟩
  · have e1 : (256 : Int) ≤ s := by omega
    have e2 : (0 : Int) ≤ s := by omega
    go_enter Try.func46, Try.ntmps46
    go_wp2
    exact bodyPost_ret (v := .agg #[.int .i64 3, .slice none 0 0]) (by simp [results, Try.results46, go_sem]) rfl ⟨rfl, (Below.refl _ _).alloc (Nat.le_refl _) _⟩

end Go.Proofs.Ythogdfnaojijhaa

namespace Go.Proofs.Ythogdfnaojijhaa
open Go.RowKit
set_option linter.unusedVariables false
set_option linter.unusedSimpArgs false

theorem low_ownsW {w : World} {B B' : Nat} {t : TypeId} {sz : Nat} {v : Value} {n : Nat} {xs : List Value} (h : w.ownsRow B t sz v n xs) (hB : B' ≤ B) : w.ownsRow B' t sz v n xs := by
  refine ⟨h.1, ?_⟩
  rcases h.2 with q | ⟨g, cap, cur, e, hg, rest⟩
  · exact .inl q
  · exact .inr ⟨g, cap, cur, e, Nat.le_trans hB hg, rest⟩

def whoC (x : WlI) : Int := if 20 < x.gn then 2 else isC x.st

def whoL (x : WlI) : List Int := if whoC x = 0 then listTo x.s 8 else []

theorem is_ok {x : StI} (h : isC x = 0) : stCode x = 0 ∧ x.k = 1 ∧ 1 ≤ x.s ∧ x.s ≤ 255 := by
  unfold isC at h
  by_cases h1 : stCode x = 0
  · rw [if_pos h1] at h
    by_cases h2 : x.k = 1
    · refine ⟨h1, h2, ?_⟩
      unfold stCode at h1
      by_cases a1 : inR x.k 1 4 = false
      · rw [if_pos a1] at h1; omega
      rw [if_neg a1] at h1
      by_cases a2 : ownB x = false
      · rw [if_pos a2] at h1; omega
      rw [if_neg a2] at h1
      by_cases a3 : rngB x = false
      · rw [if_pos a3] at h1; omega
      unfold rngB at a3
      by_cases b1 : inR x.e 1 9 = false
      · rw [if_pos b1] at a3; exact absurd rfl a3
      rw [if_neg b1] at a3
      have hk : formK x.k = true := by rw [h2]; rfl
      rw [if_pos hk] at a3
      by_cases b2 : inR x.f 1 4 = false
      · rw [if_pos b2] at a3; exact absurd rfl a3
      rw [if_neg b2] at a3
      have := (inR_iff x.s 1 255).1 (by simpa using a3)
      exact this
    · rw [if_neg h2] at h; omega
  · rw [if_neg h1] at h; exact absurd h h1

abbrev GivesWI (fn : Nat) (x : WlI) (c : Int) (ys : List Int) (w : World) : Prop := Calls Try.prog fn #[.agg #[.slice x.ca x.cn x.cc, .int .i64 x.k, .int .i64 x.e, .int .i64 x.f, .int .i64 x.s, .int .i64 x.n, .slice x.ga x.gn x.gc, .slice x.ra x.rn x.rc]] w fun e w' => ∃ a cap, e = .returned (.agg #[.int .i64 c, .slice a ys.length cap]) ∧ w'.ownsRow w.heap.size 2 1 (.slice a ys.length cap) ys.length (ys.map (Value.int .i64)) ∧ Below w.heap.size w w'

theorem box2W {w W : World} {b : Nat} {x y : Value} (h : BoxW b [x, y] W) : W.cell? ⟨b, 0, none⟩ = some x ∧ W.cell? ⟨b, 1, none⟩ = some y ∧ W.frozen? ⟨b, 0, none⟩ = false ∧ W.frozen? ⟨b, 1, none⟩ = false := ⟨h.1 0 _ rfl, h.1 1 _ rfl, h.2 0, h.2 1⟩

set_option maxRecDepth 20000 in
set_option maxHeartbeats 2000000 in
theorem implWho_c (x : WlI) (w : World) (hgn : x.gn ≤ 1048576) : GivesWI 21 x (whoC x) (whoL x) w := by
  obtain ⟨V, hV⟩ : ∃ V, V = ((w.alloc (.cells #[.slice x.ca x.cn x.cc, .int .i64 x.k, .int .i64 x.e, .int .i64 x.f, .int .i64 x.s, .int .i64 x.n, .slice x.ga x.gn x.gc, .slice x.ra x.rn x.rc] 55)).alloc (.cells #[.int .i64 0, .slice none 0 0] 50)).alloc (.cells #[.int .i64 x.k, .int .i64 x.e, .int .i64 x.f, .int .i64 x.s, .int .i64 x.n] 36) := ⟨_, rfl⟩
  have hVl : w.heap.size + 1 + 1 < V.heap.size := by rw [hV]; simp
  have BV : Hid (Below w.heap.size w V) := by show Below _ _ _; rw [hV]; exact (((Below.refl _ _).alloc (Nat.le_refl _) _).alloc (by simp) _).alloc (by simp; omega) _
  have X0 : Hid (Hold w.heap.size (w.heap.size + 1) (BoxV w.heap.size [.slice x.ca x.cn x.cc, .int .i64 x.k, .int .i64 x.e, .int .i64 x.f, .int .i64 x.s, .int .i64 x.n, .slice x.ga x.gn x.gc, .slice x.ra x.rn x.rc]) V) := by show Hold _ _ _ _; rw [hV]; exact ((boxV_new w _ _).alloc _).alloc _
  have Y0 : Hid (BoxW (w.heap.size + 1) [.int .i64 0, .slice none 0 0] V) := by
    show BoxW _ _ _
    have q := boxW_new (w.alloc (.cells #[.slice x.ca x.cn x.cc, .int .i64 x.k, .int .i64 x.e, .int .i64 x.f, .int .i64 x.s, .int .i64 x.n, .slice x.ga x.gn x.gc, .slice x.ra x.rn x.rc] 55)) #[.int .i64 0, .slice none 0 0] 50
    rw [World.size_alloc] at q
    rw [hV]
    exact q.below (by simp) ((Below.refl _ _).alloc (Nat.le_refl _) _)
  have S0 : Hid (Hold (w.heap.size + 1 + 1) (w.heap.size + 1 + 1 + 1) (BoxV (w.heap.size + 1 + 1) [.int .i64 x.k, .int .i64 x.e, .int .i64 x.f, .int .i64 x.s, .int .i64 x.n]) V) := by
    show Hold _ _ _ _
    have q := boxV_new ((w.alloc (.cells #[.slice x.ca x.cn x.cc, .int .i64 x.k, .int .i64 x.e, .int .i64 x.f, .int .i64 x.s, .int .i64 x.n, .slice x.ga x.gn x.gc, .slice x.ra x.rn x.rc] 55)).alloc (.cells #[.int .i64 0, .slice none 0 0] 50)) #[.int .i64 x.k, .int .i64 x.e, .int .i64 x.f, .int .i64 x.s, .int .i64 x.n] 36
    simp only [World.size_alloc] at q
    rw [hV]
    exact q
  obtain ⟨b, hb⟩ : ∃ b, decide ((x.gn : Int) > 20) = b := ⟨_, rfl⟩
  obtain ⟨t, ht⟩ : ∃ t, isC x.st = t := ⟨_, rfl⟩
  obtain ⟨u, hu⟩ : ∃ u, (if b = true then (2 : Int) else 0) = u := ⟨_, rfl⟩
  obtain ⟨c, hc⟩ : ∃ c, frI [u, t] = c := ⟨_, rfl⟩
  have HC : Hid (frI [u, t] = c) := hc
  have HW : Hid (whoC x = c) := by
    show _ = _
    unfold whoC
    rw [← hc, ← hu, ← hb]
    unfold frI frI frI
    by_cases q : 20 < x.gn
    · have : decide ((x.gn : Int) > 20) = true := by simp; omega
      rw [this, if_pos q]; rfl
    · have : decide ((x.gn : Int) > 20) = false := by simp; omega
      rw [this, if_neg q, ht]
      by_cases r : t = 0
      · simp [r]
      · simp [r]
  have HR : Hid (∀ w, Calls Try.prog 44 #[.bool b, .int .i64 2] w fun e w' => e = .returned (.int .i64 u) ∧ w = w') := fun w => by rw [← hu]; exact reasonIf_c b 2 w
  have HF : Hid (∀ w, Calls Try.prog 45 #[.agg #[.int .i64 x.k, .int .i64 x.e, .int .i64 x.f, .int .i64 x.s, .int .i64 x.n]] w fun e w' => e = .returned (.int .i64 t) ∧ Below w.heap.size w w') := fun w => by rw [← ht]; exact issueFault_c x.st w
  obtain ⟨ys, hys⟩ : ∃ ys, whoL x = ys := ⟨_, rfl⟩
  have HL : Hid (ys = if c = 0 then listTo x.s 8 else []) := by show _ = _; rw [← hys]; unfold whoL; rw [HW.out]
  have HOK : Hid (c = 0 → 0 ≤ x.s ∧ x.s ≤ 255) := fun q => by
    have h := HW.out
    rw [q] at h
    unfold whoC at h
    by_cases r : 20 < x.gn
    · rw [if_pos r] at h; omega
    · rw [if_neg r] at h
      have := is_ok h
      have h3 : 1 ≤ x.s := this.2.2.1
      exact ⟨by omega, this.2.2.2⟩
  rw [HW.out, hys]
  have x6 := X0.out.out 6 _ rfl
  have s0 := S0.out.out 0 _ rfl
  have s1 := S0.out.out 1 _ rfl
  have s2 := S0.out.out 2 _ rfl
  have s3 := S0.out.out 3 _ rfl
  have s4 := S0.out.out 4 _ rfl
  have hl0 : w.heap.size < V.heap.size := by omega
  clear hu ht hc HW hys
  go_enter Try.func21, Try.ntmps21
  go_upto_region 2 with fail
  rw [← hV]
  clear hV
  go_region_held3 (fun w' => KW V w') (first | exact hS | exact kp_drew _ | exact kpE_new (by assumption) _ | assumption)
    (first | (go_at_call 45; refine (HF.out _).mono ?_; rintro e w' ⟨rfl, hb2⟩; have hS := kp_step (by assumption) hb2) | (go_at_call 44; refine (HR.out _).mono ?_; rintro e w' ⟨rfl, rfl⟩) | (go_at_call 43; refine (reasons2_c _ u t _ ?_ ?_).mono ?_; (· simp [go_sem]); (· simp [go_sem]); rintro e w' ⟨rfl, rfl⟩; rw [HC.out]))
  have hS3 := kpE_new hS (.cells #[.int .i64 u, .int .i64 t] 2)
  generalize w'.alloc (.cells #[.int .i64 u, .int .i64 t] 2) = w3 at hS3 ⊢
  have B3 := hidW (BV.out.trans (hS3.2.mono BV.out.size))
  have Y3 := hidW (Y0.out.below (by omega) hS3.2)
  have S3 := hidW (S0.out.below hS3.2)
  have hz3 := hS3.2.size
  clear hS hS3 x6 s0 s1 s2 s3 s4 X0 Y0 S0 BV
  by_cases c0 : c = 0
  · have cb : (c != 0) = false := by simp [c0]
    obtain ⟨r0, r1⟩ := HOK.out c0
    have HY : Hid (ys = listTo x.s 8) := by show _ = _; rw [HL.out, if_pos c0]
    subst c0
    clear HL
    have s3 := S3.out.out 3 _ rfl
    have hl2 : w.heap.size + 1 + 1 < w3.heap.size := by omega
    go_wp2_with fail
    refine (implList_in x.s r0 r1 w3).mono ?_
    rintro e w4 ⟨a, cap, rfl, hown, hb4⟩
    have Y4 := hidW (Y3.out.below (by omega) hb4)
    have hz4 := hb4.size
    obtain ⟨y0, y1, f0, f1⟩ := box2W (w := w) Y4.out
    have hl1 : w.heap.size + 1 < w4.heap.size := by omega
    have HO := hidW hown
    have B4 := hidW (B3.out.trans (hb4.mono B3.out.size))
    clear hown hb4 s3 hl2
    go_wp2
    refine bodyPost_ret (v := .agg #[.int .i64 0, .slice a (listTo x.s 8).length cap]) (by simp [results, Try.results21, go_sem, y0, y1, hl1]) rfl ⟨a, cap, by rw [HY.out], by rw [HY.out]; exact low_ownsW (ownsE_set (ownsE_set HO.out (a := ⟨w.heap.size + 1, 0, none⟩) (by show w.heap.size + 1 < _; omega) _) (a := ⟨w.heap.size + 1, 1, none⟩) (by show w.heap.size + 1 < _; omega) _) (by omega), ?_⟩
    exact (B4.out.setCell (by show w.heap.size ≤ w.heap.size + 1; omega) _).setCell (by show w.heap.size ≤ w.heap.size + 1; omega) _
  · have cb : (c != 0) = true := by simp [c0]
    have HY : Hid (ys = []) := by show _ = _; rw [HL.out, if_neg c0]
    clear HL
    obtain ⟨y0, y1, f0, f1⟩ := box2W (w := w) Y3.out
    have hl1 : w.heap.size + 1 < w3.heap.size := by omega
    clear c0
    go_wp2
    refine bodyPost_ret (v := .agg #[.int .i64 c, .slice none 0 0]) (by simp [results, Try.results21, go_sem, y0, y1, hl1]) rfl ⟨none, 0, by rw [HY.out]; rfl, by rw [HY.out]; exact World.ownsRow_nil _ _ _ _, ?_⟩
    exact (B3.out.setCell (by show w.heap.size ≤ w.heap.size + 1; omega) _).setCell (by show w.heap.size ≤ w.heap.size + 1; omega) _

set_option maxRecDepth 20000 in
set_option maxHeartbeats 2000000 in
theorem specWho_c (x : WlI) (w : World) (hgn : x.gn ≤ 1048576) : GivesWI 19 x (whoC x) (whoL x) w := by
  obtain ⟨V, hV⟩ : ∃ V, V = (w.alloc (.cells #[.slice x.ca x.cn x.cc, .int .i64 x.k, .int .i64 x.e, .int .i64 x.f, .int .i64 x.s, .int .i64 x.n, .slice x.ga x.gn x.gc, .slice x.ra x.rn x.rc] 55)).alloc (.cells #[.int .i64 0, .slice none 0 0] 50) := ⟨_, rfl⟩
  have hVl : w.heap.size + 1 < V.heap.size := by rw [hV]; simp
  have BV : Hid (Below w.heap.size w V) := by show Below _ _ _; rw [hV]; exact ((Below.refl _ _).alloc (Nat.le_refl _) _).alloc (by simp) _
  have X0 : Hid (Hold w.heap.size (w.heap.size + 1) (BoxV w.heap.size [.slice x.ca x.cn x.cc, .int .i64 x.k, .int .i64 x.e, .int .i64 x.f, .int .i64 x.s, .int .i64 x.n, .slice x.ga x.gn x.gc, .slice x.ra x.rn x.rc]) V) := by show Hold _ _ _ _; rw [hV]; exact (boxV_new w _ _).alloc _
  have Y0 : Hid (BoxW (w.heap.size + 1) [.int .i64 0, .slice none 0 0] V) := by
    show BoxW _ _ _
    have q := boxW_new (w.alloc (.cells #[.slice x.ca x.cn x.cc, .int .i64 x.k, .int .i64 x.e, .int .i64 x.f, .int .i64 x.s, .int .i64 x.n, .slice x.ga x.gn x.gc, .slice x.ra x.rn x.rc] 55)) #[.int .i64 0, .slice none 0 0] 50
    rw [World.size_alloc] at q
    rw [hV]
    exact q
  have SA : Hid (∀ W : World, Below V.heap.size V W → StAt W w.heap.size 1 x.st) := fun W hW => by
    have q := X0.out.below hW
    exact ⟨q.out 1 _ rfl, q.out 2 _ rfl, q.out 3 _ rfl, q.out 4 _ rfl, q.out 5 _ rfl⟩
  obtain ⟨c, hc⟩ : ∃ c, whoC x = c := ⟨_, rfl⟩
  obtain ⟨t, ht⟩ : ∃ t, stCode x.st = t := ⟨_, rfl⟩
  obtain ⟨ys, hys⟩ : ∃ ys, whoL x = ys := ⟨_, rfl⟩
  have HC : Hid (c = if 20 < x.gn then 2 else isC x.st) := by show _ = _; rw [← hc]; rfl
  have HIS : Hid (isC x.st = if t = 0 then (if x.k = 1 then 0 else 1) else t) := by show _ = _; rw [← ht]; rfl
  have HL : Hid (ys = if c = 0 then listTo x.s 8 else []) := by show _ = _; rw [← hys]; unfold whoL; rw [hc]
  have HF : Hid (∀ W : World, Below V.heap.size V W → Calls Try.prog 30 #[.pointer (some ⟨w.heap.size, 1, none⟩)] W fun e w' => e = .returned (.int .i64 t) ∧ W = w') := fun W hW => by have := l7Fault_c w.heap.size 1 x.st W (SA.out W hW); rw [ht] at this; exact this
  have HOK : Hid (c = 0 → 0 ≤ x.s ∧ x.s ≤ 255) := fun q => by
    have h := HC.out
    rw [q] at h
    by_cases r : 20 < x.gn
    · rw [if_pos r] at h; omega
    · rw [if_neg r] at h
      have := is_ok h.symm
      have h3 : 1 ≤ x.s := this.2.2.1
      exact ⟨by omega, this.2.2.2⟩
  rw [hc, hys]
  obtain ⟨y0, y1, f0, f1⟩ := box2W (w := w) Y0.out
  have x6 := X0.out.out 6 _ rfl
  have hl0 : w.heap.size < V.heap.size := by omega
  have hw1 : w.heap.size ≤ w.heap.size + 1 := by omega
  clear hc ht hys
  by_cases h20 : 20 < x.gn
  · have hb : decide ((x.gn : Int) > 20) = true := by simp; omega
    have HC2 : Hid (c = 2) := by show _ = _; rw [HC.out, if_pos h20]
    have HY : Hid (ys = []) := by show _ = _; rw [HL.out, if_neg (by rw [HC2.out]; omega)]
    rw [HC2.out, HY.out]
    clear h20
    go_enter Try.func19, Try.ntmps19
    go_upto_region 1 with fail
    rw [← hV]
    clear hV
    go_wp2
    refine bodyPost_ret (v := .agg #[.int .i64 2, .slice none 0 0]) (by simp [results, Try.results19, go_sem, y0, y1, hVl]) rfl ⟨none, 0, rfl, World.ownsRow_nil _ _ _ _, ?_⟩
    exact (BV.out.setCell hw1 _).setCell hw1 _
  have hb : decide ((x.gn : Int) > 20) = false := by simp; omega
  by_cases t0 : t = 0
  · have tb : (t != 0) = false := by simp [t0]
    by_cases k1 : x.k = 1
    · have kb : (x.k != 1) = false := by simp [k1]
      have HC2 : Hid (c = 0) := by show _ = _; rw [HC.out, if_neg h20, HIS.out, if_pos t0, if_pos k1]
      have HY : Hid (ys = listTo x.s 8) := by show _ = _; rw [HL.out, if_pos HC2.out]
      obtain ⟨r0, r1⟩ := HOK.out HC2.out
      rw [HC2.out, HY.out]
      have x1 := X0.out.out 1 _ rfl
      have x4 := X0.out.out 4 _ rfl
      clear h20 k1
      go_enter Try.func19, Try.ntmps19
      go_upto_region 1 with fail
      rw [← hV]
      clear hV
      go_wp2_with fail
      refine (HF.out _ (Below.refl _ _)).mono ?_
      rintro e w1 ⟨rfl, rfl⟩
      go_wp2_with fail
      refine (l1List_c x.s r0 r1 _).mono ?_
      rintro e w2 ⟨g, cap, rfl, hown, hb2⟩
      have Y2 := hidW (Y0.out.below hVl hb2)
      have B2 := hidW (BV.out.trans (hb2.mono BV.out.size))
      have HO := hidW hown
      have hz2 := hb2.size
      clear y0 y1 f0 f1 hown hb2 x1 x4 x6
      obtain ⟨y0, y1, f0, f1⟩ := box2W (w := w) Y2.out
      have hl2 : w.heap.size + 1 < w2.heap.size := by omega
      go_wp2
      refine bodyPost_ret (v := .agg #[.int .i64 0, .slice (some ⟨g, 0, none⟩) (listTo x.s 8).length cap]) (by simp [results, Try.results19, go_sem, y0, y1, hl2]) rfl ⟨_, cap, rfl, low_ownsW (ownsE_set (ownsE_set HO.out (a := ⟨w.heap.size + 1, 0, none⟩) (by show w.heap.size + 1 < _; omega) _) (a := ⟨w.heap.size + 1, 1, none⟩) (by show w.heap.size + 1 < _; omega) _) (by omega), ?_⟩
      exact (B2.out.setCell hw1 _).setCell hw1 _
    · have kb : (x.k != 1) = true := by simp [k1]
      have HC2 : Hid (c = 1) := by show _ = _; rw [HC.out, if_neg h20, HIS.out, if_pos t0, if_neg k1]
      have HY : Hid (ys = []) := by show _ = _; rw [HL.out, if_neg (by rw [HC2.out]; omega)]
      rw [HC2.out, HY.out]
      have x1 := X0.out.out 1 _ rfl
      clear h20 k1
      go_enter Try.func19, Try.ntmps19
      go_upto_region 1 with fail
      rw [← hV]
      clear hV
      go_wp2_with fail
      refine (HF.out _ (Below.refl _ _)).mono ?_
      rintro e w1 ⟨rfl, rfl⟩
      go_wp2
      refine bodyPost_ret (v := .agg #[.int .i64 1, .slice none 0 0]) (by simp [results, Try.results19, go_sem, y0, y1, hVl]) rfl ⟨none, 0, rfl, World.ownsRow_nil _ _ _ _, ?_⟩
      exact (BV.out.setCell hw1 _).setCell hw1 _
  · have tb : (t != 0) = true := by simp [t0]
    have HC2 : Hid (c = t) := by show _ = _; rw [HC.out, if_neg h20, HIS.out, if_neg t0]
    have HY : Hid (ys = []) := by show _ = _; rw [HL.out, if_neg (by rw [HC2.out]; exact t0)]
    rw [HC2.out, HY.out]
    clear h20 t0
    go_enter Try.func19, Try.ntmps19
    go_upto_region 1 with fail
    rw [← hV]
    clear hV
    go_wp2_with fail
    refine (HF.out _ (Below.refl _ _)).mono ?_
    rintro e w1 ⟨rfl, rfl⟩
    go_wp2
    refine bodyPost_ret (v := .agg #[.int .i64 t, .slice none 0 0]) (by simp [results, Try.results19, go_sem, y0, y1, hVl]) rfl ⟨none, 0, rfl, World.ownsRow_nil _ _ _ _, ?_⟩
    exact (BV.out.setCell hw1 _).setCell hw1 _

theorem listTo_len (s : Int) : ∀ k, (listTo s k).length ≤ k
  | 0 => Nat.le_refl _
  | k + 1 => by
    have := listTo_len s k
    unfold listTo
    split <;> simp <;> omega

theorem whoL_len (x : WlI) : (whoL x).length ≤ 1000 := by
  unfold whoL
  split
  · have := listTo_len x.s 8; omega
  · simp

end Go.Proofs.Ythogdfnaojijhaa
