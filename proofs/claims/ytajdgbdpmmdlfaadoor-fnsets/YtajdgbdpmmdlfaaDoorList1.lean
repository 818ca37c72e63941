/-
  CONTRACTS of impl.ListOf and spec.ListOf.
  Conditions: each contract bears its own.
-/
import Derived.Test.YtajdgbdpmmdlfaaDoorIter1
import Derived.Test.YtajdgbdpmmdlfaaDoorSize1
namespace Go.Proofs.YtajdgbdpmmdlfaaDoor
open Go.RowKit Go.Shelf
attribute [local go_sem] Oper.semAt_some
attribute [local go_sem] wide_fn
set_option linter.unusedVariables false

set_option maxHeartbeats 400000 in
theorem fault_in (s : Int) (h0 : 0 ≤ s) (h1 : s ≤ 255) (w : World) :
    Calls Tryd.prog 18 #[.int .i64 s] w fun e w' => e = .returned (.int .i64 0) ∧ w = w' := by
  have h2 : s < (256 : Int) := by omega
  go_enter Tryd.func18, Tryd.ntmps18
  go_wp2
  go_ret
  exact ⟨rfl, rfl⟩

set_option maxRecDepth 100000 in
set_option maxHeartbeats 2000000 in
theorem implList_w (n : Nat) (hn : 3 ≤ n) (s : Int) (s0 : 0 ≤ s) (s1 : s ≤ 255) (w : World) :
    CallsIn Fence.wide n Tryd.prog 16 #[.int .i64 s] w fun e W' => ∃ a cap, e = .returned (.agg #[.int .i64 0, .slice a (listTo s 8).length cap]) ∧ W'.ownsRow (w.heap.size + 1) 2 1 (.slice a (listTo s 8).length cap) (listTo s 8).length ((listTo s 8).map (Value.int .i64)) ∧ Below w.heap.size w W' := by
  have h1 : 1 ≤ n := by omega
  have hs2 : s < (256 : Int) := by omega
  obtain ⟨i0, hi, hz0, hz1, hz2⟩ := info_parts Tryd.info2
  refine callsIn_of_wp_marks Tryd.func16 rfl trivial ?_ rfl
  simp only [Tryd.ntmps16, List.size_toArray, List.length_cons, List.length_nil, Nat.reduceAdd, Nat.reduceSub, Array.replicate_succ, Array.replicate_zero, List.push_toArray, List.append_toArray, List.nil_append, List.cons_append]
  gi_wp2_with (first | (gi_at_call 18; refine (callsIn_wide.2 (fault_in s s0 s1 _)).mono ?_; rintro e w' ⟨rfl, rfl⟩) | (gi_at_call 49; refine (prin_in _ _ _).mono ?_; rintro e w' ⟨rfl, rfl⟩))
  have b0 := World.alloc_heap_new w (.cells #[.int .i64 0, .slice none 0 0] 34)
  have bL := Boxed.new (w.alloc (.cells #[.int .i64 0, .slice none 0 0] 34)) 32 (.slice none 0 0)
  rw [World.size_alloc] at bL
  have bS := Boxed.new ((w.alloc (.cells #[.int .i64 0, .slice none 0 0] 34)).alloc (.cells #[.slice none 0 0] 32)) 71 (.int .u8 s)
  rw [World.size_alloc, World.size_alloc] at bS
  have bL' := bL.alloc (.cells #[.int .u8 s] 71)
  obtain ⟨W0, hW0⟩ : ∃ W0, ((w.alloc (.cells #[.int .i64 0, .slice none 0 0] 34)).alloc (.cells #[.slice none 0 0] 32)).alloc (.cells #[.int .u8 s] 71) = W0 := ⟨_, rfl⟩
  have hsz : W0.heap.size = w.heap.size + 3 := by rw [← hW0]; simp
  have hB0 : Below w.heap.size w W0 := by rw [← hW0]; exact (((Below.refl _ w).alloc (Nat.le_refl _) _).alloc (by simp) _).alloc (by simp; omega) _
  have hr0 : W0.cell? ⟨w.heap.size, 0, none⟩ = some (.int .i64 0) := by rw [← hW0]; simp [go_sem]
  have hr1 : W0.cell? ⟨w.heap.size, 1, none⟩ = some (.slice none 0 0) := by rw [← hW0]; simp [go_sem]
  have hf0 : W0.frozen? ⟨w.heap.size, 0, none⟩ = false := by rw [← hW0]; simp [go_sem]
  have hf1 : W0.frozen? ⟨w.heap.size, 1, none⟩ = false := by rw [← hW0]; simp [go_sem]
  rw [hW0] at bS bL' ⊢
  have HB0 : Hid (Below w.heap.size w W0) := hB0
  clear b0 bL hW0 hB0
  refine wpIn_rangeFunc_ownG rfl h1 (gf := 72) (lb := #[.pointer (some ⟨w.heap.size + 1 + 1, 0, none⟩)]) rfl trivial (enters_of Tryd.func72 (by kernel_rfl) rfl)
    (prin_stops (n - 1) (by omega) (w.heap.size + 1 + 1) s s0 s1 W0 (by omega) bS.cell) (Kp := KeepBox (w.heap.size + 1 + 1)) (fun h k => Eq.trans k h) (fun W l o o' hl h _ _ => World.putObj_heap_other (by omega)) (Below.refl _ _) (fun _ => rfl)
    (fun pre W => ((∃ v, Boxed W (w.heap.size + 1) 32 v ∧ W.ownsRow (w.heap.size + 1) 2 1 v pre.length (pre.map (Value.int .i64)) ∧ True) ∧ Boxed W (w.heap.size + 1 + 1) 71 (.int .u8 s)) ∧ Below (w.heap.size + 1) W0 W)
    (fun _ _ _ => False)
    (OwnFrom.and (OwnFrom.and (Own.from (holdsRow_own (w.heap.size + 1) (w.heap.size + 1) 32 2 1 (fun pre : List Int => pre.length) (fun pre => pre.map (Value.int .i64)) (fun _ _ => True)) _) (Own.from (boxed_own _ _ (fun _ => .int .u8 s)) _)) (ownFrom_below (by omega) (by omega)))
    (fun _ _ _ _ _ hs _ _ => hs)
    ⟨⟨⟨_, bL', World.ownsRow_nil _ _ _ _, trivial⟩, bS⟩, Below.refl _ _⟩
    (fun x => { tmps := #[.int .i64 s, undef, .pointer (some ⟨w.heap.size, 0, none⟩), .int .i64 0, .pointer (some ⟨w.heap.size + 1, 0, none⟩), .int .i64 x, .int .i64 s, .int .i64 0, .int .i64 0, .bool false, undef, undef, .int .i64 s, .int .u8 s, .func (.func 72) #[] #[.pointer (some ⟨w.heap.size + 1 + 1, 0, none⟩)], .int .i64 x, undef, undef, undef, undef, undef, undef], defers := [] }) ?assign ?body ?done ?stop
  case assign =>
    intro l x W K hK
    gi_wp2
    exact hK
  case body =>
    rintro l pre x W ⟨⟨⟨v, hv, hrow, _⟩, hS⟩, hB⟩ hlt
    have hc := hv.cell
    have hl8 := listTo_le s 8
    gi_wp2_with (gi_at_builtin; refine wpListIn_append_own _ rfl _ _ 32 rfl (w.heap.size + 1) 2 i0 (.int .i64 0) 1 8 Tryd.underlying32 hi hz0 hz1 hz2 rfl (by decide) _ _ _ rfl (hrow.alloc _) ⟨W.heap.size, 0, none⟩ 1 1 [.int .i64 x] rfl rfl (cell_one_new _ _ _) (by simp [Value.oneCell']) (by unfold maxLen; omega) (by omega) (by have := hB.size; simp; omega) ?_; intro v' w1 hown' hgrow _; obtain ⟨g', cap', rfl⟩ := ownsRow_succ hown'; obtain ⟨hv1, hv2, hr2, hk2, hb2⟩ := hv.appended (by decide) hrow (by have := hB.size; omega) (Nat.le_refl _) hown' hgrow; have hc1 := hv1.cell; have hf1 := hv1.frozen; have hS1 := ((hS.alloc _).kept hgrow (hS.not_row (by decide) hrow)).other (B' := w.heap.size + 1) (by omega) (.slice (some ⟨g', 0, none⟩) (pre.length + 1) cap'))
    exact ⟨hk2.from _, hS1.trans hS.symm, ⟨⟨_, hv2, by simpa using hr2, trivial⟩, hS1⟩, hB.trans hb2⟩
  case done =>
    rintro D ys W hD rfl ⟨⟨⟨v, hv, hrow, _⟩, _⟩, hB⟩ hK
    obtain ⟨a, cap, rfl⟩ := owns_slice hrow
    have hc := hv.cell
    have q0 : W.cell? ⟨w.heap.size, 0, none⟩ = some (.int .i64 0) := (hB.cell (p := ⟨w.heap.size, 0, none⟩) (by simp)).trans hr0
    have q1 : W.cell? ⟨w.heap.size, 1, none⟩ = some (.slice none 0 0) := (hB.cell (p := ⟨w.heap.size, 1, none⟩) (by simp)).trans hr1
    have p0 : W.frozen? ⟨w.heap.size, 0, none⟩ = false := (hB.frozen (p := ⟨w.heap.size, 0, none⟩) (by simp)).trans hf0
    have p1 : W.frozen? ⟨w.heap.size, 1, none⟩ = false := (hB.frozen (p := ⟨w.heap.size, 1, none⟩) (by simp)).trans hf1
    gi_wp2
    have hK1 := (KeepsOthers.setCell W ⟨w.heap.size, 0, none⟩ (.int .i64 0)).same D _ hK rfl
    have hK2 := (KeepsOthers.setCell (W.setCell ⟨w.heap.size, 0, none⟩ (.int .i64 0)) ⟨w.heap.size, 1, none⟩ (.slice a (listTo s 8).length cap)).same D _ hK1 rfl
    refine ⟨by simp, .inl ⟨_, _, rfl, run_takeDeferred hK2, ?_⟩⟩
    refine ⟨.agg #[.int .i64 0, .slice a (listTo s 8).length cap], ?res, a, cap, rfl, ?own, ?below⟩
    case res =>
      have hD' : w.heap.size ≠ D := by omega
      have c0 : (((W.setCell ⟨w.heap.size, 0, none⟩ (.int .i64 0)).setCell ⟨w.heap.size, 1, none⟩ (.slice a (listTo s 8).length cap)).putObj D (Obj.deferred none)).cell? ⟨w.heap.size, 0, none⟩ = some (.int .i64 0) := by
        rw [World.cell?_of_block (a := ⟨w.heap.size, 0, none⟩) (World.putObj_heap_other hD'), World.cell?_setCell_other _ _ _ _ (by simp)]
        exact World.cell?_setCell_same' _ _ _ (by rw [q0]; rfl)
      have c1 : (((W.setCell ⟨w.heap.size, 0, none⟩ (.int .i64 0)).setCell ⟨w.heap.size, 1, none⟩ (.slice a (listTo s 8).length cap)).putObj D (Obj.deferred none)).cell? ⟨w.heap.size, 1, none⟩ = some (.slice a (listTo s 8).length cap) := by
        rw [World.cell?_of_block (a := ⟨w.heap.size, 1, none⟩) (World.putObj_heap_other hD')]
        exact World.cell?_setCell_same' _ _ _ (by rw [World.cell?_setCell_other _ _ _ _ (by simp), q1]; rfl)
      generalize (((W.setCell ⟨w.heap.size, 0, none⟩ (.int .i64 0)).setCell ⟨w.heap.size, 1, none⟩ (.slice a (listTo s 8).length cap)).putObj D (Obj.deferred none)) = X at c0 c1 ⊢
      simp [results, Tryd.results16, go_sem, c0, c1]
    case own => exact ownsRow_putObj (ownsRow_setCell_below (ownsRow_setCell_below hrow (by simp) _) (by simp) _) _ hK2 rfl
    case below =>
      exact ((((HB0.out.trans (hB.mono (by omega))).setCell (p := ⟨w.heap.size, 0, none⟩) (Nat.le_refl _) _).setCell (p := ⟨w.heap.size, 1, none⟩) (Nat.le_refl _) _).trans (belowK_b (w := w) (Nat.le_refl _) _ D _ _ (by omega) hK2 rfl rfl))
  case stop =>
    rintro D c pre W _ _ h _
    exact h.elim

theorem implList_in (s : Int) (s0 : 0 ≤ s) (s1 : s ≤ 255) (w : World) :
    Calls Tryd.prog 16 #[.int .i64 s] w fun e W' => ∃ a cap, e = .returned (.agg #[.int .i64 0, .slice a (listTo s 8).length cap]) ∧ W'.ownsRow (w.heap.size + 1) 2 1 (.slice a (listTo s 8).length cap) (listTo s 8).length ((listTo s 8).map (Value.int .i64)) ∧ Below w.heap.size w W' :=
  callsIn_wide.1 (implList_w 3 (Nat.le_refl _) s s0 s1 w)

set_option maxHeartbeats 400000 in
theorem implList_out (s : Int) (h : s < 0 ∨ 255 < s) (w : World) :
    Calls Tryd.prog 16 #[.int .i64 s] w fun e w' => e = .returned (.agg #[.int .i64 3, .slice none 0 0]) ∧ Below w.heap.size w w' := by
  rcases h with h | h
  · go_enter Tryd.func16, Tryd.ntmps16
    go_wp2
    exact bodyPost_ret (v := .agg #[.int .i64 3, .slice none 0 0]) (by simp [results, Tryd.results16, go_sem]) rfl ⟨rfl, (Below.refl _ _).alloc (Nat.le_refl _) _⟩
  · have e1 : (256 : Int) ≤ s := by omega
    have e2 : (0 : Int) ≤ s := by omega
    go_enter Tryd.func16, Tryd.ntmps16
    go_wp2
    exact bodyPost_ret (v := .agg #[.int .i64 3, .slice none 0 0]) (by simp [results, Tryd.results16, go_sem]) rfl ⟨rfl, (Below.refl _ _).alloc (Nat.le_refl _) _⟩

set_option maxHeartbeats 400000 in
theorem specList_out (s : Int) (h : s < 0 ∨ 255 < s) (w : World) :
    Calls Tryd.prog 17 #[.int .i64 s] w fun e w' => e = .returned (.agg #[.int .i64 3, .slice none 0 0]) ∧ Below w.heap.size w w' := by
  rcases h with h | h
  · have e1 : decide (0 ≤ s) = false := by simp; omega
    go_enter Tryd.func17, Tryd.ntmps17
    go_wp2
    exact bodyPost_ret (v := .agg #[.int .i64 3, .slice none 0 0]) (by simp [results, Tryd.results17, go_sem]) rfl ⟨rfl, (Below.refl _ _).alloc (Nat.le_refl _) _⟩
  · have e1 : decide (s ≤ 255) = false := by simp; omega
    have e2 : (0 : Int) ≤ s := by omega
    go_enter Tryd.func17, Tryd.ntmps17
    go_wp2
    exact bodyPost_ret (v := .agg #[.int .i64 3, .slice none 0 0]) (by simp [results, Tryd.results17, go_sem]) rfl ⟨rfl, (Below.refl _ _).alloc (Nat.le_refl _) _⟩

set_option maxHeartbeats 400000 in
theorem specList_in (s : Int) (h0 : 0 ≤ s) (h1 : s ≤ 255) (w : World) :
    Calls Tryd.prog 17 #[.int .i64 s] w fun e w' => ∃ a cap, e = .returned (.agg #[.int .i64 0, .slice a (listTo s 8).length cap]) ∧ w'.ownsRow (w.heap.size + 1) 2 1 (.slice a (listTo s 8).length cap) (listTo s 8).length ((listTo s 8).map (Value.int .i64)) ∧ Below w.heap.size w w' := by
  go_enter Tryd.func17, Tryd.ntmps17
  go_wp2_with (first | (go_at_call 51; refine (l1List_c s h0 h1 _).mono ?_; rintro e w1 ⟨g, cap, rfl, hown, hb⟩; obtain ⟨hc, hf⟩ := bcell hb; have hz := hb.size; simp only [World.size_alloc] at hc hf hz hown) | go_in)
  refine bodyPost_ret (v := .agg #[.int .i64 0, .slice (some ⟨g, 0, none⟩) (listTo s 8).length cap]) (by simp [results, Tryd.results17, go_sem, hc]) rfl ⟨_, cap, rfl, ?_, ?_⟩
  · exact ownsRow_setCell_below (ownsRow_setCell_below hown (by simp) _) (by simp) _
  · exact ((((Below.refl _ _).alloc (Nat.le_refl _) _).trans (hb.mono (by simp))).setCell (Nat.le_refl _) _).setCell (Nat.le_refl _) _

end Go.Proofs.YtajdgbdpmmdlfaaDoor
