/-
  CONTRACTS: slices.AppendSeq, slices.Collect, slices.SortedFunc over the keys of the map of grants: the roles that somebody has, rising.
  Conditions: each contract bears its own.
-/
import Derived.Test.YtnmidppiakdanaaMp5
import Derived.Test.YtnmidppiakdanaaRol5
import Derived.Deep.AppendLies
namespace Go.Proofs.Ytnmidppiakdanaa
open Go.RowKit Go.Shelf Go.Maps
attribute [local go_sem] Oper.semAt_some
attribute [local go_sem] wide_fn
attribute [local simp] wide_fn
set_option linter.unusedVariables false
set_option linter.unusedSimpArgs false

theorem flat2_snoc (a : List RoI) (x : RoI) : flat2 (a ++ [x]) = flat2 a ++ [.int .i64 x.1, .int .i64 x.2] := by rw [flat2_append]; rfl

/-- A block of cells is kept while others are turned that hold no cells. -/
theorem block_own (B : Nat) (cs : Array Value) (t : TypeId) : Own (fun (_ : Unit) W => W.heap[B]? = some (.cells cs t (0, 0))) := fun s X Y row hs hg hrow => by
  refine (hg.block B (Array.getElem?_eq_some_iff.1 hs).1 (fun e => ?_)).trans hs
  obtain ⟨o, ho, hc⟩ := hrow B e.symm
  rw [hs] at ho
  cases ho
  cases hc

set_option maxRecDepth 100000 in
set_option maxHeartbeats 2000000 in
theorem aseq_w (n : Nat) (hn : 3 ≤ n) (Bm b : Nat) (f : RoI → Int) (w : World) (hBm : Bm < w.heap.size) (hm : w.cell? ⟨Bm, 0, none⟩ = some (.map (some b))) (h : GM w b f) :
    CallsIn Fence.wide n Try.prog 163 #[.slice none 0 0, .func (.func 144) #[] #[.pointer (some ⟨Bm, 0, none⟩)]] w fun e W' => ∃ v ys, e = .returned v ∧ KeysIs f ys ∧ Owns2 W' w.heap.size v ys ∧ Below w.heap.size w W' := by
  have h1 : 1 ≤ n := by omega
  obtain ⟨i0, hi, hz0, hz1, hz2⟩ := info_parts Try.info35
  refine callsIn_of_wp_marks Try.func163 rfl trivial ?_ rfl
  simp only [Try.ntmps163, List.size_toArray, List.length_cons, List.length_nil, Nat.reduceAdd, Nat.reduceSub, Array.replicate_succ, Array.replicate_zero, List.push_toArray, List.append_toArray, List.nil_append, List.cons_append]
  gi_wp2
  have bL := Boxed.new w 45 (.slice none 0 0)
  obtain ⟨W0, hW0⟩ : ∃ W0, w.alloc (.cells #[.slice none 0 0] 45) = W0 := ⟨_, rfl⟩
  have hsz : W0.heap.size = w.heap.size + 1 := by rw [← hW0]; simp
  have hB0 : Below w.heap.size w W0 := by rw [← hW0]; exact (Below.refl _ w).alloc (Nat.le_refl _) _
  rw [hW0] at bL ⊢
  have HB0 : Hid (Below w.heap.size w W0) := hB0
  have hG0 := h.below h.lt hB0
  have hm0 := (hB0.cell (p := ⟨Bm, 0, none⟩) hBm).trans hm
  clear hW0 hB0
  refine wpIn_rangeFunc_ownH rfl h1 (gf := 144) (lb := #[.pointer (some ⟨Bm, 0, none⟩)]) rfl trivial (enters_of Try.func144 (by kernel_rfl) rfl)
    (mkeys_stops (n - 1) (by omega) Bm b f W0 (by omega) hm0 hG0) (Kp := KeepsWalks) walksK_t (fun W l o o' hl h hc hw => KeepsWalks.putObj _ h hw) (Below.refl _ _) (fun _ => rfl)
    (fun pre W => (∃ v, Boxed W w.heap.size 45 v ∧ W.ownsRow w.heap.size 35 2 v pre.length (flat2 pre) ∧ True) ∧ Below w.heap.size W0 W)
    (fun _ _ _ => False)
    (OwnFrom.and (Own.from (holdsRow_own w.heap.size w.heap.size 45 35 2 (fun pre : List RoI => pre.length) (fun pre => flat2 pre) (fun _ _ => True)) _) (ownFrom_below (by omega) (by omega)))
    (fun _ _ _ _ _ hs _ _ => hs)
    ⟨⟨_, bL, World.ownsRow_nil _ _ _ _, trivial⟩, Below.refl _ _⟩
    (fun x a' W => ∃ B5 u5, w.heap.size ≤ B5 ∧ W.heap[B5]? = some (.cells #[.int .i64 x.1, .int .i64 x.2] 35 (0, 0)) ∧ a' = { tmps := #[.slice none 0 0, .func (.func 144) #[] #[.pointer (some ⟨Bm, 0, none⟩)], .pointer (some ⟨w.heap.size, 0, none⟩), undef, .slice none 0 0, .pointer (some ⟨B5, 0, none⟩), .func (.func 144) #[] #[.pointer (some ⟨Bm, 0, none⟩)], u5, undef, undef, undef, undef, undef], defers := [] })
    (fun x a' s X Y row hs hg hr => by obtain ⟨B5, u5, hl, hb, e⟩ := hs; exact ⟨B5, u5, hl, block_own B5 _ _ () X Y row hb hg (fun r e => (hr r e).2), e⟩) ?assign ?body ?done ?stop
  case assign =>
    rintro l pre x W K ⟨⟨v, hv, hrow, _⟩, hB⟩ hK
    have hB2 : Below w.heap.size W (W.alloc (.cells #[.int .i64 x.1, .int .i64 x.2] 35)) := (Below.refl _ _).alloc (by have := hB.size; omega) _
    have hKK := fun u5 => hK { tmps := #[.slice none 0 0, .func (.func 144) #[] #[.pointer (some ⟨Bm, 0, none⟩)], .pointer (some ⟨w.heap.size, 0, none⟩), undef, .slice none 0 0, .pointer (some ⟨W.heap.size, 0, none⟩), .func (.func 144) #[] #[.pointer (some ⟨Bm, 0, none⟩)], u5, undef, undef, undef, undef, undef], defers := [] } (W.alloc (.cells #[.int .i64 x.1, .int .i64 x.2] 35)) ((KeepsOthers.alloc W _).from _) (KeepsWalks.alloc W _) ⟨⟨v, hv.alloc _, hrow.alloc _, trivial⟩, hB.trans hB2⟩ ⟨W.heap.size, u5, by have := hB.size; omega, World.alloc_heap_new W _, rfl⟩
    clear hK
    gi_wp2
    exact hKK _
  case body =>
    rintro l pre x a' W hlw hlo ⟨⟨v, hv, hrow, _⟩, hB⟩ ⟨B5, u5, hB5, hb5, rfl⟩ hlt
    have hc := hv.cell
    have c0 : W.cell? ⟨B5, 0, none⟩ = some (.int .i64 x.1) := by unfold World.cell?; rw [hb5]; rfl
    have c1 : W.cell? ⟨B5, 1, none⟩ = some (.int .i64 x.2) := by unfold World.cell?; rw [hb5]; rfl
    have hWs := hB.size
    gi_wp2_with (gi_at_builtin; refine wpListIn_append_own _ rfl _ _ 45 rfl w.heap.size 35 i0 (.agg #[.int .i64 0, .int .i64 0]) 2 16 Try.underlying45 hi hz0 hz1 hz2 rfl (by decide) _ _ _ rfl (hrow.alloc _) ⟨W.heap.size, 0, none⟩ 1 1 [.int .i64 x.1, .int .i64 x.2] rfl rfl (World.news_of_block (World.alloc_heap_new W _)) (by simp [Value.oneCell']) (by unfold maxLen; omega) (by omega) (by simp; omega) ?_; intro v' w1 hown' hgrow _; obtain ⟨g', cap', rfl⟩ := ownsRow_succ hown'; obtain ⟨hv1, hv2, hr2, hk2, hb2⟩ := hv.appended (by decide) hrow (by omega) (Nat.le_refl _) hown' hgrow; have hc1 := hv1.cell; have hf1 := hv1.frozen)
    exact ⟨hk2.from _, hk2.walks, ⟨_, hv2, by rw [flat2_snoc]; simpa using hr2, trivial⟩, hB.trans hb2⟩
  case done =>
    rintro D ys W hD hys ⟨⟨v, hv, hrow, _⟩, hB⟩ hK
    have hc := hv.cell
    gi_wp2
    refine ⟨by simp, .inl ⟨_, _, rfl, run_takeDeferred hK, ?_⟩⟩
    refine ⟨v, ?res, v, ys, rfl, hys, ?own, ?below⟩
    case res => simp [results, Try.results163, go_sem]
    case own => exact ownsRow_putObj hrow _ hK rfl
    case below => exact (HB0.out.trans hB).trans (belowK_b (w := w) (Nat.le_refl _) _ D _ _ (by omega) hK rfl rfl)
  case stop =>
    rintro D c pre W _ _ h _
    exact h.elim

theorem aseq_c (Bm b : Nat) (f : RoI → Int) (w : World) (hBm : Bm < w.heap.size) (hm : w.cell? ⟨Bm, 0, none⟩ = some (.map (some b))) (h : GM w b f) :
    Calls Try.prog 163 #[.slice none 0 0, .func (.func 144) #[] #[.pointer (some ⟨Bm, 0, none⟩)]] w fun e W' => ∃ v ys, e = .returned v ∧ KeysIs f ys ∧ Owns2 W' w.heap.size v ys ∧ Below w.heap.size w W' :=
  callsIn_wide.1 (aseq_w 3 (Nat.le_refl _) Bm b f w hBm hm h)

set_option maxHeartbeats 1000000 in
theorem collect_c (Bm b : Nat) (f : RoI → Int) (w : World) (hBm : Bm < w.heap.size) (hm : w.cell? ⟨Bm, 0, none⟩ = some (.map (some b))) (h : GM w b f) :
    Calls Try.prog 143 #[.func (.func 144) #[] #[.pointer (some ⟨Bm, 0, none⟩)]] w fun e W' => ∃ v ys, e = .returned v ∧ KeysIs f ys ∧ Owns2 W' w.heap.size v ys ∧ Below w.heap.size w W' := by
  go_enter Try.func143, Try.ntmps143
  go_wp2_with (first | (go_at_call 163; refine (aseq_c Bm b f _ hBm hm h).mono ?_; rintro e w1 ⟨v, ys, rfl, hk, ho, hb⟩) | go_in)
  go_ret
  exact ⟨v, ys, rfl, hk, ho, hb⟩

theorem mkeys_c (b : Nat) (w : World) :
    Calls Try.prog 116 #[.map (some b)] w fun e w' => e = .returned (.func (.func 144) #[] #[.pointer (some ⟨w.heap.size, 0, none⟩)]) ∧ w.alloc (.cells #[.map (some b)] 92) = w' :=
  callsIn_wide.1 (mkeys_in 3 b w)

end Go.Proofs.Ytnmidppiakdanaa
