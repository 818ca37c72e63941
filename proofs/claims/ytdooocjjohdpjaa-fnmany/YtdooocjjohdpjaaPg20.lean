/-
  CONTRACTS: slices.AppendSeq, slices.Collect, slices.SortedFunc over the keys of the map of grants: the roles that somebody has, rising.
  Conditions: each contract bears its own.
  CONTRACTS: slices.SortedFunc over the keys of the map of grants; (impl.grantMap).list: the grants, rising.
  Conditions: each contract bears its own.
  CONTRACTS: GrantsOf of both programs, at every slice of rules.
  Conditions: each contract bears its own.
  CONTRACTS: MembersOf of both programs.
  Conditions: each contract bears its own.
-/
import Derived.Test.YtdooocjjohdpjaaPg19
import Derived.Deep.AppendLies
import Derived.Test.YtdooocjjohdpjaaPg07
import Derived.Shelf.SlSortCmp.NoneTotal
import Derived.Deep.RegionLaw
import Derived.Test.YtdooocjjohdpjaaPg14
import Derived.Test.YtdooocjjohdpjaaPg15
import Derived.Test.YtdooocjjohdpjaaPg18
import Derived.Test.YtdooocjjohdpjaaPg17
import Derived.Test.YtdooocjjohdpjaaPg01
namespace Go.Proofs.Ytdooocjjohdpjaa
open Go.RowKit Go.Shelf Go.Maps
attribute [local go_sem] Oper.semAt_some
attribute [local go_sem] wide_fn
attribute [local simp] wide_fn
set_option linter.unusedVariables false
set_option linter.unusedSimpArgs false

theorem flat2_snoc (a : List RoI) (x : RoI) : flat2 (a ++ [x]) = flat2 a ++ [.int .i64 x.1, .int .i64 x.2] := by rw [flat2_append]; rfl

/-- A block of cells is kept while others are turned that hold no cells. -/
theorem block_own (B : Nat) (cs : Array Value) (t : TypeId) : Own (fun (_ : Unit) W => W.heap[B]? = some (.cells cs t (0, 0))) := fun s X Y row hs hg hrow => by
  refine (hg.block B (Array.getElem?_eq_some_iff.1 hs).1 (fun e => ?_)).trans hs
  obtain ⟨o, ho, hc⟩ := hrow B e.symm
  rw [hs] at ho
  cases ho
  cases hc

set_option maxRecDepth 100000 in
set_option maxHeartbeats 2000000 in
theorem aseq_w (n : Nat) (hn : 3 ≤ n) (Bm b : Nat) (f : RoI → Int) (w : World) (hBm : Bm < w.heap.size) (hm : w.cell? ⟨Bm, 0, none⟩ = some (.map (some b))) (h : GM w b f) :
    CallsIn Fence.wide n Try.prog 165 #[.slice none 0 0, .func (.func 145) #[] #[.pointer (some ⟨Bm, 0, none⟩)]] w fun e W' => ∃ v ys, e = .returned v ∧ KeysIs f ys ∧ Owns2 W' w.heap.size v ys ∧ Below w.heap.size w W' := by
  have h1 : 1 ≤ n := by omega
  obtain ⟨i0, hi, hz0, hz1, hz2⟩ := info_parts Try.info35
  refine callsIn_of_wp_marks Try.func165 rfl trivial ?_ rfl
  simp only [Try.ntmps165, List.size_toArray, List.length_cons, List.length_nil, Nat.reduceAdd, Nat.reduceSub, Array.replicate_succ, Array.replicate_zero, List.push_toArray, List.append_toArray, List.nil_append, List.cons_append]
  gi_wp2
  have bL := Boxed.new w 45 (.slice none 0 0)
  obtain ⟨W0, hW0⟩ : ∃ W0, w.alloc (.cells #[.slice none 0 0] 45) = W0 := ⟨_, rfl⟩
  have hsz : W0.heap.size = w.heap.size + 1 := by rw [← hW0]; simp
  have hB0 : Below w.heap.size w W0 := by rw [← hW0]; exact (Below.refl _ w).alloc (Nat.le_refl _) _
  rw [hW0] at bL ⊢
  have HB0 : Hid (Below w.heap.size w W0) := hB0
  have hG0 := h.below h.lt hB0
  have hm0 := (hB0.cell (p := ⟨Bm, 0, none⟩) hBm).trans hm
  clear hW0 hB0
  refine wpIn_rangeFunc_ownH rfl h1 (gf := 145) (lb := #[.pointer (some ⟨Bm, 0, none⟩)]) rfl trivial (enters_of Try.func145 (by kernel_rfl) rfl)
    (mkeys_stops (n - 1) (by omega) Bm b f W0 (by omega) hm0 hG0) (Kp := KeepsWalks) walksK_t (fun W l o o' hl h hc hw => KeepsWalks.putObj _ h hw) (Below.refl _ _) (fun _ => rfl)
    (fun pre W => (∃ v, Boxed W w.heap.size 45 v ∧ W.ownsRow w.heap.size 35 2 v pre.length (flat2 pre) ∧ True) ∧ Below w.heap.size W0 W)
    (fun _ _ _ => False)
    (OwnFrom.and (Own.from (holdsRow_own w.heap.size w.heap.size 45 35 2 (fun pre : List RoI => pre.length) (fun pre => flat2 pre) (fun _ _ => True)) _) (ownFrom_below (by omega) (by omega)))
    (fun _ _ _ _ _ hs _ _ => hs)
    ⟨⟨_, bL, World.ownsRow_nil _ _ _ _, trivial⟩, Below.refl _ _⟩
    (fun x a' W => ∃ B5 u5, w.heap.size ≤ B5 ∧ W.heap[B5]? = some (.cells #[.int .i64 x.1, .int .i64 x.2] 35 (0, 0)) ∧ a' = { tmps := #[.slice none 0 0, .func (.func 145) #[] #[.pointer (some ⟨Bm, 0, none⟩)], .pointer (some ⟨w.heap.size, 0, none⟩), undef, .slice none 0 0, .pointer (some ⟨B5, 0, none⟩), .func (.func 145) #[] #[.pointer (some ⟨Bm, 0, none⟩)], u5, undef, undef, undef, undef, undef], defers := [] })
    (fun x a' s X Y row hs hg hr => by obtain ⟨B5, u5, hl, hb, e⟩ := hs; exact ⟨B5, u5, hl, block_own B5 _ _ () X Y row hb hg (fun r e => (hr r e).2), e⟩) ?assign ?body ?done ?stop
  case assign =>
    rintro l pre x W K ⟨⟨v, hv, hrow, _⟩, hB⟩ hK
    have hB2 : Below w.heap.size W (W.alloc (.cells #[.int .i64 x.1, .int .i64 x.2] 35)) := (Below.refl _ _).alloc (by have := hB.size; omega) _
    have hKK := fun u5 => hK { tmps := #[.slice none 0 0, .func (.func 145) #[] #[.pointer (some ⟨Bm, 0, none⟩)], .pointer (some ⟨w.heap.size, 0, none⟩), undef, .slice none 0 0, .pointer (some ⟨W.heap.size, 0, none⟩), .func (.func 145) #[] #[.pointer (some ⟨Bm, 0, none⟩)], u5, undef, undef, undef, undef, undef], defers := [] } (W.alloc (.cells #[.int .i64 x.1, .int .i64 x.2] 35)) ((KeepsOthers.alloc W _).from _) (KeepsWalks.alloc W _) ⟨⟨v, hv.alloc _, hrow.alloc _, trivial⟩, hB.trans hB2⟩ ⟨W.heap.size, u5, by have := hB.size; omega, World.alloc_heap_new W _, rfl⟩
    clear hK
    gi_wp2
    exact hKK _
  case body =>
    rintro l pre x a' W hlw hlo ⟨⟨v, hv, hrow, _⟩, hB⟩ ⟨B5, u5, hB5, hb5, rfl⟩ hlt
    have hc := hv.cell
    have c0 : W.cell? ⟨B5, 0, none⟩ = some (.int .i64 x.1) := by unfold World.cell?; rw [hb5]; rfl
    have c1 : W.cell? ⟨B5, 1, none⟩ = some (.int .i64 x.2) := by unfold World.cell?; rw [hb5]; rfl
    have hWs := hB.size
    gi_wp2_with (gi_at_builtin; refine wpListIn_append_own _ rfl _ _ 45 rfl w.heap.size 35 i0 (.agg #[.int .i64 0, .int .i64 0]) 2 16 Try.underlying45 hi hz0 hz1 hz2 rfl (by decide) _ _ _ rfl (hrow.alloc _) ⟨W.heap.size, 0, none⟩ 1 1 [.int .i64 x.1, .int .i64 x.2] rfl rfl (World.news_of_block (World.alloc_heap_new W _)) (by simp [Value.oneCell']) (by unfold maxLen; omega) (by omega) (by simp; omega) ?_; intro v' w1 hown' hgrow _; obtain ⟨g', cap', rfl⟩ := ownsRow_succ hown'; obtain ⟨hv1, hv2, hr2, hk2, hb2⟩ := hv.appended (by decide) hrow (by omega) (Nat.le_refl _) hown' hgrow; have hc1 := hv1.cell; have hf1 := hv1.frozen)
    exact ⟨hk2.from _, hk2.walks, ⟨_, hv2, by rw [flat2_snoc]; simpa using hr2, trivial⟩, hB.trans hb2⟩
  case done =>
    rintro D ys W hD hys ⟨⟨v, hv, hrow, _⟩, hB⟩ hK
    have hc := hv.cell
    gi_wp2
    refine ⟨by simp, .inl ⟨_, _, rfl, run_takeDeferred hK, ?_⟩⟩
    refine ⟨v, ?res, v, ys, rfl, hys, ?own, ?below⟩
    case res => simp [results, Try.results165, go_sem]
    case own => exact ownsRow_putObj hrow _ hK rfl
    case below => exact (HB0.out.trans hB).trans (belowK_b (w := w) (Nat.le_refl _) _ D _ _ (by omega) hK rfl rfl)
  case stop =>
    rintro D c pre W _ _ h _
    exact h.elim

theorem aseq_c (Bm b : Nat) (f : RoI → Int) (w : World) (hBm : Bm < w.heap.size) (hm : w.cell? ⟨Bm, 0, none⟩ = some (.map (some b))) (h : GM w b f) :
    Calls Try.prog 165 #[.slice none 0 0, .func (.func 145) #[] #[.pointer (some ⟨Bm, 0, none⟩)]] w fun e W' => ∃ v ys, e = .returned v ∧ KeysIs f ys ∧ Owns2 W' w.heap.size v ys ∧ Below w.heap.size w W' :=
  callsIn_wide.1 (aseq_w 3 (Nat.le_refl _) Bm b f w hBm hm h)

set_option maxHeartbeats 1000000 in
theorem collect_c (Bm b : Nat) (f : RoI → Int) (w : World) (hBm : Bm < w.heap.size) (hm : w.cell? ⟨Bm, 0, none⟩ = some (.map (some b))) (h : GM w b f) :
    Calls Try.prog 144 #[.func (.func 145) #[] #[.pointer (some ⟨Bm, 0, none⟩)]] w fun e W' => ∃ v ys, e = .returned v ∧ KeysIs f ys ∧ Owns2 W' w.heap.size v ys ∧ Below w.heap.size w W' := by
  go_enter Try.func144, Try.ntmps144
  go_wp2_with (first | (go_at_call 165; refine (aseq_c Bm b f _ hBm hm h).mono ?_; rintro e w1 ⟨v, ys, rfl, hk, ho, hb⟩) | go_in)
  go_ret
  exact ⟨v, ys, rfl, hk, ho, hb⟩

theorem mkeys_c (b : Nat) (w : World) :
    Calls Try.prog 110 #[.map (some b)] w fun e w' => e = .returned (.func (.func 145) #[] #[.pointer (some ⟨w.heap.size, 0, none⟩)]) ∧ w.alloc (.cells #[.map (some b)] 87) = w' :=
  callsIn_wide.1 (mkeys_in 3 b w)

end Go.Proofs.Ytdooocjjohdpjaa

namespace Go.Proofs.Ytdooocjjohdpjaa
open Go.RowKit Go.Maps Go.Proofs
set_option linter.unusedVariables false
set_option linter.unusedSimpArgs false

theorem ss_of_sorted {xs ys : List RoI} (hl : ys.length = xs.length) (hm : ∀ x, x ∈ ys ↔ x ∈ xs) (hs : ys.Pairwise (fun a b => ltR b a = false)) (hn : xs.Nodup) : SS ys := by
  refine List.pairwise_iff_getElem.2 (fun i j hi hj hij => ?_)
  cases e : ltR ys[i] ys[j]
  · have h2 := List.pairwise_iff_getElem.1 hs i j hi hj hij
    have eq : ys[i] = ys[j] := Classical.byContradiction fun q => by
      have := ltR_total e q
      rw [h2] at this; cases this
    have := nodup_len xs (ys.eraseIdx j) hn (fun x hx => by
      obtain ⟨k, hk, ek⟩ := List.mem_iff_getElem.1 ((hm x).2 hx)
      refine List.mem_eraseIdx_iff_getElem.2 ?_
      by_cases q : k = j
      · subst q
        exact ⟨i, hi, by omega, by rw [eq, ek]⟩
      · exact ⟨k, hk, q, ek⟩)
    rw [List.length_eraseIdx] at this
    split at this <;> omega
  · rfl

theorem sortNilB_c (fv : Value) (w : World) : Calls Try.prog 72 #[.slice none 0 0, fv] w fun e w' => e = .returned (.tuple #[]) ∧ Below w.heap.size w w' := by
  have h := AnyF.slices_SortFunc_none Try.sortRole none 0 fv w
  change Calls Try.prog 72 _ _ _ at h
  exact h.mono (fun e w' ⟨h1, h2⟩ => ⟨h1, by rw [h2]; exact Below.refl _ _⟩)

set_option maxHeartbeats 1000000 in
theorem sortedFunc_c (Bm b : Nat) (f : RoI → Int) (w : World) (hBm : Bm < w.heap.size) (hm : w.cell? ⟨Bm, 0, none⟩ = some (.map (some b))) (h : GM w b f) :
    Calls Try.prog 109 #[.func (.func 145) #[] #[.pointer (some ⟨Bm, 0, none⟩)], .func (.func 65) #[] #[]] w fun e W' => ∃ v ys, e = .returned v ∧ SS ys ∧ (∀ r, r ∈ ys ↔ f r ≠ 0) ∧ Owns2 W' w.heap.size v ys ∧ Below w.heap.size w W' := by
  go_enter Try.func109, Try.ntmps109
  go_wp2_with fail
  refine (collect_c Bm b f _ hBm hm h).mono ?_
  rintro e w1 ⟨v, ys, rfl, hk, ho, hb⟩
  have hlen : ys.length ≤ 40 := by
    have := nodup_len ys allRo hk.1 (fun r hr => mem_allRo (h.fn.ro r ((hk.2 r).1 hr)))
    rwa [allRo_len] at this
  rcases ho.2 with ⟨rfl, h0⟩ | ⟨g, cap, cur, rfl, _⟩
  · have hy : ys = [] := List.eq_nil_of_length_eq_zero h0
    subst hy
    go_wp2_with fail
    refine (sortNilB_c _ _).mono ?_
    rintro e w2 ⟨rfl, hb2⟩
    go_wp2
    go_ret
    exact ⟨_, [], rfl, List.Pairwise.nil, hk.2, World.ownsRow_nil _ _ _ _, hb.trans (hb2.mono hb.size)⟩
  · go_wp2_with fail
    refine (sorts_c g cap w.heap.size ys _ ho (by omega)).mono ?_
    rintro e w2 ⟨rfl, zs, hl, hsm, hp, ho2, hb2⟩
    go_wp2
    go_ret
    have hss := ss_of_sorted hl hsm hp hk.1
    exact ⟨.slice (some ⟨g, 0, none⟩) ys.length cap, zs, rfl, hss, fun r => (hsm r).trans (hk.2 r), ho2, hb.trans hb2⟩

theorem owns_at2 {w : World} {B : Nat} {v : Value} {ys : List RoI} (h : Owns2 w B v ys) : ∃ a cap, v = .slice a ys.length cap ∧ ∀ k r, ys[k]? = some r → ∃ g, a = some ⟨g, 0, none⟩ ∧ B ≤ g ∧ w.cell? ⟨g, k * 2, none⟩ = some (.int .i64 r.1) ∧ w.cell? ⟨g, k * 2 + 1, none⟩ = some (.int .i64 r.2) := by
  rcases h.2 with ⟨rfl, h0⟩ | ⟨g, cap, cur, rfl, hg, _⟩
  · have hy : ys = [] := List.eq_nil_of_length_eq_zero h0
    subst hy
    exact ⟨none, 0, rfl, fun k r e => by simp at e⟩
  · refine ⟨_, cap, rfl, fun k r e => ⟨g, rfl, hg, ?_, ?_⟩⟩
    · have hk : k < ys.length := by
        by_cases q : k < ys.length
        · exact q
        · rw [List.getElem?_eq_none (by omega)] at e; cases e
      exact (World.ownsRow.cellAt h (k * 2) (by omega)).trans (flat2_fst ys k r e)
    · have hk : k < ys.length := by
        by_cases q : k < ys.length
        · exact q
        · rw [List.getElem?_eq_none (by omega)] at e; cases e
      exact (World.ownsRow.cellAt h (k * 2 + 1) (by omega)).trans (flat2_snd ys k r e)

theorem flat3_snoc (a : List GrI) (x : GrI) : flat3 (a ++ [x]) = flat3 a ++ [.int .i64 x.1.1, .int .i64 x.1.2, .int .i64 x.2] := by rw [flat3_append]; rfl

theorem owns_lower3 {w : World} {B B' : Nat} {v : Value} {gs : List GrI} (h : Own3 w B v gs) (hB : B' ≤ B) : Own3 w B' v gs := by
  refine ⟨h.1, ?_⟩
  rcases h.2 with q | ⟨g, cap, cur, e, hg, rest⟩
  · exact .inl q
  · exact .inr ⟨g, cap, cur, e, Nat.le_trans hB hg, rest⟩

set_option maxRecDepth 100000 in
set_option maxHeartbeats 2000000 in
theorem list_c (b : Nat) (f : RoI → Int) (w : World) (h : GM w b f) :
    Calls Try.prog 55 #[.map (some b)] w fun e W' => ∃ v gs, e = .returned v ∧ SG gs ∧ ofG gs = f ∧ Own3 W' w.heap.size v gs ∧ Below w.heap.size w W' := by
  obtain ⟨i0, hi, hz0, hz1, hz2⟩ := info_parts Try.info37
  have hlt := h.lt
  have HF : Hid (FN f) := h.fn
  go_enter Try.func55, Try.ntmps55
  go_wp2_with fail
  refine (mkeys_c b _).mono ?_
  rintro e w1 ⟨rfl, hw1⟩
  have hb1 : Below w.heap.size w w1 := by rw [← hw1]; exact (Below.refl _ _).alloc (Nat.le_refl _) _
  have hc1 : w1.cell? ⟨w.heap.size, 0, none⟩ = some (.map (some b)) := by rw [← hw1]; simp
  have hs1 : w.heap.size < w1.heap.size := by rw [← hw1]; simp
  have hG1 := h.below hlt hb1
  clear hw1
  go_wp2_with fail
  refine (sortedFunc_c w.heap.size b f _ hs1 hc1 hG1).mono ?_
  rintro e w2 ⟨v, ys, rfl, hss, hmem, ho, hb2⟩
  have hlen : ys.length ≤ 40 := by
    have := nodup_len ys allRo (List.Pairwise.imp (fun {a b} q e => by rw [e, ltR_irrefl] at q; cases q) hss) (fun r hr => mem_allRo (HF.out.ro r ((hmem r).1 hr)))
    rwa [allRo_len] at this
  obtain ⟨a, cap, rfl, hcells⟩ := owns_at2 ho
  have HC : Hid (∀ k r, ys[k]? = some r → ∃ g, a = some ⟨g, 0, none⟩ ∧ w1.heap.size ≤ g ∧ w2.cell? ⟨g, k * 2, none⟩ = some (.int .i64 r.1) ∧ w2.cell? ⟨g, k * 2 + 1, none⟩ = some (.int .i64 r.2)) := hcells
  have HM : Hid (SS ys ∧ ∀ r, r ∈ ys ↔ f r ≠ 0) := ⟨hss, hmem⟩
  have hb02 : Below w.heap.size w w2 := hb1.trans (hb2.mono hb1.size)
  have HG : Hid (GM w2 b f) := h.below hlt hb02
  obtain ⟨n, hn⟩ : ∃ n, ys.length = n := ⟨_, rfl⟩
  have HN : Hid (ys.length = n) := hn
  have hn40 : n ≤ 40 := by omega
  have hn' : (n : Int) ≤ 40 := by omega
  rw [hn]
  have hlt0 : b < w2.heap.size := HG.out.lt
  clear hss hmem hcells ho h hG1 hlen hn
  go_wp2
  go_loopw [3, 10] (fun s i wr => ∃ k : Nat, k ≤ n ∧ i = .int .i64 (k : Int) ∧ Own3 wr w2.heap.size s ((ys.take k).map (fun r => (r, f r))) ∧ Below w2.heap.size w2 wr) (fun _ i _ => n - (intOf i).toNat)
  case atStart => exact ⟨0, Nat.zero_le _, rfl, World.ownsRow_nil _ _ _ _, Below.refl _ _⟩
  case round =>
    obtain ⟨k, hk, rfl, hown, hnx⟩ := hrel
    by_cases hlt : k < n
    · have hr : ys[k]? = some (ys[k]'(by rw [HN.out]; exact hlt)) := List.getElem?_eq_getElem _
      obtain ⟨r, hr⟩ : ∃ r, ys[k]? = some r := ⟨_, hr⟩
      obtain ⟨g, rfl, hg, hq0, hq1⟩ := HC.out k r hr
      have hgl : g < w2.heap.size := World.block_lt_of_cell? w2 ⟨g, k * 2, none⟩ hq0
      have c0 := (hnx.cell (p := ⟨g, k * 2, none⟩) hgl).trans hq0
      have c1 := (hnx.cell (p := ⟨g, k * 2 + 1, none⟩) hgl).trans hq1
      have hrB : roleB r.1 r.2 = true := HF.out.ro r ((HM.out.2 r).1 (List.mem_of_getElem? hr))
      have hz := hnx.size
      have HE : Hid (flat3 ((ys.take (k + 1)).map (fun r => (r, f r))) = flat3 ((ys.take k).map (fun r => (r, f r))) ++ [.int .i64 r.1, .int .i64 r.2, .int .i64 (f r)] ∧ ((ys.take k).map (fun r => (r, f r))).length = k ∧ ((ys.take (k + 1)).map (fun r => (r, f r))).length = k + 1) := by
        have hkl : k < ys.length := by rw [HN.out]; exact hlt
        have e : ys[k] = r := by rw [List.getElem?_eq_getElem hkl] at hr; exact Option.some.inj hr
        refine ⟨?_, by simp; omega, by simp; omega⟩
        rw [List.take_succ_eq_append_getElem hkl, List.map_append, e]
        exact flat3_snoc _ (r, f r)
      have hown' : wr.ownsRow w2.heap.size 37 3 u3 k (flat3 ((ys.take k).map (fun r => (r, f r)))) := by
        have := hown
        unfold Own3 at this
        rwa [HE.out.2.1] at this
      have HO : Hid (wr.ownsRow w2.heap.size 37 3 u3 k (flat3 ((ys.take k).map (fun r => (r, f r))))) := hown'
      have hGr := HG.out.below (Nat.lt_of_lt_of_le hlt0 (Nat.le_refl _)) hnx
      have hlk := gm_look (w := (wr.alloc (.cells #[.int .i64 r.1, .int .i64 r.2] 35)).drew) (gm_heap hGr (heap_alloc_old wr _ hGr.lt)) (roW_of (r := r) hrB)
      simp only [roV] at hlk
      have hwrap : IntKind.i64.wrap (f r) = f r := by
        have := (HF.out.st r).1
        have := (HF.out.st r).2
        rw [IntKind.wrap_i64]; omega
      have hlt' : (k : Int) < (n : Int) := by omega
      have HNW : Hid (∀ j u, ([.int .i64 r.1, .int .i64 r.2, .int .i64 (f r)] : List Value)[j]? = some u → ((wr.alloc (.cells #[.int .i64 r.1, .int .i64 r.2] 35)).drew.alloc (.cells #[.int .i64 r.1, .int .i64 r.2, .int .i64 (f r)] 37)).cell? ((⟨wr.heap.size + 1, 0, none⟩ : Addr).add j) = some u) := by
        have h1 := World.news_of_block (World.alloc_heap_new (wr.alloc (.cells #[.int .i64 r.1, .int .i64 r.2] 35)).drew (.cells #[.int .i64 r.1, .int .i64 r.2, .int .i64 (f r)] 37))
        have e : (wr.alloc (.cells #[.int .i64 r.1, .int .i64 r.2] 35)).drew.heap.size = wr.heap.size + 1 := World.size_alloc _ _
        rw [e] at h1
        exact h1
      clear hown hown' hGr hr
      go_wp2
      go_region_law (refine step_append_own2 rfl (.tmp 14) (.tmp 21) 25 rfl w2.heap.size 37 i0 (.agg #[.int .i64 0, .int .i64 0, .int .i64 0]) 3 24 Try.under25 hi hz0 hz1 hz2 rfl (by decide) u3 k (flat3 ((ys.take k).map (fun r => (r, f r)))) (by rfl) ((HO.out.alloc _).alloc _) ⟨wr.heap.size + 1, 0, none⟩ 1 1 [.int .i64 r.1, .int .i64 r.2, .int .i64 (f r)] (by rfl) rfl HNW.out (by simp [Value.oneCell']) (by unfold maxLen; omega) (by omega) (by simp; omega) ?_; intro v' w' ho' hg' hnil'; have HO2 : Hid (w'.ownsRow w2.heap.size 37 3 v' (k + 1) (flat3 ((ys.take k).map (fun r => (r, f r))) ++ [.int .i64 r.1, .int .i64 r.2, .int .i64 (f r)])) := ho'; have HG2 : Hid (((wr.alloc (.cells #[.int .i64 r.1, .int .i64 r.2] 35)).alloc (.cells #[.int .i64 r.1, .int .i64 r.2, .int .i64 (f r)] 37)).drew.grownBy w' u3.ownBlock) := hg'; clear ho' hg' hnil')
      all_goals go_wp2
      all_goals
        refine ⟨⟨k + 1, by omega, by go_num, ?_, ?_⟩, by simp [intOf]; omega⟩
        · show w'.ownsRow _ _ _ _ _ _
          rw [HE.out.1, HE.out.2.2]
          exact HO2.out
        · refine ((((hnx.alloc hnx.size _).alloc (by simp; omega) _).drew).grown HG2.out (by simp; omega) (fun q e => ?_))
          exact (HO.out.lt q e).1
    · have hkn : k = n := by omega
      subst hkn
      go_wp2
      go_ret
      have hsg := sg_keys HF.out HM.out.1 HM.out.2
      rw [List.take_of_length_le (by rw [HN.out]; exact Nat.le_refl _)] at hown
      exact ⟨_, _, rfl, hsg.1, hsg.2, owns_lower3 hown (by have := hb02.size; omega), hb02.trans (hnx.mono hb02.size)⟩

end Go.Proofs.Ytdooocjjohdpjaa

namespace Go.Proofs.Ytdooocjjohdpjaa
open Go.RowKit
set_option linter.unusedVariables false
set_option linter.unusedSimpArgs false

def GivesG (f : Nat) (a : Option Addr) (n cap : Nat) (c : Int) (ys : List GrI) (w : World) : Prop := Calls Try.prog f #[.slice a n cap] w fun e w' => ∃ (a' : Option Addr) (cap' : Nat), e = .returned (.agg #[.int .i64 c, .slice a' ys.length cap']) ∧ Own3 w' w.heap.size (.slice a' ys.length cap') ys ∧ Below w.heap.size w w'

theorem all_some (zs : List RuleI) (hc : polCode zs = 0) : ∃ gs, AllG zs gs := by
  have hz : ∀ z ∈ zs, okR z := fun z h => ((pol_ok hc).2 z h).1
  obtain ⟨n, _, h⟩ := it_ends hz
  exact ⟨_, allG_it hz h⟩

set_option maxHeartbeats 1000000 in
theorem specGrantsOf_bad (a : Option Addr) (n cap : Nat) (zs : List RuleI) (c : Int) (w : World) (hn : n ≤ 1048576) (h : RulesIn w a n zs) (hc : polCode zs = c) (h0 : c ≠ 0) : GivesG 15 a n cap c [] w := by
  have H : Hid (RulesIn (w.alloc (.cells #[.int .i64 0, .slice none 0 0] 29)) a n zs) := h.below ((Below.refl _ _).alloc (Nat.le_refl _) _)
  have HC : Hid (polCode zs = c) := hc
  clear h hc
  have hcn : (c != 0) = true := by simpa using h0
  unfold GivesG
  go_enter Try.func15, Try.ntmps15
  go_wp2_with fail
  refine (l2Fault_c a n cap zs _ hn H.out).mono ?_
  rintro e w1 ⟨rfl, hb1⟩
  rw [HC.out]
  have hBx : Below w.heap.size w w1 := below_new hb1
  have hw : w.heap.size < w1.heap.size := by have := hb1.size; simp only [World.size_alloc] at this; omega
  have c0 : w1.cell? ⟨w.heap.size, 0, none⟩ = some (.int .i64 0) := (hb1.cell (p := ⟨w.heap.size, 0, none⟩) (by simp)).trans (by simp)
  have c1 : w1.cell? ⟨w.heap.size, 1, none⟩ = some (.slice none 0 0) := (hb1.cell (p := ⟨w.heap.size, 1, none⟩) (by simp)).trans (by simp)
  have f0 : w1.frozen? ⟨w.heap.size, 0, none⟩ = false := (hb1.frozen (p := ⟨w.heap.size, 0, none⟩) (by simp)).trans (by simp [go_sem])
  have f1 : w1.frozen? ⟨w.heap.size, 1, none⟩ = false := (hb1.frozen (p := ⟨w.heap.size, 1, none⟩) (by simp)).trans (by simp [go_sem])
  clear hb1
  go_wp2
  refine bodyPost_ret (v := .agg #[.int .i64 c, .slice none 0 0]) (by simp [results, Try.results15, go_sem, c0, c1, hw]) rfl ⟨none, 0, rfl, World.ownsRow_nil _ _ _ _, ?_⟩
  exact hBx |>.setCell (Nat.le_refl _) _ |>.setCell (Nat.le_refl _) _

theorem pol_n16 {zs : List RuleI} {n : Nat} (h : zs.length = n) (hc : polCode zs = 0) : n ≤ 16 := by
  unfold polCode at hc
  split at hc
  · simp at hc
  · omega

theorem Own3.box {w : World} {B b0 : Nat} {v x y : Value} {gs : List GrI} (h : Own3 w B v gs) (hB : b0 < B) : Own3 ((w.setCell ⟨b0, 0, none⟩ x).setCell ⟨b0, 1, none⟩ y) b0 v gs := by
  have h6 : Own3 w (b0 + 1) v gs := owns_lower3 h (by omega)
  have h7 := ownsRow_setCell_below (ownsRow_setCell_below h6 (a := ⟨b0, 0, none⟩) (by simp) x) (a := ⟨b0, 1, none⟩) (by simp) y
  exact owns_lower3 h7 (by omega)

set_option maxHeartbeats 1000000 in
theorem specGrantsOf_ok (a : Option Addr) (n cap : Nat) (zs : List RuleI) (gs : List GrI) (w : World) (h : RulesIn w a n zs) (hc : polCode zs = 0) (hg : AllG zs gs) : GivesG 15 a n cap 0 gs w := by
  have hn : n ≤ 16 := pol_n16 h.1 hc
  have H : Hid (RulesIn (w.alloc (.cells #[.int .i64 0, .slice none 0 0] 29)) a n zs) := h.below ((Below.refl _ _).alloc (Nat.le_refl _) _)
  have HC : Hid (polCode zs = 0) := hc
  clear h hc
  unfold GivesG
  go_enter Try.func15, Try.ntmps15
  go_wp2_with fail
  refine (l2Fault_c a n cap zs _ (by omega) H.out).mono ?_
  rintro e w1 ⟨rfl, hb1⟩
  rw [HC.out]
  have HX : Hid (RulesIn w1 a n zs) := H.out.below hb1
  have B1 : Hid (Below (w.alloc (.cells #[.int .i64 0, .slice none 0 0] 29)).heap.size (w.alloc (.cells #[.int .i64 0, .slice none 0 0] 29)) w1) := hb1
  clear hb1
  go_wp2_with fail
  refine (l3All_c a n cap zs w1 HX.out (by omega) (pol_ok HC.out).2).mono ?_
  rintro e w2 ⟨g, m, cap', ys, rfl, h1, h2, h3, h4, hb2⟩
  have hz1 := B1.out.size
  have hz2 := hb2.size
  simp only [World.size_alloc] at hz1
  have B2 : Below (w.alloc (.cells #[.int .i64 0, .slice none 0 0] 29)).heap.size (w.alloc (.cells #[.int .i64 0, .slice none 0 0] 29)) w2 := B1.out.trans (hb2.mono (by simp; omega))
  have hBx : Below w.heap.size w w2 := below_new B2
  have hw : w.heap.size < w2.heap.size := by omega
  have c0 : w2.cell? ⟨w.heap.size, 0, none⟩ = some (.int .i64 0) := (B2.cell (p := ⟨w.heap.size, 0, none⟩) (by simp)).trans (by simp)
  have c1 : w2.cell? ⟨w.heap.size, 1, none⟩ = some (.slice none 0 0) := (B2.cell (p := ⟨w.heap.size, 1, none⟩) (by simp)).trans (by simp)
  have f0 : w2.frozen? ⟨w.heap.size, 0, none⟩ = false := (B2.frozen (p := ⟨w.heap.size, 0, none⟩) (by simp)).trans (by simp [go_sem])
  have f1 : w2.frozen? ⟨w.heap.size, 1, none⟩ = false := (B2.frozen (p := ⟨w.heap.size, 1, none⟩) (by simp)).trans (by simp [go_sem])
  obtain rfl := allG_unique h2 hg
  have HF : Hid (m = ys.length ∧ Own3 w2 w1.heap.size (.slice (some ⟨g, 0, none⟩) m cap') ys) := ⟨h1.symm, h4⟩
  clear B2 hb2 h1 h2 h3 h4 B1
  go_wp2
  obtain ⟨h1, h3⟩ := HF.out
  subst h1
  refine bodyPost_ret (v := .agg #[.int .i64 0, .slice (some ⟨g, 0, none⟩) ys.length cap']) (by simp [results, Try.results15, go_sem, c0, c1, hw]) rfl ⟨some ⟨g, 0, none⟩, cap', rfl, ?_, ?_⟩
  · exact h3.box (by omega)
  · exact hBx |>.setCell (Nat.le_refl _) _ |>.setCell (Nat.le_refl _) _

set_option maxHeartbeats 1000000 in
theorem implGrantsOf_bad (a : Option Addr) (n cap : Nat) (zs : List RuleI) (c : Int) (w : World) (hn : n ≤ 1048576) (hcap : n ≤ cap) (hcm : cap ≤ maxLen) (h : RulesIn w a n zs) (hc : polCode zs = c) (h0 : c ≠ 0) : GivesG 13 a n cap c [] w := by
  have H : Hid (RulesIn (w.alloc (.cells #[.int .i64 0, .slice none 0 0] 29)) a n zs) := h.below ((Below.refl _ _).alloc (Nat.le_refl _) _)
  have HC : Hid (polCode zs = c) := hc
  clear h hc
  have hcn : (c != 0) = true := by simpa using h0
  unfold GivesG
  go_enter Try.func13, Try.ntmps13
  go_wp2_with fail
  refine (implPolicyFault_c a n cap zs _ hn hcap hcm H.out).mono ?_
  rintro e w1 ⟨rfl, hb1⟩
  rw [HC.out]
  have hBx : Below w.heap.size w w1 := below_new hb1
  have hw : w.heap.size < w1.heap.size := by have := hb1.size; simp only [World.size_alloc] at this; omega
  have c0 : w1.cell? ⟨w.heap.size, 0, none⟩ = some (.int .i64 0) := (hb1.cell (p := ⟨w.heap.size, 0, none⟩) (by simp)).trans (by simp)
  have c1 : w1.cell? ⟨w.heap.size, 1, none⟩ = some (.slice none 0 0) := (hb1.cell (p := ⟨w.heap.size, 1, none⟩) (by simp)).trans (by simp)
  have f0 : w1.frozen? ⟨w.heap.size, 0, none⟩ = false := (hb1.frozen (p := ⟨w.heap.size, 0, none⟩) (by simp)).trans (by simp [go_sem])
  have f1 : w1.frozen? ⟨w.heap.size, 1, none⟩ = false := (hb1.frozen (p := ⟨w.heap.size, 1, none⟩) (by simp)).trans (by simp [go_sem])
  clear hb1
  go_wp2
  refine bodyPost_ret (v := .agg #[.int .i64 c, .slice none 0 0]) (by simp [results, Try.results13, go_sem, c0, c1, hw]) rfl ⟨none, 0, rfl, World.ownsRow_nil _ _ _ _, ?_⟩
  exact hBx |>.setCell (Nat.le_refl _) _ |>.setCell (Nat.le_refl _) _

set_option maxHeartbeats 1000000 in
theorem implGrantsOf_ok (a : Option Addr) (n cap : Nat) (zs : List RuleI) (gs : List GrI) (w : World) (hcap : n ≤ cap) (hcm : cap ≤ maxLen) (h : RulesIn w a n zs) (hc : polCode zs = 0) (hg : AllG zs gs) : GivesG 13 a n cap 0 gs w := by
  have hn : n ≤ 16 := pol_n16 h.1 hc
  have H : Hid (RulesIn (w.alloc (.cells #[.int .i64 0, .slice none 0 0] 29)) a n zs) := h.below ((Below.refl _ _).alloc (Nat.le_refl _) _)
  have HC : Hid (polCode zs = 0) := hc
  clear h hc
  unfold GivesG
  go_enter Try.func13, Try.ntmps13
  go_wp2_with fail
  refine (implPolicyFault_c a n cap zs _ (by omega) hcap hcm H.out).mono ?_
  rintro e w1 ⟨rfl, hb1⟩
  rw [HC.out]
  have HX : Hid (RulesIn w1 a n zs) := H.out.below hb1
  have B1 : Hid (Below (w.alloc (.cells #[.int .i64 0, .slice none 0 0] 29)).heap.size (w.alloc (.cells #[.int .i64 0, .slice none 0 0] 29)) w1) := hb1
  clear hb1
  go_wp2_with fail
  refine (settle_c a n cap zs w1 HX.out hn HC.out).mono ?_
  rintro e w2 ⟨b, f, rfl, hG, hW, hb, hb2⟩
  have HW : Hid (Work zs f []) := hW
  clear hW
  go_wp2_with fail
  refine (list_c b f w2 hG).mono ?_
  rintro e w3 ⟨v, ys, rfl, hsg, hof, hown, hb3⟩
  obtain rfl := allG_unique (work_end (fun z hz => ((pol_ok HC.out).2 z hz).1) HW.out hsg hof) hg
  obtain ⟨a', cap', rfl⟩ := hown.slice
  have hz1 := B1.out.size
  have hz2 := hb2.size
  have hz3 := hb3.size
  simp only [World.size_alloc] at hz1
  have B2 : Below (w.alloc (.cells #[.int .i64 0, .slice none 0 0] 29)).heap.size (w.alloc (.cells #[.int .i64 0, .slice none 0 0] 29)) w3 := (B1.out.trans (hb2.mono (by simp; omega))).trans (hb3.mono (by simp; omega))
  have hBx : Below w.heap.size w w3 := below_new B2
  have hw : w.heap.size < w3.heap.size := by omega
  have c0 : w3.cell? ⟨w.heap.size, 0, none⟩ = some (.int .i64 0) := (B2.cell (p := ⟨w.heap.size, 0, none⟩) (by simp)).trans (by simp)
  have c1 : w3.cell? ⟨w.heap.size, 1, none⟩ = some (.slice none 0 0) := (B2.cell (p := ⟨w.heap.size, 1, none⟩) (by simp)).trans (by simp)
  have f0 : w3.frozen? ⟨w.heap.size, 0, none⟩ = false := (B2.frozen (p := ⟨w.heap.size, 0, none⟩) (by simp)).trans (by simp [go_sem])
  have f1 : w3.frozen? ⟨w.heap.size, 1, none⟩ = false := (B2.frozen (p := ⟨w.heap.size, 1, none⟩) (by simp)).trans (by simp [go_sem])
  have HF : Hid (Own3 w3 w2.heap.size (.slice a' ys.length cap') ys) := hown
  clear B2 hb2 hb3 hown B1 hG
  go_wp2
  refine bodyPost_ret (v := .agg #[.int .i64 0, .slice a' ys.length cap']) (by simp [results, Try.results13, go_sem, c0, c1, hw]) rfl ⟨a', cap', rfl, ?_, ?_⟩
  · exact HF.out.box (by omega)
  · exact hBx |>.setCell (Nat.le_refl _) _ |>.setCell (Nat.le_refl _) _

end Go.Proofs.Ytdooocjjohdpjaa

namespace Go.Proofs.Ytdooocjjohdpjaa
open Go.RowKit
set_option linter.unusedVariables false
set_option linter.unusedSimpArgs false

theorem or64_c (g : Nat) (c d : Int) (w : World) (h0 : w.cell? ⟨g, 0, none⟩ = some (.int .i64 c)) (h1 : w.cell? ⟨g, 1, none⟩ = some (.int .i64 d)) :
    Calls Try.prog 56 #[.slice (some ⟨g, 0, none⟩) 2 2] w fun e w' => e = .returned (.int .i64 (orC c d)) ∧ w = w' := by
  go_enter Try.func56, Try.ntmps56
  go_wp2
  go_loop [8] (fun i => ∃ k : Nat, k ≤ 2 ∧ i = .int .i64 (k : Int) ∧ (1 ≤ k → c = 0) ∧ (2 ≤ k → d = 0)) (fun i => 2 - (intOf i).toNat)
  case atStart => exact ⟨0, by omega, rfl, fun h => by omega, fun h => by omega⟩
  case round =>
    obtain ⟨k, hk, rfl, hc, hd⟩ := hrel
    have hk' : k = 0 ∨ k = 1 ∨ k = 2 := by omega
    rcases hk' with rfl | rfl | rfl
    · clear hc hd
      by_cases e : c = 0
      · have b : (c != 0) = false := by simp [e]
        have HE : Hid (c = 0) := e
        clear e
        go_wp2
        exact ⟨⟨1, by omega, by go_num, fun _ => HE.out, fun h => by omega⟩, by simp [intOf]⟩
      · have b : (c != 0) = true := by simp [e]
        go_wp2
        go_ret
        exact ⟨by simp [orC, e], rfl⟩
    · have HC : Hid (c = 0) := hc (by omega)
      clear hc hd
      by_cases e : d = 0
      · have b : (d != 0) = false := by simp [e]
        have HE : Hid (d = 0) := e
        clear e
        go_wp2
        exact ⟨⟨2, by omega, by go_num, fun _ => HC.out, fun _ => HE.out⟩, by simp [intOf]⟩
      · have b : (d != 0) = true := by simp [e]
        go_wp2
        go_ret
        exact ⟨by simp [orC, HC.out], rfl⟩
    · have HC : Hid (c = 0) := hc (by omega)
      have HD : Hid (d = 0) := hd (by omega)
      clear hc hd
      go_wp2
      go_ret
      exact ⟨by simp [orC, HC.out, HD.out], rfl⟩

theorem kp_new {W w : World} (h : (∀ b o, b < W.heap.size → w.cell? ⟨b, o, none⟩ = W.cell? ⟨b, o, none⟩) ∧ Below W.heap.size W w) (o : Obj) : (∀ b i, b < W.heap.size → (w.alloc o).cell? ⟨b, i, none⟩ = W.cell? ⟨b, i, none⟩) ∧ Below W.heap.size W (w.alloc o) :=
  kp_step h ((Below.refl _ _).alloc (Nat.le_refl _) _)

theorem allRo_ss : SS allRo := by
  unfold SS
  decide

theorem fn_list {f : RoI → Int} (h : FN f) : ∃ gs, SG gs ∧ ofG gs = f := by
  refine ⟨_, sg_keys h (rs := allRo.filter (fun r => decide (f r ≠ 0))) ?_ (fun r => ?_)⟩
  · exact List.Pairwise.sublist List.filter_sublist allRo_ss
  · rw [List.mem_filter]
    exact ⟨fun q => of_decide_eq_true q.2, fun q => ⟨mem_allRo (h.ro r q), decide_eq_true q⟩⟩

theorem gm_list {w : World} {b : Nat} {f : RoI → Int} (h : GM w b f) : ∃ gs, SG gs ∧ ofG gs = f := fn_list h.fn

/-- The fault of the arguments: the policy's, then the role's. -/
def memCode (zs : List RuleI) (r : RoI) : Int := orC (polCode zs) (roleCode r.1 r.2)

def GivesI (f : Nat) (a : Option Addr) (n cap : Nat) (r : RoI) (c v : Int) (w : World) : Prop := Calls Try.prog f #[.slice a n cap, .agg #[.int .i64 r.1, .int .i64 r.2]] w fun e w' => e = .returned (.agg #[.int .i64 c, .int .i64 v]) ∧ Below w.heap.size w w'

set_option maxRecDepth 100000 in
set_option maxHeartbeats 1000000 in
theorem implMembersOf_bad (a : Option Addr) (n cap : Nat) (zs : List RuleI) (r : RoI) (c : Int) (w : World) (hn : n ≤ 1048576) (hcap : n ≤ cap) (hcm : cap ≤ maxLen) (h : RulesIn w a n zs) (hc : memCode zs r = c) (h0 : c ≠ 0) : GivesI 19 a n cap r c 0 w := by
  obtain ⟨W, hW⟩ : ∃ W, W = (w.alloc (.cells #[.int .i64 r.1, .int .i64 r.2] 35)).alloc (.cells #[.int .i64 0, .int .i64 0] 39) := ⟨_, rfl⟩
  have hs : W.heap.size = w.heap.size + 2 := by rw [hW]; simp
  have B0 : Below w.heap.size w W := by rw [hW]; exact ((Below.refl _ _).alloc (Nat.le_refl _) _).alloc (by simp) _
  have r0 : W.cell? ⟨w.heap.size, 0, none⟩ = some (.int .i64 r.1) := by rw [hW]; simp
  have r1 : W.cell? ⟨w.heap.size, 1, none⟩ = some (.int .i64 r.2) := by rw [hW]; simp
  have c0 : W.cell? ⟨w.heap.size + 1, 0, none⟩ = some (.int .i64 0) := by rw [hW]; simp
  have c1 : W.cell? ⟨w.heap.size + 1, 1, none⟩ = some (.int .i64 0) := by rw [hW]; simp
  have f0 : ∀ j, W.frozen? ⟨w.heap.size + 1, j, none⟩ = false := fun j => by rw [hW]; simp [go_sem]
  have HP : Hid (∀ w2 : World, (∀ b o, b < W.heap.size → w2.cell? ⟨b, o, none⟩ = W.cell? ⟨b, o, none⟩) ∧ Below W.heap.size W w2 → Calls Try.prog 23 #[.slice a n cap] w2 fun e w' => e = .returned (.int .i64 (polCode zs)) ∧ Below w2.heap.size w2 w') := fun w2 q => implPolicyFault_c a n cap zs w2 hn hcap hcm (h.below (B0.trans (q.2.mono (by omega))))
  have HC : Hid (orC (polCode zs) (roleCode r.1 r.2) = c) := hc
  clear h hc
  have hcn : (c != 0) = true := by simpa using h0
  generalize polCode zs = p at HP HC
  generalize hq : roleCode r.1 r.2 = q at HC
  unfold GivesI
  go_enter Try.func19, Try.ntmps19
  go_wp2
  rw [← hW]
  clear hW
  go_region_held3 (fun w' => (∀ b o, b < W.heap.size → w'.cell? ⟨b, o, none⟩ = W.cell? ⟨b, o, none⟩) ∧ Below W.heap.size W w') (first | exact hS | exact kp_drew _ | exact kp_new (by assumption) _)
    (first | (go_at_call 23; refine (HP.out _ (by assumption)).mono ?_; rintro e w' ⟨rfl, hb2⟩; have hS := kp_step (by assumption) hb2) | (go_at_call 63; refine (implRoleFault_c _ _ _).mono ?_; rintro e w' ⟨rfl, hb2⟩; rw [hq]; have hS := kp_step (by assumption) hb2) | (go_at_call 56; refine (or64_c _ p q _ ?_ ?_).mono ?_; (· simp [go_sem]); (· simp [go_sem]); rintro e w' ⟨rfl, rfl⟩))
  all_goals
    have hS3 := kp_new hS (.cells #[.int .i64 p, .int .i64 q] 2)
    rw [HC.out]
    generalize w'.alloc (.cells #[.int .i64 p, .int .i64 q] 2) = w3 at hS3 ⊢
    have hz3 := hS3.2.size
    have hw : w.heap.size + 1 < w3.heap.size := by omega
    have d0 := (hS3.1 (w.heap.size + 1) 0 (by omega)).trans c0
    have d1 := (hS3.1 (w.heap.size + 1) 1 (by omega)).trans c1
    have g0 : w3.frozen? ⟨w.heap.size + 1, 0, none⟩ = false := (hS3.2.frozen (p := ⟨w.heap.size + 1, 0, none⟩) (by show w.heap.size + 1 < W.heap.size; omega)).trans (f0 0)
    have g1 : w3.frozen? ⟨w.heap.size + 1, 1, none⟩ = false := (hS3.2.frozen (p := ⟨w.heap.size + 1, 1, none⟩) (by show w.heap.size + 1 < W.heap.size; omega)).trans (f0 1)
    have hBx : Below w.heap.size w w3 := B0.trans (hS3.2.mono (by omega))
    go_wp2
    refine bodyPost_ret (v := .agg #[.int .i64 c, .int .i64 0]) (by simp [results, Try.results19, go_sem, d0, d1, hw]) rfl ⟨rfl, ?_⟩
    exact hBx |>.setCell (by simp) _ |>.setCell (by simp) _

set_option maxRecDepth 100000 in
set_option maxHeartbeats 1000000 in
theorem implMembersOf_ok (a : Option Addr) (n cap : Nat) (zs : List RuleI) (gs : List GrI) (r : RoI) (w : World) (hcap : n ≤ cap) (hcm : cap ≤ maxLen) (h : RulesIn w a n zs) (hc : polCode zs = 0) (hr : roleB r.1 r.2 = true) (hg : AllG zs gs) : GivesI 19 a n cap r 0 (ofG gs r) w := by
  have hn : n ≤ 16 := pol_n16 h.1 hc
  obtain ⟨W, hW⟩ : ∃ W, W = (w.alloc (.cells #[.int .i64 r.1, .int .i64 r.2] 35)).alloc (.cells #[.int .i64 0, .int .i64 0] 39) := ⟨_, rfl⟩
  have hs : W.heap.size = w.heap.size + 2 := by rw [hW]; simp
  have B0 : Below w.heap.size w W := by rw [hW]; exact ((Below.refl _ _).alloc (Nat.le_refl _) _).alloc (by simp) _
  have r0 : W.cell? ⟨w.heap.size, 0, none⟩ = some (.int .i64 r.1) := by rw [hW]; simp
  have r1 : W.cell? ⟨w.heap.size, 1, none⟩ = some (.int .i64 r.2) := by rw [hW]; simp
  have c0 : W.cell? ⟨w.heap.size + 1, 0, none⟩ = some (.int .i64 0) := by rw [hW]; simp
  have c1 : W.cell? ⟨w.heap.size + 1, 1, none⟩ = some (.int .i64 0) := by rw [hW]; simp
  have f0 : ∀ j, W.frozen? ⟨w.heap.size + 1, j, none⟩ = false := fun j => by rw [hW]; simp [go_sem]
  have HP : Hid (∀ w2 : World, (∀ b o, b < W.heap.size → w2.cell? ⟨b, o, none⟩ = W.cell? ⟨b, o, none⟩) ∧ Below W.heap.size W w2 → Calls Try.prog 23 #[.slice a n cap] w2 fun e w' => e = .returned (.int .i64 0) ∧ Below w2.heap.size w2 w') := fun w2 q => by have := implPolicyFault_c a n cap zs w2 (by omega) hcap hcm (h.below (B0.trans (q.2.mono (by omega)))); rwa [hc] at this
  have HT : Hid (∀ w2 : World, Below W.heap.size W w2 → Calls Try.prog 54 #[.slice a n cap] w2.drew fun e w' => ∃ b, e = .returned (.map (some b)) ∧ (Instr.lookup 87 (.map (some b)) (.agg #[.int .i64 r.1, .int .i64 r.2]) false).run Try.prog w' = .ok (.int .u8 (ofG gs r)) w' ∧ Below W.heap.size W w') := fun w2 q => by
    refine (settle_c a n cap zs w2.drew (h.below (B0.trans (q.drew.mono (by omega)))) hn hc).mono ?_
    rintro e w' ⟨b, f, rfl, hG, hWk, hb, hb2⟩
    have e : ofG gs = f := by
      obtain ⟨gs', h1, h2⟩ := gm_list hG
      have := allG_unique (work_end (fun z hz => ((pol_ok hc).2 z hz).1) hWk h1 h2) hg
      rw [← this]; exact h2
    subst e
    exact ⟨b, rfl, gm_look hG (roW_of hr), q.drew.trans (hb2.mono (by have := q.size; exact this))⟩
  have hwrap : IntKind.i64.wrap (ofG gs r) = ofG gs r := by
    have := (ofG_set hg.sg r).1
    have := (ofG_set hg.sg r).2
    rw [IntKind.wrap_i64]; omega
  have hq : roleCode r.1 r.2 = 0 := by simp [roleCode, hr]
  clear h hc
  generalize ofG gs r = v at HT hwrap ⊢
  unfold GivesI
  go_enter Try.func19, Try.ntmps19
  go_wp2
  rw [← hW]
  clear hW
  go_region_held3 (fun w' => (∀ b o, b < W.heap.size → w'.cell? ⟨b, o, none⟩ = W.cell? ⟨b, o, none⟩) ∧ Below W.heap.size W w') (first | exact hS | exact kp_drew _ | exact kp_new (by assumption) _)
    (first | (go_at_call 23; refine (HP.out _ (by assumption)).mono ?_; rintro e w' ⟨rfl, hb2⟩; have hS := kp_step (by assumption) hb2) | (go_at_call 63; refine (implRoleFault_c _ _ _).mono ?_; rintro e w' ⟨rfl, hb2⟩; rw [hq]; have hS := kp_step (by assumption) hb2) | (go_at_call 56; refine (or64_c _ 0 0 _ ?_ ?_).mono ?_; (· simp [go_sem]); (· simp [go_sem]); rintro e w' ⟨rfl, rfl⟩))
  all_goals
    have hS3 := kp_new hS (.cells #[.int .i64 0, .int .i64 0] 2)
    rw [show orC 0 0 = 0 from rfl]
    generalize w'.alloc (.cells #[.int .i64 0, .int .i64 0] 2) = w3 at hS3 ⊢
    have hz3 := hS3.2.size
    have q0 := (hS3.1 w.heap.size 0 (by omega)).trans r0
    have q1 := (hS3.1 w.heap.size 1 (by omega)).trans r1
    go_wp2
    go_region_with (first | (go_at_call 54; refine (HT.out _ hS3.2).mono ?_; rintro e w4 ⟨b, rfl, hlk, hb4⟩; have q2 := (hb4.cell (p := ⟨w.heap.size, 0, none⟩) (by show w.heap.size < W.heap.size; omega)).trans r0; have q3 := (hb4.cell (p := ⟨w.heap.size, 1, none⟩) (by show w.heap.size < W.heap.size; omega)).trans r1; have d0 := (hb4.cell (p := ⟨w.heap.size + 1, 0, none⟩) (by show w.heap.size + 1 < W.heap.size; omega)).trans c0; have d1 := (hb4.cell (p := ⟨w.heap.size + 1, 1, none⟩) (by show w.heap.size + 1 < W.heap.size; omega)).trans c1; have g0 := (hb4.frozen (p := ⟨w.heap.size + 1, 0, none⟩) (by show w.heap.size + 1 < W.heap.size; omega)).trans (f0 0); have g1 := (hb4.frozen (p := ⟨w.heap.size + 1, 1, none⟩) (by show w.heap.size + 1 < W.heap.size; omega)).trans (f0 1); have hz4 := hb4.size))
  all_goals
    have hw : w.heap.size + 1 < w4.heap.size := by omega
    have hBx : Below w.heap.size w w4 := B0.trans (hb4.mono (by omega))
    go_wp2
    refine bodyPost_ret (v := .agg #[.int .i64 0, .int .i64 v]) (by simp [results, Try.results19, go_sem, d0, d1, hw]) rfl ⟨rfl, ?_⟩
    exact hBx |>.setCell (by simp) _ |>.setCell (by simp) _

end Go.Proofs.Ytdooocjjohdpjaa
