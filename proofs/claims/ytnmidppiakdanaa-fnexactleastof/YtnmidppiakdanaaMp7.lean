/-
  CONTRACTS: slices.SortedFunc over the keys of the map of grants; (impl.grantMap).list: the grants, rising.
  Conditions: each contract bears its own.
-/
import Derived.Test.YtnmidppiakdanaaMp6
import Derived.Test.YtnmidppiakdanaaGr4
import Derived.Shelf.SlSortCmp.NoneTotal
import Derived.Deep.RegionLaw
namespace Go.Proofs.Ytnmidppiakdanaa
open Go.RowKit Go.Maps Go.Proofs
set_option linter.unusedVariables false
set_option linter.unusedSimpArgs false

theorem ss_of_sorted {xs ys : List RoI} (hl : ys.length = xs.length) (hm : ∀ x, x ∈ ys ↔ x ∈ xs) (hs : ys.Pairwise (fun a b => ltR b a = false)) (hn : xs.Nodup) : SS ys := by
  refine List.pairwise_iff_getElem.2 (fun i j hi hj hij => ?_)
  cases e : ltR ys[i] ys[j]
  · have h2 := List.pairwise_iff_getElem.1 hs i j hi hj hij
    have eq : ys[i] = ys[j] := Classical.byContradiction fun q => by
      have := ltR_total e q
      rw [h2] at this; cases this
    have := nodup_len xs (ys.eraseIdx j) hn (fun x hx => by
      obtain ⟨k, hk, ek⟩ := List.mem_iff_getElem.1 ((hm x).2 hx)
      refine List.mem_eraseIdx_iff_getElem.2 ?_
      by_cases q : k = j
      · subst q
        exact ⟨i, hi, by omega, by rw [eq, ek]⟩
      · exact ⟨k, hk, q, ek⟩)
    rw [List.length_eraseIdx] at this
    split at this <;> omega
  · rfl

theorem sortNilB_c (fv : Value) (w : World) : Calls Try.prog 77 #[.slice none 0 0, fv] w fun e w' => e = .returned (.tuple #[]) ∧ Below w.heap.size w w' := by
  have h := AnyF.slices_SortFunc_none Try.sortRole none 0 fv w
  change Calls Try.prog 77 _ _ _ at h
  exact h.mono (fun e w' ⟨h1, h2⟩ => ⟨h1, by rw [h2]; exact Below.refl _ _⟩)

set_option maxHeartbeats 1000000 in
theorem sortedFunc_c (Bm b : Nat) (f : RoI → Int) (w : World) (hBm : Bm < w.heap.size) (hm : w.cell? ⟨Bm, 0, none⟩ = some (.map (some b))) (h : GM w b f) :
    Calls Try.prog 115 #[.func (.func 144) #[] #[.pointer (some ⟨Bm, 0, none⟩)], .func (.func 70) #[] #[]] w fun e W' => ∃ v ys, e = .returned v ∧ SS ys ∧ (∀ r, r ∈ ys ↔ f r ≠ 0) ∧ Owns2 W' w.heap.size v ys ∧ Below w.heap.size w W' := by
  go_enter Try.func115, Try.ntmps115
  go_wp2_with fail
  refine (collect_c Bm b f _ hBm hm h).mono ?_
  rintro e w1 ⟨v, ys, rfl, hk, ho, hb⟩
  have hlen : ys.length ≤ 40 := by
    have := nodup_len ys allRo hk.1 (fun r hr => mem_allRo (h.fn.ro r ((hk.2 r).1 hr)))
    rwa [allRo_len] at this
  rcases ho.2 with ⟨rfl, h0⟩ | ⟨g, cap, cur, rfl, _⟩
  · have hy : ys = [] := List.eq_nil_of_length_eq_zero h0
    subst hy
    go_wp2_with fail
    refine (sortNilB_c _ _).mono ?_
    rintro e w2 ⟨rfl, hb2⟩
    go_wp2
    go_ret
    exact ⟨_, [], rfl, List.Pairwise.nil, hk.2, World.ownsRow_nil _ _ _ _, hb.trans (hb2.mono hb.size)⟩
  · go_wp2_with fail
    refine (sorts_c g cap w.heap.size ys _ ho (by omega)).mono ?_
    rintro e w2 ⟨rfl, zs, hl, hsm, hp, ho2, hb2⟩
    go_wp2
    go_ret
    have hss := ss_of_sorted hl hsm hp hk.1
    exact ⟨.slice (some ⟨g, 0, none⟩) ys.length cap, zs, rfl, hss, fun r => (hsm r).trans (hk.2 r), ho2, hb.trans hb2⟩

theorem owns_at2 {w : World} {B : Nat} {v : Value} {ys : List RoI} (h : Owns2 w B v ys) : ∃ a cap, v = .slice a ys.length cap ∧ ∀ k r, ys[k]? = some r → ∃ g, a = some ⟨g, 0, none⟩ ∧ B ≤ g ∧ w.cell? ⟨g, k * 2, none⟩ = some (.int .i64 r.1) ∧ w.cell? ⟨g, k * 2 + 1, none⟩ = some (.int .i64 r.2) := by
  rcases h.2 with ⟨rfl, h0⟩ | ⟨g, cap, cur, rfl, hg, _⟩
  · have hy : ys = [] := List.eq_nil_of_length_eq_zero h0
    subst hy
    exact ⟨none, 0, rfl, fun k r e => by simp at e⟩
  · refine ⟨_, cap, rfl, fun k r e => ⟨g, rfl, hg, ?_, ?_⟩⟩
    · have hk : k < ys.length := by
        by_cases q : k < ys.length
        · exact q
        · rw [List.getElem?_eq_none (by omega)] at e; cases e
      exact (World.ownsRow.cellAt h (k * 2) (by omega)).trans (flat2_fst ys k r e)
    · have hk : k < ys.length := by
        by_cases q : k < ys.length
        · exact q
        · rw [List.getElem?_eq_none (by omega)] at e; cases e
      exact (World.ownsRow.cellAt h (k * 2 + 1) (by omega)).trans (flat2_snd ys k r e)

theorem flat3_snoc (a : List GrI) (x : GrI) : flat3 (a ++ [x]) = flat3 a ++ [.int .i64 x.1.1, .int .i64 x.1.2, .int .i64 x.2] := by rw [flat3_append]; rfl

theorem owns_lower3 {w : World} {B B' : Nat} {v : Value} {gs : List GrI} (h : Own3 w B v gs) (hB : B' ≤ B) : Own3 w B' v gs := by
  refine ⟨h.1, ?_⟩
  rcases h.2 with q | ⟨g, cap, cur, e, hg, rest⟩
  · exact .inl q
  · exact .inr ⟨g, cap, cur, e, Nat.le_trans hB hg, rest⟩

set_option maxRecDepth 100000 in
set_option maxHeartbeats 2000000 in
theorem list_c (b : Nat) (f : RoI → Int) (w : World) (h : GM w b f) :
    Calls Try.prog 60 #[.map (some b)] w fun e W' => ∃ v gs, e = .returned v ∧ SG gs ∧ ofG gs = f ∧ Own3 W' w.heap.size v gs ∧ Below w.heap.size w W' := by
  obtain ⟨i0, hi, hz0, hz1, hz2⟩ := info_parts Try.info37
  have hlt := h.lt
  have HF : Hid (FN f) := h.fn
  go_enter Try.func60, Try.ntmps60
  go_wp2_with fail
  refine (mkeys_c b _).mono ?_
  rintro e w1 ⟨rfl, hw1⟩
  have hb1 : Below w.heap.size w w1 := by rw [← hw1]; exact (Below.refl _ _).alloc (Nat.le_refl _) _
  have hc1 : w1.cell? ⟨w.heap.size, 0, none⟩ = some (.map (some b)) := by rw [← hw1]; simp
  have hs1 : w.heap.size < w1.heap.size := by rw [← hw1]; simp
  have hG1 := h.below hlt hb1
  clear hw1
  go_wp2_with fail
  refine (sortedFunc_c w.heap.size b f _ hs1 hc1 hG1).mono ?_
  rintro e w2 ⟨v, ys, rfl, hss, hmem, ho, hb2⟩
  have hlen : ys.length ≤ 40 := by
    have := nodup_len ys allRo (List.Pairwise.imp (fun {a b} q e => by rw [e, ltR_irrefl] at q; cases q) hss) (fun r hr => mem_allRo (HF.out.ro r ((hmem r).1 hr)))
    rwa [allRo_len] at this
  obtain ⟨a, cap, rfl, hcells⟩ := owns_at2 ho
  have HC : Hid (∀ k r, ys[k]? = some r → ∃ g, a = some ⟨g, 0, none⟩ ∧ w1.heap.size ≤ g ∧ w2.cell? ⟨g, k * 2, none⟩ = some (.int .i64 r.1) ∧ w2.cell? ⟨g, k * 2 + 1, none⟩ = some (.int .i64 r.2)) := hcells
  have HM : Hid (SS ys ∧ ∀ r, r ∈ ys ↔ f r ≠ 0) := ⟨hss, hmem⟩
  have hb02 : Below w.heap.size w w2 := hb1.trans (hb2.mono hb1.size)
  have HG : Hid (GM w2 b f) := h.below hlt hb02
  obtain ⟨n, hn⟩ : ∃ n, ys.length = n := ⟨_, rfl⟩
  have HN : Hid (ys.length = n) := hn
  have hn40 : n ≤ 40 := by omega
  have hn' : (n : Int) ≤ 40 := by omega
  rw [hn]
  have hlt0 : b < w2.heap.size := HG.out.lt
  clear hss hmem hcells ho h hG1 hlen hn
  go_wp2
  go_loopw [3, 10] (fun s i wr => ∃ k : Nat, k ≤ n ∧ i = .int .i64 (k : Int) ∧ Own3 wr w2.heap.size s ((ys.take k).map (fun r => (r, f r))) ∧ Below w2.heap.size w2 wr) (fun _ i _ => n - (intOf i).toNat)
  case atStart => exact ⟨0, Nat.zero_le _, rfl, World.ownsRow_nil _ _ _ _, Below.refl _ _⟩
  case round =>
    obtain ⟨k, hk, rfl, hown, hnx⟩ := hrel
    by_cases hlt : k < n
    · have hr : ys[k]? = some (ys[k]'(by rw [HN.out]; exact hlt)) := List.getElem?_eq_getElem _
      obtain ⟨r, hr⟩ : ∃ r, ys[k]? = some r := ⟨_, hr⟩
      obtain ⟨g, rfl, hg, hq0, hq1⟩ := HC.out k r hr
      have hgl : g < w2.heap.size := World.block_lt_of_cell? w2 ⟨g, k * 2, none⟩ hq0
      have c0 := (hnx.cell (p := ⟨g, k * 2, none⟩) hgl).trans hq0
      have c1 := (hnx.cell (p := ⟨g, k * 2 + 1, none⟩) hgl).trans hq1
      have hrB : roleB r.1 r.2 = true := HF.out.ro r ((HM.out.2 r).1 (List.mem_of_getElem? hr))
      have hz := hnx.size
      have HE : Hid (flat3 ((ys.take (k + 1)).map (fun r => (r, f r))) = flat3 ((ys.take k).map (fun r => (r, f r))) ++ [.int .i64 r.1, .int .i64 r.2, .int .i64 (f r)] ∧ ((ys.take k).map (fun r => (r, f r))).length = k ∧ ((ys.take (k + 1)).map (fun r => (r, f r))).length = k + 1) := by
        have hkl : k < ys.length := by rw [HN.out]; exact hlt
        have e : ys[k] = r := by rw [List.getElem?_eq_getElem hkl] at hr; exact Option.some.inj hr
        refine ⟨?_, by simp; omega, by simp; omega⟩
        rw [List.take_succ_eq_append_getElem hkl, List.map_append, e]
        exact flat3_snoc _ (r, f r)
      have hown' : wr.ownsRow w2.heap.size 37 3 u3 k (flat3 ((ys.take k).map (fun r => (r, f r)))) := by
        have := hown
        unfold Own3 at this
        rwa [HE.out.2.1] at this
      have HO : Hid (wr.ownsRow w2.heap.size 37 3 u3 k (flat3 ((ys.take k).map (fun r => (r, f r))))) := hown'
      have hGr := HG.out.below (Nat.lt_of_lt_of_le hlt0 (Nat.le_refl _)) hnx
      have hlk := gm_look (w := (wr.alloc (.cells #[.int .i64 r.1, .int .i64 r.2] 35)).drew) (gm_heap hGr (heap_alloc_old wr _ hGr.lt)) (roW_of (r := r) hrB)
      simp only [roV] at hlk
      have hwrap : IntKind.i64.wrap (f r) = f r := by
        have := (HF.out.st r).1
        have := (HF.out.st r).2
        rw [IntKind.wrap_i64]; omega
      have hlt' : (k : Int) < (n : Int) := by omega
      have HNW : Hid (∀ j u, ([.int .i64 r.1, .int .i64 r.2, .int .i64 (f r)] : List Value)[j]? = some u → ((wr.alloc (.cells #[.int .i64 r.1, .int .i64 r.2] 35)).drew.alloc (.cells #[.int .i64 r.1, .int .i64 r.2, .int .i64 (f r)] 37)).cell? ((⟨wr.heap.size + 1, 0, none⟩ : Addr).add j) = some u) := by
        have h1 := World.news_of_block (World.alloc_heap_new (wr.alloc (.cells #[.int .i64 r.1, .int .i64 r.2] 35)).drew (.cells #[.int .i64 r.1, .int .i64 r.2, .int .i64 (f r)] 37))
        have e : (wr.alloc (.cells #[.int .i64 r.1, .int .i64 r.2] 35)).drew.heap.size = wr.heap.size + 1 := World.size_alloc _ _
        rw [e] at h1
        exact h1
      clear hown hown' hGr hr
      go_wp2
      go_region_law (refine step_append_own2 rfl (.tmp 14) (.tmp 21) 25 rfl w2.heap.size 37 i0 (.agg #[.int .i64 0, .int .i64 0, .int .i64 0]) 3 24 Try.under25 hi hz0 hz1 hz2 rfl (by decide) u3 k (flat3 ((ys.take k).map (fun r => (r, f r)))) (by rfl) ((HO.out.alloc _).alloc _) ⟨wr.heap.size + 1, 0, none⟩ 1 1 [.int .i64 r.1, .int .i64 r.2, .int .i64 (f r)] (by rfl) rfl HNW.out (by simp [Value.oneCell']) (by unfold maxLen; omega) (by omega) (by simp; omega) ?_; intro v' w' ho' hg' hnil'; have HO2 : Hid (w'.ownsRow w2.heap.size 37 3 v' (k + 1) (flat3 ((ys.take k).map (fun r => (r, f r))) ++ [.int .i64 r.1, .int .i64 r.2, .int .i64 (f r)])) := ho'; have HG2 : Hid (((wr.alloc (.cells #[.int .i64 r.1, .int .i64 r.2] 35)).alloc (.cells #[.int .i64 r.1, .int .i64 r.2, .int .i64 (f r)] 37)).drew.grownBy w' u3.ownBlock) := hg'; clear ho' hg' hnil')
      all_goals go_wp2
      all_goals
        refine ⟨⟨k + 1, by omega, by go_num, ?_, ?_⟩, by simp [intOf]; omega⟩
        · show w'.ownsRow _ _ _ _ _ _
          rw [HE.out.1, HE.out.2.2]
          exact HO2.out
        · refine ((((hnx.alloc hnx.size _).alloc (by simp; omega) _).drew).grown HG2.out (by simp; omega) (fun q e => ?_))
          exact (HO.out.lt q e).1
    · have hkn : k = n := by omega
      subst hkn
      go_wp2
      go_ret
      have hsg := sg_keys HF.out HM.out.1 HM.out.2
      rw [List.take_of_length_le (by rw [HN.out]; exact Nat.le_refl _)] at hown
      exact ⟨_, _, rfl, hsg.1, hsg.2, owns_lower3 hown (by have := hb02.size; omega), hb02.trans (hnx.mono hb02.size)⟩

end Go.Proofs.Ytnmidppiakdanaa
