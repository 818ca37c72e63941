/- Contracts. -/
import Derived.Test.YtfkajnenniapaaaGreatPt13
import Derived.Test.YtfkajnenniapaaaGreatPt21
import Derived.Sort.OwnSorted
namespace Go.Proofs.YtfkajnenniapaaaGreat
set_option maxRecDepth 100000
set_option maxHeartbeats 8000000
open Go.RowKit
set_option linter.unusedVariables false
set_option linter.unusedSimpArgs false

section
open Go.RowKit Go.Shelf Go.Maps Go.Sort Go.Proofs Go.Lib
attribute [local go_sem] Oper.semAt_some
attribute [local go_sem] wide_fnS
attribute [local simp] wide_fnS
set_option linter.unusedVariables false
set_option linter.unusedSimpArgs false
theorem Tryz.infoI2 : (Tryz.prog.info? 2).map (fun i => (i.zero, i.size, i.bytes)) = some (some (.int .i64 0), 1, 8) := by kernel_rfl
abbrev OwnI (w : World) (B : Nat) (v : Value) (ys : List Int) : Prop := w.ownsRow B 2 1 v ys.length (ys.map (Value.int .i64))
theorem saseq_w (n : Nat) (hn : 3 ≤ n) (Bm b N : Nat) (p : Int → Bool) (w : World) (hN : N ≤ 1000) (hBm : Bm < w.heap.size) (hm : w.cell? ⟨Bm, 0, none⟩ = some (.map (some b))) (h : SM w b N p) :
  CallsIn Fence.wide n Tryz.prog 151 #[.slice none 0 0, .func (.func 142) #[] #[.pointer (some ⟨Bm, 0, none⟩)]] w fun e W' => ∃ v ys, e = .returned v ∧ KeysS p ys ∧ OwnI W' w.heap.size v ys ∧ Below w.heap.size w W' := by
 have h1 : 1 ≤ n := by omega
 obtain ⟨i0, hi, hz0, hz1, hz2⟩ := info_parts Tryz.infoI2
 refine callsIn_of_wp_marks Tryz.func151 rfl trivial ?_ rfl
 simp only [Tryz.ntmps151, List.size_toArray, List.length_cons, List.length_nil, Nat.reduceAdd, Nat.reduceSub, Array.replicate_succ, Array.replicate_zero, List.push_toArray, List.append_toArray, List.nil_append, List.cons_append]
 gi_wp2
 have bL := Boxed.new w 26 (.slice none 0 0)
 obtain ⟨W0, hW0⟩ : ∃ W0, w.alloc (.cells #[.slice none 0 0] 26) = W0 := ⟨_, rfl⟩
 have hsz : W0.heap.size = w.heap.size + 1 := by rw [← hW0]; simp
 have hB0 : Below w.heap.size w W0 := by rw [← hW0]; exact (Below.refl _ w).alloc (Nat.le_refl _) _
 rw [hW0] at bL ⊢
 have HB0 : Hid (Below w.heap.size w W0) := hB0
 have hG0 := h.below h.lt hB0
 have hm0 := (hB0.cell (p := ⟨Bm, 0, none⟩) hBm).trans hm
 clear hW0 hB0
 refine wpIn_rangeFunc_ownH rfl h1 (gf := 142) (lb := #[.pointer (some ⟨Bm, 0, none⟩)]) rfl trivial (enters_of Tryz.func142 (by kernel_rfl) rfl)
  (skeys_stops (n - 1) (by omega) Bm b N p W0 hN (by omega) hm0 hG0) (Kp := KeepsWalks) walksK_t (fun W l o o' hl h hc hw => KeepsWalks.putObj _ h hw) (Below.refl _ _) (fun _ => rfl)
  (fun pre W => (∃ v, Boxed W w.heap.size 26 v ∧ W.ownsRow w.heap.size 2 1 v pre.length (pre.map (Value.int .i64)) ∧ True) ∧ Below w.heap.size W0 W)
  (fun _ _ _ => False)
  (OwnFrom.and (Own.from (holdsRow_own w.heap.size w.heap.size 26 2 1 (fun pre : List Int => pre.length) (fun pre => pre.map (Value.int .i64)) (fun _ _ => True)) _) (ownFrom_below (by omega) (by omega)))
  (fun _ _ _ _ _ hs _ _ => hs)
  ⟨⟨_, bL, World.ownsRow_nil _ _ _ _, trivial⟩, Below.refl _ _⟩
  (fun x a' W => ∃ u7, a' = { tmps := #[.slice none 0 0, .func (.func 142) #[] #[.pointer (some ⟨Bm, 0, none⟩)], .pointer (some ⟨w.heap.size, 0, none⟩), undef, .slice none 0 0, .int .i64 x, .func (.func 142) #[] #[.pointer (some ⟨Bm, 0, none⟩)], u7, undef, undef, undef, undef, undef], defers := [] })
  (fun x a' s X Y row hs hg hr => hs) ?assign ?body ?done ?stop
 case assign =>
  rintro l pre x W K ⟨⟨v, hv, hrow, _⟩, hB⟩ hK
  have hKK := fun u7 => hK { tmps := #[.slice none 0 0, .func (.func 142) #[] #[.pointer (some ⟨Bm, 0, none⟩)], .pointer (some ⟨w.heap.size, 0, none⟩), undef, .slice none 0 0, .int .i64 x, .func (.func 142) #[] #[.pointer (some ⟨Bm, 0, none⟩)], u7, undef, undef, undef, undef, undef], defers := [] } W ((KeepsOthers.refl W).from _) (KeepsWalks.refl W) ⟨⟨v, hv, hrow, trivial⟩, hB⟩ ⟨u7, rfl⟩
  clear hK
  gi_wp2
  exact hKK _
 case body =>
  rintro l pre x a' W hlw hlo ⟨⟨v, hv, hrow, _⟩, hB⟩ ⟨u7, rfl⟩ hlt
  have hc := hv.cell
  have hWs := hB.size
  gi_wp2_with (gi_at_builtin; refine wpListIn_append_own _ rfl _ _ 26 rfl w.heap.size 2 i0 (.int .i64 0) 1 8 Tryz.underlying26 hi hz0 hz1 hz2 rfl (by decide) _ _ _ rfl (hrow.alloc _) ⟨W.heap.size, 0, none⟩ 1 1 [.int .i64 x] rfl rfl (World.news_of_block (World.alloc_heap_new W _)) (by simp [Value.oneCell']) (by unfold maxLen; omega) (by omega) (by simp; omega) ?_; intro v' w1 hown' hgrow _; obtain ⟨g', cap', rfl⟩ := ownsRow_succ hown'; obtain ⟨hv1, hv2, hr2, hk2, hb2⟩ := hv.appended (by decide) hrow (by omega) (Nat.le_refl _) hown' hgrow; have hc1 := hv1.cell; have hf1 := hv1.frozen)
  exact ⟨hk2.from _, hk2.walks, ⟨_, hv2, by simpa using hr2, trivial⟩, hB.trans hb2⟩
 case done =>
  rintro D ys W hD hys ⟨⟨v, hv, hrow, _⟩, hB⟩ hK
  have hc := hv.cell
  gi_wp2
  refine ⟨by simp, .inl ⟨_, _, rfl, run_takeDeferred hK, ?_⟩⟩
  refine ⟨v, ?res, v, ys, rfl, hys, ?own, ?below⟩
  case res => simp [results, Tryz.results151, go_sem]
  case own => exact ownsRow_putObj hrow _ hK rfl
  case below => exact (HB0.out.trans hB).trans (belowK_b (w := w) (Nat.le_refl _) _ D _ _ (by omega) hK rfl rfl)
 case stop =>
  rintro D c pre W _ _ h _
  exact h.elim
theorem saseq_c (Bm b N : Nat) (p : Int → Bool) (w : World) (hN : N ≤ 1000) (hBm : Bm < w.heap.size) (hm : w.cell? ⟨Bm, 0, none⟩ = some (.map (some b))) (h : SM w b N p) :
  Calls Tryz.prog 151 #[.slice none 0 0, .func (.func 142) #[] #[.pointer (some ⟨Bm, 0, none⟩)]] w fun e W' => ∃ v ys, e = .returned v ∧ KeysS p ys ∧ OwnI W' w.heap.size v ys ∧ Below w.heap.size w W' :=
 callsIn_wide.1 (saseq_w 3 (Nat.le_refl _) Bm b N p w hN hBm hm h)
theorem scollect_c (Bm b N : Nat) (p : Int → Bool) (w : World) (hN : N ≤ 1000) (hBm : Bm < w.heap.size) (hm : w.cell? ⟨Bm, 0, none⟩ = some (.map (some b))) (h : SM w b N p) :
  Calls Tryz.prog 140 #[.func (.func 142) #[] #[.pointer (some ⟨Bm, 0, none⟩)]] w fun e W' => ∃ v ys, e = .returned v ∧ KeysS p ys ∧ OwnI W' w.heap.size v ys ∧ Below w.heap.size w W' := by
 go_enter Tryz.func140, Tryz.ntmps140
 go_wp2_with (first | (go_at_call 151; refine (saseq_c Bm b N p _ hN hBm hm h).mono ?_; rintro e w1 ⟨v, ys, rfl, hk, ho, hb⟩) | go_in)
 go_ret
 exact ⟨v, ys, rfl, hk, ho, hb⟩
theorem skeys_c (b : Nat) (w : World) :
  Calls Tryz.prog 125 #[.map (some b)] w fun e w' => e = .returned (.func (.func 142) #[] #[.pointer (some ⟨w.heap.size, 0, none⟩)]) ∧ w.alloc (.cells #[.map (some b)] 167) = w' :=
 callsIn_wide.1 (skeys_in 3 b w)
theorem owns_lowI {w : World} {B B' : Nat} {v : Value} {ys : List Int} (h : OwnI w B v ys) (hB : B' ≤ B) : OwnI w B' v ys := by
 refine ⟨h.1, ?_⟩
 rcases h.2 with q | ⟨g, cap, cur, e, hg, rest⟩
 ·exact .inl q
 ·exact .inr ⟨g, cap, cur, e, Nat.le_trans hB hg, rest⟩
theorem nodup_lenI (xs ys : List Int) (hn : xs.Nodup) (h : ∀ x ∈ xs, x ∈ ys) : xs.length ≤ ys.length := by
 induction xs generalizing ys with
 | nil => simp
 | cons x xs ih =>
  obtain ⟨h1, h2⟩ := List.nodup_cons.1 hn
  have hx := h x (by simp)
  have := ih (ys.erase x) h2 (fun y hy => (List.mem_erase_of_ne (fun e => h1 (by rw [← e]; exact hy))).2 (h y (List.mem_cons_of_mem _ hy)))
  rw [List.length_erase_of_mem hx] at this
  have : 0 < ys.length := List.length_pos_of_mem hx
  simp; omega
theorem ltOf_cmpS (x y : Int) : ltOf cmpS x y = decide (x < y) := by
 unfold ltOf cmpS
 rw [Bool.eq_iff_iff]
 simp only [decide_eq_true_eq]
 split <;> (repeat' split) <;> omega
theorem swo_cmpS : SWO (ltOf cmpS) where
 irrefl x := by rw [ltOf_cmpS]; simp
 trans x y z h1 h2 := by rw [ltOf_cmpS] at *; simp at *; omega
 ntrans x y z h1 h2 := by rw [ltOf_cmpS] at *; simp at *; omega
theorem cmpLaysS (blk off size : Nat) (w : World) : CmpLays1 Tryz.prog 107 #[] (Value.int .i64) cmpS blk off size w := fun m os dk _ x y =>
 (compareSigners_c x y _).mono fun e w' h => ⟨h.1, 0, #[], by rw [← h.2, grow_empty]; rfl⟩
theorem owns_sortedI {w : World} {B g cap q : Nat} {os : Array Obj} {xs ys : List Int} (h : OwnI w B (.slice (some ⟨g, 0, none⟩) xs.length cap) xs) (hl : ys.length = xs.length) :
  OwnI (sortWorld (Value.int .i64) w g 0 q ys.toArray os) B (.slice (some ⟨g, 0, none⟩) ys.length cap) ys ∧ w.grownBy (sortWorld (Value.int .i64) w g 0 q ys.toArray os) (some g) := by
 have h0 : w.ownsRow B 2 1 (.slice (some ⟨g, 0, none⟩) xs.length cap) xs.length (xs.map (Value.int .i64)) := h
 rcases h0.2 with ⟨e0, _⟩ | ⟨g', cap', cur, e0, hb, hg, hn, hm, hs, ht⟩
 ·cases e0
 ·injection e0 with e1 _ e3
  injection e1 with e1
  injection e1 with e1
  subst e1; subst e3
  have hgl : g < w.heap.size := (Array.getElem?_eq_some_iff.1 hg).1
  unfold sortWorld
  refine ⟨⟨by simp, .inr ⟨g, cap, putCells (Value.int .i64) 0 ys.toArray cur, rfl, hb, ?_, by omega, hm, by simpa [putCells] using hs, ?_⟩⟩, ⟨rfl, rfl, rfl, by simp, fun k hk hne => ?_⟩⟩
  ·rw [heap_grow_old _ _ (by simpa using hgl)]
   simp [putRow, mapBlock, Sort.ahead, Array.getElem?_modify, hg, onCells]
  ·apply List.ext_getElem?
   intro j
   by_cases hj : j < ys.length
   ·rw [List.getElem?_take_of_lt (by omega), Array.getElem?_toList]
    have hjc : j < cur.size := by rw [hs]; omega
    simp [putCells, hjc, hj]
   ·rw [List.getElem?_take_eq_none (by omega), List.getElem?_eq_none (by simp; omega)]
  ·rw [heap_grow_old _ _ (by simpa using hk)]
   have : g ≠ k := fun e => hne (by rw [e])
   simp [putRow, mapBlock, Sort.ahead, Array.getElem?_modify, this]
theorem sortsI_c (g cap B : Nat) (xs : List Int) (w : World) (h : OwnI w B (.slice (some ⟨g, 0, none⟩) xs.length cap) xs) (hx : xs.length ≤ 100000) :
  Calls Tryz.prog 141 #[.slice (some ⟨g, 0, none⟩) xs.length cap, .func (.func 107) #[] #[]] w fun e w' => e = .returned (.tuple #[]) ∧ ∃ ys : List Int, ys.length = xs.length ∧ (∀ x, x ∈ ys ↔ x ∈ xs) ∧ ys.Pairwise (fun a b => ¬ b < a) ∧ OwnI w' B (.slice (some ⟨g, 0, none⟩) ys.length cap) ys ∧ Below B w w' := by
 have h0 : w.ownsRow B 2 1 (.slice (some ⟨g, 0, none⟩) xs.length cap) xs.length (xs.map (Value.int .i64)) := h
 have hlt := (h0.lt g rfl)
 have hH : Holds (Value.int .i64) w g 0 xs.toArray := by
  intro j hj
  have hj' : j < xs.length := by simpa using hj
  refine ⟨?_, by rw [Nat.zero_add]; exact h0.frozenAt j⟩
  rw [Nat.zero_add, h0.cellAt j (by omega), getElem!_pos _ j hj]
  simp [hj']
 have eg : ∀ args w, (callFunc 107 args).run Tryz.prog w = .ok (.enter 107 args) w := enters_of Tryz.func107 (by kernel_rfl) rfl
 have hcon := Any.slices_SortFunc Tryz.sortInt (Value.int .i64) (fun _ => rfl) cmpS swo_cmpS 107 #[] g 0 cap xs.toArray w eg (cmpLaysS g 0 xs.toArray.size w) hH hlt.2 (by simp; omega)
 change Calls Tryz.prog 141 _ _ _ at hcon
 simp only [List.size_toArray] at hcon
 refine hcon.mono ?_
 rintro e w' ⟨rfl, d', q, os, hp, hs, rfl⟩
 obtain ⟨hsz, _, hperm⟩ := hp
 have hsz' : d'.toList.length = xs.length := by simpa using hsz
 have hperm' : d'.toList.Perm xs := by
  have h1 := hperm
  simp [hsz] at h1
  rw [List.take_of_length_le (by omega)] at h1
  exact h1
 have ed : d' = d'.toList.toArray := by simp
 obtain ⟨ho, hgr⟩ := owns_sortedI (q := q) (os := os) h hsz'
 rw [← ed] at ho hgr
 refine ⟨rfl, d'.toList, hsz', fun x => hperm'.mem_iff, ?_, ho, (Below.refl B w).grown hgr (by have := hlt.1; omega) (fun k e => by cases e; exact hlt.1)⟩
 rw [List.pairwise_iff_getElem]
 intro i j hi hj hij
 have := hs i j (Nat.zero_le _) hij (by omega)
 rw [ltOf_cmpS, getElem!_pos _ _ (by simpa using hj), getElem!_pos _ _ (by simpa using hi)] at this
 simpa using this
theorem sortNilI_c (fv : Value) (w : World) : Calls Tryz.prog 141 #[.slice none 0 0, fv] w fun e w' => e = .returned (.tuple #[]) ∧ Below w.heap.size w w' := by
 have h := AnyF.slices_SortFunc_none Tryz.sortInt0 none 0 fv w
 change Calls Tryz.prog 141 _ _ _ at h
 exact h.mono (fun e w' ⟨h1, h2⟩ => ⟨h1, by rw [h2]; exact Below.refl _ _⟩)
theorem up_of_sorted {xs ys : List Int} (hl : ys.length = xs.length) (hm : ∀ x, x ∈ ys ↔ x ∈ xs) (hs : ys.Pairwise (fun a b => ¬ b < a)) (hn : xs.Nodup) : Up ys := by
 have hnd : ys.Nodup := by
  refine List.nodup_iff_count.2 (fun a => ?_)
  exact Classical.byContradiction fun q => by
   have h2 : 2 ≤ ys.count a := by omega
   have hsub := nodup_lenI xs (ys.erase a) hn (fun x hx => by
    by_cases e : x = a
    ·subst e
     exact List.count_pos_iff.1 (by rw [List.count_erase_self]; omega)
    ·exact (List.mem_erase_of_ne e).2 ((hm x).2 hx))
   have ha : a ∈ ys := List.count_pos_iff.1 (by omega)
   rw [List.length_erase_of_mem ha] at hsub
   have : 0 < ys.length := List.length_pos_of_mem ha
   omega
 refine List.pairwise_iff_getElem.2 (fun i j hi hj hij => ?_)
 have h1 := List.pairwise_iff_getElem.1 hs i j hi hj hij
 have h2 : ys[i] ≠ ys[j] := fun e => by
  have := List.pairwise_iff_getElem.1 hnd i j hi hj hij
  exact this e
 omega
theorem ssortedFunc_c (Bm b N : Nat) (p : Int → Bool) (w : World) (hN : N ≤ 1000) (hBm : Bm < w.heap.size) (hm : w.cell? ⟨Bm, 0, none⟩ = some (.map (some b))) (h : SM w b N p) (hlen : ∀ ys, KeysS p ys → ys.length ≤ 1000) :
  Calls Tryz.prog 124 #[.func (.func 142) #[] #[.pointer (some ⟨Bm, 0, none⟩)], .func (.func 107) #[] #[]] w fun e W' => ∃ v ys, e = .returned v ∧ Up ys ∧ KeysS p ys ∧ OwnI W' w.heap.size v ys ∧ Below w.heap.size w W' := by
 go_enter Tryz.func124, Tryz.ntmps124
 go_wp2_with fail
 refine (scollect_c Bm b N p _ hN hBm hm h).mono ?_
 rintro e w1 ⟨v, ys, rfl, hk, ho, hb⟩
 have hle := hlen ys hk
 have ho0 : w1.ownsRow w.heap.size 2 1 v ys.length (ys.map (Value.int .i64)) := ho
 rcases ho0.2 with ⟨rfl, h0⟩ | ⟨g, cap, cur, rfl, _⟩
 ·have hy : ys = [] := List.eq_nil_of_length_eq_zero h0
  subst hy
  go_wp2_with fail
  refine (sortNilI_c _ _).mono ?_
  rintro e w2 ⟨rfl, hb2⟩
  go_wp2
  go_ret
  exact ⟨_, [], rfl, List.Pairwise.nil, hk, World.ownsRow_nil _ _ _ _, hb.trans (hb2.mono hb.size)⟩
 ·go_wp2_with fail
  refine (sortsI_c g cap w.heap.size ys _ ho (by omega)).mono ?_
  rintro e w2 ⟨rfl, zs, hl, hsm, hp, ho2, hb2⟩
  have HO : Hid (OwnI w2 w.heap.size (.slice (some ⟨g, 0, none⟩) ys.length cap) zs) := by show OwnI _ _ _ _; rw [← hl]; exact ho2
  have HU : Hid (Up zs ∧ KeysS p zs) := ⟨up_of_sorted hl hsm hp hk.1, up_nodup (up_of_sorted hl hsm hp hk.1), fun i hi => hk.2.1 i ((hsm i).1 hi), fun i hi => (hsm i).trans (hk.2.2 i hi)⟩
  clear hp hsm hl ho2
  go_wp2
  go_ret
  exact ⟨.slice (some ⟨g, 0, none⟩) ys.length cap, zs, rfl, HU.out.1, HU.out.2, HO.out, hb.trans hb2⟩
theorem slist_c (b N : Nat) (p : Int → Bool) (w : World) (hN : N ≤ 1000) (h : SM w b N p) (hlen : ∀ ys, KeysS p ys → ys.length ≤ 1000) :
  Calls Tryz.prog 106 #[.map (some b), .func (.func 107) #[] #[]] w fun e W' => ∃ v ys, e = .returned v ∧ Up ys ∧ KeysS p ys ∧ OwnI W' w.heap.size v ys ∧ Below w.heap.size w W' := by
 have hlt := h.lt
 go_enter Tryz.func106, Tryz.ntmps106
 go_wp2_with fail
 refine (skeys_c b _).mono ?_
 rintro e w1 ⟨rfl, hw1⟩
 have hb1 : Below w.heap.size w w1 := by rw [← hw1]; exact zN
 have hc1 : w1.cell? ⟨w.heap.size, 0, none⟩ = some (.map (some b)) := by rw [← hw1]; simp
 have hs1 : w.heap.size < w1.heap.size := by rw [← hw1]; simp
 have hG1 := h.below hlt hb1
 clear hw1
 go_wp2_with fail
 refine (ssortedFunc_c w.heap.size b N p _ hN hs1 hc1 hG1 hlen).mono ?_
 rintro e w2 ⟨v, ys, rfl, hup, hk, ho, hb2⟩
 go_wp2
 go_ret
 exact ⟨v, ys, rfl, hup, hk, owns_lowI ho (by omega), hb1.trans (hb2.mono (by omega))⟩
end

end Go.Proofs.YtfkajnenniapaaaGreat
