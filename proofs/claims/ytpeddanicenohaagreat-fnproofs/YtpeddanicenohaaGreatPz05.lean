/-
  CONTRACT: slices.SortFunc over roles, by impl.compareRoles.
  Conditions: each contract bears its own.
  CONTRACTS: slices.AppendSeq, slices.Collect, slices.SortedFunc over the keys of the map of grants: the roles that somebody has, rising.
  Conditions: each contract bears its own.
  CONTRACTS: slices.SortedFunc over the keys of the map of grants; (impl.grantMap).list: the grants, rising.
  Conditions: each contract bears its own.
  CONTRACTS: GrantsOf of both programs, at every slice of rules.
  Conditions: each contract bears its own.
-/
import Derived.Test.YtpeddanicenohaaGreatPz02
import Derived.Test.YtpeddanicenohaaGreatPz04
import Derived.Sort.OwnSorted
import Derived.Deep.AppendLies
import Derived.Test.YtpeddanicenohaaGreatGr4
import Derived.Shelf.SlSortCmp.NoneTotal
import Derived.Deep.RegionLaw
import Derived.Test.YtpeddanicenohaaGreatGs1
import Derived.Test.YtpeddanicenohaaGreatGr6
import Derived.Test.YtpeddanicenohaaGreatPz03
import Derived.Test.YtpeddanicenohaaGreatPz01
namespace Go.Proofs.YtpeddanicenohaaGreat
open Go.RowKit Go.Sort Go.Proofs Go.Lib
set_option linter.unusedVariables false
set_option linter.unusedSimpArgs false

def cmpI (x y : Int) : Int := if x < y then -1 else if y < x then 1 else 0
def orC (c d : Int) : Int := if c = 0 then d else c
def cfR (p q : RoI) : Int := orC (cmpI p.1 q.1) (cmpI p.2 q.2)

theorem ltOf_cfR (p q : RoI) : ltOf cfR p q = ltR p q := by
  unfold ltOf cfR orC ltR cmpI
  rw [Bool.eq_iff_iff]
  simp only [decide_eq_true_eq]
  split <;> (repeat' split) <;> first | omega | (simp_all; try omega)

theorem swo_cfR : SWO (ltOf cfR) where
  irrefl x := by rw [ltOf_cfR]; exact ltR_irrefl x
  trans x y z h1 h2 := by rw [ltOf_cfR] at *; exact ltR_trans h1 h2
  ntrans x y z h1 h2 := by rw [ltOf_cfR] at *; simp [ltR] at *; omega

set_option maxHeartbeats 400000 in
theorem compare_c (x y : Int) (w : World) : Calls Tryz.prog 68 #[.int .i64 x, .int .i64 y] w fun e w' => e = .returned (.int .i64 (cmpI x y)) ∧ w = w' := by
  unfold cmpI
  by_cases h1 : x < y
  · go_enter Tryz.func68, Tryz.ntmps68
    go_wp2
    go_ret
    exact ⟨by simp [h1], rfl⟩
  · by_cases h2 : y < x
    · go_enter Tryz.func68, Tryz.ntmps68
      go_wp2
      go_ret
      exact ⟨by simp [h1, h2], rfl⟩
    · go_enter Tryz.func68, Tryz.ntmps68
      go_wp2
      go_ret
      exact ⟨by simp [h1, h2], rfl⟩

set_option maxHeartbeats 400000 in
theorem or_c (g : Nat) (c d : Int) (w : World) (h0 : w.cell? ⟨g, 0, none⟩ = some (.int .i64 c)) (h1 : w.cell? ⟨g, 1, none⟩ = some (.int .i64 d)) :
    Calls Tryz.prog 67 #[.slice (some ⟨g, 0, none⟩) 2 2] w fun e w' => e = .returned (.int .i64 (orC c d)) ∧ w = w' := by
  go_enter Tryz.func67, Tryz.ntmps67
  go_wp2
  go_loop [8] (fun i => ∃ k : Nat, k ≤ 2 ∧ i = .int .i64 (k : Int) ∧ (1 ≤ k → c = 0) ∧ (2 ≤ k → d = 0)) (fun i => 2 - (intOf i).toNat)
  case atStart => exact ⟨0, by omega, rfl, fun h => by omega, fun h => by omega⟩
  case round =>
    obtain ⟨k, hk, rfl, hc, hd⟩ := hrel
    have hk' : k = 0 ∨ k = 1 ∨ k = 2 := by omega
    rcases hk' with rfl | rfl | rfl
    · clear hc hd
      by_cases e : c = 0
      · have b : (c != 0) = false := by simp [e]
        have HE : Hid (c = 0) := e
        clear e
        go_wp2
        exact ⟨⟨1, by omega, by go_num, fun _ => HE.out, fun h => by omega⟩, by simp [intOf]⟩
      · have b : (c != 0) = true := by simp [e]
        go_wp2
        go_ret
        exact ⟨by simp [orC, e], rfl⟩
    · have HC : Hid (c = 0) := hc (by omega)
      clear hc hd
      by_cases e : d = 0
      · have b : (d != 0) = false := by simp [e]
        have HE : Hid (d = 0) := e
        clear e
        go_wp2
        exact ⟨⟨2, by omega, by go_num, fun _ => HC.out, fun _ => HE.out⟩, by simp [intOf]⟩
      · have b : (d != 0) = true := by simp [e]
        go_wp2
        go_ret
        exact ⟨by simp [orC, HC.out], rfl⟩
    · have HC : Hid (c = 0) := hc (by omega)
      have HD : Hid (d = 0) := hd (by omega)
      clear hc hd
      go_wp2
      go_ret
      exact ⟨by simp [orC, HC.out, HD.out], rfl⟩

def enc2 (x : RoI) : List Value := [.int .i64 x.1, .int .i64 x.2]

set_option maxHeartbeats 1000000 in
theorem closure_c (x y : RoI) (W : World) : Calls Tryz.prog 49 #[.agg #[.int .i64 x.1, .int .i64 x.2], .agg #[.int .i64 y.1, .int .i64 y.2]] W fun e w' => e = .returned (.int .i64 (cfR x y)) ∧ ∃ q os', w' = grow (W.drewN q) os' := by
  have HF : Hid (cfR x y = orC (cmpI x.1 y.1) (cmpI x.2 y.2)) := rfl
  go_enter Tryz.func49, Tryz.ntmps49
  go_wp2
  go_region_held3 (fun w' => w'.cell? ⟨W.heap.size, 0, none⟩ = some (.int .i64 x.1) ∧ w'.cell? ⟨W.heap.size, 1, none⟩ = some (.int .i64 x.2) ∧ w'.cell? ⟨W.heap.size + 1, 0, none⟩ = some (.int .i64 y.1) ∧ w'.cell? ⟨W.heap.size + 1, 1, none⟩ = some (.int .i64 y.2)) (first | assumption | (refine ⟨?_, ?_, ?_, ?_⟩ <;> simp [go_sem]))
    (first | (go_at_call 68; refine (compare_c _ _ _).mono ?_; rintro e w' ⟨rfl, rfl⟩) | (go_at_call 67; refine (or_c _ (cmpI x.1 y.1) (cmpI x.2 y.2) _ ?_ ?_).mono ?_; (· simp [go_sem]); (· simp [go_sem]); rintro e w' ⟨rfl, rfl⟩))
  all_goals go_wp2
  all_goals go_ret
  all_goals exact ⟨by rw [HF.out]; rfl, 1, _, by simp only [alloc_eq_grow, drew_grow, grow_grow]; rfl⟩

theorem cmpLays_c (blk off size : Nat) (w : World) : CmpLays Tryz.prog 49 #[] enc2 2 cfR blk off size w := fun _ _ _ _ x y => closure_c x y _

theorem flatK_eq (xs : List RoI) : flatK enc2 2 xs.toArray = (flat2 xs).toArray := by
  apply Array.ext
  · simp [flat2_len]
  · intro t h1 h2
    have ht : t < xs.length * 2 := by simpa using h1
    have hk : t / 2 < xs.length := by omega
    have e0 := get_flatK enc2 2 xs.toArray t (by simpa using ht)
    rw [getElem!_pos _ t h1] at e0
    rw [e0]
    have hx : xs[t / 2]? = some (xs[t / 2]) := List.getElem?_eq_getElem hk
    have hd : xs.toArray[t / 2]! = xs[t / 2] := by rw [getElem!_pos _ _ (by simpa using hk)]; simp
    rw [hd]
    rcases Nat.mod_two_eq_zero_or_one t with hm | hm
    · have h3 := flat2_fst xs (t / 2) _ hx
      rw [show t / 2 * 2 = t by omega, List.getElem?_eq_getElem (by simpa using h2)] at h3
      rw [hm]
      simp only [enc2, List.getElem_toArray]
      exact (Option.some.inj h3).symm
    · have h3 := flat2_snd xs (t / 2) _ hx
      rw [show t / 2 * 2 + 1 = t by omega, List.getElem?_eq_getElem (by simpa using h2)] at h3
      rw [hm]
      simp only [enc2, List.getElem_toArray]
      exact (Option.some.inj h3).symm

theorem owns_sorted2 {w : World} {B g cap q : Nat} {os : Array Obj} {xs ys : List RoI} (h : Owns2 w B (.slice (some ⟨g, 0, none⟩) xs.length cap) xs) (hl : ys.length = xs.length) :
    Owns2 (grow (putRow id (Sort.ahead w q) g 0 (flat2 ys).toArray) os) B (.slice (some ⟨g, 0, none⟩) xs.length cap) ys ∧ w.grownBy (grow (putRow id (Sort.ahead w q) g 0 (flat2 ys).toArray) os) (some g) := by
  have h0 : w.ownsRow B 26 2 (.slice (some ⟨g, 0, none⟩) xs.length cap) xs.length (flat2 xs) := h
  rcases h0.2 with ⟨e0, _⟩ | ⟨g', cap', cur, e0, hb, hg, hn, hm, hs, ht⟩
  · cases e0
  · injection e0 with e1 _ e3
    injection e1 with e1
    injection e1 with e1
    subst e1; subst e3
    have hgl : g < w.heap.size := (Array.getElem?_eq_some_iff.1 hg).1
    refine ⟨⟨by rw [flat2_len], .inr ⟨g, cap, putCells id 0 (flat2 ys).toArray cur, by rw [hl], hb, ?_, by omega, hm, by simpa [putCells] using hs, ?_⟩⟩, ⟨rfl, rfl, rfl, by simp, fun k hk hne => ?_⟩⟩
    · rw [heap_grow_old _ _ (by simpa using hgl)]
      simp [putRow, mapBlock, Sort.ahead, Array.getElem?_modify, hg, onCells]
    · apply List.ext_getElem?
      intro j
      by_cases hj : j < ys.length * 2
      · rw [List.getElem?_take_of_lt hj, Array.getElem?_toList]
        have hjc : j < cur.size := by rw [hs]; omega
        have hjf : j < (flat2 ys).length := by rw [flat2_len]; exact hj
        simp [putCells, hjc, hjf, flat2_len, hj, List.getElem?_eq_getElem hjf]
      · rw [List.getElem?_take_eq_none (by omega), List.getElem?_eq_none (by rw [flat2_len]; omega)]
    · rw [heap_grow_old _ _ (by simpa using hk)]
      have : g ≠ k := fun e => hne (by rw [e])
      simp [putRow, mapBlock, Sort.ahead, Array.getElem?_modify, this]

theorem Tryz.aggRole (w : World) : (isAgg 26).run Tryz.prog w = .ok true w := by kernel_rfl
theorem Tryz.sizeRole (w : World) : (Go.sizeOf 26).run Tryz.prog w = .ok 2 w := by kernel_rfl

theorem sorts_c : Sorts := by
  intro g cap B xs w h hx
  have h0 : w.ownsRow B 26 2 (.slice (some ⟨g, 0, none⟩) xs.length cap) xs.length (flat2 xs) := h
  have hlt := (h0.lt g rfl)
  have hH : HoldsK enc2 2 w g 0 xs.toArray := by
    unfold HoldsK
    rw [flatK_eq]
    intro j hj
    have hj' : j < xs.length * 2 := by simpa [flat2_len] using hj
    refine ⟨?_, by rw [Nat.zero_add]; exact h0.frozenAt j⟩
    rw [Nat.zero_add, h0.cellAt j hj', getElem!_pos _ j hj]
    rw [List.getElem?_eq_getElem (by rw [flat2_len]; exact hj')]
    simp
  have eg : ∀ args w, (callFunc 49 args).run Tryz.prog w = .ok (.enter 49 args) w := enters_of Tryz.func49 (by kernel_rfl) rfl
  have hcon := AnyQ.slices_SortFunc Tryz.sortRole 2 Tryz.aggRole Tryz.sizeRole enc2 (fun _ => rfl) (fun x v hv => by simp [enc2] at hv; rcases hv with rfl | rfl <;> rfl) cfR swo_cfR 49 #[] g 0 cap xs.toArray w eg (cmpLays_c g 0 xs.toArray.size w) hH hlt.2 (by simp; omega)
  change Calls Tryz.prog 71 _ _ _ at hcon
  simp only [List.size_toArray] at hcon
  refine hcon.mono ?_
  rintro e w' ⟨rfl, d', q, os, hp, hs, rfl⟩
  obtain ⟨hsz, _, hperm⟩ := hp
  have hsz' : d'.toList.length = xs.length := by simpa using hsz
  have hperm' : d'.toList.Perm xs := by
    have h1 := hperm
    simp [hsz] at h1
    rw [List.take_of_length_le (by omega)] at h1
    exact h1
  have ed : d' = d'.toList.toArray := by simp
  have hw : sortWorldK enc2 2 w g 0 q d' os = grow (putRow id (Sort.ahead w q) g 0 (flat2 d'.toList).toArray) os := by
    unfold sortWorldK putRowK
    rw [ed, flatK_eq]
  obtain ⟨ho, hgr⟩ := owns_sorted2 (q := q) (os := os) h hsz'
  rw [hw]
  refine ⟨rfl, d'.toList, hsz', fun x => hperm'.mem_iff, ?_, ho, (Below.refl B w).grown hgr (by have := hlt.1; omega) (fun k e => by cases e; exact hlt.1)⟩
  rw [List.pairwise_iff_getElem]
  intro i j hi hj hij
  have := hs i j (Nat.zero_le _) hij (by omega)
  rw [ltOf_cfR, getElem!_pos _ _ (by simpa using hj), getElem!_pos _ _ (by simpa using hi)] at this
  simpa using this

end Go.Proofs.YtpeddanicenohaaGreat

namespace Go.Proofs.YtpeddanicenohaaGreat
open Go.RowKit Go.Shelf Go.Maps
attribute [local go_sem] Oper.semAt_some
attribute [local go_sem] wide_fn
attribute [local simp] wide_fn
set_option linter.unusedVariables false
set_option linter.unusedSimpArgs false

theorem flat2_snoc (a : List RoI) (x : RoI) : flat2 (a ++ [x]) = flat2 a ++ [.int .i64 x.1, .int .i64 x.2] := by rw [flat2_append]; rfl

/-- A block of cells is kept while others are turned that hold no cells. -/
theorem block_own (B : Nat) (cs : Array Value) (t : TypeId) : Own (fun (_ : Unit) W => W.heap[B]? = some (.cells cs t (0, 0))) := fun s X Y row hs hg hrow => by
  refine (hg.block B (Array.getElem?_eq_some_iff.1 hs).1 (fun e => ?_)).trans hs
  obtain ⟨o, ho, hc⟩ := hrow B e.symm
  rw [hs] at ho
  cases ho
  cases hc

set_option maxRecDepth 100000 in
set_option maxHeartbeats 2000000 in
theorem aseq_w (n : Nat) (hn : 3 ≤ n) (Bm b : Nat) (f : RoI → Int) (w : World) (hBm : Bm < w.heap.size) (hm : w.cell? ⟨Bm, 0, none⟩ = some (.map (some b))) (h : GM w b f) :
    CallsIn Fence.wide n Tryz.prog 79 #[.slice none 0 0, .func (.func 72) #[] #[.pointer (some ⟨Bm, 0, none⟩)]] w fun e W' => ∃ v ys, e = .returned v ∧ KeysIs f ys ∧ Owns2 W' w.heap.size v ys ∧ Below w.heap.size w W' := by
  have h1 : 1 ≤ n := by omega
  obtain ⟨i0, hi, hz0, hz1, hz2⟩ := info_parts Tryz.info26
  refine callsIn_of_wp_marks Tryz.func79 rfl trivial ?_ rfl
  simp only [Tryz.ntmps79, List.size_toArray, List.length_cons, List.length_nil, Nat.reduceAdd, Nat.reduceSub, Array.replicate_succ, Array.replicate_zero, List.push_toArray, List.append_toArray, List.nil_append, List.cons_append]
  gi_wp2
  have bL := Boxed.new w 84 (.slice none 0 0)
  obtain ⟨W0, hW0⟩ : ∃ W0, w.alloc (.cells #[.slice none 0 0] 84) = W0 := ⟨_, rfl⟩
  have hsz : W0.heap.size = w.heap.size + 1 := by rw [← hW0]; simp
  have hB0 : Below w.heap.size w W0 := by rw [← hW0]; exact (Below.refl _ w).alloc (Nat.le_refl _) _
  rw [hW0] at bL ⊢
  have HB0 : Hid (Below w.heap.size w W0) := hB0
  have hG0 := h.below h.lt hB0
  have hm0 := (hB0.cell (p := ⟨Bm, 0, none⟩) hBm).trans hm
  clear hW0 hB0
  refine wpIn_rangeFunc_ownH rfl h1 (gf := 72) (lb := #[.pointer (some ⟨Bm, 0, none⟩)]) rfl trivial (enters_of Tryz.func72 (by kernel_rfl) rfl)
    (mkeys_stops (n - 1) (by omega) Bm b f W0 (by omega) hm0 hG0) (Kp := KeepsWalks) walksK_t (fun W l o o' hl h hc hw => KeepsWalks.putObj _ h hw) (Below.refl _ _) (fun _ => rfl)
    (fun pre W => (∃ v, Boxed W w.heap.size 84 v ∧ W.ownsRow w.heap.size 26 2 v pre.length (flat2 pre) ∧ True) ∧ Below w.heap.size W0 W)
    (fun _ _ _ => False)
    (OwnFrom.and (Own.from (holdsRow_own w.heap.size w.heap.size 84 26 2 (fun pre : List RoI => pre.length) (fun pre => flat2 pre) (fun _ _ => True)) _) (ownFrom_below (by omega) (by omega)))
    (fun _ _ _ _ _ hs _ _ => hs)
    ⟨⟨_, bL, World.ownsRow_nil _ _ _ _, trivial⟩, Below.refl _ _⟩
    (fun x a' W => ∃ B5 u5, w.heap.size ≤ B5 ∧ W.heap[B5]? = some (.cells #[.int .i64 x.1, .int .i64 x.2] 26 (0, 0)) ∧ a' = { tmps := #[.slice none 0 0, .func (.func 72) #[] #[.pointer (some ⟨Bm, 0, none⟩)], .pointer (some ⟨w.heap.size, 0, none⟩), undef, .slice none 0 0, .pointer (some ⟨B5, 0, none⟩), .func (.func 72) #[] #[.pointer (some ⟨Bm, 0, none⟩)], u5, undef, undef, undef, undef, undef], defers := [] })
    (fun x a' s X Y row hs hg hr => by obtain ⟨B5, u5, hl, hb, e⟩ := hs; exact ⟨B5, u5, hl, block_own B5 _ _ () X Y row hb hg (fun r e => (hr r e).2), e⟩) ?assign ?body ?done ?stop
  case assign =>
    rintro l pre x W K ⟨⟨v, hv, hrow, _⟩, hB⟩ hK
    have hB2 : Below w.heap.size W (W.alloc (.cells #[.int .i64 x.1, .int .i64 x.2] 26)) := (Below.refl _ _).alloc (by have := hB.size; omega) _
    have hKK := fun u5 => hK { tmps := #[.slice none 0 0, .func (.func 72) #[] #[.pointer (some ⟨Bm, 0, none⟩)], .pointer (some ⟨w.heap.size, 0, none⟩), undef, .slice none 0 0, .pointer (some ⟨W.heap.size, 0, none⟩), .func (.func 72) #[] #[.pointer (some ⟨Bm, 0, none⟩)], u5, undef, undef, undef, undef, undef], defers := [] } (W.alloc (.cells #[.int .i64 x.1, .int .i64 x.2] 26)) ((KeepsOthers.alloc W _).from _) (KeepsWalks.alloc W _) ⟨⟨v, hv.alloc _, hrow.alloc _, trivial⟩, hB.trans hB2⟩ ⟨W.heap.size, u5, by have := hB.size; omega, World.alloc_heap_new W _, rfl⟩
    clear hK
    gi_wp2
    exact hKK _
  case body =>
    rintro l pre x a' W hlw hlo ⟨⟨v, hv, hrow, _⟩, hB⟩ ⟨B5, u5, hB5, hb5, rfl⟩ hlt
    have hc := hv.cell
    have c0 : W.cell? ⟨B5, 0, none⟩ = some (.int .i64 x.1) := by unfold World.cell?; rw [hb5]; rfl
    have c1 : W.cell? ⟨B5, 1, none⟩ = some (.int .i64 x.2) := by unfold World.cell?; rw [hb5]; rfl
    have hWs := hB.size
    gi_wp2_with (gi_at_builtin; refine wpListIn_append_own _ rfl _ _ 84 rfl w.heap.size 26 i0 (.agg #[.int .i64 0, .int .i64 0]) 2 16 Tryz.underlying84 hi hz0 hz1 hz2 rfl (by decide) _ _ _ rfl (hrow.alloc _) ⟨W.heap.size, 0, none⟩ 1 1 [.int .i64 x.1, .int .i64 x.2] rfl rfl (World.news_of_block (World.alloc_heap_new W _)) (by simp [Value.oneCell']) (by unfold maxLen; omega) (by omega) (by simp; omega) ?_; intro v' w1 hown' hgrow _; obtain ⟨g', cap', rfl⟩ := ownsRow_succ hown'; obtain ⟨hv1, hv2, hr2, hk2, hb2⟩ := hv.appended (by decide) hrow (by omega) (Nat.le_refl _) hown' hgrow; have hc1 := hv1.cell; have hf1 := hv1.frozen)
    exact ⟨hk2.from _, hk2.walks, ⟨_, hv2, by rw [flat2_snoc]; simpa using hr2, trivial⟩, hB.trans hb2⟩
  case done =>
    rintro D ys W hD hys ⟨⟨v, hv, hrow, _⟩, hB⟩ hK
    have hc := hv.cell
    gi_wp2
    refine ⟨by simp, .inl ⟨_, _, rfl, run_takeDeferred hK, ?_⟩⟩
    refine ⟨v, ?res, v, ys, rfl, hys, ?own, ?below⟩
    case res => simp [results, Tryz.results79, go_sem]
    case own => exact ownsRow_putObj hrow _ hK rfl
    case below => exact (HB0.out.trans hB).trans (belowK_b (w := w) (Nat.le_refl _) _ D _ _ (by omega) hK rfl rfl)
  case stop =>
    rintro D c pre W _ _ h _
    exact h.elim

theorem aseq_c (Bm b : Nat) (f : RoI → Int) (w : World) (hBm : Bm < w.heap.size) (hm : w.cell? ⟨Bm, 0, none⟩ = some (.map (some b))) (h : GM w b f) :
    Calls Tryz.prog 79 #[.slice none 0 0, .func (.func 72) #[] #[.pointer (some ⟨Bm, 0, none⟩)]] w fun e W' => ∃ v ys, e = .returned v ∧ KeysIs f ys ∧ Owns2 W' w.heap.size v ys ∧ Below w.heap.size w W' :=
  callsIn_wide.1 (aseq_w 3 (Nat.le_refl _) Bm b f w hBm hm h)

set_option maxHeartbeats 1000000 in
theorem collect_c (Bm b : Nat) (f : RoI → Int) (w : World) (hBm : Bm < w.heap.size) (hm : w.cell? ⟨Bm, 0, none⟩ = some (.map (some b))) (h : GM w b f) :
    Calls Tryz.prog 70 #[.func (.func 72) #[] #[.pointer (some ⟨Bm, 0, none⟩)]] w fun e W' => ∃ v ys, e = .returned v ∧ KeysIs f ys ∧ Owns2 W' w.heap.size v ys ∧ Below w.heap.size w W' := by
  go_enter Tryz.func70, Tryz.ntmps70
  go_wp2_with (first | (go_at_call 79; refine (aseq_c Bm b f _ hBm hm h).mono ?_; rintro e w1 ⟨v, ys, rfl, hk, ho, hb⟩) | go_in)
  go_ret
  exact ⟨v, ys, rfl, hk, ho, hb⟩

theorem mkeys_c (b : Nat) (w : World) :
    Calls Tryz.prog 53 #[.map (some b)] w fun e w' => e = .returned (.func (.func 72) #[] #[.pointer (some ⟨w.heap.size, 0, none⟩)]) ∧ w.alloc (.cells #[.map (some b)] 58) = w' :=
  callsIn_wide.1 (mkeys_in 3 b w)

end Go.Proofs.YtpeddanicenohaaGreat

namespace Go.Proofs.YtpeddanicenohaaGreat
open Go.RowKit Go.Maps Go.Proofs
set_option linter.unusedVariables false
set_option linter.unusedSimpArgs false

theorem ss_of_sorted {xs ys : List RoI} (hl : ys.length = xs.length) (hm : ∀ x, x ∈ ys ↔ x ∈ xs) (hs : ys.Pairwise (fun a b => ltR b a = false)) (hn : xs.Nodup) : SS ys := by
  refine List.pairwise_iff_getElem.2 (fun i j hi hj hij => ?_)
  cases e : ltR ys[i] ys[j]
  · have h2 := List.pairwise_iff_getElem.1 hs i j hi hj hij
    have eq : ys[i] = ys[j] := Classical.byContradiction fun q => by
      have := ltR_total e q
      rw [h2] at this; cases this
    have := nodup_len xs (ys.eraseIdx j) hn (fun x hx => by
      obtain ⟨k, hk, ek⟩ := List.mem_iff_getElem.1 ((hm x).2 hx)
      refine List.mem_eraseIdx_iff_getElem.2 ?_
      by_cases q : k = j
      · subst q
        exact ⟨i, hi, by omega, by rw [eq, ek]⟩
      · exact ⟨k, hk, q, ek⟩)
    rw [List.length_eraseIdx] at this
    split at this <;> omega
  · rfl

theorem sortNilB_c (fv : Value) (w : World) : Calls Tryz.prog 71 #[.slice none 0 0, fv] w fun e w' => e = .returned (.tuple #[]) ∧ Below w.heap.size w w' := by
  have h := AnyF.slices_SortFunc_none Tryz.sortRole none 0 fv w
  change Calls Tryz.prog 71 _ _ _ at h
  exact h.mono (fun e w' ⟨h1, h2⟩ => ⟨h1, by rw [h2]; exact Below.refl _ _⟩)

set_option maxHeartbeats 1000000 in
theorem sortedFunc_c (Bm b : Nat) (f : RoI → Int) (w : World) (hBm : Bm < w.heap.size) (hm : w.cell? ⟨Bm, 0, none⟩ = some (.map (some b))) (h : GM w b f) :
    Calls Tryz.prog 52 #[.func (.func 72) #[] #[.pointer (some ⟨Bm, 0, none⟩)], .func (.func 49) #[] #[]] w fun e W' => ∃ v ys, e = .returned v ∧ SS ys ∧ (∀ r, r ∈ ys ↔ f r ≠ 0) ∧ Owns2 W' w.heap.size v ys ∧ Below w.heap.size w W' := by
  go_enter Tryz.func52, Tryz.ntmps52
  go_wp2_with fail
  refine (collect_c Bm b f _ hBm hm h).mono ?_
  rintro e w1 ⟨v, ys, rfl, hk, ho, hb⟩
  have hlen : ys.length ≤ 40 := by
    have := nodup_len ys allRo hk.1 (fun r hr => mem_allRo (h.fn.ro r ((hk.2 r).1 hr)))
    rwa [allRo_len] at this
  rcases ho.2 with ⟨rfl, h0⟩ | ⟨g, cap, cur, rfl, _⟩
  · have hy : ys = [] := List.eq_nil_of_length_eq_zero h0
    subst hy
    go_wp2_with fail
    refine (sortNilB_c _ _).mono ?_
    rintro e w2 ⟨rfl, hb2⟩
    go_wp2
    go_ret
    exact ⟨_, [], rfl, List.Pairwise.nil, hk.2, World.ownsRow_nil _ _ _ _, hb.trans (hb2.mono hb.size)⟩
  · go_wp2_with fail
    refine (sorts_c g cap w.heap.size ys _ ho (by omega)).mono ?_
    rintro e w2 ⟨rfl, zs, hl, hsm, hp, ho2, hb2⟩
    go_wp2
    go_ret
    have hss := ss_of_sorted hl hsm hp hk.1
    exact ⟨.slice (some ⟨g, 0, none⟩) ys.length cap, zs, rfl, hss, fun r => (hsm r).trans (hk.2 r), ho2, hb.trans hb2⟩

theorem owns_at2 {w : World} {B : Nat} {v : Value} {ys : List RoI} (h : Owns2 w B v ys) : ∃ a cap, v = .slice a ys.length cap ∧ ∀ k r, ys[k]? = some r → ∃ g, a = some ⟨g, 0, none⟩ ∧ B ≤ g ∧ w.cell? ⟨g, k * 2, none⟩ = some (.int .i64 r.1) ∧ w.cell? ⟨g, k * 2 + 1, none⟩ = some (.int .i64 r.2) := by
  rcases h.2 with ⟨rfl, h0⟩ | ⟨g, cap, cur, rfl, hg, _⟩
  · have hy : ys = [] := List.eq_nil_of_length_eq_zero h0
    subst hy
    exact ⟨none, 0, rfl, fun k r e => by simp at e⟩
  · refine ⟨_, cap, rfl, fun k r e => ⟨g, rfl, hg, ?_, ?_⟩⟩
    · have hk : k < ys.length := by
        by_cases q : k < ys.length
        · exact q
        · rw [List.getElem?_eq_none (by omega)] at e; cases e
      exact (World.ownsRow.cellAt h (k * 2) (by omega)).trans (flat2_fst ys k r e)
    · have hk : k < ys.length := by
        by_cases q : k < ys.length
        · exact q
        · rw [List.getElem?_eq_none (by omega)] at e; cases e
      exact (World.ownsRow.cellAt h (k * 2 + 1) (by omega)).trans (flat2_snd ys k r e)

theorem flat3_snoc (a : List GrI) (x : GrI) : flat3 (a ++ [x]) = flat3 a ++ [.int .i64 x.1.1, .int .i64 x.1.2, .int .i64 x.2] := by rw [flat3_append]; rfl

theorem owns_lower3 {w : World} {B B' : Nat} {v : Value} {gs : List GrI} (h : Own3 w B v gs) (hB : B' ≤ B) : Own3 w B' v gs := by
  refine ⟨h.1, ?_⟩
  rcases h.2 with q | ⟨g, cap, cur, e, hg, rest⟩
  · exact .inl q
  · exact .inr ⟨g, cap, cur, e, Nat.le_trans hB hg, rest⟩

set_option maxRecDepth 100000 in
set_option maxHeartbeats 2000000 in
theorem list_c (b : Nat) (f : RoI → Int) (w : World) (h : GM w b f) :
    Calls Tryz.prog 28 #[.map (some b)] w fun e W' => ∃ v gs, e = .returned v ∧ SG gs ∧ ofG gs = f ∧ Own3 W' w.heap.size v gs ∧ Below w.heap.size w W' := by
  obtain ⟨i0, hi, hz0, hz1, hz2⟩ := info_parts Tryz.info38
  have hlt := h.lt
  have HF : Hid (FN f) := h.fn
  go_enter Tryz.func28, Tryz.ntmps28
  go_wp2_with fail
  refine (mkeys_c b _).mono ?_
  rintro e w1 ⟨rfl, hw1⟩
  have hb1 : Below w.heap.size w w1 := by rw [← hw1]; exact (Below.refl _ _).alloc (Nat.le_refl _) _
  have hc1 : w1.cell? ⟨w.heap.size, 0, none⟩ = some (.map (some b)) := by rw [← hw1]; simp
  have hs1 : w.heap.size < w1.heap.size := by rw [← hw1]; simp
  have hG1 := h.below hlt hb1
  clear hw1
  go_wp2_with fail
  refine (sortedFunc_c w.heap.size b f _ hs1 hc1 hG1).mono ?_
  rintro e w2 ⟨v, ys, rfl, hss, hmem, ho, hb2⟩
  have hlen : ys.length ≤ 40 := by
    have := nodup_len ys allRo (List.Pairwise.imp (fun {a b} q e => by rw [e, ltR_irrefl] at q; cases q) hss) (fun r hr => mem_allRo (HF.out.ro r ((hmem r).1 hr)))
    rwa [allRo_len] at this
  obtain ⟨a, cap, rfl, hcells⟩ := owns_at2 ho
  have HC : Hid (∀ k r, ys[k]? = some r → ∃ g, a = some ⟨g, 0, none⟩ ∧ w1.heap.size ≤ g ∧ w2.cell? ⟨g, k * 2, none⟩ = some (.int .i64 r.1) ∧ w2.cell? ⟨g, k * 2 + 1, none⟩ = some (.int .i64 r.2)) := hcells
  have HM : Hid (SS ys ∧ ∀ r, r ∈ ys ↔ f r ≠ 0) := ⟨hss, hmem⟩
  have hb02 : Below w.heap.size w w2 := hb1.trans (hb2.mono hb1.size)
  have HG : Hid (GM w2 b f) := h.below hlt hb02
  obtain ⟨n, hn⟩ : ∃ n, ys.length = n := ⟨_, rfl⟩
  have HN : Hid (ys.length = n) := hn
  have hn40 : n ≤ 40 := by omega
  have hn' : (n : Int) ≤ 40 := by omega
  rw [hn]
  have hlt0 : b < w2.heap.size := HG.out.lt
  clear hss hmem hcells ho h hG1 hlen hn
  go_wp2
  go_loopw [3, 10] (fun s i wr => ∃ k : Nat, k ≤ n ∧ i = .int .i64 (k : Int) ∧ Own3 wr w2.heap.size s ((ys.take k).map (fun r => (r, f r))) ∧ Below w2.heap.size w2 wr) (fun _ i _ => n - (intOf i).toNat)
  case atStart => exact ⟨0, Nat.zero_le _, rfl, World.ownsRow_nil _ _ _ _, Below.refl _ _⟩
  case round =>
    obtain ⟨k, hk, rfl, hown, hnx⟩ := hrel
    by_cases hlt : k < n
    · have hr : ys[k]? = some (ys[k]'(by rw [HN.out]; exact hlt)) := List.getElem?_eq_getElem _
      obtain ⟨r, hr⟩ : ∃ r, ys[k]? = some r := ⟨_, hr⟩
      obtain ⟨g, rfl, hg, hq0, hq1⟩ := HC.out k r hr
      have hgl : g < w2.heap.size := World.block_lt_of_cell? w2 ⟨g, k * 2, none⟩ hq0
      have c0 := (hnx.cell (p := ⟨g, k * 2, none⟩) hgl).trans hq0
      have c1 := (hnx.cell (p := ⟨g, k * 2 + 1, none⟩) hgl).trans hq1
      have hrB : roleB r.1 r.2 = true := HF.out.ro r ((HM.out.2 r).1 (List.mem_of_getElem? hr))
      have hz := hnx.size
      have HE : Hid (flat3 ((ys.take (k + 1)).map (fun r => (r, f r))) = flat3 ((ys.take k).map (fun r => (r, f r))) ++ [.int .i64 r.1, .int .i64 r.2, .int .i64 (f r)] ∧ ((ys.take k).map (fun r => (r, f r))).length = k ∧ ((ys.take (k + 1)).map (fun r => (r, f r))).length = k + 1) := by
        have hkl : k < ys.length := by rw [HN.out]; exact hlt
        have e : ys[k] = r := by rw [List.getElem?_eq_getElem hkl] at hr; exact Option.some.inj hr
        refine ⟨?_, by simp; omega, by simp; omega⟩
        rw [List.take_succ_eq_append_getElem hkl, List.map_append, e]
        exact flat3_snoc _ (r, f r)
      have hown' : wr.ownsRow w2.heap.size 38 3 u3 k (flat3 ((ys.take k).map (fun r => (r, f r)))) := by
        have := hown
        unfold Own3 at this
        rwa [HE.out.2.1] at this
      have HO : Hid (wr.ownsRow w2.heap.size 38 3 u3 k (flat3 ((ys.take k).map (fun r => (r, f r))))) := hown'
      have hGr := HG.out.below (Nat.lt_of_lt_of_le hlt0 (Nat.le_refl _)) hnx
      have hlk := gm_look (w := (wr.alloc (.cells #[.int .i64 r.1, .int .i64 r.2] 26)).drew) (gm_heap hGr (heap_alloc_old wr _ hGr.lt)) (roW_of (r := r) hrB)
      simp only [roV] at hlk
      have hwrap : IntKind.i64.wrap (f r) = f r := by
        have := (HF.out.st r).1
        have := (HF.out.st r).2
        rw [IntKind.wrap_i64]; omega
      have hlt' : (k : Int) < (n : Int) := by omega
      have HNW : Hid (∀ j u, ([.int .i64 r.1, .int .i64 r.2, .int .i64 (f r)] : List Value)[j]? = some u → ((wr.alloc (.cells #[.int .i64 r.1, .int .i64 r.2] 26)).drew.alloc (.cells #[.int .i64 r.1, .int .i64 r.2, .int .i64 (f r)] 38)).cell? ((⟨wr.heap.size + 1, 0, none⟩ : Addr).add j) = some u) := by
        have h1 := World.news_of_block (World.alloc_heap_new (wr.alloc (.cells #[.int .i64 r.1, .int .i64 r.2] 26)).drew (.cells #[.int .i64 r.1, .int .i64 r.2, .int .i64 (f r)] 38))
        have e : (wr.alloc (.cells #[.int .i64 r.1, .int .i64 r.2] 26)).drew.heap.size = wr.heap.size + 1 := World.size_alloc _ _
        rw [e] at h1
        exact h1
      clear hown hown' hGr hr
      go_wp2
      go_region_law (refine step_append_own2 rfl (.tmp 14) (.tmp 21) 36 rfl w2.heap.size 38 i0 (.agg #[.int .i64 0, .int .i64 0, .int .i64 0]) 3 24 Tryz.under36 hi hz0 hz1 hz2 rfl (by decide) u3 k (flat3 ((ys.take k).map (fun r => (r, f r)))) (by rfl) ((HO.out.alloc _).alloc _) ⟨wr.heap.size + 1, 0, none⟩ 1 1 [.int .i64 r.1, .int .i64 r.2, .int .i64 (f r)] (by rfl) rfl HNW.out (by simp [Value.oneCell']) (by unfold maxLen; omega) (by omega) (by simp; omega) ?_; intro v' w' ho' hg' hnil'; have HO2 : Hid (w'.ownsRow w2.heap.size 38 3 v' (k + 1) (flat3 ((ys.take k).map (fun r => (r, f r))) ++ [.int .i64 r.1, .int .i64 r.2, .int .i64 (f r)])) := ho'; have HG2 : Hid (((wr.alloc (.cells #[.int .i64 r.1, .int .i64 r.2] 26)).alloc (.cells #[.int .i64 r.1, .int .i64 r.2, .int .i64 (f r)] 38)).drew.grownBy w' u3.ownBlock) := hg'; clear ho' hg' hnil')
      all_goals go_wp2
      all_goals
        refine ⟨⟨k + 1, by omega, by go_num, ?_, ?_⟩, by simp [intOf]; omega⟩
        · show w'.ownsRow _ _ _ _ _ _
          rw [HE.out.1, HE.out.2.2]
          exact HO2.out
        · refine ((((hnx.alloc hnx.size _).alloc (by simp; omega) _).drew).grown HG2.out (by simp; omega) (fun q e => ?_))
          exact (HO.out.lt q e).1
    · have hkn : k = n := by omega
      subst hkn
      go_wp2
      go_ret
      have hsg := sg_keys HF.out HM.out.1 HM.out.2
      rw [List.take_of_length_le (by rw [HN.out]; exact Nat.le_refl _)] at hown
      exact ⟨_, _, rfl, hsg.1, hsg.2, owns_lower3 hown (by have := hb02.size; omega), hb02.trans (hnx.mono hb02.size)⟩

end Go.Proofs.YtpeddanicenohaaGreat

namespace Go.Proofs.YtpeddanicenohaaGreat
open Go.RowKit
set_option linter.unusedVariables false
set_option linter.unusedSimpArgs false

def GivesG (f : Nat) (a : Option Addr) (n cap : Nat) (c : Int) (ys : List GrI) (w : World) : Prop := Calls Tryz.prog f #[.slice a n cap] w fun e w' => ∃ (a' : Option Addr) (cap' : Nat), e = .returned (.agg #[.int .i64 c, .slice a' ys.length cap']) ∧ Own3 w' w.heap.size (.slice a' ys.length cap') ys ∧ Below w.heap.size w w'

theorem all_some (zs : List RuleI) (hc : polCode zs = 0) : ∃ gs, AllG zs gs := by
  have hz : ∀ z ∈ zs, okR z := fun z h => ((pol_ok hc).2 z h).1
  obtain ⟨n, _, h⟩ := it_ends hz
  exact ⟨_, allG_it hz h⟩

theorem pol_n16 {zs : List RuleI} {n : Nat} (h : zs.length = n) (hc : polCode zs = 0) : n ≤ 16 := by
  unfold polCode at hc
  split at hc
  · simp at hc
  · omega

theorem Own3.box {w : World} {B b0 : Nat} {v x y : Value} {gs : List GrI} (h : Own3 w B v gs) (hB : b0 < B) : Own3 ((w.setCell ⟨b0, 0, none⟩ x).setCell ⟨b0, 1, none⟩ y) b0 v gs := by
  have h6 : Own3 w (b0 + 1) v gs := owns_lower3 h (by omega)
  have h7 := ownsRow_setCell_below (ownsRow_setCell_below h6 (a := ⟨b0, 0, none⟩) (by simp) x) (a := ⟨b0, 1, none⟩) (by simp) y
  exact owns_lower3 h7 (by omega)

end Go.Proofs.YtpeddanicenohaaGreat
