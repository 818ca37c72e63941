/-
  THE LIBRARY's OWN CONTRACT of slices.SortFunc at structs, laid at this program by the kit's tools (shelf_lay_g, lay-plain).
  Conditions: the contract bears its own.
  CONTRACT: slices.SortFunc over roles, by impl.compareRoles.
  Conditions: each contract bears its own.
  CONTRACTS: slices.AppendSeq, slices.Collect, slices.SortedFunc over the keys of the map of grants: the roles that somebody has, rising.
  Conditions: each contract bears its own.
-/
import Derived.Shelf.SlSortCmp.WholeK
import Derived.Shelf.SlGeneric
import Derived.Ground.SlsfProg
import Derived.Test.YtocdclgolhhckaaProg
import Derived.Test.YtocdclgolhhckaaPk14
import Derived.Sort.OwnSorted
import Derived.Test.YtocdclgolhhckaaPk16
import Derived.Deep.AppendLies
namespace Go.Proofs
open Go.Shelf
def Try.sortRole_ren : Go.Shelf.Ren := ⟨fun | 6 => 127 | 15 => 138 | 14 => 137 | 28 => 150 | 29 => 151 | 20 => 142 | 21 => 143 | 22 => 144 | 23 => 145 | 24 => 146 | 25 => 147 | 26 => 148 | 27 => 149 | 46 => 152 | 47 => 153 | 48 => 154 | 49 => 155 | 50 => 156 | 57 => 157 | n => n, fun | 22 => 133 | 24 => 31 | 25 => 138 | 3 => 3 | 39 => 123 | 0 => 0 | 53 => 151 | 55 => 144 | 4 => 4 | 46 => 190 | 45 => 189 | 50 => 194 | 5 => 5 | 9 => 9 | 66 => 196 | 70 => 200 | 76 => 202 | 77 => 203 | n => n, fun | n => n⟩
theorem Try.sortRole : Go.Proofs.SlLaysF0.n6 Try.prog Try.sortRole_ren := {
  mixed := by kernel_rfl
  f6 := ⟨Try.f127.name, by decide, Try.func127.trans (congrArg some (by kernel_rfl))⟩
  f14 := ⟨Try.f137.name, by decide, Try.func137.trans (congrArg some (by kernel_rfl))⟩
  f15 := Try.func138.trans (congrArg some (by kernel_rfl))
  f20 := ⟨Try.f142.name, by decide, Try.func142.trans (congrArg some (by kernel_rfl))⟩
  f21 := ⟨Try.f143.name, by decide, Try.func143.trans (congrArg some (by kernel_rfl))⟩
  f22 := ⟨Try.f144.name, by decide, Try.func144.trans (congrArg some (by kernel_rfl))⟩
  f23 := ⟨Try.f145.name, by decide, Try.func145.trans (congrArg some (by kernel_rfl))⟩
  f24 := ⟨Try.f146.name, by decide, Try.func146.trans (congrArg some (by kernel_rfl))⟩
  f25 := ⟨Try.f147.name, by decide, Try.func147.trans (congrArg some (by kernel_rfl))⟩
  f26 := ⟨Try.f148.name, by decide, Try.func148.trans (congrArg some (by kernel_rfl))⟩
  f27 := ⟨Try.f149.name, by decide, Try.func149.trans (congrArg some (by kernel_rfl))⟩
  f28 := Try.func150.trans (congrArg some (by kernel_rfl))
  f29 := Try.func151.trans (congrArg some (by kernel_rfl))
  f46 := ⟨Try.f152.name, by decide, Try.func152.trans (congrArg some (by kernel_rfl))⟩
  f47 := Try.func153.trans (congrArg some (by kernel_rfl))
  f48 := Try.func154.trans (congrArg some (by kernel_rfl))
  f49 := ⟨Try.f155.name, by decide, Try.func155.trans (congrArg some (by kernel_rfl))⟩
  f50 := ⟨Try.f156.name, by decide, Try.func156.trans (congrArg some (by kernel_rfl))⟩
  f57 := ⟨Try.f157.name, by decide, Try.func157.trans (congrArg some (by kernel_rfl))⟩
  t0 := Try.underlying0
  a0 := Try.isAgg0
  z0 := Try.sizeOf0
  v0 := Try.zeroValue0
  t3 := Try.underlying3
  a3 := Try.isAgg3
  z3 := Try.sizeOf3
  v3 := Try.zeroValue3
  t4 := Try.underlying4
  a4 := Try.isAgg4
  z4 := Try.sizeOf4
  v4 := Try.zeroValue4
  t5 := Try.underlying5
  a5 := Try.isAgg5
  z5 := Try.sizeOf5
  v5 := Try.zeroValue5
  t9 := Try.underlying9
  a9 := Try.isAgg9
  z9 := Try.sizeOf9
  v9 := Try.zeroValue9
  t22 := Try.underlying133
  a22 := Try.isAgg133
  z22 := Try.sizeOf133
  v22 := Try.zeroValue133
  t25 := Try.underlying138
  a25 := Try.isAgg138
  z25 := Try.sizeOf138
  v25 := Try.zeroValue138
  t39 := Try.underlying123
  a39 := Try.isAgg123
  z39 := Try.sizeOf123
  v39 := Try.zeroValue123
  t45 := Try.underlying189
  a45 := Try.isAgg189
  z45 := Try.sizeOf189
  v45 := Try.zeroValue189
  t46 := Try.underlying190
  a46 := Try.isAgg190
  z46 := Try.sizeOf190
  v46 := Try.zeroValue190
  t50 := Try.underlying194
  a50 := Try.isAgg194
  z50 := Try.sizeOf194
  v50 := Try.zeroValue194
  t53 := Try.underlying151
  a53 := Try.isAgg151
  z53 := Try.sizeOf151
  v53 := Try.zeroValue151
  t55 := Try.underlying144
  a55 := Try.isAgg144
  z55 := Try.sizeOf144
  v55 := Try.zeroValue144
  t66 := Try.underlying196
  a66 := Try.isAgg196
  z66 := Try.sizeOf196
  v66 := Try.zeroValue196
  t70 := Try.underlying200
  a70 := Try.isAgg200
  z70 := Try.sizeOf200
  v70 := Try.zeroValue200
  t76 := Try.underlying202
  a76 := Try.isAgg202
  z76 := Try.sizeOf202
  v76 := Try.zeroValue202
  t77 := Try.underlying203
  a77 := Try.isAgg203
  z77 := Try.sizeOf203
  v77 := Try.zeroValue203 }
end Go.Proofs

namespace Go.Proofs.Ytocdclgolhhckaa
open Go.RowKit Go.Sort Go.Proofs Go.Lib
set_option linter.unusedVariables false
set_option linter.unusedSimpArgs false

def cmpI (x y : Int) : Int := if x < y then -1 else if y < x then 1 else 0
def orC (c d : Int) : Int := if c = 0 then d else c
def cfR (p q : RoI) : Int := orC (cmpI p.1 q.1) (cmpI p.2 q.2)

theorem ltOf_cfR (p q : RoI) : ltOf cfR p q = ltR p q := by
  unfold ltOf cfR orC ltR cmpI
  rw [Bool.eq_iff_iff]
  simp only [decide_eq_true_eq]
  split <;> (repeat' split) <;> first | omega | (simp_all; try omega)

theorem swo_cfR : SWO (ltOf cfR) where
  irrefl x := by rw [ltOf_cfR]; exact ltR_irrefl x
  trans x y z h1 h2 := by rw [ltOf_cfR] at *; exact ltR_trans h1 h2
  ntrans x y z h1 h2 := by rw [ltOf_cfR] at *; simp [ltR] at *; omega

set_option maxHeartbeats 400000 in
theorem compare_c (x y : Int) (w : World) : Calls Try.prog 130 #[.int .i64 x, .int .i64 y] w fun e w' => e = .returned (.int .i64 (cmpI x y)) ∧ w = w' := by
  unfold cmpI
  by_cases h1 : x < y
  · go_enter Try.func130, Try.ntmps130
    go_wp2
    go_ret
    exact ⟨by simp [h1], rfl⟩
  · by_cases h2 : y < x
    · go_enter Try.func130, Try.ntmps130
      go_wp2
      go_ret
      exact ⟨by simp [h1, h2], rfl⟩
    · go_enter Try.func130, Try.ntmps130
      go_wp2
      go_ret
      exact ⟨by simp [h1, h2], rfl⟩

set_option maxHeartbeats 400000 in
theorem or_c (g : Nat) (c d : Int) (w : World) (h0 : w.cell? ⟨g, 0, none⟩ = some (.int .i64 c)) (h1 : w.cell? ⟨g, 1, none⟩ = some (.int .i64 d)) :
    Calls Try.prog 129 #[.slice (some ⟨g, 0, none⟩) 2 2] w fun e w' => e = .returned (.int .i64 (orC c d)) ∧ w = w' := by
  go_enter Try.func129, Try.ntmps129
  go_wp2
  go_loop [8] (fun i => ∃ k : Nat, k ≤ 2 ∧ i = .int .i64 (k : Int) ∧ (1 ≤ k → c = 0) ∧ (2 ≤ k → d = 0)) (fun i => 2 - (intOf i).toNat)
  case atStart => exact ⟨0, by omega, rfl, fun h => by omega, fun h => by omega⟩
  case round =>
    obtain ⟨k, hk, rfl, hc, hd⟩ := hrel
    have hk' : k = 0 ∨ k = 1 ∨ k = 2 := by omega
    rcases hk' with rfl | rfl | rfl
    · clear hc hd
      by_cases e : c = 0
      · have b : (c != 0) = false := by simp [e]
        have HE : Hid (c = 0) := e
        clear e
        go_wp2
        exact ⟨⟨1, by omega, by go_num, fun _ => HE.out, fun h => by omega⟩, by simp [intOf]⟩
      · have b : (c != 0) = true := by simp [e]
        go_wp2
        go_ret
        exact ⟨by simp [orC, e], rfl⟩
    · have HC : Hid (c = 0) := hc (by omega)
      clear hc hd
      by_cases e : d = 0
      · have b : (d != 0) = false := by simp [e]
        have HE : Hid (d = 0) := e
        clear e
        go_wp2
        exact ⟨⟨2, by omega, by go_num, fun _ => HC.out, fun _ => HE.out⟩, by simp [intOf]⟩
      · have b : (d != 0) = true := by simp [e]
        go_wp2
        go_ret
        exact ⟨by simp [orC, HC.out], rfl⟩
    · have HC : Hid (c = 0) := hc (by omega)
      have HD : Hid (d = 0) := hd (by omega)
      clear hc hd
      go_wp2
      go_ret
      exact ⟨by simp [orC, HC.out, HD.out], rfl⟩

def enc2 (x : RoI) : List Value := [.int .i64 x.1, .int .i64 x.2]

set_option maxHeartbeats 1000000 in
theorem closure_c (x y : RoI) (W : World) : Calls Try.prog 106 #[.agg #[.int .i64 x.1, .int .i64 x.2], .agg #[.int .i64 y.1, .int .i64 y.2]] W fun e w' => e = .returned (.int .i64 (cfR x y)) ∧ ∃ q os', w' = grow (W.drewN q) os' := by
  have HF : Hid (cfR x y = orC (cmpI x.1 y.1) (cmpI x.2 y.2)) := rfl
  go_enter Try.func106, Try.ntmps106
  go_wp2
  go_region_held3 (fun w' => w'.cell? ⟨W.heap.size, 0, none⟩ = some (.int .i64 x.1) ∧ w'.cell? ⟨W.heap.size, 1, none⟩ = some (.int .i64 x.2) ∧ w'.cell? ⟨W.heap.size + 1, 0, none⟩ = some (.int .i64 y.1) ∧ w'.cell? ⟨W.heap.size + 1, 1, none⟩ = some (.int .i64 y.2)) (first | assumption | (refine ⟨?_, ?_, ?_, ?_⟩ <;> simp [go_sem]))
    (first | (go_at_call 130; refine (compare_c _ _ _).mono ?_; rintro e w' ⟨rfl, rfl⟩) | (go_at_call 129; refine (or_c _ (cmpI x.1 y.1) (cmpI x.2 y.2) _ ?_ ?_).mono ?_; (· simp [go_sem]); (· simp [go_sem]); rintro e w' ⟨rfl, rfl⟩))
  all_goals go_wp2
  all_goals go_ret
  all_goals exact ⟨by rw [HF.out]; rfl, 1, _, by simp only [alloc_eq_grow, drew_grow, grow_grow]; rfl⟩

theorem cmpLays_c (blk off size : Nat) (w : World) : CmpLays Try.prog 106 #[] enc2 2 cfR blk off size w := fun _ _ _ _ x y => closure_c x y _

theorem flatK_eq (xs : List RoI) : flatK enc2 2 xs.toArray = (flat2 xs).toArray := by
  apply Array.ext
  · simp [flat2_len]
  · intro t h1 h2
    have ht : t < xs.length * 2 := by simpa using h1
    have hk : t / 2 < xs.length := by omega
    have e0 := get_flatK enc2 2 xs.toArray t (by simpa using ht)
    rw [getElem!_pos _ t h1] at e0
    rw [e0]
    have hx : xs[t / 2]? = some (xs[t / 2]) := List.getElem?_eq_getElem hk
    have hd : xs.toArray[t / 2]! = xs[t / 2] := by rw [getElem!_pos _ _ (by simpa using hk)]; simp
    rw [hd]
    rcases Nat.mod_two_eq_zero_or_one t with hm | hm
    · have h3 := flat2_fst xs (t / 2) _ hx
      rw [show t / 2 * 2 = t by omega, List.getElem?_eq_getElem (by simpa using h2)] at h3
      rw [hm]
      simp only [enc2, List.getElem_toArray]
      exact (Option.some.inj h3).symm
    · have h3 := flat2_snd xs (t / 2) _ hx
      rw [show t / 2 * 2 + 1 = t by omega, List.getElem?_eq_getElem (by simpa using h2)] at h3
      rw [hm]
      simp only [enc2, List.getElem_toArray]
      exact (Option.some.inj h3).symm

theorem owns_sorted2 {w : World} {B g cap q : Nat} {os : Array Obj} {xs ys : List RoI} (h : Owns2 w B (.slice (some ⟨g, 0, none⟩) xs.length cap) xs) (hl : ys.length = xs.length) :
    Owns2 (grow (putRow id (Sort.ahead w q) g 0 (flat2 ys).toArray) os) B (.slice (some ⟨g, 0, none⟩) xs.length cap) ys ∧ w.grownBy (grow (putRow id (Sort.ahead w q) g 0 (flat2 ys).toArray) os) (some g) := by
  have h0 : w.ownsRow B 31 2 (.slice (some ⟨g, 0, none⟩) xs.length cap) xs.length (flat2 xs) := h
  rcases h0.2 with ⟨e0, _⟩ | ⟨g', cap', cur, e0, hb, hg, hn, hm, hs, ht⟩
  · cases e0
  · injection e0 with e1 _ e3
    injection e1 with e1
    injection e1 with e1
    subst e1; subst e3
    have hgl : g < w.heap.size := (Array.getElem?_eq_some_iff.1 hg).1
    refine ⟨⟨by rw [flat2_len], .inr ⟨g, cap, putCells id 0 (flat2 ys).toArray cur, by rw [hl], hb, ?_, by omega, hm, by simpa [putCells] using hs, ?_⟩⟩, ⟨rfl, rfl, rfl, by simp, fun k hk hne => ?_⟩⟩
    · rw [heap_grow_old _ _ (by simpa using hgl)]
      simp [putRow, mapBlock, Sort.ahead, Array.getElem?_modify, hg, onCells]
    · apply List.ext_getElem?
      intro j
      by_cases hj : j < ys.length * 2
      · rw [List.getElem?_take_of_lt hj, Array.getElem?_toList]
        have hjc : j < cur.size := by rw [hs]; omega
        have hjf : j < (flat2 ys).length := by rw [flat2_len]; exact hj
        simp [putCells, hjc, hjf, flat2_len, hj, List.getElem?_eq_getElem hjf]
      · rw [List.getElem?_take_eq_none (by omega), List.getElem?_eq_none (by rw [flat2_len]; omega)]
    · rw [heap_grow_old _ _ (by simpa using hk)]
      have : g ≠ k := fun e => hne (by rw [e])
      simp [putRow, mapBlock, Sort.ahead, Array.getElem?_modify, this]

theorem Try.aggRole (w : World) : (isAgg 31).run Try.prog w = .ok true w := by kernel_rfl
theorem Try.sizeRole (w : World) : (Go.sizeOf 31).run Try.prog w = .ok 2 w := by kernel_rfl

theorem sorts_c : Sorts := by
  intro g cap B xs w h hx
  have h0 : w.ownsRow B 31 2 (.slice (some ⟨g, 0, none⟩) xs.length cap) xs.length (flat2 xs) := h
  have hlt := (h0.lt g rfl)
  have hH : HoldsK enc2 2 w g 0 xs.toArray := by
    unfold HoldsK
    rw [flatK_eq]
    intro j hj
    have hj' : j < xs.length * 2 := by simpa [flat2_len] using hj
    refine ⟨?_, by rw [Nat.zero_add]; exact h0.frozenAt j⟩
    rw [Nat.zero_add, h0.cellAt j hj', getElem!_pos _ j hj]
    rw [List.getElem?_eq_getElem (by rw [flat2_len]; exact hj')]
    simp
  have eg : ∀ args w, (callFunc 106 args).run Try.prog w = .ok (.enter 106 args) w := enters_of Try.func106 (by kernel_rfl) rfl
  have hcon := AnyQ.slices_SortFunc Try.sortRole 2 Try.aggRole Try.sizeRole enc2 (fun _ => rfl) (fun x v hv => by simp [enc2] at hv; rcases hv with rfl | rfl <;> rfl) cfR swo_cfR 106 #[] g 0 cap xs.toArray w eg (cmpLays_c g 0 xs.toArray.size w) hH hlt.2 (by simp; omega)
  change Calls Try.prog 127 _ _ _ at hcon
  simp only [List.size_toArray] at hcon
  refine hcon.mono ?_
  rintro e w' ⟨rfl, d', q, os, hp, hs, rfl⟩
  obtain ⟨hsz, _, hperm⟩ := hp
  have hsz' : d'.toList.length = xs.length := by simpa using hsz
  have hperm' : d'.toList.Perm xs := by
    have h1 := hperm
    simp [hsz] at h1
    rw [List.take_of_length_le (by omega)] at h1
    exact h1
  have ed : d' = d'.toList.toArray := by simp
  have hw : sortWorldK enc2 2 w g 0 q d' os = grow (putRow id (Sort.ahead w q) g 0 (flat2 d'.toList).toArray) os := by
    unfold sortWorldK putRowK
    rw [ed, flatK_eq]
  obtain ⟨ho, hgr⟩ := owns_sorted2 (q := q) (os := os) h hsz'
  rw [hw]
  refine ⟨rfl, d'.toList, hsz', fun x => hperm'.mem_iff, ?_, ho, (Below.refl B w).grown hgr (by have := hlt.1; omega) (fun k e => by cases e; exact hlt.1)⟩
  rw [List.pairwise_iff_getElem]
  intro i j hi hj hij
  have := hs i j (Nat.zero_le _) hij (by omega)
  rw [ltOf_cfR, getElem!_pos _ _ (by simpa using hj), getElem!_pos _ _ (by simpa using hi)] at this
  simpa using this

end Go.Proofs.Ytocdclgolhhckaa

namespace Go.Proofs.Ytocdclgolhhckaa
open Go.RowKit Go.Shelf Go.Maps
attribute [local go_sem] Oper.semAt_some
attribute [local go_sem] wide_fn
attribute [local simp] wide_fn
set_option linter.unusedVariables false
set_option linter.unusedSimpArgs false

theorem flat2_snoc (a : List RoI) (x : RoI) : flat2 (a ++ [x]) = flat2 a ++ [.int .i64 x.1, .int .i64 x.2] := by rw [flat2_append]; rfl

/-- A block of cells is kept while others are turned that hold no cells. -/
theorem block_own (B : Nat) (cs : Array Value) (t : TypeId) : Own (fun (_ : Unit) W => W.heap[B]? = some (.cells cs t (0, 0))) := fun s X Y row hs hg hrow => by
  refine (hg.block B (Array.getElem?_eq_some_iff.1 hs).1 (fun e => ?_)).trans hs
  obtain ⟨o, ho, hc⟩ := hrow B e.symm
  rw [hs] at ho
  cases ho
  cases hc

set_option maxRecDepth 100000 in
set_option maxHeartbeats 2000000 in
theorem aseq_w (n : Nat) (hn : 3 ≤ n) (Bm b : Nat) (f : RoI → Int) (w : World) (hBm : Bm < w.heap.size) (hm : w.cell? ⟨Bm, 0, none⟩ = some (.map (some b))) (h : GM w b f) :
    CallsIn Fence.wide n Try.prog 136 #[.slice none 0 0, .func (.func 128) #[] #[.pointer (some ⟨Bm, 0, none⟩)]] w fun e W' => ∃ v ys, e = .returned v ∧ KeysIs f ys ∧ Owns2 W' w.heap.size v ys ∧ Below w.heap.size w W' := by
  have h1 : 1 ≤ n := by omega
  obtain ⟨i0, hi, hz0, hz1, hz2⟩ := info_parts Try.info31
  refine callsIn_of_wp_marks Try.func136 rfl trivial ?_ rfl
  simp only [Try.ntmps136, List.size_toArray, List.length_cons, List.length_nil, Nat.reduceAdd, Nat.reduceSub, Array.replicate_succ, Array.replicate_zero, List.push_toArray, List.append_toArray, List.nil_append, List.cons_append]
  gi_wp2
  have bL := Boxed.new w 133 (.slice none 0 0)
  obtain ⟨W0, hW0⟩ : ∃ W0, w.alloc (.cells #[.slice none 0 0] 133) = W0 := ⟨_, rfl⟩
  have hsz : W0.heap.size = w.heap.size + 1 := by rw [← hW0]; simp
  have hB0 : Below w.heap.size w W0 := by rw [← hW0]; exact (Below.refl _ w).alloc (Nat.le_refl _) _
  rw [hW0] at bL ⊢
  have HB0 : Hid (Below w.heap.size w W0) := hB0
  have hG0 := h.below h.lt hB0
  have hm0 := (hB0.cell (p := ⟨Bm, 0, none⟩) hBm).trans hm
  clear hW0 hB0
  refine wpIn_rangeFunc_ownH rfl h1 (gf := 128) (lb := #[.pointer (some ⟨Bm, 0, none⟩)]) rfl trivial (enters_of Try.func128 (by kernel_rfl) rfl)
    (mkeys_stops (n - 1) (by omega) Bm b f W0 (by omega) hm0 hG0) (Kp := KeepsWalks) walksK_t (fun W l o o' hl h hc hw => KeepsWalks.putObj _ h hw) (Below.refl _ _) (fun _ => rfl)
    (fun pre W => (∃ v, Boxed W w.heap.size 133 v ∧ W.ownsRow w.heap.size 31 2 v pre.length (flat2 pre) ∧ True) ∧ Below w.heap.size W0 W)
    (fun _ _ _ => False)
    (OwnFrom.and (Own.from (holdsRow_own w.heap.size w.heap.size 133 31 2 (fun pre : List RoI => pre.length) (fun pre => flat2 pre) (fun _ _ => True)) _) (ownFrom_below (by omega) (by omega)))
    (fun _ _ _ _ _ hs _ _ => hs)
    ⟨⟨_, bL, World.ownsRow_nil _ _ _ _, trivial⟩, Below.refl _ _⟩
    (fun x a' W => ∃ B5 u5, w.heap.size ≤ B5 ∧ W.heap[B5]? = some (.cells #[.int .i64 x.1, .int .i64 x.2] 31 (0, 0)) ∧ a' = { tmps := #[.slice none 0 0, .func (.func 128) #[] #[.pointer (some ⟨Bm, 0, none⟩)], .pointer (some ⟨w.heap.size, 0, none⟩), undef, .slice none 0 0, .pointer (some ⟨B5, 0, none⟩), .func (.func 128) #[] #[.pointer (some ⟨Bm, 0, none⟩)], u5, undef, undef, undef, undef, undef], defers := [] })
    (fun x a' s X Y row hs hg hr => by obtain ⟨B5, u5, hl, hb, e⟩ := hs; exact ⟨B5, u5, hl, block_own B5 _ _ () X Y row hb hg (fun r e => (hr r e).2), e⟩) ?assign ?body ?done ?stop
  case assign =>
    rintro l pre x W K ⟨⟨v, hv, hrow, _⟩, hB⟩ hK
    have hB2 : Below w.heap.size W (W.alloc (.cells #[.int .i64 x.1, .int .i64 x.2] 31)) := (Below.refl _ _).alloc (by have := hB.size; omega) _
    have hKK := fun u5 => hK { tmps := #[.slice none 0 0, .func (.func 128) #[] #[.pointer (some ⟨Bm, 0, none⟩)], .pointer (some ⟨w.heap.size, 0, none⟩), undef, .slice none 0 0, .pointer (some ⟨W.heap.size, 0, none⟩), .func (.func 128) #[] #[.pointer (some ⟨Bm, 0, none⟩)], u5, undef, undef, undef, undef, undef], defers := [] } (W.alloc (.cells #[.int .i64 x.1, .int .i64 x.2] 31)) ((KeepsOthers.alloc W _).from _) (KeepsWalks.alloc W _) ⟨⟨v, hv.alloc _, hrow.alloc _, trivial⟩, hB.trans hB2⟩ ⟨W.heap.size, u5, by have := hB.size; omega, World.alloc_heap_new W _, rfl⟩
    clear hK
    gi_wp2
    exact hKK _
  case body =>
    rintro l pre x a' W hlw hlo ⟨⟨v, hv, hrow, _⟩, hB⟩ ⟨B5, u5, hB5, hb5, rfl⟩ hlt
    have hc := hv.cell
    have c0 : W.cell? ⟨B5, 0, none⟩ = some (.int .i64 x.1) := by unfold World.cell?; rw [hb5]; rfl
    have c1 : W.cell? ⟨B5, 1, none⟩ = some (.int .i64 x.2) := by unfold World.cell?; rw [hb5]; rfl
    have hWs := hB.size
    gi_wp2_with (gi_at_builtin; refine wpListIn_append_own _ rfl _ _ 133 rfl w.heap.size 31 i0 (.agg #[.int .i64 0, .int .i64 0]) 2 16 Try.underlying133 hi hz0 hz1 hz2 rfl (by decide) _ _ _ rfl (hrow.alloc _) ⟨W.heap.size, 0, none⟩ 1 1 [.int .i64 x.1, .int .i64 x.2] rfl rfl (World.news_of_block (World.alloc_heap_new W _)) (by simp [Value.oneCell']) (by unfold maxLen; omega) (by omega) (by simp; omega) ?_; intro v' w1 hown' hgrow _; obtain ⟨g', cap', rfl⟩ := ownsRow_succ hown'; obtain ⟨hv1, hv2, hr2, hk2, hb2⟩ := hv.appended (by decide) hrow (by omega) (Nat.le_refl _) hown' hgrow; have hc1 := hv1.cell; have hf1 := hv1.frozen)
    exact ⟨hk2.from _, hk2.walks, ⟨_, hv2, by rw [flat2_snoc]; simpa using hr2, trivial⟩, hB.trans hb2⟩
  case done =>
    rintro D ys W hD hys ⟨⟨v, hv, hrow, _⟩, hB⟩ hK
    have hc := hv.cell
    gi_wp2
    refine ⟨by simp, .inl ⟨_, _, rfl, run_takeDeferred hK, ?_⟩⟩
    refine ⟨v, ?res, v, ys, rfl, hys, ?own, ?below⟩
    case res => simp [results, Try.results136, go_sem]
    case own => exact ownsRow_putObj hrow _ hK rfl
    case below => exact (HB0.out.trans hB).trans (belowK_b (w := w) (Nat.le_refl _) _ D _ _ (by omega) hK rfl rfl)
  case stop =>
    rintro D c pre W _ _ h _
    exact h.elim

theorem aseq_c (Bm b : Nat) (f : RoI → Int) (w : World) (hBm : Bm < w.heap.size) (hm : w.cell? ⟨Bm, 0, none⟩ = some (.map (some b))) (h : GM w b f) :
    Calls Try.prog 136 #[.slice none 0 0, .func (.func 128) #[] #[.pointer (some ⟨Bm, 0, none⟩)]] w fun e W' => ∃ v ys, e = .returned v ∧ KeysIs f ys ∧ Owns2 W' w.heap.size v ys ∧ Below w.heap.size w W' :=
  callsIn_wide.1 (aseq_w 3 (Nat.le_refl _) Bm b f w hBm hm h)

set_option maxHeartbeats 1000000 in
theorem collect_c (Bm b : Nat) (f : RoI → Int) (w : World) (hBm : Bm < w.heap.size) (hm : w.cell? ⟨Bm, 0, none⟩ = some (.map (some b))) (h : GM w b f) :
    Calls Try.prog 126 #[.func (.func 128) #[] #[.pointer (some ⟨Bm, 0, none⟩)]] w fun e W' => ∃ v ys, e = .returned v ∧ KeysIs f ys ∧ Owns2 W' w.heap.size v ys ∧ Below w.heap.size w W' := by
  go_enter Try.func126, Try.ntmps126
  go_wp2_with (first | (go_at_call 136; refine (aseq_c Bm b f _ hBm hm h).mono ?_; rintro e w1 ⟨v, ys, rfl, hk, ho, hb⟩) | go_in)
  go_ret
  exact ⟨v, ys, rfl, hk, ho, hb⟩

theorem mkeys_c (b : Nat) (w : World) :
    Calls Try.prog 105 #[.map (some b)] w fun e w' => e = .returned (.func (.func 128) #[] #[.pointer (some ⟨w.heap.size, 0, none⟩)]) ∧ w.alloc (.cells #[.map (some b)] 88) = w' :=
  callsIn_wide.1 (mkeys_in 3 b w)

end Go.Proofs.Ytocdclgolhhckaa
