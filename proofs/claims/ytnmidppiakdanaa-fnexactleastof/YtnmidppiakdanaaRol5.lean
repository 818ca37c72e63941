/-
  CONTRACT: slices.SortFunc over roles, by impl.compareRoles.
  Conditions: each contract bears its own.
-/
import Derived.Test.YtnmidppiakdanaaRol4
import Derived.Test.YtnmidppiakdanaaSortLay
import Derived.Sort.OwnSorted
namespace Go.Proofs.Ytnmidppiakdanaa
open Go.RowKit Go.Sort Go.Proofs Go.Lib
set_option linter.unusedVariables false
set_option linter.unusedSimpArgs false

def cmpI (x y : Int) : Int := if x < y then -1 else if y < x then 1 else 0
def orC (c d : Int) : Int := if c = 0 then d else c
def cfR (p q : RoI) : Int := orC (cmpI p.1 q.1) (cmpI p.2 q.2)

theorem ltOf_cfR (p q : RoI) : ltOf cfR p q = ltR p q := by
  unfold ltOf cfR orC ltR cmpI
  rw [Bool.eq_iff_iff]
  simp only [decide_eq_true_eq]
  split <;> (repeat' split) <;> first | omega | (simp_all; try omega)

theorem swo_cfR : SWO (ltOf cfR) where
  irrefl x := by rw [ltOf_cfR]; exact ltR_irrefl x
  trans x y z h1 h2 := by rw [ltOf_cfR] at *; exact ltR_trans h1 h2
  ntrans x y z h1 h2 := by rw [ltOf_cfR] at *; simp [ltR] at *; omega

set_option maxHeartbeats 400000 in
theorem compare_c (x y : Int) (w : World) : Calls Try.prog 124 #[.int .i64 x, .int .i64 y] w fun e w' => e = .returned (.int .i64 (cmpI x y)) ∧ w = w' := by
  unfold cmpI
  by_cases h1 : x < y
  · go_enter Try.func124, Try.ntmps124
    go_wp2
    go_ret
    exact ⟨by simp [h1], rfl⟩
  · by_cases h2 : y < x
    · go_enter Try.func124, Try.ntmps124
      go_wp2
      go_ret
      exact ⟨by simp [h1, h2], rfl⟩
    · go_enter Try.func124, Try.ntmps124
      go_wp2
      go_ret
      exact ⟨by simp [h1, h2], rfl⟩

set_option maxHeartbeats 400000 in
theorem or_c (g : Nat) (c d : Int) (w : World) (h0 : w.cell? ⟨g, 0, none⟩ = some (.int .i64 c)) (h1 : w.cell? ⟨g, 1, none⟩ = some (.int .i64 d)) :
    Calls Try.prog 123 #[.slice (some ⟨g, 0, none⟩) 2 2] w fun e w' => e = .returned (.int .i64 (orC c d)) ∧ w = w' := by
  go_enter Try.func123, Try.ntmps123
  go_wp2
  go_loop [8] (fun i => ∃ k : Nat, k ≤ 2 ∧ i = .int .i64 (k : Int) ∧ (1 ≤ k → c = 0) ∧ (2 ≤ k → d = 0)) (fun i => 2 - (intOf i).toNat)
  case atStart => exact ⟨0, by omega, rfl, fun h => by omega, fun h => by omega⟩
  case round =>
    obtain ⟨k, hk, rfl, hc, hd⟩ := hrel
    have hk' : k = 0 ∨ k = 1 ∨ k = 2 := by omega
    rcases hk' with rfl | rfl | rfl
    · clear hc hd
      by_cases e : c = 0
      · have b : (c != 0) = false := by simp [e]
        have HE : Hid (c = 0) := e
        clear e
        go_wp2
        exact ⟨⟨1, by omega, by go_num, fun _ => HE.out, fun h => by omega⟩, by simp [intOf]⟩
      · have b : (c != 0) = true := by simp [e]
        go_wp2
        go_ret
        exact ⟨by simp [orC, e], rfl⟩
    · have HC : Hid (c = 0) := hc (by omega)
      clear hc hd
      by_cases e : d = 0
      · have b : (d != 0) = false := by simp [e]
        have HE : Hid (d = 0) := e
        clear e
        go_wp2
        exact ⟨⟨2, by omega, by go_num, fun _ => HC.out, fun _ => HE.out⟩, by simp [intOf]⟩
      · have b : (d != 0) = true := by simp [e]
        go_wp2
        go_ret
        exact ⟨by simp [orC, HC.out], rfl⟩
    · have HC : Hid (c = 0) := hc (by omega)
      have HD : Hid (d = 0) := hd (by omega)
      clear hc hd
      go_wp2
      go_ret
      exact ⟨by simp [orC, HC.out, HD.out], rfl⟩

def enc2 (x : RoI) : List Value := [.int .i64 x.1, .int .i64 x.2]

set_option maxHeartbeats 1000000 in
theorem closure_c (x y : RoI) (W : World) : Calls Try.prog 70 #[.agg #[.int .i64 x.1, .int .i64 x.2], .agg #[.int .i64 y.1, .int .i64 y.2]] W fun e w' => e = .returned (.int .i64 (cfR x y)) ∧ ∃ q os', w' = grow (W.drewN q) os' := by
  have HF : Hid (cfR x y = orC (cmpI x.1 y.1) (cmpI x.2 y.2)) := rfl
  go_enter Try.func70, Try.ntmps70
  go_wp2
  go_region_held3 (fun w' => w'.cell? ⟨W.heap.size, 0, none⟩ = some (.int .i64 x.1) ∧ w'.cell? ⟨W.heap.size, 1, none⟩ = some (.int .i64 x.2) ∧ w'.cell? ⟨W.heap.size + 1, 0, none⟩ = some (.int .i64 y.1) ∧ w'.cell? ⟨W.heap.size + 1, 1, none⟩ = some (.int .i64 y.2)) (first | assumption | (refine ⟨?_, ?_, ?_, ?_⟩ <;> simp [go_sem]))
    (first | (go_at_call 124; refine (compare_c _ _ _).mono ?_; rintro e w' ⟨rfl, rfl⟩) | (go_at_call 123; refine (or_c _ (cmpI x.1 y.1) (cmpI x.2 y.2) _ ?_ ?_).mono ?_; (· simp [go_sem]); (· simp [go_sem]); rintro e w' ⟨rfl, rfl⟩))
  all_goals go_wp2
  all_goals go_ret
  all_goals exact ⟨by rw [HF.out]; rfl, 1, _, by simp only [alloc_eq_grow, drew_grow, grow_grow]; rfl⟩

theorem cmpLays_c (blk off size : Nat) (w : World) : CmpLays Try.prog 70 #[] enc2 2 cfR blk off size w := fun _ _ _ _ x y => closure_c x y _

theorem flatK_eq (xs : List RoI) : flatK enc2 2 xs.toArray = (flat2 xs).toArray := by
  apply Array.ext
  · simp [flat2_len]
  · intro t h1 h2
    have ht : t < xs.length * 2 := by simpa using h1
    have hk : t / 2 < xs.length := by omega
    have e0 := get_flatK enc2 2 xs.toArray t (by simpa using ht)
    rw [getElem!_pos _ t h1] at e0
    rw [e0]
    have hx : xs[t / 2]? = some (xs[t / 2]) := List.getElem?_eq_getElem hk
    have hd : xs.toArray[t / 2]! = xs[t / 2] := by rw [getElem!_pos _ _ (by simpa using hk)]; simp
    rw [hd]
    rcases Nat.mod_two_eq_zero_or_one t with hm | hm
    · have h3 := flat2_fst xs (t / 2) _ hx
      rw [show t / 2 * 2 = t by omega, List.getElem?_eq_getElem (by simpa using h2)] at h3
      rw [hm]
      simp only [enc2, List.getElem_toArray]
      exact (Option.some.inj h3).symm
    · have h3 := flat2_snd xs (t / 2) _ hx
      rw [show t / 2 * 2 + 1 = t by omega, List.getElem?_eq_getElem (by simpa using h2)] at h3
      rw [hm]
      simp only [enc2, List.getElem_toArray]
      exact (Option.some.inj h3).symm

theorem owns_sorted2 {w : World} {B g cap q : Nat} {os : Array Obj} {xs ys : List RoI} (h : Owns2 w B (.slice (some ⟨g, 0, none⟩) xs.length cap) xs) (hl : ys.length = xs.length) :
    Owns2 (grow (putRow id (Sort.ahead w q) g 0 (flat2 ys).toArray) os) B (.slice (some ⟨g, 0, none⟩) xs.length cap) ys ∧ w.grownBy (grow (putRow id (Sort.ahead w q) g 0 (flat2 ys).toArray) os) (some g) := by
  have h0 : w.ownsRow B 35 2 (.slice (some ⟨g, 0, none⟩) xs.length cap) xs.length (flat2 xs) := h
  rcases h0.2 with ⟨e0, _⟩ | ⟨g', cap', cur, e0, hb, hg, hn, hm, hs, ht⟩
  · cases e0
  · injection e0 with e1 _ e3
    injection e1 with e1
    injection e1 with e1
    subst e1; subst e3
    have hgl : g < w.heap.size := (Array.getElem?_eq_some_iff.1 hg).1
    refine ⟨⟨by rw [flat2_len], .inr ⟨g, cap, putCells id 0 (flat2 ys).toArray cur, by rw [hl], hb, ?_, by omega, hm, by simpa [putCells] using hs, ?_⟩⟩, ⟨rfl, rfl, rfl, by simp, fun k hk hne => ?_⟩⟩
    · rw [heap_grow_old _ _ (by simpa using hgl)]
      simp [putRow, mapBlock, Sort.ahead, Array.getElem?_modify, hg, onCells]
    · apply List.ext_getElem?
      intro j
      by_cases hj : j < ys.length * 2
      · rw [List.getElem?_take_of_lt hj, Array.getElem?_toList]
        have hjc : j < cur.size := by rw [hs]; omega
        have hjf : j < (flat2 ys).length := by rw [flat2_len]; exact hj
        simp [putCells, hjc, hjf, flat2_len, hj, List.getElem?_eq_getElem hjf]
      · rw [List.getElem?_take_eq_none (by omega), List.getElem?_eq_none (by rw [flat2_len]; omega)]
    · rw [heap_grow_old _ _ (by simpa using hk)]
      have : g ≠ k := fun e => hne (by rw [e])
      simp [putRow, mapBlock, Sort.ahead, Array.getElem?_modify, this]

theorem Try.aggRole (w : World) : (isAgg 35).run Try.prog w = .ok true w := by kernel_rfl
theorem Try.sizeRole (w : World) : (Go.sizeOf 35).run Try.prog w = .ok 2 w := by kernel_rfl

theorem sorts_c : Sorts := by
  intro g cap B xs w h hx
  have h0 : w.ownsRow B 35 2 (.slice (some ⟨g, 0, none⟩) xs.length cap) xs.length (flat2 xs) := h
  have hlt := (h0.lt g rfl)
  have hH : HoldsK enc2 2 w g 0 xs.toArray := by
    unfold HoldsK
    rw [flatK_eq]
    intro j hj
    have hj' : j < xs.length * 2 := by simpa [flat2_len] using hj
    refine ⟨?_, by rw [Nat.zero_add]; exact h0.frozenAt j⟩
    rw [Nat.zero_add, h0.cellAt j hj', getElem!_pos _ j hj]
    rw [List.getElem?_eq_getElem (by rw [flat2_len]; exact hj')]
    simp
  have eg : ∀ args w, (callFunc 70 args).run Try.prog w = .ok (.enter 70 args) w := enters_of Try.func70 (by kernel_rfl) rfl
  have hcon := AnyQ.slices_SortFunc Try.sortRole 2 Try.aggRole Try.sizeRole enc2 (fun _ => rfl) (fun x v hv => by simp [enc2] at hv; rcases hv with rfl | rfl <;> rfl) cfR swo_cfR 70 #[] g 0 cap xs.toArray w eg (cmpLays_c g 0 xs.toArray.size w) hH hlt.2 (by simp; omega)
  change Calls Try.prog 77 _ _ _ at hcon
  simp only [List.size_toArray] at hcon
  refine hcon.mono ?_
  rintro e w' ⟨rfl, d', q, os, hp, hs, rfl⟩
  obtain ⟨hsz, _, hperm⟩ := hp
  have hsz' : d'.toList.length = xs.length := by simpa using hsz
  have hperm' : d'.toList.Perm xs := by
    have h1 := hperm
    simp [hsz] at h1
    rw [List.take_of_length_le (by omega)] at h1
    exact h1
  have ed : d' = d'.toList.toArray := by simp
  have hw : sortWorldK enc2 2 w g 0 q d' os = grow (putRow id (Sort.ahead w q) g 0 (flat2 d'.toList).toArray) os := by
    unfold sortWorldK putRowK
    rw [ed, flatK_eq]
  obtain ⟨ho, hgr⟩ := owns_sorted2 (q := q) (os := os) h hsz'
  rw [hw]
  refine ⟨rfl, d'.toList, hsz', fun x => hperm'.mem_iff, ?_, ho, (Below.refl B w).grown hgr (by have := hlt.1; omega) (fun k e => by cases e; exact hlt.1)⟩
  rw [List.pairwise_iff_getElem]
  intro i j hi hj hij
  have := hs i j (Nat.zero_le _) hij (by omega)
  rw [ltOf_cfR, getElem!_pos _ _ (by simpa using hj), getElem!_pos _ _ (by simpa using hi)] at this
  simpa using this

end Go.Proofs.Ytnmidppiakdanaa
