/-
  CONTRACTS: slices.Index and slices.Contains over roles; impl.leansOn.
  Conditions: each contract bears its own.
-/
import Derived.Test.YtnmidppiakdanaaMp4
import Derived.Test.YtnmidppiakdanaaRol4
import Derived.Test.YtnmidppiakdanaaGr2
import Derived.Deep.RegionWith
namespace Go.Proofs.Ytnmidppiakdanaa
open Go.RowKit
set_option linter.unusedVariables false
set_option linter.unusedSimpArgs false

/-- Roles in memory. -/
def RosIn (w : World) (a : Option Addr) (n : Nat) (xs : List RoI) : Prop := xs.length = n ∧ (0 < n → ∃ b off, a = some ⟨b, off, none⟩ ∧ ∀ k r, xs[k]? = some r → w.cell? ⟨b, off + k * 2, none⟩ = some (.int .i64 r.1) ∧ w.cell? ⟨b, off + k * 2 + 1, none⟩ = some (.int .i64 r.2))

theorem RosIn.below {w w' : World} {a : Option Addr} {n : Nat} {xs : List RoI} (h : RosIn w a n xs) (hb : Below w.heap.size w w') : RosIn w' a n xs := by
  refine ⟨h.1, fun hn => ?_⟩
  obtain ⟨b, off, e, k⟩ := h.2 hn
  refine ⟨b, off, e, fun j r hr => ?_⟩
  obtain ⟨h1, h2⟩ := k j r hr
  exact ⟨(hb.cell (p := ⟨b, off + j * 2, none⟩) (World.block_lt_of_cell? w ⟨b, off + j * 2, none⟩ h1)).trans h1, (hb.cell (p := ⟨b, off + j * 2 + 1, none⟩) (World.block_lt_of_cell? w ⟨b, off + j * 2 + 1, none⟩ h2)).trans h2⟩

theorem rosIn_of {w : World} {g : Nat} {xs : List RoI} (h : ∀ j u, (flat2 xs)[j]? = some u → w.cell? ((⟨g, 0, none⟩ : Addr).add j) = some u) : RosIn w (some ⟨g, 0, none⟩) xs.length xs := by
  refine ⟨rfl, fun _ => ⟨g, 0, rfl, fun k r hr => ?_⟩⟩
  have h1 := h _ _ (flat2_fst xs k r hr)
  have h2 := h _ _ (flat2_snd xs k r hr)
  rw [Go.WideShapes.add_plain] at h1 h2
  rw [Nat.zero_add] at h1 h2 ⊢
  exact ⟨h1, h2⟩

theorem mem_takeR (zs : List RoI) (k : Nat) (r : RoI) : r ∈ zs.take k ↔ ∃ j, j < k ∧ zs[j]? = some r := by
  rw [List.mem_iff_getElem?]
  constructor
  · rintro ⟨j, hj⟩
    rw [List.getElem?_take] at hj
    by_cases h : j < k
    · rw [if_pos h] at hj; exact ⟨j, h, hj⟩
    · rw [if_neg h] at hj; cases hj
  · rintro ⟨j, h, hj⟩
    exact ⟨j, by rw [List.getElem?_take, if_pos h]; exact hj⟩

attribute [local go_sem ↓] ro_eql

set_option maxHeartbeats 1000000 in
theorem slIndexR_c (a : Option Addr) (n cap : Nat) (zs : List RoI) (r : RoI) (w : World) (hn : n ≤ 1048576) (h : RosIn w a n zs) :
    Calls Try.prog 162 #[.slice a n cap, .agg #[.int .i64 r.1, .int .i64 r.2]] w fun e w' => (∃ i : Int, e = .returned (.int .i64 i) ∧ ((0 ≤ i ∧ r ∈ zs) ∨ (i = -1 ∧ ¬ r ∈ zs))) ∧ Below w.heap.size w w' := by
  have H : Hid (RosIn w a n zs) := h
  have hz : Hid (zs.length = n) := h.1
  clear h
  have hn' : (n : Int) ≤ 1048576 := by omega
  go_enter Try.func162, Try.ntmps162
  go_wp2
  go_loopw [8] (fun i wr => ∃ k : Nat, k ≤ n ∧ i = .int .i64 (k : Int) ∧ ¬ r ∈ zs.take k ∧ ∃ m, wr = (w.alloc (.cells #[.int .i64 r.1, .int .i64 r.2] 35)).drewN m) (fun i _ => n - (intOf i).toNat)
  case atStart => exact ⟨0, Nat.zero_le _, rfl, by simp, 0, rfl⟩
  case round =>
    obtain ⟨k, hk, rfl, hm, m, rfl⟩ := hrel
    have HM : Hid (¬ r ∈ zs.take k) := hm
    clear hm
    by_cases hlt : k < n
    · obtain ⟨b, off, rfl, hcells⟩ := H.out.2 (by omega)
      obtain ⟨s, hs⟩ : ∃ s, zs[k]? = some s := ⟨_, List.getElem?_eq_getElem (by rw [hz.out]; exact hlt)⟩
      obtain ⟨h0, h1⟩ := hcells k s hs
      have HS : Hid (zs[k]? = some s) := hs
      clear hs hcells
      have hb : b < w.heap.size := World.block_lt_of_cell? w ⟨b, off + k * 2, none⟩ h0
      have b0 : (w.alloc (.cells #[.int .i64 r.1, .int .i64 r.2] 35)).cell? ⟨w.heap.size, 0, none⟩ = some (.int .i64 r.1) := by simp
      have b1 : (w.alloc (.cells #[.int .i64 r.1, .int .i64 r.2] 35)).cell? ⟨w.heap.size, 1, none⟩ = some (.int .i64 r.2) := by simp
      have hlt' : (k : Int) < (n : Int) := by omega
      cases hsame : eqRo r s
      · have HN : Hid (¬ r ∈ zs.take (k + 1)) := by
          show ¬ r ∈ zs.take (k + 1)
          rw [mem_takeR]
          rintro ⟨j, hj, hjs⟩
          by_cases e : j = k
          · subst e
            rw [HS.out] at hjs
            have := (eqRo_iff r s).2 (Option.some.inj hjs).symm
            rw [hsame] at this; cases this
          · exact HM.out ((mem_takeR _ _ _).2 ⟨j, by omega, hjs⟩)
        go_wp2
        go_quiet (fail)
        go_wp2
        exact ⟨⟨k + 1, by omega, by go_num, HN.out, _, rfl⟩, by simp [intOf]; omega⟩
      · have HI : Hid (r ∈ zs) := by
          show r ∈ zs
          rw [(eqRo_iff r s).1 hsame]
          exact List.mem_of_getElem? HS.out
        go_wp2
        go_quiet (fail)
        go_wp2
        go_ret
        exact ⟨⟨_, rfl, Or.inl ⟨by omega, HI.out⟩⟩, by first | exact bdN ((Below.refl _ _).alloc (Nat.le_refl _) _) _ | exact bdN (bdN ((Below.refl _ _).alloc (Nat.le_refl _) _) _) _⟩
    · have hkn : k = n := by omega
      subst hkn
      have HN : Hid (¬ r ∈ zs) := by
        have := HM.out
        rw [List.take_of_length_le (by rw [hz.out]; exact Nat.le_refl _)] at this
        exact this
      go_wp2
      go_ret
      exact ⟨⟨_, rfl, Or.inr ⟨rfl, HN.out⟩⟩, bdN (by go_grown) _⟩

set_option maxHeartbeats 400000 in
theorem slContainsR_c (a : Option Addr) (n cap : Nat) (zs : List RoI) (r : RoI) (w : World) (hn : n ≤ 1048576) (h : RosIn w a n zs) :
    Calls Try.prog 142 #[.slice a n cap, .agg #[.int .i64 r.1, .int .i64 r.2]] w fun e w' => e = .returned (.bool (decide (r ∈ zs))) ∧ Below w.heap.size w w' := by
  have H : Hid (RosIn (w.alloc (.cells #[.int .i64 r.1, .int .i64 r.2] 35)) a n zs) := h.below ((Below.refl _ _).alloc (Nat.le_refl _) _)
  clear h
  go_enter Try.func142, Try.ntmps142
  go_wp2_with fail
  refine (slIndexR_c a n cap zs r _ hn H.out).mono ?_
  rintro e w1 ⟨⟨i, rfl, hi⟩, hb1⟩
  have HX : Hid (decide (0 ≤ i) = decide (r ∈ zs)) := by
    show decide (0 ≤ i) = decide (r ∈ zs)
    rcases hi with ⟨h1, h2⟩ | ⟨rfl, h2⟩
    · simp [h1, h2]
    · simp [h2]
  clear hi
  go_wp2
  go_ret
  exact ⟨by rw [HX.out]; rfl, below_new hb1⟩

attribute [local go_sem] ta11 ta12 ta13 ta14 ta21 ta22 ta23 ta24 ta31 ta32 ta33 ta34 ta41 ta42 ta43 ta44

/-- Two boxes ahead of a call that leaves them. -/
theorem boxes2 {w w1 : World} {o1 : Obj} {h0 h1 : Value} {t : TypeId} (hb : Below ((w.alloc o1).alloc (.cells #[h0, h1] t)).heap.size ((w.alloc o1).alloc (.cells #[h0, h1] t)) w1) :
    w1.cell? ⟨w.heap.size + 1, 0, none⟩ = some h0 ∧ w1.cell? ⟨w.heap.size + 1, 1, none⟩ = some h1 ∧ w.heap.size + 2 ≤ w1.heap.size ∧ Below w.heap.size w w1 := by
  have hz := hb.size
  simp only [World.size_alloc] at hz
  refine ⟨(hb.cell (p := ⟨w.heap.size + 1, 0, none⟩) (by simp)).trans (by simp), (hb.cell (p := ⟨w.heap.size + 1, 1, none⟩) (by simp)).trans (by simp), hz, below_new (below_new hb)⟩

theorem boxes3 {w w1 : World} {h0 h1 : Value} {b : Nat} (o : Obj) (c0 : w1.cell? ⟨b, 0, none⟩ = some h0) (c1 : w1.cell? ⟨b, 1, none⟩ = some h1) (hz : b < w1.heap.size) (hb : Below w.heap.size w w1) :
    ∃ W, w1.alloc o = W ∧ W.cell? ⟨b, 0, none⟩ = some h0 ∧ W.cell? ⟨b, 1, none⟩ = some h1 ∧ b < W.heap.size ∧ Below w.heap.size w W := by
  have hA : Below w1.heap.size w1 (w1.alloc o) := (Below.refl _ _).alloc (Nat.le_refl _) _
  exact ⟨_, rfl, (hA.cell (p := ⟨b, 0, none⟩) hz).trans c0, (hA.cell (p := ⟨b, 1, none⟩) hz).trans c1, Nat.lt_of_lt_of_le hz hA.size, hb.alloc hb.size _⟩

set_option maxRecDepth 100000 in
set_option maxHeartbeats 1000000 in
theorem leans_1 (r : RuleI) (h : RoI) (w : World) (e1 : r.k = 1) :
    Calls Try.prog 114 #[.agg #[.int .i64 r.k, .int .i64 r.ho, .int .i64 r.hn, .int .i64 r.w, .int .i64 r.oo, .int .i64 r.on, .int .i64 r.to, .int .i64 r.tn], .agg #[.int .i64 h.1, .int .i64 h.2]] w fun e w' => e = .returned (.bool (leansB r h)) ∧ Below w.heap.size w w' := by
  obtain ⟨t, ht⟩ : ∃ t, leansB r h = t := ⟨_, rfl⟩
  have HT : Hid (decide (h ∈ ([] : List RoI)) = t) := by rw [← ht]; show _ = leansB r h; simp [leansB, bodyR, e1]
  rw [ht]
  have E1 : Hid (r.k = 1) := e1
  clear e1 ht
  go_enter Try.func114, Try.ntmps114
  go_wp2_with (first | (go_at_call 76; refine (bodyOf_1 r E1.out _).mono ?_; rintro e w1 ⟨rfl, hb0⟩; obtain ⟨c0, c1, hz, hb⟩ := boxes2 hb0; clear hb0) | go_in)
  obtain ⟨W, hW, p0, p1, hzW, hbW⟩ := boxes3 (.cells #[.int .i64 0, .int .i64 0, .int .i64 0] 171) c0 c1 (by omega) hb
  rw [hW]
  clear hW c0 c1 hz hb
  go_region_with (first
    | (go_at_call 189; refine (roles_1 _ _).mono ?_; rintro e w2 ⟨rfl, hb2⟩; have q0 : w2.cell? ⟨w.heap.size + 1, 0, none⟩ = some (.int .i64 h.1) := (hb2.cell (p := ⟨w.heap.size + 1, 0, none⟩) hzW).trans p0; have q1 : w2.cell? ⟨w.heap.size + 1, 1, none⟩ = some (.int .i64 h.2) := (hb2.cell (p := ⟨w.heap.size + 1, 1, none⟩) hzW).trans p1)
    | (go_at_call 142; refine (slContainsR_c none 0 0 [] h _ (by omega) ⟨rfl, fun q => by omega⟩).mono ?_; rintro e w3 ⟨he3, hb3⟩; rw [HT.out] at he3; subst he3))
  all_goals go_wp2
  all_goals go_ret
  all_goals exact ⟨rfl, (hbW.drew.trans (hb2.mono hbW.size)).trans (hb3.mono (Nat.le_trans hbW.size hb2.size))⟩

set_option maxRecDepth 100000 in
set_option maxHeartbeats 1000000 in
theorem leans_2 (r : RuleI) (h : RoI) (w : World) (e1 : r.k = 2) :
    Calls Try.prog 114 #[.agg #[.int .i64 r.k, .int .i64 r.ho, .int .i64 r.hn, .int .i64 r.w, .int .i64 r.oo, .int .i64 r.on, .int .i64 r.to, .int .i64 r.tn], .agg #[.int .i64 h.1, .int .i64 h.2]] w fun e w' => e = .returned (.bool (leansB r h)) ∧ Below w.heap.size w w' := by
  obtain ⟨t, ht⟩ : ∃ t, leansB r h = t := ⟨_, rfl⟩
  have HT : Hid (decide (h ∈ [(r.oo, r.on)]) = t) := by rw [← ht]; show _ = leansB r h; simp [leansB, bodyR, e1]
  rw [ht]
  have E1 : Hid (r.k = 2) := e1
  clear e1 ht
  go_enter Try.func114, Try.ntmps114
  go_wp2_with (first | (go_at_call 76; refine (bodyOf_2 r E1.out _).mono ?_; rintro e w1 ⟨rfl, hb0⟩; obtain ⟨c0, c1, hz, hb⟩ := boxes2 hb0; clear hb0) | go_in)
  obtain ⟨W, hW, p0, p1, hzW, hbW⟩ := boxes3 (.cells #[.int .i64 0, .int .i64 0, .int .i64 0] 171) c0 c1 (by omega) hb
  rw [hW]
  clear hW c0 c1 hz hb
  go_region_with (first
    | (go_at_call 190; refine (roles_2 _ _ _).mono ?_; rintro e w2 ⟨g, rfl, hc2, hb2⟩; have HC2 : Hid (RosIn w2 (some ⟨g, 0, none⟩) ([(r.oo, r.on)]).length ([(r.oo, r.on)])) := rosIn_of hc2; clear hc2; have q0 : w2.cell? ⟨w.heap.size + 1, 0, none⟩ = some (.int .i64 h.1) := (hb2.cell (p := ⟨w.heap.size + 1, 0, none⟩) hzW).trans p0; have q1 : w2.cell? ⟨w.heap.size + 1, 1, none⟩ = some (.int .i64 h.2) := (hb2.cell (p := ⟨w.heap.size + 1, 1, none⟩) hzW).trans p1)
    | (go_at_call 142; refine (slContainsR_c _ _ _ [(r.oo, r.on)] h _ (by simp) HC2.out).mono ?_; rintro e w3 ⟨he3, hb3⟩; rw [HT.out] at he3; subst he3))
  all_goals go_wp2
  all_goals go_ret
  all_goals exact ⟨rfl, (hbW.drew.trans (hb2.mono hbW.size)).trans (hb3.mono (Nat.le_trans hbW.size hb2.size))⟩

set_option maxRecDepth 100000 in
set_option maxHeartbeats 1000000 in
theorem leans_3 (r : RuleI) (h : RoI) (w : World) (e1 : r.k = 3) (e3 : r.tn ≠ h.2) :
    Calls Try.prog 114 #[.agg #[.int .i64 r.k, .int .i64 r.ho, .int .i64 r.hn, .int .i64 r.w, .int .i64 r.oo, .int .i64 r.on, .int .i64 r.to, .int .i64 r.tn], .agg #[.int .i64 h.1, .int .i64 h.2]] w fun e w' => e = .returned (.bool (leansB r h)) ∧ Below w.heap.size w w' := by
  obtain ⟨t, ht⟩ : ∃ t, leansB r h = t := ⟨_, rfl⟩
  have HT : Hid (decide (h ∈ [(r.oo, r.on)]) = t) := by rw [← ht]; show _ = leansB r h; simp [leansB, bodyR, e1, e3]
  rw [ht]
  have b3 : (r.tn == h.2) = false := by simp [e3]
  have E1 : Hid (r.k = 3) := e1
  clear e1 ht e3
  go_enter Try.func114, Try.ntmps114
  go_wp2_with (first | (go_at_call 76; refine (bodyOf_3 r E1.out _).mono ?_; rintro e w1 ⟨rfl, hb0⟩; obtain ⟨c0, c1, hz, hb⟩ := boxes2 hb0; clear hb0; have hlt1 : w.heap.size + 1 < w1.heap.size := by omega) | go_in)
  obtain ⟨W, hW, p0, p1, hzW, hbW⟩ := boxes3 (.cells #[.int .i64 r.oo, .int .i64 r.on, .int .i64 r.tn] 171) c0 c1 (by omega) hb
  rw [hW]
  clear hW c0 c1 hz hb hlt1
  go_region_with (first
    | (go_at_call 191; refine (roles_3 _ _ _ _).mono ?_; rintro e w2 ⟨g, rfl, hc2, hb2⟩; have HC2 : Hid (RosIn w2 (some ⟨g, 0, none⟩) ([(r.oo, r.on)]).length ([(r.oo, r.on)])) := rosIn_of hc2; clear hc2; have q0 : w2.cell? ⟨w.heap.size + 1, 0, none⟩ = some (.int .i64 h.1) := (hb2.cell (p := ⟨w.heap.size + 1, 0, none⟩) hzW).trans p0; have q1 : w2.cell? ⟨w.heap.size + 1, 1, none⟩ = some (.int .i64 h.2) := (hb2.cell (p := ⟨w.heap.size + 1, 1, none⟩) hzW).trans p1)
    | (go_at_call 142; refine (slContainsR_c _ _ _ [(r.oo, r.on)] h _ (by simp) HC2.out).mono ?_; rintro e w3 ⟨he3, hb3⟩; rw [HT.out] at he3; subst he3))
  all_goals go_wp2
  all_goals go_ret
  all_goals exact ⟨rfl, (hbW.drew.trans (hb2.mono hbW.size)).trans (hb3.mono (Nat.le_trans hbW.size hb2.size))⟩

set_option maxRecDepth 100000 in
set_option maxHeartbeats 1000000 in
theorem leans_4 (r : RuleI) (h : RoI) (w : World) (e1 : r.k = 4) :
    Calls Try.prog 114 #[.agg #[.int .i64 r.k, .int .i64 r.ho, .int .i64 r.hn, .int .i64 r.w, .int .i64 r.oo, .int .i64 r.on, .int .i64 r.to, .int .i64 r.tn], .agg #[.int .i64 h.1, .int .i64 h.2]] w fun e w' => e = .returned (.bool (leansB r h)) ∧ Below w.heap.size w w' := by
  obtain ⟨t, ht⟩ : ∃ t, leansB r h = t := ⟨_, rfl⟩
  have HT : Hid (decide (h ∈ [(r.oo, r.on), (r.to, r.tn)]) = t) := by rw [← ht]; show _ = leansB r h; simp [leansB, bodyR, e1]
  rw [ht]
  have E1 : Hid (r.k = 4) := e1
  clear e1 ht
  go_enter Try.func114, Try.ntmps114
  go_wp2_with (first | (go_at_call 76; refine (bodyOf_4 r E1.out _).mono ?_; rintro e w1 ⟨rfl, hb0⟩; obtain ⟨c0, c1, hz, hb⟩ := boxes2 hb0; clear hb0) | go_in)
  obtain ⟨W, hW, p0, p1, hzW, hbW⟩ := boxes3 (.cells #[.int .i64 0, .int .i64 0, .int .i64 0] 171) c0 c1 (by omega) hb
  rw [hW]
  clear hW c0 c1 hz hb
  go_region_with (first
    | (go_at_call 192; refine (roles_4 _ _ _ _ _).mono ?_; rintro e w2 ⟨g, rfl, hc2, hb2⟩; have HC2 : Hid (RosIn w2 (some ⟨g, 0, none⟩) ([(r.oo, r.on), (r.to, r.tn)]).length ([(r.oo, r.on), (r.to, r.tn)])) := rosIn_of hc2; clear hc2; have q0 : w2.cell? ⟨w.heap.size + 1, 0, none⟩ = some (.int .i64 h.1) := (hb2.cell (p := ⟨w.heap.size + 1, 0, none⟩) hzW).trans p0; have q1 : w2.cell? ⟨w.heap.size + 1, 1, none⟩ = some (.int .i64 h.2) := (hb2.cell (p := ⟨w.heap.size + 1, 1, none⟩) hzW).trans p1)
    | (go_at_call 142; refine (slContainsR_c _ _ _ [(r.oo, r.on), (r.to, r.tn)] h _ (by simp) HC2.out).mono ?_; rintro e w3 ⟨he3, hb3⟩; rw [HT.out] at he3; subst he3))
  all_goals go_wp2
  all_goals go_ret
  all_goals exact ⟨rfl, (hbW.drew.trans (hb2.mono hbW.size)).trans (hb3.mono (Nat.le_trans hbW.size hb2.size))⟩

set_option maxRecDepth 100000 in
set_option maxHeartbeats 1000000 in
theorem leans_3t (r : RuleI) (h : RoI) (w : World) (e1 : r.k = 3) (e3 : r.tn = h.2) :
    Calls Try.prog 114 #[.agg #[.int .i64 r.k, .int .i64 r.ho, .int .i64 r.hn, .int .i64 r.w, .int .i64 r.oo, .int .i64 r.on, .int .i64 r.to, .int .i64 r.tn], .agg #[.int .i64 h.1, .int .i64 h.2]] w fun e w' => e = .returned (.bool (leansB r h)) ∧ Below w.heap.size w w' := by
  have E : leansB r h = true := by simp [leansB, e1, e3]
  rw [E]
  have b3 : (r.tn == h.2) = true := by simp [e3]
  have E1 : Hid (r.k = 3) := e1
  clear e1 E e3
  go_enter Try.func114, Try.ntmps114
  go_wp2_with (first | (go_at_call 76; refine (bodyOf_3 r E1.out _).mono ?_; rintro e w1 ⟨rfl, hb0⟩; obtain ⟨c0, c1, hz, hb⟩ := boxes2 hb0; clear hb0; have hlt1 : w.heap.size + 1 < w1.heap.size := by omega) | go_in)
  go_ret
  exact ⟨rfl, hb.alloc hb.size _⟩

theorem leansOn_c (r : RuleI) (h : RoI) (w : World) (hk : 1 ≤ r.k ∧ r.k ≤ 4) :
    Calls Try.prog 114 #[.agg #[.int .i64 r.k, .int .i64 r.ho, .int .i64 r.hn, .int .i64 r.w, .int .i64 r.oo, .int .i64 r.on, .int .i64 r.to, .int .i64 r.tn], .agg #[.int .i64 h.1, .int .i64 h.2]] w fun e w' => e = .returned (.bool (leansB r h)) ∧ Below w.heap.size w w' := by
  have h4 : r.k = 1 ∨ r.k = 2 ∨ r.k = 3 ∨ r.k = 4 := by omega
  rcases h4 with e | e | e | e
  · exact leans_1 r h w e
  · exact leans_2 r h w e
  · by_cases q : r.tn = h.2
    · exact leans_3t r h w e q
    · exact leans_3 r h w e q
  · exact leans_4 r h w e

end Go.Proofs.Ytnmidppiakdanaa
