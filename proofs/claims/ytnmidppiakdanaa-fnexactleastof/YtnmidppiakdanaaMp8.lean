/-
  CONTRACTS: maps.Clone of the map of grants; (impl.grantMap).step: one step of all rules.
  Conditions: each contract bears its own.
-/
import Derived.Test.YtnmidppiakdanaaMp4
import Derived.Shelf.SlMaps.Clone
import Derived.Deep.RegionWith
namespace Go.Proofs.Ytnmidppiakdanaa
open Go.RowKit Go.Maps Go.Proofs
set_option linter.unusedVariables false
set_option linter.unusedSimpArgs false

theorem told_c (b : Nat) (f : RoI → Int) (r : RuleI) (w : World) (h : GM w b f) (hc : ruleCode r = 0) :
    Calls Try.prog 113 #[.map (some b), .agg #[.int .i64 r.k, .int .i64 r.ho, .int .i64 r.hn, .int .i64 r.w, .int .i64 r.oo, .int .i64 r.on, .int .i64 r.to, .int .i64 r.tn]] w fun e w' => e = .returned (.int .u8 (byF f r)) ∧ Below w.heap.size w w' := by
  have hk := rule_has hc
  have h4 : r.k = 1 ∨ r.k = 2 ∨ r.k = 3 ∨ r.k = 4 := by omega
  rcases h4 with e | e | e | e
  · exact told_1 b f r w h hc e
  · exact told_2 b f r w h hc e
  · exact told_3 b f r w h hc e
  · exact told_4 b f r w h hc e

set_option maxRecDepth 100000 in
set_option maxHeartbeats 1000000 in
theorem clone_c (b : Nat) (f : RoI → Int) (w : World) (h : GM w b f) :
    Calls Try.prog 117 #[.map (some b)] w fun e w' => e = .returned (.map (some w.heap.size)) ∧ GM w' w.heap.size f ∧ Below w.heap.size w w' := by
  obtain ⟨es, clock, hb, hGM⟩ := fit_of h
  have hq := fun w => run_eql_map_nil_sl (P := Try.prog) w 92 _ _ (some b) mp_map
  go_enter Try.func117, Try.ntmps117
  go_wp2
  rw [run_callFunc_extern Try.func145 (by kernel_rfl) (by kernel_rfl) (by kernel_rfl) (e := Extern.MapsClone.clone) (by kernel_rfl), run_maps_clone_sl w 92 hb]
  simp only [Result.andThen]
  rw [Oper.upon_value]
  go_wp2
  rw [run_typeAssert_map_sl _ 92 _ _ _ _ mp_map]
  simp only [Result.andThen]
  rw [Oper.upon_value]
  go_wp2
  go_ret
  exact ⟨rfl, gm_heap h ((MapKept.heap_alloc w _).1.trans hb.symm), (Below.refl _ w).alloc (Nat.le_refl _) _⟩

theorem Below.turn {B : Nat} {w w1 w2 : World} {b : Nat} (h : Below B w w1) (hB : B ≤ w1.heap.size) (hb : B ≤ b) (hg : w1.grownBy w2 (some b)) : Below B w w2 := h.grown hg hB (fun k e => by cases e; exact hb)

set_option maxRecDepth 100000 in
set_option maxHeartbeats 2000000 in
theorem step_c (b : Nat) (f : RoI → Int) (a : Option Addr) (n cap : Nat) (zs : List RuleI) (w : World) (h : GM w b f) (hr : RulesIn w a n zs) (hn : n ≤ 1000) (hz : ∀ z ∈ zs, ruleCode z = 0) :
    Calls Try.prog 63 #[.map (some b), .slice a n cap] w fun e w' => ∃ b', e = .returned (.map (some b')) ∧ GM w' b' (stepF zs f) ∧ w.heap.size ≤ b' ∧ Below w.heap.size w w' := by
  have HR : Hid (RulesIn w a n zs) := hr
  have HN : Hid (zs.length = n) := hr.1
  have HZ : Hid (∀ z ∈ zs, ruleCode z = 0) := hz
  have HG : Hid (GM w b f) := h
  have hlt := h.lt
  have hn' : (n : Int) ≤ 1000 := by omega
  clear h hr hz
  go_enter Try.func63, Try.ntmps63
  go_wp2_with fail
  refine (clone_c b f _ HG.out).mono ?_
  rintro e w1 ⟨rfl, hG1, hb1⟩
  have HG1 : Hid (GM w1 w.heap.size f) := hG1
  have hs1 := hG1.lt
  clear hG1
  go_wp2
  go_loopw [12] (fun i wr => ∃ k : Nat, k ≤ n ∧ i = .int .i64 (k : Int) ∧ GM wr w.heap.size (stepFTo zs f k) ∧ Below w.heap.size w wr ∧ w.heap.size < wr.heap.size) (fun i _ => n - (intOf i).toNat)
  case atStart => exact ⟨0, Nat.zero_le _, rfl, by simpa [stepFTo] using HG1.out, hb1, hs1⟩
  case round =>
    obtain ⟨k, hk, rfl, hG, hnx, hsz⟩ := hrel
    have HGk : Hid (GM wr w.heap.size (stepFTo zs f k)) := hG
    clear hG
    by_cases hltk : k < n
    · obtain ⟨g, off, z, rfl, hs, hx⟩ := HR.out.at hltk
      have HS : Hid (zs[k]? = some z) := hs
      have hc : ruleCode z = 0 := HZ.out z (List.mem_of_getElem? hs)
      have HC : Hid (ruleCode z = 0) := hc
      have HB : Hid (roleB z.ho z.hn = true ∧ okR z) := ⟨(rule_has hc).2.2.1, (okR_of hc).1⟩
      clear hs hc
      obtain ⟨h0, h1, h2, h3, h4, h5, h6, h7⟩ := hx.below hnx
      clear hx
      have hlt' : (k : Int) < (n : Int) := by omega
      obtain ⟨w2, hw2⟩ : ∃ w2, w2 = wr.alloc (.cells #[.int .i64 z.k, .int .i64 z.ho, .int .i64 z.hn, .int .i64 z.w, .int .i64 z.oo, .int .i64 z.on, .int .i64 z.to, .int .i64 z.tn] 105) := ⟨_, rfl⟩
      have hA : Below wr.heap.size wr w2 := by rw [hw2]; exact (Below.refl _ _).alloc (Nat.le_refl _) _
      have HR2 : Hid (RuleAt w2 wr.heap.size 0 z) := by rw [hw2]; exact RuleAt.new wr z _
      have hsz2 : w2.heap.size = wr.heap.size + 1 := by rw [hw2]; simp
      have hG2 : GM w2 w.heap.size (stepFTo zs f k) := HGk.out.below (by omega) hA
      have hF2 : GM w2 b f := (HG.out.below hlt hnx).below (by omega) hA
      go_wp2
      rw [← hw2]
      clear hw2
      obtain ⟨c0, c1, c2, c3, c4, c5, c6, c7⟩ := HR2.out
      simp only [Nat.zero_add] at c0 c1 c2 c3 c4 c5 c6 c7
      have HT : Hid (∀ W : World, Below w2.heap.size w2 W → Calls Try.prog 113 #[.map (some b), .agg #[.int .i64 z.k, .int .i64 z.ho, .int .i64 z.hn, .int .i64 z.w, .int .i64 z.oo, .int .i64 z.on, .int .i64 z.to, .int .i64 z.tn]] W fun e w' => e = .returned (.int .u8 (byF f z)) ∧ Below W.heap.size W w') := fun W hW => told_c b f z W (hF2.below (by omega) hW) HC.out
      have HV : Hid (∀ W : World, Below w2.heap.size w2 W → Calls Try.prog 112 #[.map (some w.heap.size), .agg #[.int .i64 z.ho, .int .i64 z.hn], .int .u8 (byF f z)] W fun e w' => (∃ t, e = .returned (.bool t)) ∧ GM w' w.heap.size (giveF (stepFTo zs f k) (z.ho, z.hn) (byF f z)) ∧ W.grownBy w' (some w.heap.size)) := fun W hW =>
        (give_c w.heap.size (stepFTo zs f k) (z.ho, z.hn) (byF f z) W (hG2.below (by omega) hW) HB.out.1 (byF_set HG.out.fn.st HB.out.2)).mono (fun e w' q => ⟨⟨_, q.1⟩, q.2.1, q.2.2⟩)
      have HE : Hid (stepFTo zs f (k + 1) = giveF (stepFTo zs f k) (z.ho, z.hn) (byF f z)) := stepFTo_succ HS.out f
      have hnx2 : Below w.heap.size w w2 := hnx.trans (hA.mono (by omega))
      clear hG2 hF2 h0 h1 h2 h3 h4 h5 h6 h7 hA
      go_region_with (first
        | (go_at_call 113; refine (HT.out w2.drew (Below.refl _ w2).drew).mono ?_; rintro e w3 ⟨rfl, hb3d⟩; have hb3 : Below w2.heap.size w2 w3 := (Below.refl _ w2).drew.trans hb3d; clear hb3d; have q1 := (hb3.cell (p := ⟨wr.heap.size, 1, none⟩) (by show wr.heap.size < w2.heap.size; omega)).trans c1; have q2 := (hb3.cell (p := ⟨wr.heap.size, 2, none⟩) (by show wr.heap.size < w2.heap.size; omega)).trans c2)
        | (go_at_call 112; refine (HV.out _ hb3).mono ?_; rintro e w4 ⟨⟨t, rfl⟩, hG4, hg4⟩))
      all_goals go_wp2
      all_goals
        have hb23 : Below w.heap.size w w3 := hnx2.trans (hb3.mono (by show w.heap.size ≤ w2.heap.size; omega))
        have hsz3 : w2.heap.size ≤ w3.heap.size := hb3.size
        exact ⟨⟨k + 1, by omega, by go_num, by rw [HE.out]; exact hG4, Below.turn hb23 hb23.size (Nat.le_refl _) hg4, by have := hg4.size; omega⟩, by simp [intOf]; omega⟩
    · have hkn : k = n := by omega
      subst hkn
      go_wp2
      go_ret
      refine ⟨w.heap.size, rfl, ?_, Nat.le_refl _, hnx⟩
      unfold stepF
      rw [HN.out]
      exact HGk.out

end Go.Proofs.Ytnmidppiakdanaa
