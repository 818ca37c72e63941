/-
  CONTRACT: impl.settle: the worklist of rules, done by jumps: what comes of it is all that follows.
  Conditions: each contract bears its own.
  CONTRACTS: maps.Keys of the map of grants: its iterator tells each role that somebody has, once, in some order.
  Conditions: each contract bears its own.
  NOTHING: this program sorts nothing (its place in the order of the texts is kept).
  Conditions: none.
  CONTRACT: slices.SortFunc over roles, by impl.compareRoles.
  Conditions: each contract bears its own.
-/
import Derived.Test.YtnfolmjdicfobaaGreatDoorPl18
import Derived.Test.YtnfolmjdicfobaaGreatDoorPl15
import Derived.RangeFuncSeq
import Derived.RangeFuncGives
import Derived.Sort.MapsRangeIn
import Derived.Shelf.SlSortCmp.WholeK
import Derived.Test.YtnfolmjdicfobaaGreatDoorProg
import Derived.Test.YtnfolmjdicfobaaGreatDoorPl17
import Derived.Sort.OwnSorted
namespace Go.Proofs.YtnfolmjdicfobaaGreatDoor
open Go.RowKit Go.Maps
set_option linter.unusedVariables false
set_option linter.unusedSimpArgs false

set_option maxRecDepth 100000 in
set_option maxHeartbeats 2000000 in
theorem settle_c (a : Option Addr) (n cap : Nat) (zs : List RuleI) (w : World) (hr : RulesIn w a n zs) (hn : n ≤ 16) (hp : polCode zs = 0) :
    Calls Tryz.prog 89 #[.slice a n cap] w fun e w' => ∃ b f, e = .returned (.map (some b)) ∧ GM w' b f ∧ Work zs f [] ∧ w.heap.size ≤ b ∧ Below w.heap.size w w' := by
  have HR : Hid (RulesIn w a n zs) := hr
  have HP : Hid (polCode zs = 0) := hp
  clear hr hp
  obtain ⟨i0, hi, hz0, hz1, hz2⟩ := info_parts Tryz.info81
  go_enter Tryz.func89, Tryz.ntmps89
  go_wp2
  refine wp_scope_two (fun l m t W => ∃ g5, atL w zs a n cap w.heap.size g5 l m t W) rfl rfl ?hJ ?first ?core0 ?core1
  case hJ =>
    rintro l m t W ⟨g5, f, ws, v4, u1, u6, u7, u8, u9, u10, u11, u12, u13, u14, u15, u16, u17, u18, u19, u20, u21, u22, u23, u24, u25, u26, u27, u28, u29, u30, u31, u32, u33, u34, u35, u36, u37, u38, u39, u40, u41, u42, u43, u44, u45, u46, u47, e, hs, (⟨rfl, _⟩ | ⟨rfl, _⟩)⟩
    · exact .inl rfl
    · exact .inr rfl
  case first =>
    intro pass
    have HPs : Hid _ := pass
    have h1 : Below w.heap.size w (w.alloc (.map #[] 0)) := (Below.refl _ _).alloc (Nat.le_refl _) _
    have hG1 := gm_made w
    have hs1 : (w.alloc (.map #[] 0)).heap.size = w.heap.size + 1 := World.size_alloc _ _
    have HR1 := HR.out.below h1
    have hmk : (Instr.makeMap 128 none).run Tryz.prog w = .ok (.map (some w.heap.size)) (w.alloc (.map #[] 0)) := run_makeMap _ w
    generalize hw1 : w.alloc (.map #[] 0) = w1 at *
    have hnd := pol_nodup HP.out
    have hzl := HR.out.1
    go_wp2_with (first | (go_at_call 124; refine (cloneR_c a n cap zs w1 (by omega) HR1).mono ?_; rintro e w2 ⟨v, rfl, hv0, hvq, hb2⟩) | go_in)
    go_step3
    rename_i hK0
    refine hK0 _ _ ?_
    clear hK0
    have hz2' := hb2.size
    have hA : Below w2.heap.size w2 (w2.alloc (.cells #[.int .i64 0, .int .i64 0, .int .i64 0, .int .i64 0, .int .i64 0, .int .i64 0, .int .i64 0, .int .i64 0] 81)) := (Below.refl _ _).alloc (Nat.le_refl _) _
    have hb02 : Below w.heap.size w w2 := h1.trans (hb2.mono (by omega))
    refine wp_weaken (Q := jumpsTo (fun l' a' w' => ∃ m', m' < meas zeroF (2 * zs.length + 1) ∧ ∃ g5, atL w zs a n cap w.heap.size g5 l' m' a' w') _) ?_ (jumps_weaken (fun l a w q => q.elim (fun m' q2 => ⟨m', q2.2⟩)))
    refine HPs.out (meas zeroF (2 * zs.length + 1)) _ _ ?_
    refine ⟨w2.heap.size, zeroF, zs, v, _, _, _, _, _, _, _, _, _, _, _, _, _, _, _, _, _, _, _, _, _, _, _, _, _, _, _, _, _, _, _, _, _, _, _, _, _, _, _, _, _, _, _, rfl, ⟨hb02.trans (hA.mono (by omega)), (hG1.below hG1.lt hb2).below (by omega) hA, ⟨fun j hj => ?_, fun j => ?_⟩, by simp, by omega, by omega, Nat.le_refl _⟩, .inl ⟨rfl, ?_, fun hne => ?_, work_start hnd, rfl⟩⟩
    · have hj8 : j = 0 ∨ j = 1 ∨ j = 2 ∨ j = 3 ∨ j = 4 ∨ j = 5 ∨ j = 6 ∨ j = 7 := by omega
      rcases hj8 with rfl | rfl | rfl | rfl | rfl | rfl | rfl | rfl <;> exact ⟨.int .i64 0, by unfold World.cell?; rw [World.alloc_heap_new]; rfl⟩
    · unfold World.frozen?
      rw [World.alloc_heap_new]
      simp
    · by_cases q : n = 0
      · obtain ⟨a', c', e⟩ := hv0 q
        exact ⟨a', c', by rw [e, hzl, q]⟩
      · obtain ⟨g, off, c, e, _⟩ := hvq (by omega)
        exact ⟨_, _, e⟩
    · have hnp : 0 < n := by
        rw [← hzl]
        exact List.length_pos_iff.2 hne
      obtain ⟨g, off, c, e, q⟩ := hvq hnp
      have := q.old
      have := q.lt
      exact ⟨g, off, c, e, ⟨by omega, (q.below q.lt hA).lt, (q.below q.lt hA).at', q.le, (q.below q.lt hA).room⟩, by omega, by omega⟩
  case core0 =>
    rintro m t W ⟨g5, f, ws, v4, u1, u6, u7, u8, u9, u10, u11, u12, u13, u14, u15, u16, u17, u18, u19, u20, u21, u22, u23, u24, u25, u26, u27, u28, u29, u30, u31, u32, u33, u34, u35, u36, u37, u38, u39, u40, u41, u42, u43, u44, u45, u46, u47, rfl, hs, (⟨_, ⟨av, cv, rfl⟩, hq, hw, rfl⟩ | ⟨q, _⟩)⟩
    case inr => cases q
    rcases ws with _ | ⟨z, ws⟩
    · have HS : Hid (SetS w w.heap.size g5 f W) := hs
      have HW : Hid (Work zs f []) := hw
      clear hs hw hq
      skip
      go_wp2
      simp only [jumpsTo]
      go_ret
      exact ⟨w.heap.size, f, rfl, HS.out.gm, HW.out, Nat.le_refl _, HS.out.below⟩
    · obtain ⟨g, off, c, e, Q, hne5, hneb⟩ := hq (by simp)
      simp only [List.length_cons] at e
      cases e
      obtain ⟨k, hk⟩ : ∃ k, ws.length = k := ⟨_, rfl⟩
      have HK : Hid (ws.length = k) := hk
      have hkc : k + 1 ≤ cv := by have := Q.le; simp only [List.length_cons] at this; omega
      have hlz : k + 1 ≤ 16 := by
        have := hw.len
        simp only [List.length_cons] at this
        have := HR.out.1
        omega
      simp only [List.length_cons, hk]
      obtain ⟨h0, h1, h2, h3, h4, h5, h6, h7⟩ := Q.at' 0 z rfl
      simp only [Nat.zero_mul, Nat.add_zero] at h0 h1 h2 h3 h4 h5 h6 h7
      obtain ⟨v0, c0⟩ := hs.room.1 0 (by omega)
      obtain ⟨v1, c1⟩ := hs.room.1 1 (by omega)
      obtain ⟨v2, c2⟩ := hs.room.1 2 (by omega)
      obtain ⟨v3, c3⟩ := hs.room.1 3 (by omega)
      obtain ⟨v4, c4⟩ := hs.room.1 4 (by omega)
      obtain ⟨v5, c5⟩ := hs.room.1 5 (by omega)
      obtain ⟨v6, c6⟩ := hs.room.1 6 (by omega)
      obtain ⟨v7, c7⟩ := hs.room.1 7 (by omega)
      have f0 := hs.room.2 0
      have f1 := hs.room.2 1
      have f2 := hs.room.2 2
      have f3 := hs.room.2 3
      have f4 := hs.room.2 4
      have f5 := hs.room.2 5
      have f6 := hs.room.2 6
      have f7 := hs.room.2 7
      have HS : Hid (SetS w w.heap.size g5 f W) := hs
      have HW : Hid (Work zs f (z :: ws)) := hw
      have HQ : Hid (QAt W w.heap.size g off cv (z :: ws)) := Q
      have i0' : (0 : Int) < (k : Int) + 1 := by omega
      have i1 : (1 : Int) ≤ (k : Int) + 1 := by omega
      have i2 : (k : Int) + 1 ≤ (cv : Int) := by omega
      have i3 : (k : Int) + 1 ≤ 16 := by omega
      clear hs hw hq Q hk
      skip
      go_wp2
      go_region
      obtain ⟨X, hX⟩ : ∃ X, X = ((((((((W.setCell ⟨g5, 0, none⟩ (.int .i64 z.k)).setCell ⟨g5, 1, none⟩ (.int .i64 z.ho)).setCell ⟨g5, 2, none⟩ (.int .i64 z.hn)).setCell ⟨g5, 3, none⟩ (.int .i64 z.w)).setCell ⟨g5, 4, none⟩ (.int .i64 z.oo)).setCell ⟨g5, 5, none⟩ (.int .i64 z.on)).setCell ⟨g5, 6, none⟩ (.int .i64 z.to)).setCell ⟨g5, 7, none⟩ (.int .i64 z.tn)) := ⟨_, rfl⟩
      obtain ⟨S1, R1, O1, Z1⟩ := set_put HS.out z hX
      rw [← hX]
      clear hX
      obtain ⟨av', hav⟩ : ∃ av', (if cv = 1 then (some ⟨g, off, none⟩ : Option Addr) else some ⟨g, off + 8, none⟩) = av' := ⟨_, rfl⟩
      rw [hav]
      have HAV : Hid (∀ X' : World, QAt X' w.heap.size g off cv (z :: ws) → QS X' w.heap.size g5 (.slice av' k (cv - 1)) ws) := fun X' q => by
        rw [← hav]
        by_cases e : cv = 1
        · have hk0 : k = 0 := by omega
          have hw0 : ws = [] := List.eq_nil_of_length_eq_zero (by rw [HK.out]; exact hk0)
          subst hw0
          refine ⟨g, off, 0, by rw [if_pos e, e, hk0]; rfl, ?_, hne5, hneb⟩
          have q2 := q.pop
          rw [e] at q2
          exact q2.empty
        · exact ⟨g, off + 8, cv - 1, by rw [if_neg e, HK.out], q.pop, hne5, hneb⟩
      clear hav
      obtain ⟨W1, hW1⟩ : ∃ W1, X.drew = W1 := ⟨_, rfl⟩
      rw [hW1] at S1 R1 O1 Z1 ⊢
      have HS1 : Hid (SetS w w.heap.size g5 f W1) := S1
      have Q1' : QAt W1 w.heap.size g off cv (z :: ws) := HQ.out.kept (by omega) (O1 g hne5)
      have HQ1 : Hid (QAt W1 w.heap.size g off cv (z :: ws)) := Q1'
      have HR1 : Hid (RuleAt W1 g5 0 z) := R1
      obtain ⟨d0, d1, d2, d3, d4, d5, d6, d7⟩ := R1
      simp only [Nat.zero_add] at d0 d1 d2 d3 d4 d5 d6 d7
      have hlt5 : g5 < W1.heap.size := S1.lt5
      have hcz : ruleCode z = 0 := pol_codes HP.out z (HW.out.sub z (by simp))
      have hB : roleB z.ho z.hn = true ∧ okR z := ⟨(rule_has hcz).2.2.1, (okR_of hcz).1⟩
      obtain ⟨t, ht⟩ : ∃ t, (!decide (orI (f (z.ho, z.hn)) (byF f z) = f (z.ho, z.hn))) = t := ⟨_, rfl⟩
      have HT : Hid (∀ X : World, Below W1.heap.size W1 X → Calls Tryz.prog 126 #[.map (some w.heap.size), .agg #[.int .i64 z.k, .int .i64 z.ho, .int .i64 z.hn, .int .i64 z.w, .int .i64 z.oo, .int .i64 z.on, .int .i64 z.to, .int .i64 z.tn]] X fun e w' => e = .returned (.int .u8 (byF f z)) ∧ Below X.heap.size X w') := fun X hX => told_c w.heap.size f z X (HS1.out.gm.below HS1.out.gm.lt hX) hcz
      have HV : Hid (∀ X : World, Below W1.heap.size W1 X → Calls Tryz.prog 125 #[.map (some w.heap.size), .agg #[.int .i64 z.ho, .int .i64 z.hn], .int .u8 (byF f z)] X fun e w' => e = .returned (.bool t) ∧ GM w' w.heap.size (giveF f (z.ho, z.hn) (byF f z)) ∧ X.grownBy w' (some w.heap.size)) := fun X hX =>
        (give_c w.heap.size f (z.ho, z.hn) (byF f z) X (HS1.out.gm.below HS1.out.gm.lt hX) hB.1 (byF_set HS1.out.gm.fn.st hB.2)).mono (fun e w' q => ⟨by rw [q.1, ht], q.2.1, q.2.2⟩)
      have HH : Hid ((!decide (orI (f (z.ho, z.hn)) (byF f z) = f (z.ho, z.hn))) = t ∧ okR z) := ⟨ht, hB.2⟩
      clear h0 h1 h2 h3 h4 h5 h6 h7 c0 c1 c2 c3 c4 c5 c6 c7 f0 f1 f2 f3 f4 f5 f6 f7 S1 O1 Q1' hW1 ht hB hcz
      cases t
      · go_wp2
        go_region_with (first
          | (go_at_call 126; refine (HT.out W1.drew (Below.refl _ W1).drew).mono ?_; rintro e W2 ⟨rfl, hb2d⟩; have hb2 : Below W1.heap.size W1 W2 := (Below.refl _ W1).drew.trans hb2d; clear hb2d; have q1 := (hb2.cell (p := ⟨g5, 1, none⟩) hlt5).trans d1; have q2 := (hb2.cell (p := ⟨g5, 2, none⟩) hlt5).trans d2)
          | (go_at_call 125; refine (HV.out _ hb2).mono ?_; rintro e W3 ⟨rfl, hG3, hg3⟩))
        all_goals go_wp2
        all_goals go_step3
        all_goals
          have hsame : giveF f (z.ho, z.hn) (byF f z) = f := give_same (by simpa using HH.out.1)
          have heq : orI (f (z.ho, z.hn)) (byF f z) = f (z.ho, z.hn) := by simpa using HH.out.1
          rw [hsame] at hG3
          obtain ⟨S3, O3, Z3⟩ := set_turn HS1.out hb2 hg3 hG3
          exact ⟨meas f (2 * ws.length + 1), meas_lt _ _ (by have := HK.out; omega), g5, f, ws, _, _, _, _, _, _, _, _, _, _, _, _, _, _, _, _, _, _, _, _, _, _, _, _, _, _, _, _, _, _, _, _, _, _, _, _, _, _, _, _, _, _, _, _, rfl, S3, .inl ⟨rfl, ⟨_, _, by rw [HK.out]⟩, fun hne => HAV.out W3 (HQ1.out.kept (by omega) (O3 g hneb HQ1.out.lt)), work_stay HW.out HH.out.2 heq, rfl⟩⟩
      · go_wp2
        go_region_with (first
          | (go_at_call 126; refine (HT.out W1.drew (Below.refl _ W1).drew).mono ?_; rintro e W2 ⟨rfl, hb2d⟩; have hb2 : Below W1.heap.size W1 W2 := (Below.refl _ W1).drew.trans hb2d; clear hb2d; have q1 := (hb2.cell (p := ⟨g5, 1, none⟩) hlt5).trans d1; have q2 := (hb2.cell (p := ⟨g5, 2, none⟩) hlt5).trans d2)
          | (go_at_call 125; refine (HV.out _ hb2).mono ?_; rintro e W3 ⟨rfl, hG3, hg3⟩))
        all_goals go_wp2
        all_goals go_step3
        all_goals
          have hneq : orI (f (z.ho, z.hn)) (byF f z) ≠ f (z.ho, z.hn) := by simpa using HH.out.1
          obtain ⟨S3, O3, Z3⟩ := set_turn HS1.out hb2 hg3 hG3
          have hgr : sumF f < sumF (giveF f (z.ho, z.hn) (byF f z)) := sumF_give HS1.out.gm.fn HH.out.2.1 (byF_set HS1.out.gm.fn.st HH.out.2) hneq
          exact ⟨meas (giveF f (z.ho, z.hn) (byF f z)) 500, meas_grow HS1.out.gm.fn hG3.fn hgr _ _ (by omega), g5, giveF f (z.ho, z.hn) (byF f z), ws, _, _, _, _, _, _, _, _, _, _, _, _, _, _, _, _, _, _, _, _, _, _, _, _, _, _, _, _, _, _, _, _, _, _, _, _, _, _, _, _, _, _, _, _, rfl, S3, .inr ⟨rfl, HAV.out W3 (HQ1.out.kept (by omega) (O3 g hneb HQ1.out.lt)), rfl, z, f, rule_kept HR1.out (O3 g5 HS1.out.ne5 hlt5), HW.out, rfl⟩⟩
  case core1 =>
    rintro m t W ⟨g5, f, ws, v4, u1, u6, u7, u8, u9, u10, u11, u12, u13, u14, u15, u16, u17, u18, u19, u20, u21, u22, u23, u24, u25, u26, u27, u28, u29, u30, u31, u32, u33, u34, u35, u36, u37, u38, u39, u40, u41, u42, u43, u44, u45, u46, u47, rfl, hs, (⟨q, _⟩ | ⟨_, hq, rfl, z, f0, hz, hw, rfl⟩)⟩
    case inl => cases q
    have HS0 : Hid (SetS w w.heap.size g5 (giveF f0 (z.ho, z.hn) (byF f0 z)) W) := hs
    have HW : Hid (Work zs f0 (z :: ws)) := hw
    have HQ0 : Hid (QS W w.heap.size g5 v4 ws) := hq
    have HZ0 : Hid (RuleAt W g5 0 z) := hz
    have hn' : (n : Int) ≤ 16 := by omega
    obtain ⟨f, hf⟩ : ∃ f, giveF f0 (z.ho, z.hn) (byF f0 z) = f := ⟨_, rfl⟩
    have HF : Hid (giveF f0 (z.ho, z.hn) (byF f0 z) = f) := hf
    rw [hf] at HS0
    rw [hf]
    clear hs hw hq hz hf
    skip
    go_wp2
    go_loopw [4, 29] (fun v i wr => ∃ k : Nat, k ≤ n ∧ i = .int .i64 (k : Int) ∧ SetS w w.heap.size g5 f wr ∧ QS wr w.heap.size g5 v (wakeTo zs (z.ho, z.hn) ws k) ∧ RuleAt wr g5 0 z) (fun _ i _ => n - (intOf i).toNat)
    case atStart => exact ⟨0, Nat.zero_le _, rfl, HS0.out, by simpa [wakeTo] using HQ0.out, HZ0.out⟩
    case round =>
      obtain ⟨k, hk, rfl, hs, hq, hz⟩ := hrel
      by_cases hlt : k < n
      · obtain ⟨bl, ol, y, rfl, hy, hyx⟩ := HR.out.at hlt
        obtain ⟨g, off, c, rfl, Q, hne5, hneb⟩ := hq
        obtain ⟨L, hL⟩ : ∃ L, (wakeTo zs (z.ho, z.hn) ws k).length = L := ⟨_, rfl⟩
        have HL : Hid ((wakeTo zs (z.ho, z.hn) ws k).length = L) := hL
        rw [hL]
        have HY : Hid (zs[k]? = some y) := hy
        obtain ⟨h0, h1, h2, h3, h4, h5, h6, h7⟩ := hyx.below hs.below
        obtain ⟨w2, hw2⟩ : ∃ w2, w2 = wr.alloc (.cells #[.int .i64 y.k, .int .i64 y.ho, .int .i64 y.hn, .int .i64 y.w, .int .i64 y.oo, .int .i64 y.on, .int .i64 y.to, .int .i64 y.tn] 81) := ⟨_, rfl⟩
        have hA : Below wr.heap.size wr w2 := by rw [hw2]; exact (Below.refl _ _).alloc (Nat.le_refl _) _
        have R2 : RuleAt w2 wr.heap.size 0 y := by rw [hw2]; exact RuleAt.new wr y _
        have hsz2 : w2.heap.size = wr.heap.size + 1 := by rw [hw2]; simp
        have HS2 : Hid (SetS w w.heap.size g5 f w2) := hs.after hA
        have HQ2 : Hid (QAt w2 w.heap.size g off c (wakeTo zs (z.ho, z.hn) ws k)) := Q.below Q.lt hA
        have HZ2 : Hid (RuleAt w2 g5 0 z) := rule_kept hz (hA.block g5 hs.lt5)
        have hlt' : (k : Int) < (n : Int) := by omega
        have hyk : 1 ≤ y.k ∧ y.k ≤ 4 := by have := rule_has (pol_codes HP.out y (List.mem_of_getElem? hy)); exact ⟨this.1, this.2.1⟩
        have HY2 : Hid (RuleAt w2 wr.heap.size 0 y) := R2
        obtain ⟨_, zc1, zc2, _⟩ := hz
        simp only [Nat.zero_add] at zc1 zc2
        have hl5 : g5 < wr.heap.size := hs.lt5
        clear hs Q hyx hL hy hA R2
        go_wp2_with fail
        rw [← hw2]
        clear hw2 h0 h1 h2 h3 h4 h5 h6 h7 zc1 zc2
        obtain ⟨t, ht⟩ : ∃ t, leansB y (z.ho, z.hn) = t := ⟨_, rfl⟩
        refine (leansOn_c y (z.ho, z.hn) _ hyk).mono ?_
        rintro e w3 ⟨rfl, hb3⟩
        rw [ht]
        have HT : Hid (leansB y (z.ho, z.hn) = t) := ht
        have HS3 : Hid (SetS w w.heap.size g5 f w3) := HS2.out.after hb3
        have HQ3 : Hid (QAt w3 w.heap.size g off c (wakeTo zs (z.ho, z.hn) ws k)) := HQ2.out.below HQ2.out.lt hb3
        have HZ3 : Hid (RuleAt w3 g5 0 z) := rule_kept HZ2.out (hb3.block g5 HS2.out.lt5)
        have Y3 : RuleAt w3 wr.heap.size 0 y := HY2.out.below hb3
        have HY3 : Hid (RuleAt w3 wr.heap.size 0 y) := Y3
        obtain ⟨y0, y1, y2, y3, y4, y5, y6, y7⟩ := Y3
        simp only [Nat.zero_add] at y0 y1 y2 y3 y4 y5 y6 y7
        have hsz3 := hb3.size
        clear ht hb3
        cases t
        · have HE : Hid (wakeTo zs (z.ho, z.hn) ws (k + 1) = wakeTo zs (z.ho, z.hn) ws k) := by
            show wakeTo zs (z.ho, z.hn) ws (k + 1) = _
            rw [wakeTo_succ HY.out, if_neg (fun q => by rw [HT.out] at q; cases q.1)]
          go_wp2
          exact ⟨⟨k + 1, by omega, by go_num, HS3.out, ⟨g, off, c, by rw [HE.out, HL.out], by rw [HE.out]; exact HQ3.out, hne5, hneb⟩, HZ3.out⟩, by simp [intOf]; omega⟩
        · go_wp2_with fail
          obtain ⟨u, hu⟩ : ∃ u, decide (y ∈ wakeTo zs (z.ho, z.hn) ws k) = u := ⟨_, rfl⟩
          refine (slContains_c (some ⟨g, off, none⟩) L c (wakeTo zs (z.ho, z.hn) ws k) y _ ?_ ⟨HL.out, fun _ => ⟨g, off, rfl, HQ3.out.at'⟩⟩).mono ?_
          · have := wake_len HW.out (z.ho, z.hn) k
            have := HL.out
            have := HR.out.1
            omega
          rintro e w4 ⟨rfl, hb4⟩
          rw [hu]
          have HU : Hid (decide (y ∈ wakeTo zs (z.ho, z.hn) ws k) = u) := hu
          have HS4 : Hid (SetS w w.heap.size g5 f w4) := HS3.out.after hb4
          have HQ4 : Hid (QAt w4 w.heap.size g off c (wakeTo zs (z.ho, z.hn) ws k)) := HQ3.out.below HQ3.out.lt hb4
          have HZ4 : Hid (RuleAt w4 g5 0 z) := rule_kept HZ3.out (hb4.block g5 HS3.out.lt5)
          have Y4 : RuleAt w4 wr.heap.size 0 y := HY3.out.below hb4
          have HY4 : Hid (RuleAt w4 wr.heap.size 0 y) := Y4
          obtain ⟨x0, x1, x2, x3, x4, x5, x6, x7⟩ := Y4
          simp only [Nat.zero_add] at x0 x1 x2 x3 x4 x5 x6 x7
          have hsz4 := hb4.size
          clear hu hb4 y0 y1 y2 y3 y4 y5 y6 y7
          cases u
          · have HE : Hid (wakeTo zs (z.ho, z.hn) ws (k + 1) = wakeTo zs (z.ho, z.hn) ws k ++ [y]) := by
              show wakeTo zs (z.ho, z.hn) ws (k + 1) = _
              rw [wakeTo_succ HY.out, if_pos ⟨HT.out, of_decide_eq_false HU.out⟩]
            have hL16 : L ≤ 16 := by
              have := wake_len HW.out (z.ho, z.hn) k
              have := HL.out
              have := HR.out.1
              omega
            have hA5 : Below w4.heap.size w4 (w4.alloc (.cells #[.int .i64 y.k, .int .i64 y.ho, .int .i64 y.hn, .int .i64 y.w, .int .i64 y.oo, .int .i64 y.on, .int .i64 y.to, .int .i64 y.tn] 81)) := (Below.refl _ _).alloc (Nat.le_refl _) _
            have HB5 : Hid (Below w4.heap.size w4 (w4.alloc (.cells #[.int .i64 y.k, .int .i64 y.ho, .int .i64 y.hn, .int .i64 y.w, .int .i64 y.oo, .int .i64 y.on, .int .i64 y.to, .int .i64 y.tn] 81))) := hA5
            have HQ5 : Hid (QAt (w4.alloc (.cells #[.int .i64 y.k, .int .i64 y.ho, .int .i64 y.hn, .int .i64 y.w, .int .i64 y.oo, .int .i64 y.on, .int .i64 y.to, .int .i64 y.tn] 81)) w.heap.size g off c (wakeTo zs (z.ho, z.hn) ws k)) := HQ4.out.below HQ4.out.lt hA5
            have HS5 : Hid (SetS w w.heap.size g5 f (w4.alloc (.cells #[.int .i64 y.k, .int .i64 y.ho, .int .i64 y.hn, .int .i64 y.w, .int .i64 y.oo, .int .i64 y.on, .int .i64 y.to, .int .i64 y.tn] 81))) := HS4.out.after hA5
            have HZ5 : Hid (RuleAt (w4.alloc (.cells #[.int .i64 y.k, .int .i64 y.ho, .int .i64 y.hn, .int .i64 y.w, .int .i64 y.oo, .int .i64 y.on, .int .i64 y.to, .int .i64 y.tn] 81)) g5 0 z) := rule_kept HZ4.out (hA5.block g5 HS4.out.lt5)
            have HNW : Hid (∀ j u, (ruC8 y)[j]? = some u → (w4.alloc (.cells #[.int .i64 y.k, .int .i64 y.ho, .int .i64 y.hn, .int .i64 y.w, .int .i64 y.oo, .int .i64 y.on, .int .i64 y.to, .int .i64 y.tn] 81)).cell? ((⟨w4.heap.size, 0, none⟩ : Addr).add j) = some u) := World.news_of_block (World.alloc_heap_new w4 _)
            clear hA5
            go_wp2_with (first | (at_builtin; refine wpList_append_arg _ rfl _ _ 24 rfl 81 i0 (.agg #[.int .i64 0, .int .i64 0, .int .i64 0, .int .i64 0, .int .i64 0, .int .i64 0, .int .i64 0, .int .i64 0]) 8 64 Tryz.under24 hi hz0 hz1 hz2 rfl (by decide) g off L c (flat8 (wakeTo zs (z.ho, z.hn) ws k)) rfl ?lo ?olds ⟨w4.heap.size, 0, none⟩ 1 1 (ruC8 y) rfl rfl HNW.out ?c2 ?spare ?ml ?bt ?room ?grow) | go_in)
            case lo => rw [flat8_len, HL.out]
            case olds => exact rules_cells HQ5.out.at'
            case c2 => exact fun u hu => flat8_one [y] u (by simpa [flat8] using hu)
            case spare =>
              intro hle j hj
              have := HQ5.out.room (L * 8 + j) (by simp [ruC8] at hj; omega)
              rwa [← Nat.add_assoc] at this
            case ml => unfold maxLen; omega
            case bt => omega
            case room =>
              intro hle
              have Q6 := HQ5.out.push y (by rw [HL.out]; exact hle)
              rw [HL.out] at Q6
              have HQ6 : Hid _ := Q6
              have S6 := HS5.out.write (Nat.le_trans HS5.out.oldb HQ5.out.old) hne5 hneb (off + L * 8) (ruC8 y)
              have Z6 := rule_kept HZ5.out (setCells_other g g5 hne5.symm (ruC8 y) (off + L * 8) _)
              generalize World.setCells _ g (off + L * 8) (ruC8 y) = w6 at *
              go_wp2
              exact ⟨⟨k + 1, by omega, by go_num, S6, ⟨g, off, c, by rw [HE.out]; simp [HL.out], by rw [HE.out]; exact Q6, hne5, hneb⟩, Z6⟩, by simp [intOf]; omega⟩
            case grow =>
              intro hlt6 v' w6 ho6 hg6
              rw [← flat8_snoc, ← HE.out] at ho6
              have hl6 : (wakeTo zs (z.ho, z.hn) ws (k + 1)).length = L + 1 := by rw [HE.out]; simp [HL.out]
              rw [← hl6] at ho6
              have hlt4 : w4.heap.size < (w4.alloc (.cells #[.int .i64 y.k, .int .i64 y.ho, .int .i64 y.hn, .int .i64 y.w, .int .i64 y.oo, .int .i64 y.on, .int .i64 y.to, .int .i64 y.tn] 81)).heap.size := by simp
              have HQ6 : Hid (QS w6 w.heap.size g5 v' (wakeTo zs (z.ho, z.hn) ws (k + 1))) := new_apart ho6 (fun e => by rw [e] at hl6; simp at hl6) (by have := HS4.out.gm.lt; omega) (by have := HS4.out.lt5; omega)
              have hb6 : Below (w4.alloc (.cells #[.int .i64 y.k, .int .i64 y.ho, .int .i64 y.hn, .int .i64 y.w, .int .i64 y.oo, .int .i64 y.on, .int .i64 y.to, .int .i64 y.tn] 81)).heap.size (w4.alloc (.cells #[.int .i64 y.k, .int .i64 y.ho, .int .i64 y.hn, .int .i64 y.w, .int .i64 y.oo, .int .i64 y.on, .int .i64 y.to, .int .i64 y.tn] 81)) w6 := (Below.refl _ _).grown hg6 (Nat.le_refl _) (fun q e => by cases e)
              have S6 := HS5.out.after hb6
              have Z6 := rule_kept HZ5.out (hb6.block g5 HS5.out.lt5)
              clear ho6 hg6 hb6
              go_wp2
              exact ⟨⟨k + 1, by omega, by go_num, S6, HQ6.out, Z6⟩, by simp [intOf]; omega⟩
          · have HE : Hid (wakeTo zs (z.ho, z.hn) ws (k + 1) = wakeTo zs (z.ho, z.hn) ws k) := by
              show wakeTo zs (z.ho, z.hn) ws (k + 1) = _
              rw [wakeTo_succ HY.out, if_neg (fun q => q.2 (of_decide_eq_true HU.out))]
            go_wp2
            exact ⟨⟨k + 1, by omega, by go_num, HS4.out, ⟨g, off, c, by rw [HE.out, HL.out], by rw [HE.out]; exact HQ4.out, hne5, hneb⟩, HZ4.out⟩, by simp [intOf]; omega⟩
      · have hkn : k = n := by omega
        subst hkn
        have HQ : Hid (QS wr w.heap.size g5 u4 (wakeTo zs (z.ho, z.hn) ws k)) := hq
        have HSe : Hid (SetS w w.heap.size g5 f wr) := hs
        have HWe : Hid (Work zs f (wakeTo zs (z.ho, z.hn) ws k)) := by
          have h1 := work_grow (fun y hy => ⟨(okR_of (pol_codes HP.out y hy)).1, (okR_of (pol_codes HP.out y hy)).2⟩) HW.out
          rw [HF.out, HR.out.1] at h1
          exact h1
        have hL16 : (wakeTo zs (z.ho, z.hn) ws k).length ≤ 16 := by
          have := wake_len HW.out (z.ho, z.hn) k
          have := HR.out.1
          omega
        clear hs hq hz
        go_wp2
        go_step3
        obtain ⟨g, off, c, hv, hrest⟩ := HQ.out
        exact ⟨meas f (2 * (wakeTo zs (z.ho, z.hn) ws k).length + 1), meas_lt _ _ (by omega), g5, f, wakeTo zs (z.ho, z.hn) ws k, u4, _, _, _, _, _, _, _, _, _, _, _, _, _, _, _, _, _, _, _, _, _, _, _, _, _, _, _, _, _, _, _, _, _, _, _, _, _, _, _, _, _, _, _, rfl, HSe.out, .inl ⟨rfl, ⟨_, _, hv⟩, fun _ => HQ.out, HWe.out, rfl⟩⟩

end Go.Proofs.YtnfolmjdicfobaaGreatDoor

namespace Go.Proofs.YtnfolmjdicfobaaGreatDoor
open Go.RowKit Go.Shelf Go.Maps
attribute [local go_sem] Oper.semAt_some
attribute [local go_sem] wide_fn
attribute [local simp] wide_fn
set_option linter.unusedVariables false
set_option linter.unusedSimpArgs false

/-- The roles that somebody has, each once. -/
def KeysIs (f : RoI → Int) (ys : List RoI) : Prop := ys.Nodup ∧ ∀ r, r ∈ ys ↔ f r ≠ 0

/-- What has come while the keys of D0 are gone through. -/
structure Coll (D0 : DataW Unit) (left : Lit → Bool) (ss : List RoI) : Prop where
  nd : ss.Nodup
  wf : ∀ r ∈ ss, roW r
  mem : ∀ r, roW r → (r ∈ ss ↔ Maps.has D0 (keyL r) = true ∧ left (keyL r) = false)

theorem coll_start (D0 : DataW Unit) : Coll D0 (Maps.has D0) [] := by
  refine ⟨List.nodup_nil, fun r h => (by cases h), fun r _ => ⟨fun h => (by cases h), fun h => ?_⟩⟩
  have h2 := h.2
  rw [h.1] at h2
  cases h2

theorem coll_step {D0 : DataW Unit} {left : Lit → Bool} {ss : List RoI} (h : Coll D0 left ss) {x : RoI} (hx : roW x) (hl : left (keyL x) = true) (hh : Maps.has D0 (keyL x) = true) :
    Coll D0 (fun z => left z && !z.sameKey (keyL x)) (ss ++ [x]) := by
  have hn : x ∉ ss := fun q => by
    have := ((h.mem x hx).1 q).2
    rw [hl] at this; cases this
  refine ⟨List.nodup_append.2 ⟨h.nd, by simp, fun a ha b hb e => hn (by simp at hb; rw [← hb, ← e]; exact ha)⟩, fun r hr => ?_, fun r hr => ?_⟩
  · rcases List.mem_append.1 hr with q | q
    · exact h.wf r q
    · simp at q; rw [q]; exact hx
  · rw [List.mem_append, List.mem_singleton]
    by_cases e : r = x
    · subst e
      simp [hh, WideAt.sameKey_self (keyL_key r)]
    · have hs : (keyL r).sameKey (keyL x) = false := sameKey_ne (fun q => e (keyL_inj hr hx q))
      rw [hs, h.mem r hr]
      simp [e]

theorem coll_end {D0 : DataW Unit} {left : Lit → Bool} {ss : List RoI} {f : RoI → Int} (h : Coll D0 left ss) (hl : ∀ kl, left kl = false) (hf : FN f) (hv : View D0 f) : KeysIs f ss := by
  refine ⟨h.nd, fun r => ⟨fun hr => ?_, fun hr => ?_⟩⟩
  · have hw := h.wf r hr
    have := ((h.mem r hw).1 hr).1
    rw [hv.has r hw] at this
    exact of_decide_eq_true this
  · have hw := roW_of (hf.ro r hr)
    refine (h.mem r hw).2 ⟨?_, hl _⟩
    rw [hv.has r hw]
    exact decide_eq_true hr

end Go.Proofs.YtnfolmjdicfobaaGreatDoor

namespace Go.Proofs.YtnfolmjdicfobaaGreatDoor
end Go.Proofs.YtnfolmjdicfobaaGreatDoor

namespace Go.Proofs.YtnfolmjdicfobaaGreatDoor
open Go.RowKit Go.Sort Go.Proofs Go.Lib
set_option linter.unusedVariables false
set_option linter.unusedSimpArgs false

def cmpI (x y : Int) : Int := if x < y then -1 else if y < x then 1 else 0
def orC (c d : Int) : Int := if c = 0 then d else c
def cfR (p q : RoI) : Int := orC (cmpI p.1 q.1) (cmpI p.2 q.2)

theorem ltOf_cfR (p q : RoI) : ltOf cfR p q = ltR p q := by
  unfold ltOf cfR orC ltR cmpI
  rw [Bool.eq_iff_iff]
  simp only [decide_eq_true_eq]
  split <;> (repeat' split) <;> first | omega | (simp_all; try omega)

theorem swo_cfR : SWO (ltOf cfR) where
  irrefl x := by rw [ltOf_cfR]; exact ltR_irrefl x
  trans x y z h1 h2 := by rw [ltOf_cfR] at *; exact ltR_trans h1 h2
  ntrans x y z h1 h2 := by rw [ltOf_cfR] at *; simp [ltR] at *; omega

def enc2 (x : RoI) : List Value := [.int .i64 x.1, .int .i64 x.2]

theorem flatK_eq (xs : List RoI) : flatK enc2 2 xs.toArray = (flat2 xs).toArray := by
  apply Array.ext
  · simp [flat2_len]
  · intro t h1 h2
    have ht : t < xs.length * 2 := by simpa using h1
    have hk : t / 2 < xs.length := by omega
    have e0 := get_flatK enc2 2 xs.toArray t (by simpa using ht)
    rw [getElem!_pos _ t h1] at e0
    rw [e0]
    have hx : xs[t / 2]? = some (xs[t / 2]) := List.getElem?_eq_getElem hk
    have hd : xs.toArray[t / 2]! = xs[t / 2] := by rw [getElem!_pos _ _ (by simpa using hk)]; simp
    rw [hd]
    rcases Nat.mod_two_eq_zero_or_one t with hm | hm
    · have h3 := flat2_fst xs (t / 2) _ hx
      rw [show t / 2 * 2 = t by omega, List.getElem?_eq_getElem (by simpa using h2)] at h3
      rw [hm]
      simp only [enc2, List.getElem_toArray]
      exact (Option.some.inj h3).symm
    · have h3 := flat2_snd xs (t / 2) _ hx
      rw [show t / 2 * 2 + 1 = t by omega, List.getElem?_eq_getElem (by simpa using h2)] at h3
      rw [hm]
      simp only [enc2, List.getElem_toArray]
      exact (Option.some.inj h3).symm

theorem owns_sorted2 {w : World} {B g cap q : Nat} {os : Array Obj} {xs ys : List RoI} (h : Owns2 w B (.slice (some ⟨g, 0, none⟩) xs.length cap) xs) (hl : ys.length = xs.length) :
    Owns2 (grow (putRow id (Sort.ahead w q) g 0 (flat2 ys).toArray) os) B (.slice (some ⟨g, 0, none⟩) xs.length cap) ys ∧ w.grownBy (grow (putRow id (Sort.ahead w q) g 0 (flat2 ys).toArray) os) (some g) := by
  have h0 : w.ownsRow B 79 2 (.slice (some ⟨g, 0, none⟩) xs.length cap) xs.length (flat2 xs) := h
  rcases h0.2 with ⟨e0, _⟩ | ⟨g', cap', cur, e0, hb, hg, hn, hm, hs, ht⟩
  · cases e0
  · injection e0 with e1 _ e3
    injection e1 with e1
    injection e1 with e1
    subst e1; subst e3
    have hgl : g < w.heap.size := (Array.getElem?_eq_some_iff.1 hg).1
    refine ⟨⟨by rw [flat2_len], .inr ⟨g, cap, putCells id 0 (flat2 ys).toArray cur, by rw [hl], hb, ?_, by omega, hm, by simpa [putCells] using hs, ?_⟩⟩, ⟨rfl, rfl, rfl, by simp, fun k hk hne => ?_⟩⟩
    · rw [heap_grow_old _ _ (by simpa using hgl)]
      simp [putRow, mapBlock, Sort.ahead, Array.getElem?_modify, hg, onCells]
    · apply List.ext_getElem?
      intro j
      by_cases hj : j < ys.length * 2
      · rw [List.getElem?_take_of_lt hj, Array.getElem?_toList]
        have hjc : j < cur.size := by rw [hs]; omega
        have hjf : j < (flat2 ys).length := by rw [flat2_len]; exact hj
        simp [putCells, hjc, hjf, flat2_len, hj, List.getElem?_eq_getElem hjf]
      · rw [List.getElem?_take_eq_none (by omega), List.getElem?_eq_none (by rw [flat2_len]; omega)]
    · rw [heap_grow_old _ _ (by simpa using hk)]
      have : g ≠ k := fun e => hne (by rw [e])
      simp [putRow, mapBlock, Sort.ahead, Array.getElem?_modify, this]

theorem Tryz.aggRole (w : World) : (isAgg 79).run Tryz.prog w = .ok true w := by kernel_rfl
theorem Tryz.sizeRole (w : World) : (Go.sizeOf 79).run Tryz.prog w = .ok 2 w := by kernel_rfl

end Go.Proofs.YtnfolmjdicfobaaGreatDoor
