/-
  CONTRACT: impl.settle: the worklist of rules, done by jumps: what comes of it is all that follows.
  Conditions: each contract bears its own.
  CONTRACTS: maps.Keys of the map of grants: its iterator tells each role that somebody has, once, in some order.
  Conditions: each contract bears its own.
  THE LIBRARY's OWN CONTRACT of slices.SortFunc at structs, laid at this program by the kit's tools (shelf_lay_g, lay-plain).
  Conditions: the contract bears its own.
  CONTRACT: slices.SortFunc over roles, by impl.compareRoles.
  Conditions: each contract bears its own.
-/
import Derived.Test.YtdooocjjohdpjaaPg18
import Derived.Test.YtdooocjjohdpjaaPg15
import Derived.RangeFuncSeq
import Derived.RangeFuncGives
import Derived.Sort.MapsRangeIn
import Derived.Shelf.SlSortCmp.WholeK
import Derived.Shelf.SlGeneric
import Derived.Ground.SlsfProg
import Derived.Test.YtdooocjjohdpjaaProg
import Derived.Test.YtdooocjjohdpjaaPg17
import Derived.Sort.OwnSorted
namespace Go.Proofs.Ytdooocjjohdpjaa
open Go.RowKit Go.Maps
set_option linter.unusedVariables false
set_option linter.unusedSimpArgs false

set_option maxRecDepth 100000 in
set_option maxHeartbeats 2000000 in
theorem settle_c (a : Option Addr) (n cap : Nat) (zs : List RuleI) (w : World) (hr : RulesIn w a n zs) (hn : n ≤ 16) (hp : polCode zs = 0) :
    Calls Try.prog 54 #[.slice a n cap] w fun e w' => ∃ b f, e = .returned (.map (some b)) ∧ GM w' b f ∧ Work zs f [] ∧ w.heap.size ≤ b ∧ Below w.heap.size w w' := by
  have HR : Hid (RulesIn w a n zs) := hr
  have HP : Hid (polCode zs = 0) := hp
  clear hr hp
  obtain ⟨i0, hi, hz0, hz1, hz2⟩ := info_parts Try.info100
  go_enter Try.func54, Try.ntmps54
  go_wp2
  refine wp_scope_two (fun l m t W => ∃ g5, atL w zs a n cap w.heap.size g5 l m t W) rfl rfl ?hJ ?first ?core0 ?core1
  case hJ =>
    rintro l m t W ⟨g5, f, ws, v4, u1, u6, u7, u8, u9, u10, u11, u12, u13, u14, u15, u16, u17, u18, u19, u20, u21, u22, u23, u24, u25, u26, u27, u28, u29, u30, u31, u32, u33, u34, u35, u36, u37, u38, u39, u40, u41, u42, u43, u44, u45, u46, u47, e, hs, (⟨rfl, _⟩ | ⟨rfl, _⟩)⟩
    · exact .inl rfl
    · exact .inr rfl
  case first =>
    intro pass
    have HPs : Hid _ := pass
    have h1 : Below w.heap.size w (w.alloc (.map #[] 0)) := (Below.refl _ _).alloc (Nat.le_refl _) _
    have hG1 := gm_made w
    have hs1 : (w.alloc (.map #[] 0)).heap.size = w.heap.size + 1 := World.size_alloc _ _
    have HR1 := HR.out.below h1
    have hmk : (Instr.makeMap 87 none).run Try.prog w = .ok (.map (some w.heap.size)) (w.alloc (.map #[] 0)) := run_makeMap _ w
    generalize hw1 : w.alloc (.map #[] 0) = w1 at *
    have hnd := pol_nodup HP.out
    have hzl := HR.out.1
    go_wp2_with (first | (go_at_call 105; refine (cloneR_c a n cap zs w1 (by omega) HR1).mono ?_; rintro e w2 ⟨v, rfl, hv0, hvq, hb2⟩) | go_in)
    go_step3
    rename_i hK0
    refine hK0 _ _ ?_
    clear hK0
    have hz2' := hb2.size
    have hA : Below w2.heap.size w2 (w2.alloc (.cells #[.int .i64 0, .int .i64 0, .int .i64 0, .int .i64 0, .int .i64 0, .int .i64 0, .int .i64 0, .int .i64 0] 100)) := (Below.refl _ _).alloc (Nat.le_refl _) _
    have hb02 : Below w.heap.size w w2 := h1.trans (hb2.mono (by omega))
    refine wp_weaken (Q := jumpsTo (fun l' a' w' => ∃ m', m' < meas zeroF (2 * zs.length + 1) ∧ ∃ g5, atL w zs a n cap w.heap.size g5 l' m' a' w') _) ?_ (jumps_weaken (fun l a w q => q.elim (fun m' q2 => ⟨m', q2.2⟩)))
    refine HPs.out (meas zeroF (2 * zs.length + 1)) _ _ ?_
    refine ⟨w2.heap.size, zeroF, zs, v, _, _, _, _, _, _, _, _, _, _, _, _, _, _, _, _, _, _, _, _, _, _, _, _, _, _, _, _, _, _, _, _, _, _, _, _, _, _, _, _, _, _, _, rfl, ⟨hb02.trans (hA.mono (by omega)), (hG1.below hG1.lt hb2).below (by omega) hA, ⟨fun j hj => ?_, fun j => ?_⟩, by simp, by omega, by omega, Nat.le_refl _⟩, .inl ⟨rfl, ?_, fun hne => ?_, work_start hnd, rfl⟩⟩
    · have hj8 : j = 0 ∨ j = 1 ∨ j = 2 ∨ j = 3 ∨ j = 4 ∨ j = 5 ∨ j = 6 ∨ j = 7 := by omega
      rcases hj8 with rfl | rfl | rfl | rfl | rfl | rfl | rfl | rfl <;> exact ⟨.int .i64 0, by unfold World.cell?; rw [World.alloc_heap_new]; rfl⟩
    · unfold World.frozen?
      rw [World.alloc_heap_new]
      simp
    · by_cases q : n = 0
      · obtain ⟨a', c', e⟩ := hv0 q
        exact ⟨a', c', by rw [e, hzl, q]⟩
      · obtain ⟨g, off, c, e, _⟩ := hvq (by omega)
        exact ⟨_, _, e⟩
    · have hnp : 0 < n := by
        rw [← hzl]
        exact List.length_pos_iff.2 hne
      obtain ⟨g, off, c, e, q⟩ := hvq hnp
      have := q.old
      have := q.lt
      exact ⟨g, off, c, e, ⟨by omega, (q.below q.lt hA).lt, (q.below q.lt hA).at', q.le, (q.below q.lt hA).room⟩, by omega, by omega⟩
  case core0 =>
    rintro m t W ⟨g5, f, ws, v4, u1, u6, u7, u8, u9, u10, u11, u12, u13, u14, u15, u16, u17, u18, u19, u20, u21, u22, u23, u24, u25, u26, u27, u28, u29, u30, u31, u32, u33, u34, u35, u36, u37, u38, u39, u40, u41, u42, u43, u44, u45, u46, u47, rfl, hs, (⟨_, ⟨av, cv, rfl⟩, hq, hw, rfl⟩ | ⟨q, _⟩)⟩
    case inr => cases q
    rcases ws with _ | ⟨z, ws⟩
    · have HS : Hid (SetS w w.heap.size g5 f W) := hs
      have HW : Hid (Work zs f []) := hw
      clear hs hw hq
      skip
      go_wp2
      simp only [jumpsTo]
      go_ret
      exact ⟨w.heap.size, f, rfl, HS.out.gm, HW.out, Nat.le_refl _, HS.out.below⟩
    · obtain ⟨g, off, c, e, Q, hne5, hneb⟩ := hq (by simp)
      simp only [List.length_cons] at e
      cases e
      obtain ⟨k, hk⟩ : ∃ k, ws.length = k := ⟨_, rfl⟩
      have HK : Hid (ws.length = k) := hk
      have hkc : k + 1 ≤ cv := by have := Q.le; simp only [List.length_cons] at this; omega
      have hlz : k + 1 ≤ 16 := by
        have := hw.len
        simp only [List.length_cons] at this
        have := HR.out.1
        omega
      simp only [List.length_cons, hk]
      obtain ⟨h0, h1, h2, h3, h4, h5, h6, h7⟩ := Q.at' 0 z rfl
      simp only [Nat.zero_mul, Nat.add_zero] at h0 h1 h2 h3 h4 h5 h6 h7
      obtain ⟨v0, c0⟩ := hs.room.1 0 (by omega)
      obtain ⟨v1, c1⟩ := hs.room.1 1 (by omega)
      obtain ⟨v2, c2⟩ := hs.room.1 2 (by omega)
      obtain ⟨v3, c3⟩ := hs.room.1 3 (by omega)
      obtain ⟨v4, c4⟩ := hs.room.1 4 (by omega)
      obtain ⟨v5, c5⟩ := hs.room.1 5 (by omega)
      obtain ⟨v6, c6⟩ := hs.room.1 6 (by omega)
      obtain ⟨v7, c7⟩ := hs.room.1 7 (by omega)
      have f0 := hs.room.2 0
      have f1 := hs.room.2 1
      have f2 := hs.room.2 2
      have f3 := hs.room.2 3
      have f4 := hs.room.2 4
      have f5 := hs.room.2 5
      have f6 := hs.room.2 6
      have f7 := hs.room.2 7
      have HS : Hid (SetS w w.heap.size g5 f W) := hs
      have HW : Hid (Work zs f (z :: ws)) := hw
      have HQ : Hid (QAt W w.heap.size g off cv (z :: ws)) := Q
      have i0' : (0 : Int) < (k : Int) + 1 := by omega
      have i1 : (1 : Int) ≤ (k : Int) + 1 := by omega
      have i2 : (k : Int) + 1 ≤ (cv : Int) := by omega
      have i3 : (k : Int) + 1 ≤ 16 := by omega
      clear hs hw hq Q hk
      skip
      go_wp2
      go_region
      obtain ⟨X, hX⟩ : ∃ X, X = ((((((((W.setCell ⟨g5, 0, none⟩ (.int .i64 z.k)).setCell ⟨g5, 1, none⟩ (.int .i64 z.ho)).setCell ⟨g5, 2, none⟩ (.int .i64 z.hn)).setCell ⟨g5, 3, none⟩ (.int .i64 z.w)).setCell ⟨g5, 4, none⟩ (.int .i64 z.oo)).setCell ⟨g5, 5, none⟩ (.int .i64 z.on)).setCell ⟨g5, 6, none⟩ (.int .i64 z.to)).setCell ⟨g5, 7, none⟩ (.int .i64 z.tn)) := ⟨_, rfl⟩
      obtain ⟨S1, R1, O1, Z1⟩ := set_put HS.out z hX
      rw [← hX]
      clear hX
      obtain ⟨av', hav⟩ : ∃ av', (if cv = 1 then (some ⟨g, off, none⟩ : Option Addr) else some ⟨g, off + 8, none⟩) = av' := ⟨_, rfl⟩
      rw [hav]
      have HAV : Hid (∀ X' : World, QAt X' w.heap.size g off cv (z :: ws) → QS X' w.heap.size g5 (.slice av' k (cv - 1)) ws) := fun X' q => by
        rw [← hav]
        by_cases e : cv = 1
        · have hk0 : k = 0 := by omega
          have hw0 : ws = [] := List.eq_nil_of_length_eq_zero (by rw [HK.out]; exact hk0)
          subst hw0
          refine ⟨g, off, 0, by rw [if_pos e, e, hk0]; rfl, ?_, hne5, hneb⟩
          have q2 := q.pop
          rw [e] at q2
          exact q2.empty
        · exact ⟨g, off + 8, cv - 1, by rw [if_neg e, HK.out], q.pop, hne5, hneb⟩
      clear hav
      obtain ⟨W1, hW1⟩ : ∃ W1, X.drew = W1 := ⟨_, rfl⟩
      rw [hW1] at S1 R1 O1 Z1 ⊢
      have HS1 : Hid (SetS w w.heap.size g5 f W1) := S1
      have Q1' : QAt W1 w.heap.size g off cv (z :: ws) := HQ.out.kept (by omega) (O1 g hne5)
      have HQ1 : Hid (QAt W1 w.heap.size g off cv (z :: ws)) := Q1'
      have HR1 : Hid (RuleAt W1 g5 0 z) := R1
      obtain ⟨d0, d1, d2, d3, d4, d5, d6, d7⟩ := R1
      simp only [Nat.zero_add] at d0 d1 d2 d3 d4 d5 d6 d7
      have hlt5 : g5 < W1.heap.size := S1.lt5
      have hcz : ruleCode z = 0 := pol_codes HP.out z (HW.out.sub z (by simp))
      have hB : roleB z.ho z.hn = true ∧ okR z := ⟨(rule_has hcz).2.2.1, (okR_of hcz).1⟩
      obtain ⟨t, ht⟩ : ∃ t, (!decide (orI (f (z.ho, z.hn)) (byF f z) = f (z.ho, z.hn))) = t := ⟨_, rfl⟩
      have HT : Hid (∀ X : World, Below W1.heap.size W1 X → Calls Try.prog 107 #[.map (some w.heap.size), .agg #[.int .i64 z.k, .int .i64 z.ho, .int .i64 z.hn, .int .i64 z.w, .int .i64 z.oo, .int .i64 z.on, .int .i64 z.to, .int .i64 z.tn]] X fun e w' => e = .returned (.int .u8 (byF f z)) ∧ Below X.heap.size X w') := fun X hX => told_c w.heap.size f z X (HS1.out.gm.below HS1.out.gm.lt hX) hcz
      have HV : Hid (∀ X : World, Below W1.heap.size W1 X → Calls Try.prog 106 #[.map (some w.heap.size), .agg #[.int .i64 z.ho, .int .i64 z.hn], .int .u8 (byF f z)] X fun e w' => e = .returned (.bool t) ∧ GM w' w.heap.size (giveF f (z.ho, z.hn) (byF f z)) ∧ X.grownBy w' (some w.heap.size)) := fun X hX =>
        (give_c w.heap.size f (z.ho, z.hn) (byF f z) X (HS1.out.gm.below HS1.out.gm.lt hX) hB.1 (byF_set HS1.out.gm.fn.st hB.2)).mono (fun e w' q => ⟨by rw [q.1, ht], q.2.1, q.2.2⟩)
      have HH : Hid ((!decide (orI (f (z.ho, z.hn)) (byF f z) = f (z.ho, z.hn))) = t ∧ okR z) := ⟨ht, hB.2⟩
      clear h0 h1 h2 h3 h4 h5 h6 h7 c0 c1 c2 c3 c4 c5 c6 c7 f0 f1 f2 f3 f4 f5 f6 f7 S1 O1 Q1' hW1 ht hB hcz
      cases t
      · go_wp2
        go_region_with (first
          | (go_at_call 107; refine (HT.out W1.drew (Below.refl _ W1).drew).mono ?_; rintro e W2 ⟨rfl, hb2d⟩; have hb2 : Below W1.heap.size W1 W2 := (Below.refl _ W1).drew.trans hb2d; clear hb2d; have q1 := (hb2.cell (p := ⟨g5, 1, none⟩) hlt5).trans d1; have q2 := (hb2.cell (p := ⟨g5, 2, none⟩) hlt5).trans d2)
          | (go_at_call 106; refine (HV.out _ hb2).mono ?_; rintro e W3 ⟨rfl, hG3, hg3⟩))
        all_goals go_wp2
        all_goals go_step3
        all_goals
          have hsame : giveF f (z.ho, z.hn) (byF f z) = f := give_same (by simpa using HH.out.1)
          have heq : orI (f (z.ho, z.hn)) (byF f z) = f (z.ho, z.hn) := by simpa using HH.out.1
          rw [hsame] at hG3
          obtain ⟨S3, O3, Z3⟩ := set_turn HS1.out hb2 hg3 hG3
          exact ⟨meas f (2 * ws.length + 1), meas_lt _ _ (by have := HK.out; omega), g5, f, ws, _, _, _, _, _, _, _, _, _, _, _, _, _, _, _, _, _, _, _, _, _, _, _, _, _, _, _, _, _, _, _, _, _, _, _, _, _, _, _, _, _, _, _, _, rfl, S3, .inl ⟨rfl, ⟨_, _, by rw [HK.out]⟩, fun hne => HAV.out W3 (HQ1.out.kept (by omega) (O3 g hneb HQ1.out.lt)), work_stay HW.out HH.out.2 heq, rfl⟩⟩
      · go_wp2
        go_region_with (first
          | (go_at_call 107; refine (HT.out W1.drew (Below.refl _ W1).drew).mono ?_; rintro e W2 ⟨rfl, hb2d⟩; have hb2 : Below W1.heap.size W1 W2 := (Below.refl _ W1).drew.trans hb2d; clear hb2d; have q1 := (hb2.cell (p := ⟨g5, 1, none⟩) hlt5).trans d1; have q2 := (hb2.cell (p := ⟨g5, 2, none⟩) hlt5).trans d2)
          | (go_at_call 106; refine (HV.out _ hb2).mono ?_; rintro e W3 ⟨rfl, hG3, hg3⟩))
        all_goals go_wp2
        all_goals go_step3
        all_goals
          have hneq : orI (f (z.ho, z.hn)) (byF f z) ≠ f (z.ho, z.hn) := by simpa using HH.out.1
          obtain ⟨S3, O3, Z3⟩ := set_turn HS1.out hb2 hg3 hG3
          have hgr : sumF f < sumF (giveF f (z.ho, z.hn) (byF f z)) := sumF_give HS1.out.gm.fn HH.out.2.1 (byF_set HS1.out.gm.fn.st HH.out.2) hneq
          exact ⟨meas (giveF f (z.ho, z.hn) (byF f z)) 500, meas_grow HS1.out.gm.fn hG3.fn hgr _ _ (by omega), g5, giveF f (z.ho, z.hn) (byF f z), ws, _, _, _, _, _, _, _, _, _, _, _, _, _, _, _, _, _, _, _, _, _, _, _, _, _, _, _, _, _, _, _, _, _, _, _, _, _, _, _, _, _, _, _, _, rfl, S3, .inr ⟨rfl, HAV.out W3 (HQ1.out.kept (by omega) (O3 g hneb HQ1.out.lt)), rfl, z, f, rule_kept HR1.out (O3 g5 HS1.out.ne5 hlt5), HW.out, rfl⟩⟩
  case core1 =>
    rintro m t W ⟨g5, f, ws, v4, u1, u6, u7, u8, u9, u10, u11, u12, u13, u14, u15, u16, u17, u18, u19, u20, u21, u22, u23, u24, u25, u26, u27, u28, u29, u30, u31, u32, u33, u34, u35, u36, u37, u38, u39, u40, u41, u42, u43, u44, u45, u46, u47, rfl, hs, (⟨q, _⟩ | ⟨_, hq, rfl, z, f0, hz, hw, rfl⟩)⟩
    case inl => cases q
    have HS0 : Hid (SetS w w.heap.size g5 (giveF f0 (z.ho, z.hn) (byF f0 z)) W) := hs
    have HW : Hid (Work zs f0 (z :: ws)) := hw
    have HQ0 : Hid (QS W w.heap.size g5 v4 ws) := hq
    have HZ0 : Hid (RuleAt W g5 0 z) := hz
    have hn' : (n : Int) ≤ 16 := by omega
    obtain ⟨f, hf⟩ : ∃ f, giveF f0 (z.ho, z.hn) (byF f0 z) = f := ⟨_, rfl⟩
    have HF : Hid (giveF f0 (z.ho, z.hn) (byF f0 z) = f) := hf
    rw [hf] at HS0
    rw [hf]
    clear hs hw hq hz hf
    skip
    go_wp2
    go_loopw [4, 29] (fun v i wr => ∃ k : Nat, k ≤ n ∧ i = .int .i64 (k : Int) ∧ SetS w w.heap.size g5 f wr ∧ QS wr w.heap.size g5 v (wakeTo zs (z.ho, z.hn) ws k) ∧ RuleAt wr g5 0 z) (fun _ i _ => n - (intOf i).toNat)
    case atStart => exact ⟨0, Nat.zero_le _, rfl, HS0.out, by simpa [wakeTo] using HQ0.out, HZ0.out⟩
    case round =>
      obtain ⟨k, hk, rfl, hs, hq, hz⟩ := hrel
      by_cases hlt : k < n
      · obtain ⟨bl, ol, y, rfl, hy, hyx⟩ := HR.out.at hlt
        obtain ⟨g, off, c, rfl, Q, hne5, hneb⟩ := hq
        obtain ⟨L, hL⟩ : ∃ L, (wakeTo zs (z.ho, z.hn) ws k).length = L := ⟨_, rfl⟩
        have HL : Hid ((wakeTo zs (z.ho, z.hn) ws k).length = L) := hL
        rw [hL]
        have HY : Hid (zs[k]? = some y) := hy
        obtain ⟨h0, h1, h2, h3, h4, h5, h6, h7⟩ := hyx.below hs.below
        obtain ⟨w2, hw2⟩ : ∃ w2, w2 = wr.alloc (.cells #[.int .i64 y.k, .int .i64 y.ho, .int .i64 y.hn, .int .i64 y.w, .int .i64 y.oo, .int .i64 y.on, .int .i64 y.to, .int .i64 y.tn] 100) := ⟨_, rfl⟩
        have hA : Below wr.heap.size wr w2 := by rw [hw2]; exact (Below.refl _ _).alloc (Nat.le_refl _) _
        have R2 : RuleAt w2 wr.heap.size 0 y := by rw [hw2]; exact RuleAt.new wr y _
        have hsz2 : w2.heap.size = wr.heap.size + 1 := by rw [hw2]; simp
        have HS2 : Hid (SetS w w.heap.size g5 f w2) := hs.after hA
        have HQ2 : Hid (QAt w2 w.heap.size g off c (wakeTo zs (z.ho, z.hn) ws k)) := Q.below Q.lt hA
        have HZ2 : Hid (RuleAt w2 g5 0 z) := rule_kept hz (hA.block g5 hs.lt5)
        have hlt' : (k : Int) < (n : Int) := by omega
        have hyk : 1 ≤ y.k ∧ y.k ≤ 4 := by have := rule_has (pol_codes HP.out y (List.mem_of_getElem? hy)); exact ⟨this.1, this.2.1⟩
        have HY2 : Hid (RuleAt w2 wr.heap.size 0 y) := R2
        obtain ⟨_, zc1, zc2, _⟩ := hz
        simp only [Nat.zero_add] at zc1 zc2
        have hl5 : g5 < wr.heap.size := hs.lt5
        clear hs Q hyx hL hy hA R2
        go_wp2_with fail
        rw [← hw2]
        clear hw2 h0 h1 h2 h3 h4 h5 h6 h7 zc1 zc2
        obtain ⟨t, ht⟩ : ∃ t, leansB y (z.ho, z.hn) = t := ⟨_, rfl⟩
        refine (leansOn_c y (z.ho, z.hn) _ hyk).mono ?_
        rintro e w3 ⟨rfl, hb3⟩
        rw [ht]
        have HT : Hid (leansB y (z.ho, z.hn) = t) := ht
        have HS3 : Hid (SetS w w.heap.size g5 f w3) := HS2.out.after hb3
        have HQ3 : Hid (QAt w3 w.heap.size g off c (wakeTo zs (z.ho, z.hn) ws k)) := HQ2.out.below HQ2.out.lt hb3
        have HZ3 : Hid (RuleAt w3 g5 0 z) := rule_kept HZ2.out (hb3.block g5 HS2.out.lt5)
        have Y3 : RuleAt w3 wr.heap.size 0 y := HY2.out.below hb3
        have HY3 : Hid (RuleAt w3 wr.heap.size 0 y) := Y3
        obtain ⟨y0, y1, y2, y3, y4, y5, y6, y7⟩ := Y3
        simp only [Nat.zero_add] at y0 y1 y2 y3 y4 y5 y6 y7
        have hsz3 := hb3.size
        clear ht hb3
        cases t
        · have HE : Hid (wakeTo zs (z.ho, z.hn) ws (k + 1) = wakeTo zs (z.ho, z.hn) ws k) := by
            show wakeTo zs (z.ho, z.hn) ws (k + 1) = _
            rw [wakeTo_succ HY.out, if_neg (fun q => by rw [HT.out] at q; cases q.1)]
          go_wp2
          exact ⟨⟨k + 1, by omega, by go_num, HS3.out, ⟨g, off, c, by rw [HE.out, HL.out], by rw [HE.out]; exact HQ3.out, hne5, hneb⟩, HZ3.out⟩, by simp [intOf]; omega⟩
        · go_wp2_with fail
          obtain ⟨u, hu⟩ : ∃ u, decide (y ∈ wakeTo zs (z.ho, z.hn) ws k) = u := ⟨_, rfl⟩
          refine (slContains_c (some ⟨g, off, none⟩) L c (wakeTo zs (z.ho, z.hn) ws k) y _ ?_ ⟨HL.out, fun _ => ⟨g, off, rfl, HQ3.out.at'⟩⟩).mono ?_
          · have := wake_len HW.out (z.ho, z.hn) k
            have := HL.out
            have := HR.out.1
            omega
          rintro e w4 ⟨rfl, hb4⟩
          rw [hu]
          have HU : Hid (decide (y ∈ wakeTo zs (z.ho, z.hn) ws k) = u) := hu
          have HS4 : Hid (SetS w w.heap.size g5 f w4) := HS3.out.after hb4
          have HQ4 : Hid (QAt w4 w.heap.size g off c (wakeTo zs (z.ho, z.hn) ws k)) := HQ3.out.below HQ3.out.lt hb4
          have HZ4 : Hid (RuleAt w4 g5 0 z) := rule_kept HZ3.out (hb4.block g5 HS3.out.lt5)
          have Y4 : RuleAt w4 wr.heap.size 0 y := HY3.out.below hb4
          have HY4 : Hid (RuleAt w4 wr.heap.size 0 y) := Y4
          obtain ⟨x0, x1, x2, x3, x4, x5, x6, x7⟩ := Y4
          simp only [Nat.zero_add] at x0 x1 x2 x3 x4 x5 x6 x7
          have hsz4 := hb4.size
          clear hu hb4 y0 y1 y2 y3 y4 y5 y6 y7
          cases u
          · have HE : Hid (wakeTo zs (z.ho, z.hn) ws (k + 1) = wakeTo zs (z.ho, z.hn) ws k ++ [y]) := by
              show wakeTo zs (z.ho, z.hn) ws (k + 1) = _
              rw [wakeTo_succ HY.out, if_pos ⟨HT.out, of_decide_eq_false HU.out⟩]
            have hL16 : L ≤ 16 := by
              have := wake_len HW.out (z.ho, z.hn) k
              have := HL.out
              have := HR.out.1
              omega
            have hA5 : Below w4.heap.size w4 (w4.alloc (.cells #[.int .i64 y.k, .int .i64 y.ho, .int .i64 y.hn, .int .i64 y.w, .int .i64 y.oo, .int .i64 y.on, .int .i64 y.to, .int .i64 y.tn] 100)) := (Below.refl _ _).alloc (Nat.le_refl _) _
            have HB5 : Hid (Below w4.heap.size w4 (w4.alloc (.cells #[.int .i64 y.k, .int .i64 y.ho, .int .i64 y.hn, .int .i64 y.w, .int .i64 y.oo, .int .i64 y.on, .int .i64 y.to, .int .i64 y.tn] 100))) := hA5
            have HQ5 : Hid (QAt (w4.alloc (.cells #[.int .i64 y.k, .int .i64 y.ho, .int .i64 y.hn, .int .i64 y.w, .int .i64 y.oo, .int .i64 y.on, .int .i64 y.to, .int .i64 y.tn] 100)) w.heap.size g off c (wakeTo zs (z.ho, z.hn) ws k)) := HQ4.out.below HQ4.out.lt hA5
            have HS5 : Hid (SetS w w.heap.size g5 f (w4.alloc (.cells #[.int .i64 y.k, .int .i64 y.ho, .int .i64 y.hn, .int .i64 y.w, .int .i64 y.oo, .int .i64 y.on, .int .i64 y.to, .int .i64 y.tn] 100))) := HS4.out.after hA5
            have HZ5 : Hid (RuleAt (w4.alloc (.cells #[.int .i64 y.k, .int .i64 y.ho, .int .i64 y.hn, .int .i64 y.w, .int .i64 y.oo, .int .i64 y.on, .int .i64 y.to, .int .i64 y.tn] 100)) g5 0 z) := rule_kept HZ4.out (hA5.block g5 HS4.out.lt5)
            have HNW : Hid (∀ j u, (ruC8 y)[j]? = some u → (w4.alloc (.cells #[.int .i64 y.k, .int .i64 y.ho, .int .i64 y.hn, .int .i64 y.w, .int .i64 y.oo, .int .i64 y.on, .int .i64 y.to, .int .i64 y.tn] 100)).cell? ((⟨w4.heap.size, 0, none⟩ : Addr).add j) = some u) := World.news_of_block (World.alloc_heap_new w4 _)
            clear hA5
            go_wp2_with (first | (at_builtin; refine wpList_append_arg _ rfl _ _ 24 rfl 100 i0 (.agg #[.int .i64 0, .int .i64 0, .int .i64 0, .int .i64 0, .int .i64 0, .int .i64 0, .int .i64 0, .int .i64 0]) 8 64 Try.under24 hi hz0 hz1 hz2 rfl (by decide) g off L c (flat8 (wakeTo zs (z.ho, z.hn) ws k)) rfl ?lo ?olds ⟨w4.heap.size, 0, none⟩ 1 1 (ruC8 y) rfl rfl HNW.out ?c2 ?spare ?ml ?bt ?room ?grow) | go_in)
            case lo => rw [flat8_len, HL.out]
            case olds => exact rules_cells HQ5.out.at'
            case c2 => exact fun u hu => flat8_one [y] u (by simpa [flat8] using hu)
            case spare =>
              intro hle j hj
              have := HQ5.out.room (L * 8 + j) (by simp [ruC8] at hj; omega)
              rwa [← Nat.add_assoc] at this
            case ml => unfold maxLen; omega
            case bt => omega
            case room =>
              intro hle
              have Q6 := HQ5.out.push y (by rw [HL.out]; exact hle)
              rw [HL.out] at Q6
              have HQ6 : Hid _ := Q6
              have S6 := HS5.out.write (Nat.le_trans HS5.out.oldb HQ5.out.old) hne5 hneb (off + L * 8) (ruC8 y)
              have Z6 := rule_kept HZ5.out (setCells_other g g5 hne5.symm (ruC8 y) (off + L * 8) _)
              generalize World.setCells _ g (off + L * 8) (ruC8 y) = w6 at *
              go_wp2
              exact ⟨⟨k + 1, by omega, by go_num, S6, ⟨g, off, c, by rw [HE.out]; simp [HL.out], by rw [HE.out]; exact Q6, hne5, hneb⟩, Z6⟩, by simp [intOf]; omega⟩
            case grow =>
              intro hlt6 v' w6 ho6 hg6
              rw [← flat8_snoc, ← HE.out] at ho6
              have hl6 : (wakeTo zs (z.ho, z.hn) ws (k + 1)).length = L + 1 := by rw [HE.out]; simp [HL.out]
              rw [← hl6] at ho6
              have hlt4 : w4.heap.size < (w4.alloc (.cells #[.int .i64 y.k, .int .i64 y.ho, .int .i64 y.hn, .int .i64 y.w, .int .i64 y.oo, .int .i64 y.on, .int .i64 y.to, .int .i64 y.tn] 100)).heap.size := by simp
              have HQ6 : Hid (QS w6 w.heap.size g5 v' (wakeTo zs (z.ho, z.hn) ws (k + 1))) := new_apart ho6 (fun e => by rw [e] at hl6; simp at hl6) (by have := HS4.out.gm.lt; omega) (by have := HS4.out.lt5; omega)
              have hb6 : Below (w4.alloc (.cells #[.int .i64 y.k, .int .i64 y.ho, .int .i64 y.hn, .int .i64 y.w, .int .i64 y.oo, .int .i64 y.on, .int .i64 y.to, .int .i64 y.tn] 100)).heap.size (w4.alloc (.cells #[.int .i64 y.k, .int .i64 y.ho, .int .i64 y.hn, .int .i64 y.w, .int .i64 y.oo, .int .i64 y.on, .int .i64 y.to, .int .i64 y.tn] 100)) w6 := (Below.refl _ _).grown hg6 (Nat.le_refl _) (fun q e => by cases e)
              have S6 := HS5.out.after hb6
              have Z6 := rule_kept HZ5.out (hb6.block g5 HS5.out.lt5)
              clear ho6 hg6 hb6
              go_wp2
              exact ⟨⟨k + 1, by omega, by go_num, S6, HQ6.out, Z6⟩, by simp [intOf]; omega⟩
          · have HE : Hid (wakeTo zs (z.ho, z.hn) ws (k + 1) = wakeTo zs (z.ho, z.hn) ws k) := by
              show wakeTo zs (z.ho, z.hn) ws (k + 1) = _
              rw [wakeTo_succ HY.out, if_neg (fun q => q.2 (of_decide_eq_true HU.out))]
            go_wp2
            exact ⟨⟨k + 1, by omega, by go_num, HS4.out, ⟨g, off, c, by rw [HE.out, HL.out], by rw [HE.out]; exact HQ4.out, hne5, hneb⟩, HZ4.out⟩, by simp [intOf]; omega⟩
      · have hkn : k = n := by omega
        subst hkn
        have HQ : Hid (QS wr w.heap.size g5 u4 (wakeTo zs (z.ho, z.hn) ws k)) := hq
        have HSe : Hid (SetS w w.heap.size g5 f wr) := hs
        have HWe : Hid (Work zs f (wakeTo zs (z.ho, z.hn) ws k)) := by
          have h1 := work_grow (fun y hy => ⟨(okR_of (pol_codes HP.out y hy)).1, (okR_of (pol_codes HP.out y hy)).2⟩) HW.out
          rw [HF.out, HR.out.1] at h1
          exact h1
        have hL16 : (wakeTo zs (z.ho, z.hn) ws k).length ≤ 16 := by
          have := wake_len HW.out (z.ho, z.hn) k
          have := HR.out.1
          omega
        clear hs hq hz
        go_wp2
        go_step3
        obtain ⟨g, off, c, hv, hrest⟩ := HQ.out
        exact ⟨meas f (2 * (wakeTo zs (z.ho, z.hn) ws k).length + 1), meas_lt _ _ (by omega), g5, f, wakeTo zs (z.ho, z.hn) ws k, u4, _, _, _, _, _, _, _, _, _, _, _, _, _, _, _, _, _, _, _, _, _, _, _, _, _, _, _, _, _, _, _, _, _, _, _, _, _, _, _, _, _, _, _, rfl, HSe.out, .inl ⟨rfl, ⟨_, _, hv⟩, fun _ => HQ.out, HWe.out, rfl⟩⟩

end Go.Proofs.Ytdooocjjohdpjaa

namespace Go.Proofs.Ytdooocjjohdpjaa
open Go.RowKit Go.Shelf Go.Maps
attribute [local go_sem] Oper.semAt_some
attribute [local go_sem] wide_fn
attribute [local simp] wide_fn
set_option linter.unusedVariables false
set_option linter.unusedSimpArgs false

/-- The roles that somebody has, each once. -/
def KeysIs (f : RoI → Int) (ys : List RoI) : Prop := ys.Nodup ∧ ∀ r, r ∈ ys ↔ f r ≠ 0

/-- What has come while the keys of D0 are gone through. -/
structure Coll (D0 : DataW Unit) (left : Lit → Bool) (ss : List RoI) : Prop where
  nd : ss.Nodup
  wf : ∀ r ∈ ss, roW r
  mem : ∀ r, roW r → (r ∈ ss ↔ Maps.has D0 (keyL r) = true ∧ left (keyL r) = false)

theorem coll_start (D0 : DataW Unit) : Coll D0 (Maps.has D0) [] := by
  refine ⟨List.nodup_nil, fun r h => (by cases h), fun r _ => ⟨fun h => (by cases h), fun h => ?_⟩⟩
  have h2 := h.2
  rw [h.1] at h2
  cases h2

theorem coll_step {D0 : DataW Unit} {left : Lit → Bool} {ss : List RoI} (h : Coll D0 left ss) {x : RoI} (hx : roW x) (hl : left (keyL x) = true) (hh : Maps.has D0 (keyL x) = true) :
    Coll D0 (fun z => left z && !z.sameKey (keyL x)) (ss ++ [x]) := by
  have hn : x ∉ ss := fun q => by
    have := ((h.mem x hx).1 q).2
    rw [hl] at this; cases this
  refine ⟨List.nodup_append.2 ⟨h.nd, by simp, fun a ha b hb e => hn (by simp at hb; rw [← hb, ← e]; exact ha)⟩, fun r hr => ?_, fun r hr => ?_⟩
  · rcases List.mem_append.1 hr with q | q
    · exact h.wf r q
    · simp at q; rw [q]; exact hx
  · rw [List.mem_append, List.mem_singleton]
    by_cases e : r = x
    · subst e
      simp [hh, WideAt.sameKey_self (keyL_key r)]
    · have hs : (keyL r).sameKey (keyL x) = false := sameKey_ne (fun q => e (keyL_inj hr hx q))
      rw [hs, h.mem r hr]
      simp [e]

theorem coll_end {D0 : DataW Unit} {left : Lit → Bool} {ss : List RoI} {f : RoI → Int} (h : Coll D0 left ss) (hl : ∀ kl, left kl = false) (hf : FN f) (hv : View D0 f) : KeysIs f ss := by
  refine ⟨h.nd, fun r => ⟨fun hr => ?_, fun hr => ?_⟩⟩
  · have hw := h.wf r hr
    have := ((h.mem r hw).1 hr).1
    rw [hv.has r hw] at this
    exact of_decide_eq_true this
  · have hw := roW_of (hf.ro r hr)
    refine (h.mem r hw).2 ⟨?_, hl _⟩
    rw [hv.has r hw]
    exact decide_eq_true hr

set_option maxRecDepth 100000 in
set_option maxHeartbeats 1000000 in
theorem mkeys1_in (n : Nat) (hn : 1 ≤ n) (l Bm b nn : Nat) (D0 : DataW Unit) (f : RoI → Int) (hf : FN f) (hvw : View D0 f) (J Jx : List RoI → World → Prop)
    (hY : ∀ pre x W, J pre W → pre.length < 41 → YieldAt Fence.wide (n - 1) Try.prog l #[.agg #[.int .i64 x.1, .int .i64 x.2]] W fun e W' =>
      (e = .returned (.bool true) ∧ J (pre ++ [x]) W' ∧ KeepsWalks W W') ∨ (e = .returned (.bool false) ∧ Jx (pre ++ [x]) W'))
    (W : World) (hJ : AbidesFrom W.heap.size J) (hm : W.cell? ⟨Bm, 0, none⟩ = some (.map (some b))) (hown : W.ownsMap Try.prog 35 elU b nn D0) (h0 : J [] W) :
    CallsIn Fence.wide n Try.prog 145 #[.func (.yield l) #[] #[], .pointer (some ⟨Bm, 0, none⟩)] W fun e W' => (∃ v, e = .returned v) ∧
      ((∃ ys, KeysIs f ys ∧ J ys W') ∨ (∃ pre, True ∧ Jx pre W')) := by
  have hsz := (own_size hf hown hvw).2
  refine callsIn_of_wp Try.func145 rfl trivial ?_ rfl
  simp only [Try.ntmps145, List.size_toArray, List.length_cons, List.length_nil, Nat.reduceAdd, Nat.reduceSub, Array.replicate_succ, Array.replicate_zero, List.push_toArray, List.append_toArray, List.nil_append, List.cons_append]
  gi_wp2_with (first
    | (gi_at_range; refine wpListIn_range_own _ rfl _ 87 rfl 35 97 mp_keyed mp_map _ b nn _ rfl hown ?_; intro w0 hrg0 hg0 hs0)
    | gi_in)
  go_frame
  gi_loopw [3] (fun _ wr => ∃ (left : Lit → Bool) (cnt : Nat) (ss : List RoI), wr.ranges Try.prog 35 elU b W.heap.size nn D0 left cnt ∧ ss.length + cnt ≤ Maps.size D0 ∧ Coll D0 left ss ∧ J ss wr)
    (fun _ wr => wr.rangeLeft b W.heap.size)
  case atStart =>
    exact ⟨_, _, [], hrg0, by simp, coll_start D0, hJ [] W w0 none h0 hg0 (fun r e => by cases e)⟩
  case round =>
    obtain ⟨left, cnt, ss, hrg, hcs, hC, hJs⟩ := hrel
    gi_wp2_with (first
      | (gi_at_next; refine wpListIn_next_ranges _ rfl _ rfl 35 mp_keyed elU roV id (fun key kl hk => by obtain ⟨r, _, hr, _⟩ := key_inv hk; exact ⟨r, hr⟩) (fun v _ _ => ⟨v, rfl⟩) b W.heap.size nn _ _ _ rfl hrg ?_ ?_)
      | gi_in)
    · intro hc0 hl0
      gi_wp2
      go_end0
      exact ⟨⟨_, rfl⟩, .inl ⟨ss, coll_end hC hl0 hf hvw, hJs⟩⟩
    · intro o nm c kl yd yp w2 cnt2 hkey hlk hv hat hrg2 hlt hg2 hs2 hen
      obtain ⟨r, hr, ex, rfl⟩ := key_inv hkey
      obtain rfl : (o, nm) = r := by simp at ex; exact Prod.ext ex.1 ex.2
      have hh : Maps.has D0 (keyL (o, nm)) = true := has_true_of_atKey hat
      simp only [roV] at hen
      have hlen : ss.length < 41 := by omega
      have hJ2 : J ss w2 := hJ ss wr w2 (some W.heap.size) hJs hg2 (fun r e => by cases e; exact ⟨Nat.le_refl _, hrg.iter_walk⟩)
      have hJ3 : J ss (w2.alloc (.cells #[.int .i64 o, .int .i64 nm] 35)) := hJ ss w2 _ none hJ2 (World.grownBy_alloc _ _ _) (fun r e => by cases e)
      have hrg3 := hrg2.alloc (.cells #[.int .i64 o, .int .i64 nm] 35)
      obtain ⟨fn, tmps, assign, body, hy, hR⟩ := hY ss (o, nm) _ hJ3 hlen
      have hR' := hR.mono (R' := fun e W' => ∃ b : Bool, e = .returned (.bool b) ∧ Hid ((b = true ∧ J (ss ++ [(o, nm)]) W' ∧ KeepsWalks (w2.alloc (.cells #[.int .i64 o, .int .i64 nm] 35)) W') ∨ (b = false ∧ Jx (ss ++ [(o, nm)]) W'))) (by
        rintro e W' (⟨rfl, h⟩ | ⟨rfl, h⟩)
        · exact ⟨true, rfl, .inl ⟨rfl, h⟩⟩
        · exact ⟨false, rfl, .inr ⟨rfl, h⟩⟩)
      have HC : Hid (Coll D0 (fun z => left z && !z.sameKey (keyL (o, nm))) (ss ++ [(o, nm)])) := coll_step hC hr hlk hh
      have HM : Hid (wr.rangeLeft b W.heap.size = cnt ∧ cnt2 < cnt) := ⟨hrg.left_eq, hlt⟩
      have HR3 : Hid ((w2.alloc (.cells #[.int .i64 o, .int .i64 nm] 35)).ranges Try.prog 35 elU b W.heap.size nn D0 (fun z => left z && !z.sameKey (keyL (o, nm))) cnt2) := hrg3
      clear hR hY hJ hJ2 hJ3 hJs h0 hC hrg hrg2 hrg3 hs2 hat hlk hh hg2 hown hvw
      gi_wp2
      refine hR'.mono ?_
      rintro e W3 ⟨bb, rfl, HD⟩
      rcases HD.out with ⟨rfl, hJ4, hk4⟩ | ⟨rfl, hJx⟩
      · gi_wp2
        have hrg4 := World.ranges.of_walks HR3.out hk4
        go_roundw
        case rel => exact ⟨_, cnt2, ss ++ [(o, nm)], hrg4, by simp; omega, HC.out, hJ4⟩
        case measure => rw [hrg4.left_eq, HM.out.1]; exact HM.out.2
      · gi_wp2
        refine bodyPost_ret (results_none rfl _ _ _) rfl ?_
        exact ⟨⟨_, rfl⟩, .inr ⟨_, trivial, hJx⟩⟩

set_option maxHeartbeats 1000000 in
theorem mkeys_in (n : Nat) (b : Nat) (w : World) :
    CallsIn Fence.wide n Try.prog 110 #[.map (some b)] w fun e w' => e = .returned (.func (.func 145) #[] #[.pointer (some ⟨w.heap.size, 0, none⟩)]) ∧ w.alloc (.cells #[.map (some b)] 87) = w' := by
  refine callsIn_of_wp Try.func110 rfl trivial ?_ rfl
  simp only [Try.ntmps110, List.size_toArray, List.length_cons, List.length_nil, Nat.reduceAdd, Nat.reduceSub, Array.replicate_succ, Array.replicate_zero, List.push_toArray, List.append_toArray, List.nil_append, List.cons_append]
  gi_wp2
  go_ret
  exact ⟨rfl, rfl⟩

theorem mkeys_stops (n : Nat) (hn : 1 ≤ n) (Bm b : Nat) (f : RoI → Int) (w : World) (hBm : Bm < w.heap.size) (hm : w.cell? ⟨Bm, 0, none⟩ = some (.map (some b))) (h : GM w b f) :
    SeqStopsK Fence.wide n Try.prog 145 #[.pointer (some ⟨Bm, 0, none⟩)] (fun x : RoI => #[.agg #[.int .i64 x.1, .int .i64 x.2]]) KeepsWalks (KeysIs f) (fun _ => True) 41 w := fun l J Jx W hW hJ _ hY h0 => by
  obtain ⟨hf, D, nn, ho, hv⟩ := h.below h.lt hW
  exact mkeys1_in n hn l Bm b nn D f hf hv J Jx (fun pre x W hj hl => hY pre x W hj hl) W hJ ((hW.cell (p := ⟨Bm, 0, none⟩) hBm).trans hm) ho h0

end Go.Proofs.Ytdooocjjohdpjaa

namespace Go.Proofs
open Go.Shelf
def Try.sortRole_ren : Go.Shelf.Ren := ⟨fun | 6 => 72 | 15 => 125 | 14 => 124 | 28 => 159 | 29 => 160 | 20 => 151 | 21 => 152 | 22 => 153 | 23 => 154 | 24 => 155 | 25 => 156 | 26 => 157 | 27 => 158 | 46 => 166 | 47 => 167 | 48 => 168 | 49 => 169 | 50 => 170 | 57 => 173 | n => n, fun | 22 => 45 | 24 => 35 | 25 => 96 | 3 => 3 | 39 => 170 | 0 => 0 | 53 => 198 | 55 => 180 | 4 => 4 | 46 => 192 | 45 => 191 | 50 => 128 | 5 => 5 | 9 => 9 | 66 => 203 | 70 => 207 | 76 => 211 | 77 => 212 | n => n, fun | n => n⟩
theorem Try.sortRole : Go.Proofs.SlLaysF0.n6 Try.prog Try.sortRole_ren := {
  mixed := by kernel_rfl
  f6 := ⟨Try.f72.name, by decide, Try.func72.trans (congrArg some (by kernel_rfl))⟩
  f14 := ⟨Try.f124.name, by decide, Try.func124.trans (congrArg some (by kernel_rfl))⟩
  f15 := Try.func125.trans (congrArg some (by kernel_rfl))
  f20 := ⟨Try.f151.name, by decide, Try.func151.trans (congrArg some (by kernel_rfl))⟩
  f21 := ⟨Try.f152.name, by decide, Try.func152.trans (congrArg some (by kernel_rfl))⟩
  f22 := ⟨Try.f153.name, by decide, Try.func153.trans (congrArg some (by kernel_rfl))⟩
  f23 := ⟨Try.f154.name, by decide, Try.func154.trans (congrArg some (by kernel_rfl))⟩
  f24 := ⟨Try.f155.name, by decide, Try.func155.trans (congrArg some (by kernel_rfl))⟩
  f25 := ⟨Try.f156.name, by decide, Try.func156.trans (congrArg some (by kernel_rfl))⟩
  f26 := ⟨Try.f157.name, by decide, Try.func157.trans (congrArg some (by kernel_rfl))⟩
  f27 := ⟨Try.f158.name, by decide, Try.func158.trans (congrArg some (by kernel_rfl))⟩
  f28 := Try.func159.trans (congrArg some (by kernel_rfl))
  f29 := Try.func160.trans (congrArg some (by kernel_rfl))
  f46 := ⟨Try.f166.name, by decide, Try.func166.trans (congrArg some (by kernel_rfl))⟩
  f47 := Try.func167.trans (congrArg some (by kernel_rfl))
  f48 := Try.func168.trans (congrArg some (by kernel_rfl))
  f49 := ⟨Try.f169.name, by decide, Try.func169.trans (congrArg some (by kernel_rfl))⟩
  f50 := ⟨Try.f170.name, by decide, Try.func170.trans (congrArg some (by kernel_rfl))⟩
  f57 := ⟨Try.f173.name, by decide, Try.func173.trans (congrArg some (by kernel_rfl))⟩
  t0 := Try.underlying0
  a0 := Try.isAgg0
  z0 := Try.sizeOf0
  v0 := Try.zeroValue0
  t3 := Try.underlying3
  a3 := Try.isAgg3
  z3 := Try.sizeOf3
  v3 := Try.zeroValue3
  t4 := Try.underlying4
  a4 := Try.isAgg4
  z4 := Try.sizeOf4
  v4 := Try.zeroValue4
  t5 := Try.underlying5
  a5 := Try.isAgg5
  z5 := Try.sizeOf5
  v5 := Try.zeroValue5
  t9 := Try.underlying9
  a9 := Try.isAgg9
  z9 := Try.sizeOf9
  v9 := Try.zeroValue9
  t22 := Try.underlying45
  a22 := Try.isAgg45
  z22 := Try.sizeOf45
  v22 := Try.zeroValue45
  t25 := Try.underlying96
  a25 := Try.isAgg96
  z25 := Try.sizeOf96
  v25 := Try.zeroValue96
  t39 := Try.underlying170
  a39 := Try.isAgg170
  z39 := Try.sizeOf170
  v39 := Try.zeroValue170
  t45 := Try.underlying191
  a45 := Try.isAgg191
  z45 := Try.sizeOf191
  v45 := Try.zeroValue191
  t46 := Try.underlying192
  a46 := Try.isAgg192
  z46 := Try.sizeOf192
  v46 := Try.zeroValue192
  t50 := Try.underlying128
  a50 := Try.isAgg128
  z50 := Try.sizeOf128
  v50 := Try.zeroValue128
  t53 := Try.underlying198
  a53 := Try.isAgg198
  z53 := Try.sizeOf198
  v53 := Try.zeroValue198
  t55 := Try.underlying180
  a55 := Try.isAgg180
  z55 := Try.sizeOf180
  v55 := Try.zeroValue180
  t66 := Try.underlying203
  a66 := Try.isAgg203
  z66 := Try.sizeOf203
  v66 := Try.zeroValue203
  t70 := Try.underlying207
  a70 := Try.isAgg207
  z70 := Try.sizeOf207
  v70 := Try.zeroValue207
  t76 := Try.underlying211
  a76 := Try.isAgg211
  z76 := Try.sizeOf211
  v76 := Try.zeroValue211
  t77 := Try.underlying212
  a77 := Try.isAgg212
  z77 := Try.sizeOf212
  v77 := Try.zeroValue212 }
end Go.Proofs

namespace Go.Proofs.Ytdooocjjohdpjaa
open Go.RowKit Go.Sort Go.Proofs Go.Lib
set_option linter.unusedVariables false
set_option linter.unusedSimpArgs false

def cmpI (x y : Int) : Int := if x < y then -1 else if y < x then 1 else 0
def orC (c d : Int) : Int := if c = 0 then d else c
def cfR (p q : RoI) : Int := orC (cmpI p.1 q.1) (cmpI p.2 q.2)

theorem ltOf_cfR (p q : RoI) : ltOf cfR p q = ltR p q := by
  unfold ltOf cfR orC ltR cmpI
  rw [Bool.eq_iff_iff]
  simp only [decide_eq_true_eq]
  split <;> (repeat' split) <;> first | omega | (simp_all; try omega)

theorem swo_cfR : SWO (ltOf cfR) where
  irrefl x := by rw [ltOf_cfR]; exact ltR_irrefl x
  trans x y z h1 h2 := by rw [ltOf_cfR] at *; exact ltR_trans h1 h2
  ntrans x y z h1 h2 := by rw [ltOf_cfR] at *; simp [ltR] at *; omega

set_option maxHeartbeats 400000 in
theorem compare_c (x y : Int) (w : World) : Calls Try.prog 120 #[.int .i64 x, .int .i64 y] w fun e w' => e = .returned (.int .i64 (cmpI x y)) ∧ w = w' := by
  unfold cmpI
  by_cases h1 : x < y
  · go_enter Try.func120, Try.ntmps120
    go_wp2
    go_ret
    exact ⟨by simp [h1], rfl⟩
  · by_cases h2 : y < x
    · go_enter Try.func120, Try.ntmps120
      go_wp2
      go_ret
      exact ⟨by simp [h1, h2], rfl⟩
    · go_enter Try.func120, Try.ntmps120
      go_wp2
      go_ret
      exact ⟨by simp [h1, h2], rfl⟩

set_option maxHeartbeats 400000 in
theorem or_c (g : Nat) (c d : Int) (w : World) (h0 : w.cell? ⟨g, 0, none⟩ = some (.int .i64 c)) (h1 : w.cell? ⟨g, 1, none⟩ = some (.int .i64 d)) :
    Calls Try.prog 119 #[.slice (some ⟨g, 0, none⟩) 2 2] w fun e w' => e = .returned (.int .i64 (orC c d)) ∧ w = w' := by
  go_enter Try.func119, Try.ntmps119
  go_wp2
  go_loop [8] (fun i => ∃ k : Nat, k ≤ 2 ∧ i = .int .i64 (k : Int) ∧ (1 ≤ k → c = 0) ∧ (2 ≤ k → d = 0)) (fun i => 2 - (intOf i).toNat)
  case atStart => exact ⟨0, by omega, rfl, fun h => by omega, fun h => by omega⟩
  case round =>
    obtain ⟨k, hk, rfl, hc, hd⟩ := hrel
    have hk' : k = 0 ∨ k = 1 ∨ k = 2 := by omega
    rcases hk' with rfl | rfl | rfl
    · clear hc hd
      by_cases e : c = 0
      · have b : (c != 0) = false := by simp [e]
        have HE : Hid (c = 0) := e
        clear e
        go_wp2
        exact ⟨⟨1, by omega, by go_num, fun _ => HE.out, fun h => by omega⟩, by simp [intOf]⟩
      · have b : (c != 0) = true := by simp [e]
        go_wp2
        go_ret
        exact ⟨by simp [orC, e], rfl⟩
    · have HC : Hid (c = 0) := hc (by omega)
      clear hc hd
      by_cases e : d = 0
      · have b : (d != 0) = false := by simp [e]
        have HE : Hid (d = 0) := e
        clear e
        go_wp2
        exact ⟨⟨2, by omega, by go_num, fun _ => HC.out, fun _ => HE.out⟩, by simp [intOf]⟩
      · have b : (d != 0) = true := by simp [e]
        go_wp2
        go_ret
        exact ⟨by simp [orC, HC.out], rfl⟩
    · have HC : Hid (c = 0) := hc (by omega)
      have HD : Hid (d = 0) := hd (by omega)
      clear hc hd
      go_wp2
      go_ret
      exact ⟨by simp [orC, HC.out, HD.out], rfl⟩

def enc2 (x : RoI) : List Value := [.int .i64 x.1, .int .i64 x.2]

set_option maxHeartbeats 1000000 in
theorem closure_c (x y : RoI) (W : World) : Calls Try.prog 65 #[.agg #[.int .i64 x.1, .int .i64 x.2], .agg #[.int .i64 y.1, .int .i64 y.2]] W fun e w' => e = .returned (.int .i64 (cfR x y)) ∧ ∃ q os', w' = grow (W.drewN q) os' := by
  have HF : Hid (cfR x y = orC (cmpI x.1 y.1) (cmpI x.2 y.2)) := rfl
  go_enter Try.func65, Try.ntmps65
  go_wp2
  go_region_held3 (fun w' => w'.cell? ⟨W.heap.size, 0, none⟩ = some (.int .i64 x.1) ∧ w'.cell? ⟨W.heap.size, 1, none⟩ = some (.int .i64 x.2) ∧ w'.cell? ⟨W.heap.size + 1, 0, none⟩ = some (.int .i64 y.1) ∧ w'.cell? ⟨W.heap.size + 1, 1, none⟩ = some (.int .i64 y.2)) (first | assumption | (refine ⟨?_, ?_, ?_, ?_⟩ <;> simp [go_sem]))
    (first | (go_at_call 120; refine (compare_c _ _ _).mono ?_; rintro e w' ⟨rfl, rfl⟩) | (go_at_call 119; refine (or_c _ (cmpI x.1 y.1) (cmpI x.2 y.2) _ ?_ ?_).mono ?_; (· simp [go_sem]); (· simp [go_sem]); rintro e w' ⟨rfl, rfl⟩))
  all_goals go_wp2
  all_goals go_ret
  all_goals exact ⟨by rw [HF.out]; rfl, 1, _, by simp only [alloc_eq_grow, drew_grow, grow_grow]; rfl⟩

theorem cmpLays_c (blk off size : Nat) (w : World) : CmpLays Try.prog 65 #[] enc2 2 cfR blk off size w := fun _ _ _ _ x y => closure_c x y _

theorem flatK_eq (xs : List RoI) : flatK enc2 2 xs.toArray = (flat2 xs).toArray := by
  apply Array.ext
  · simp [flat2_len]
  · intro t h1 h2
    have ht : t < xs.length * 2 := by simpa using h1
    have hk : t / 2 < xs.length := by omega
    have e0 := get_flatK enc2 2 xs.toArray t (by simpa using ht)
    rw [getElem!_pos _ t h1] at e0
    rw [e0]
    have hx : xs[t / 2]? = some (xs[t / 2]) := List.getElem?_eq_getElem hk
    have hd : xs.toArray[t / 2]! = xs[t / 2] := by rw [getElem!_pos _ _ (by simpa using hk)]; simp
    rw [hd]
    rcases Nat.mod_two_eq_zero_or_one t with hm | hm
    · have h3 := flat2_fst xs (t / 2) _ hx
      rw [show t / 2 * 2 = t by omega, List.getElem?_eq_getElem (by simpa using h2)] at h3
      rw [hm]
      simp only [enc2, List.getElem_toArray]
      exact (Option.some.inj h3).symm
    · have h3 := flat2_snd xs (t / 2) _ hx
      rw [show t / 2 * 2 + 1 = t by omega, List.getElem?_eq_getElem (by simpa using h2)] at h3
      rw [hm]
      simp only [enc2, List.getElem_toArray]
      exact (Option.some.inj h3).symm

theorem owns_sorted2 {w : World} {B g cap q : Nat} {os : Array Obj} {xs ys : List RoI} (h : Owns2 w B (.slice (some ⟨g, 0, none⟩) xs.length cap) xs) (hl : ys.length = xs.length) :
    Owns2 (grow (putRow id (Sort.ahead w q) g 0 (flat2 ys).toArray) os) B (.slice (some ⟨g, 0, none⟩) xs.length cap) ys ∧ w.grownBy (grow (putRow id (Sort.ahead w q) g 0 (flat2 ys).toArray) os) (some g) := by
  have h0 : w.ownsRow B 35 2 (.slice (some ⟨g, 0, none⟩) xs.length cap) xs.length (flat2 xs) := h
  rcases h0.2 with ⟨e0, _⟩ | ⟨g', cap', cur, e0, hb, hg, hn, hm, hs, ht⟩
  · cases e0
  · injection e0 with e1 _ e3
    injection e1 with e1
    injection e1 with e1
    subst e1; subst e3
    have hgl : g < w.heap.size := (Array.getElem?_eq_some_iff.1 hg).1
    refine ⟨⟨by rw [flat2_len], .inr ⟨g, cap, putCells id 0 (flat2 ys).toArray cur, by rw [hl], hb, ?_, by omega, hm, by simpa [putCells] using hs, ?_⟩⟩, ⟨rfl, rfl, rfl, by simp, fun k hk hne => ?_⟩⟩
    · rw [heap_grow_old _ _ (by simpa using hgl)]
      simp [putRow, mapBlock, Sort.ahead, Array.getElem?_modify, hg, onCells]
    · apply List.ext_getElem?
      intro j
      by_cases hj : j < ys.length * 2
      · rw [List.getElem?_take_of_lt hj, Array.getElem?_toList]
        have hjc : j < cur.size := by rw [hs]; omega
        have hjf : j < (flat2 ys).length := by rw [flat2_len]; exact hj
        simp [putCells, hjc, hjf, flat2_len, hj, List.getElem?_eq_getElem hjf]
      · rw [List.getElem?_take_eq_none (by omega), List.getElem?_eq_none (by rw [flat2_len]; omega)]
    · rw [heap_grow_old _ _ (by simpa using hk)]
      have : g ≠ k := fun e => hne (by rw [e])
      simp [putRow, mapBlock, Sort.ahead, Array.getElem?_modify, this]

theorem Try.aggRole (w : World) : (isAgg 35).run Try.prog w = .ok true w := by kernel_rfl
theorem Try.sizeRole (w : World) : (Go.sizeOf 35).run Try.prog w = .ok 2 w := by kernel_rfl

theorem sorts_c : Sorts := by
  intro g cap B xs w h hx
  have h0 : w.ownsRow B 35 2 (.slice (some ⟨g, 0, none⟩) xs.length cap) xs.length (flat2 xs) := h
  have hlt := (h0.lt g rfl)
  have hH : HoldsK enc2 2 w g 0 xs.toArray := by
    unfold HoldsK
    rw [flatK_eq]
    intro j hj
    have hj' : j < xs.length * 2 := by simpa [flat2_len] using hj
    refine ⟨?_, by rw [Nat.zero_add]; exact h0.frozenAt j⟩
    rw [Nat.zero_add, h0.cellAt j hj', getElem!_pos _ j hj]
    rw [List.getElem?_eq_getElem (by rw [flat2_len]; exact hj')]
    simp
  have eg : ∀ args w, (callFunc 65 args).run Try.prog w = .ok (.enter 65 args) w := enters_of Try.func65 (by kernel_rfl) rfl
  have hcon := AnyQ.slices_SortFunc Try.sortRole 2 Try.aggRole Try.sizeRole enc2 (fun _ => rfl) (fun x v hv => by simp [enc2] at hv; rcases hv with rfl | rfl <;> rfl) cfR swo_cfR 65 #[] g 0 cap xs.toArray w eg (cmpLays_c g 0 xs.toArray.size w) hH hlt.2 (by simp; omega)
  change Calls Try.prog 72 _ _ _ at hcon
  simp only [List.size_toArray] at hcon
  refine hcon.mono ?_
  rintro e w' ⟨rfl, d', q, os, hp, hs, rfl⟩
  obtain ⟨hsz, _, hperm⟩ := hp
  have hsz' : d'.toList.length = xs.length := by simpa using hsz
  have hperm' : d'.toList.Perm xs := by
    have h1 := hperm
    simp [hsz] at h1
    rw [List.take_of_length_le (by omega)] at h1
    exact h1
  have ed : d' = d'.toList.toArray := by simp
  have hw : sortWorldK enc2 2 w g 0 q d' os = grow (putRow id (Sort.ahead w q) g 0 (flat2 d'.toList).toArray) os := by
    unfold sortWorldK putRowK
    rw [ed, flatK_eq]
  obtain ⟨ho, hgr⟩ := owns_sorted2 (q := q) (os := os) h hsz'
  rw [hw]
  refine ⟨rfl, d'.toList, hsz', fun x => hperm'.mem_iff, ?_, ho, (Below.refl B w).grown hgr (by have := hlt.1; omega) (fun k e => by cases e; exact hlt.1)⟩
  rw [List.pairwise_iff_getElem]
  intro i j hi hj hij
  have := hs i j (Nat.zero_le _) hij (by omega)
  rw [ltOf_cfR, getElem!_pos _ _ (by simpa using hj), getElem!_pos _ _ (by simpa using hi)] at this
  simpa using this

end Go.Proofs.Ytdooocjjohdpjaa
