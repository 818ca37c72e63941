/-
  CONTRACTS: spec.l3By, whom a rule gives its head.
  Conditions: each contract bears its own.
-/
import Derived.Test.YtaeigimgobilaaaGreatDoorGr2
import Derived.Test.YtaeigimgobilaaaGreatDoorBits1
import Derived.Deep.RegionHeld3
import Derived.Deep.DeepCutAuto
import Derived.Deep.CutBlock
namespace Go.Proofs.YtaeigimgobilaaaGreatDoor
open Go.RowKit
set_option linter.unusedVariables false
set_option linter.unusedSimpArgs false

set_option maxHeartbeats 1000000 in
theorem l3By_1 (a : Option Addr) (n c : Nat) (gs : List GrI) (g off : Nat) (r : RuleI) (w : World) (hg : GrIn w a n gs) (hn : n ≤ 1048576) (hr : RuleAt w g off r) (hs : ∀ q, setB (ofG gs q)) (hk : okR r) (hk4 : r.k = 1) :
    Calls Tryz.prog 120 #[.slice a n c, .pointer (some ⟨g, off, none⟩)] w fun e w' => e = .returned (.int .i64 (byF (ofG gs) r)) ∧ Below w.heap.size w w' := by
  have HG : Hid (GrIn w a n gs) := hg
  have HX : Hid (RuleAt w g off r) := hr
  have HS : Hid (∀ q, setB (ofG gs q)) := hs
  have E : Hid (byF (ofG gs) r = bitI r.w) := by show byF (ofG gs) r = _; simp [byF, hk4]
  have hw := hk.2 hk4
  clear hk
  clear hg hr hs
  obtain ⟨k, ho, hn0, wh, oo, on, t0, tn⟩ := r
  have hb : Below w.heap.size w w := Below.refl _ _
  obtain ⟨h0, h1, h2, h3, h4, h5, h6, h7⟩ := HX.out.below hb
  simp only at h0 h1 h2 h3 h4 h5 h6 h7 hk4 hw
  subst hk4
  go_enter Tryz.func120, Tryz.ntmps120
  go_wp2_with (first | (go_at_call 78; refine (l3Of_c _ _ _ gs (oo, on) _ (HG.out.below hb) hn).mono ?_; rintro e w1 ⟨rfl, hb1⟩; replace hb := hb.trans (hb1.mono hb.size); clear h0 h1 h2 h3 h4 h5 h6 h7 hb1; obtain ⟨h0, h1, h2, h3, h4, h5, h6, h7⟩ := HX.out.below hb; simp only at h0 h1 h2 h3 h4 h5 h6 h7) | (go_at_call 79; refine (l1Bit_c _ hw.1 hw.2 _).mono ?_; rintro e w2 ⟨rfl, rfl⟩))
  go_ret
  exact ⟨by rw [E.out]; rfl, hb⟩

set_option maxHeartbeats 1000000 in
theorem l3By_2 (a : Option Addr) (n c : Nat) (gs : List GrI) (g off : Nat) (r : RuleI) (w : World) (hg : GrIn w a n gs) (hn : n ≤ 1048576) (hr : RuleAt w g off r) (hs : ∀ q, setB (ofG gs q)) (hk : okR r) (hk4 : r.k = 2) :
    Calls Tryz.prog 120 #[.slice a n c, .pointer (some ⟨g, off, none⟩)] w fun e w' => e = .returned (.int .i64 (byF (ofG gs) r)) ∧ Below w.heap.size w w' := by
  have HG : Hid (GrIn w a n gs) := hg
  have HX : Hid (RuleAt w g off r) := hr
  have HS : Hid (∀ q, setB (ofG gs q)) := hs
  have E : Hid (byF (ofG gs) r = ofG gs (r.oo, r.on)) := by show byF (ofG gs) r = _; simp [byF, hk4]
  clear hk
  clear hg hr hs
  obtain ⟨k, ho, hn0, wh, oo, on, t0, tn⟩ := r
  have hb : Below w.heap.size w w := Below.refl _ _
  obtain ⟨h0, h1, h2, h3, h4, h5, h6, h7⟩ := HX.out.below hb
  simp only at h0 h1 h2 h3 h4 h5 h6 h7 hk4
  subst hk4
  go_enter Tryz.func120, Tryz.ntmps120
  go_wp2_with (first | (go_at_call 78; refine (l3Of_c _ _ _ gs (oo, on) _ (HG.out.below hb) hn).mono ?_; rintro e w1 ⟨rfl, hb1⟩; replace hb := hb.trans (hb1.mono hb.size); clear h0 h1 h2 h3 h4 h5 h6 h7 hb1; obtain ⟨h0, h1, h2, h3, h4, h5, h6, h7⟩ := HX.out.below hb; simp only at h0 h1 h2 h3 h4 h5 h6 h7))
  go_ret
  exact ⟨by rw [E.out]; rfl, hb⟩

set_option maxHeartbeats 1000000 in
theorem l3By_4 (a : Option Addr) (n c : Nat) (gs : List GrI) (g off : Nat) (r : RuleI) (w : World) (hg : GrIn w a n gs) (hn : n ≤ 1048576) (hr : RuleAt w g off r) (hs : ∀ q, setB (ofG gs q)) (hk : okR r) (hk4 : r.k = 4) :
    Calls Tryz.prog 120 #[.slice a n c, .pointer (some ⟨g, off, none⟩)] w fun e w' => e = .returned (.int .i64 (byF (ofG gs) r)) ∧ Below w.heap.size w w' := by
  have HG : Hid (GrIn w a n gs) := hg
  have HX : Hid (RuleAt w g off r) := hr
  have HS : Hid (∀ q, setB (ofG gs q)) := hs
  have E : Hid (byF (ofG gs) r = andI (ofG gs (r.oo, r.on)) (ofG gs (r.to, r.tn))) := by show byF (ofG gs) r = _; simp [byF, hk4]
  clear hk
  clear hg hr hs
  obtain ⟨k, ho, hn0, wh, oo, on, t0, tn⟩ := r
  have hb : Below w.heap.size w w := Below.refl _ _
  obtain ⟨h0, h1, h2, h3, h4, h5, h6, h7⟩ := HX.out.below hb
  simp only at h0 h1 h2 h3 h4 h5 h6 h7 hk4
  subst hk4
  go_enter Tryz.func120, Tryz.ntmps120
  go_upto_region 8 with (first | (go_at_call 78; refine (l3Of_c _ _ _ gs (oo, on) _ (HG.out.below hb) hn).mono ?_; rintro e w1 ⟨rfl, hb1⟩; replace hb := hb.trans (hb1.mono hb.size); clear h0 h1 h2 h3 h4 h5 h6 h7 hb1; obtain ⟨h0, h1, h2, h3, h4, h5, h6, h7⟩ := HX.out.below hb; simp only at h0 h1 h2 h3 h4 h5 h6 h7))
  go_wp2_with (first | (go_at_call 78; refine (l3Of_c _ _ _ gs (t0, tn) _ (HG.out.below hb) hn).mono ?_; rintro e w2 ⟨rfl, hb1⟩; replace hb := hb.trans (hb1.mono hb.size); clear h0 h1 h2 h3 h4 h5 h6 h7 hb1))
  go_ret
  exact ⟨by rw [E.out]; rfl, hb⟩

set_option maxHeartbeats 1000000 in
theorem l3By_3 (a : Option Addr) (n c : Nat) (gs : List GrI) (g off : Nat) (r : RuleI) (w : World) (hg : GrIn w a n gs) (hn : n ≤ 1048576) (hr : RuleAt w g off r) (hs : ∀ q, setB (ofG gs q)) (hk : okR r) (hk4 : r.k = 3) :
    Calls Tryz.prog 120 #[.slice a n c, .pointer (some ⟨g, off, none⟩)] w fun e w' => e = .returned (.int .i64 (byF (ofG gs) r)) ∧ Below w.heap.size w w' := by
  have HG : Hid (GrIn w a n gs) := hg
  have HX : Hid (RuleAt w g off r) := hr
  have HS : Hid (∀ q, setB (ofG gs q)) := hs
  have E : Hid (byF (ofG gs) r = linkTo (ofG gs) r.tn (listTo (ofG gs (r.oo, r.on)) 8) (listTo (ofG gs (r.oo, r.on)) 8).length) := by show byF (ofG gs) r = _; simp [byF, hk4]
  clear hk
  clear hg hr hs
  obtain ⟨k, ho, hn0, wh, oo, on, t0, tn⟩ := r
  have hb : Below w.heap.size w w := Below.refl _ _
  obtain ⟨h0, h1, h2, h3, h4, h5, h6, h7⟩ := HX.out.below hb
  simp only at h0 h1 h2 h3 h4 h5 h6 h7 hk4
  subst hk4
  go_enter Tryz.func120, Tryz.ntmps120
  go_upto_region 10 with (first | (go_at_call 78; refine (l3Of_c _ _ _ gs (oo, on) _ (HG.out.below hb) hn).mono ?_; rintro e w1 ⟨rfl, hb1⟩; replace hb := hb.trans (hb1.mono hb.size); clear h0 h1 h2 h3 h4 h5 h6 h7 hb1; obtain ⟨h0, h1, h2, h3, h4, h5, h6, h7⟩ := HX.out.below hb; simp only at h0 h1 h2 h3 h4 h5 h6 h7))
  have HLs := HS.out (oo, on)
  obtain ⟨ys, hys⟩ : ∃ ys, ys = listTo (ofG gs (oo, on)) 8 := ⟨_, rfl⟩
  have hl8 : ys.length ≤ 8 := by rw [hys]; exact listTo_len _ 8
  have hl8' : (ys.length : Int) ≤ 8 := by omega
  have E2 : Hid (byF (ofG gs) ⟨3, ho, hn0, wh, oo, on, t0, tn⟩ = linkTo (ofG gs) tn ys ys.length) := by rw [hys]; exact E.out
  have HC : Hid (∀ W : World, Calls Tryz.prog 77 #[.int .i64 (ofG gs (oo, on))] W fun e w' => ∃ g cap, e = .returned (.slice (some ⟨g, 0, none⟩) ys.length cap) ∧ w'.ownsRow W.heap.size 2 1 (.slice (some ⟨g, 0, none⟩) ys.length cap) ys.length (ys.map (Value.int .i64)) ∧ Below W.heap.size W w') := fun W => by rw [hys]; exact l1List_c _ HLs.1 HLs.2 W
  clear E hys HLs
  go_wp2_with (first | (go_at_call 77; refine (HC.out _).mono ?_; rintro e w2 ⟨gl, cl, rfl, hown, hb1⟩; replace hb := hb.trans (hb1.mono hb.size); clear h0 h1 h2 h3 h4 h5 h6 h7 hb1))
  have HR : Hid (RuleAt w2 g off ⟨3, ho, hn0, wh, oo, on, t0, tn⟩) := HX.out.below hb
  have HY : Hid (∀ k y, ys[k]? = some y → w2.cell? ⟨gl, k, none⟩ = some (.int .i64 y)) := fun k y hy => by
    have hk : k < ys.length := by
      by_cases q : k < ys.length
      · exact q
      · rw [List.getElem?_eq_none (by omega)] at hy; cases hy
    rw [hown.cellAt k (by omega), List.getElem?_map, hy]
    rfl
  have hgl : gl < w2.heap.size := by
    rcases hown.2 with ⟨h', _⟩ | ⟨g', cap', cur, h', _, hg', _⟩
    · simp at h'
    · simp at h'; rw [h'.1]; exact (Array.getElem?_eq_some_iff.1 hg').1
  clear hown
  go_loopw [6, 8] (fun o i wr => ∃ k : Nat, k ≤ ys.length ∧ i = .int .i64 (k : Int) ∧ o = .int .i64 (linkTo (ofG gs) tn ys k) ∧ Below w2.heap.size w2 wr) (fun _ i _ => ys.length - (intOf i).toNat)
  case atStart => exact ⟨0, Nat.zero_le _, rfl, by rw [linkTo_zero], Below.refl _ _⟩
  case round =>
    obtain ⟨k, hk, rfl, rfl, hnx⟩ := hrel
    by_cases hlt : k < ys.length
    · obtain ⟨y, hy⟩ : ∃ y, ys[k]? = some y := ⟨_, List.getElem?_eq_getElem hlt⟩
      have c0 := (hnx.cell (p := ⟨gl, k, none⟩) hgl).trans (HY.out k y hy)
      have HL : Hid (linkTo (ofG gs) tn ys (k + 1) = orI (linkTo (ofG gs) tn ys k) (ofG gs (y, tn))) := linkTo_succ hy _ _
      have hw : Below w.heap.size w wr := hb.trans (hnx.mono hb.size)
      clear hy
      obtain ⟨h0, h1, h2, h3, h4, h5, h6, h7⟩ := HR.out.below hnx
      simp only at h0 h1 h2 h3 h4 h5 h6 h7
      have hlt' : (k : Int) < (ys.length : Int) := by omega
      have HQ : Hid (∀ W : World, ((∀ b o, b < wr.heap.size → W.cell? ⟨b, o, none⟩ = wr.cell? ⟨b, o, none⟩) ∧ Below wr.heap.size wr W) → Calls Tryz.prog 78 #[.slice a n c, .agg #[.int .i64 y, .int .i64 tn]] W fun e w' => e = .returned (.int .i64 (ofG gs (y, tn))) ∧ Below W.heap.size W w') := fun W hW => l3Of_c _ _ _ gs (y, tn) _ (HG.out.below (hw.trans (hW.2.mono hw.size))) hn
      have hbg : g < wr.heap.size := World.block_lt_of_cell? wr ⟨g, off, none⟩ h0
      have hgl2 : gl < wr.heap.size := World.block_lt_of_cell? wr ⟨gl, k, none⟩ c0
      go_wp2
      go_region_held3 (fun w' => (∀ b o, b < wr.heap.size → w'.cell? ⟨b, o, none⟩ = wr.cell? ⟨b, o, none⟩) ∧ Below wr.heap.size wr w') (first | exact hS | exact kp_drew _)
        (first | (go_at_call 78; refine (HQ.out _ (by assumption)).mono ?_; rintro e w' ⟨rfl, hb1⟩; have hS := kp_step (by assumption) hb1))
      go_wp2
      exact ⟨⟨k + 1, by omega, by go_num, by rw [HL.out], hnx.trans (hS.2.mono hnx.size)⟩, by simp [intOf]; omega⟩
    · have hkn : k = ys.length := by omega
      subst hkn
      go_wp2
      go_ret
      exact ⟨by rw [E2.out]; rfl, hb.trans (hnx.mono hb.size)⟩

theorem l3By_c (a : Option Addr) (n c : Nat) (gs : List GrI) (g off : Nat) (r : RuleI) (w : World) (hg : GrIn w a n gs) (hn : n ≤ 1048576) (hr : RuleAt w g off r) (hs : ∀ q, setB (ofG gs q)) (hk : okR r) (hk4 : 1 ≤ r.k ∧ r.k ≤ 4) :
    Calls Tryz.prog 120 #[.slice a n c, .pointer (some ⟨g, off, none⟩)] w fun e w' => e = .returned (.int .i64 (byF (ofG gs) r)) ∧ Below w.heap.size w w' := by
  have h4 : r.k = 1 ∨ r.k = 2 ∨ r.k = 3 ∨ r.k = 4 := by omega
  rcases h4 with e | e | e | e
  · exact l3By_1 a n c gs g off r w hg hn hr hs hk e
  · exact l3By_2 a n c gs g off r w hg hn hr hs hk e
  · exact l3By_3 a n c gs g off r w hg hn hr hs hk e
  · exact l3By_4 a n c gs g off r w hg hn hr hs hk e

end Go.Proofs.YtaeigimgobilaaaGreatDoor
