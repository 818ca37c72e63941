/-
  CONTRACTS: spec.l3Step, one step of the rules.
  Conditions: each contract bears its own.
-/
import Derived.Test.YtpeddanicenohaaGreatGr4
namespace Go.Proofs.YtpeddanicenohaaGreat
open Go.RowKit
set_option linter.unusedVariables false
set_option linter.unusedSimpArgs false

theorem flat3_cell {w : World} {b off n : Nat} {gs : List GrI} (h : GrIn w (some ⟨b, off, none⟩) n gs) : ∀ j u, (flat3 gs)[j]? = some u → w.cell? ((⟨b, off, none⟩ : Addr).add j) = some u := by
  intro j u hj
  have hjl : j < gs.length * 3 := by
    by_cases q : j < gs.length * 3
    · exact q
    · rw [List.getElem?_eq_none (by rw [flat3_len]; omega)] at hj; cases hj
  have hk : j / 3 < n := by rw [← h.1]; omega
  obtain ⟨b', off', x, e, hx, ⟨c0, c1, c2⟩, _⟩ := h.at hk
  cases e
  obtain ⟨f0, f1, f2⟩ := flat3_at gs (j / 3) x hx
  rw [Go.WideShapes.add_plain]
  have hm : j = j / 3 * 3 ∨ j = j / 3 * 3 + 1 ∨ j = j / 3 * 3 + 2 := by omega
  rcases hm with e | e | e
  · rw [e, f0] at hj; rw [e, ← hj]; exact c0
  · rw [e, f1] at hj; rw [e, ← hj, ← Nat.add_assoc]; exact c1
  · rw [e, f2] at hj; rw [e, ← hj, ← Nat.add_assoc]; exact c2

set_option maxHeartbeats 1000000 in
theorem l3Step_c (b0 off0 n c : Nat) (gs : List GrI) (a : Option Addr) (m d : Nat) (zs : List RuleI) (w : World) (hg : GrIn w (some ⟨b0, off0, none⟩) n gs) (hs : SG gs) (hr : RulesIn w a m zs) (hm : m ≤ 1000) (hz : ∀ z ∈ zs, okR z ∧ 1 ≤ z.k ∧ z.k ≤ 4) :
    Calls Tryz.prog 22 #[.slice a m d, .slice (some ⟨b0, off0, none⟩) n c] w fun e w' => ∃ g l cap, e = .returned (.slice (some ⟨g, 0, none⟩) l cap) ∧ (stepG zs gs).length = l ∧ Own3 w' w.heap.size (.slice (some ⟨g, 0, none⟩) l cap) (stepG zs gs) ∧ Below w.heap.size w w' := by
  have hn : n ≤ 40 := by rw [← hg.1]; exact sg_len hs
  obtain ⟨i0, hi, hz0, hz1, hz2⟩ := info_parts Tryz.info38
  have HG : Hid (GrIn w (some ⟨b0, off0, none⟩) n gs) := hg
  have HS : Hid (SG gs) := hs
  have HR : Hid (RulesIn w a m zs) := hr
  have HZ : Hid (∀ z ∈ zs, okR z ∧ 1 ≤ z.k ∧ z.k ≤ 4) := hz
  clear hg hs hr hz
  have hn' : (n : Int) ≤ 40 := by omega
  have hm' : (m : Int) ≤ 1000 := by omega
  go_enter Tryz.func22, Tryz.ntmps22
  go_wp2_with (first | (at_builtin; refine wpList_append_own _ rfl _ _ 36 rfl w.heap.size 38 i0 (.agg #[.int .i64 0, .int .i64 0, .int .i64 0]) 3 24 Tryz.under36 hi hz0 hz1 hz2 rfl (by decide) (.slice (some ⟨w.heap.size, 0, none⟩) 0 0) 0 [] rfl ?c0 ⟨b0, off0, none⟩ n c (flat3 gs) rfl ?cl ?c1 ?c2 ?c3 ?c4 ?c5 ?_))
  case c0 => exact World.ownsRow_lit w #[] 0 (Nat.le_refl _) (Nat.zero_le _) rfl
  case cl => rw [flat3_len, HG.out.1]
  case c1 => exact flat3_cell (HG.out.below ((Below.refl _ _).alloc (Nat.le_refl _) _))
  case c2 => exact flat3_one gs
  case c3 => unfold maxLen; omega
  case c4 => omega
  case c5 => simp
  · intro v1 w1 hown hgrow hnil
    have R1 : Own3 w1 w.heap.size v1 gs := by
      unfold Own3
      rw [HG.out.1]
      simpa using hown
    have R2 : Hid (Below w.heap.size w w1) := ((Below.refl _ _).alloc (Nat.le_refl _) _).grown hgrow (by simp) (fun j hj => by simp [Value.ownBlock] at hj; omega)
    have hnn : v1 ≠ .slice none 0 0 := by first | exact hnil | simpa using hnil
    obtain ⟨g1, cap1, rfl⟩ := R1.shape hnn
    have HO : Hid (Own3 w1 w.heap.size (.slice (some ⟨g1, 0, none⟩) gs.length cap1) gs) := R1
    clear R1 hown hgrow hnil hnn
    go_wp2
    go_loopw [5, 6] (fun v i wr => ∃ k l g cap : Nat, k ≤ m ∧ i = .int .i64 (k : Int) ∧ v = .slice (some ⟨g, 0, none⟩) l cap ∧ (stepTo zs gs k).length = l ∧ Own3 wr w.heap.size (.slice (some ⟨g, 0, none⟩) l cap) (stepTo zs gs k) ∧ Below w.heap.size w wr) (fun _ i _ => m - (intOf i).toNat)
    case atStart => exact ⟨0, _, g1, cap1, Nat.zero_le _, rfl, rfl, by rw [stepTo_zero], by rw [stepTo_zero]; exact HO.out, R2.out⟩
    case round =>
      obtain ⟨k, l, g, cap, hk, rfl, rfl, hl, hown, hnx⟩ := hrel
      by_cases hlt : k < m
      · obtain ⟨b, off, z, e, hzk, hra⟩ := (HR.out.below hnx).at hlt
        subst e
        have hzm : z ∈ zs := List.mem_of_getElem? hzk
        have HE : Hid (stepTo zs gs (k + 1) = addG (stepTo zs gs k) (z.ho, z.hn) (byF (ofG gs) z)) := stepTo_succ hzk gs
        have HBY : Hid (∀ W : World, ((∀ b o, b < wr.heap.size → W.cell? ⟨b, o, none⟩ = wr.cell? ⟨b, o, none⟩) ∧ Below wr.heap.size wr W) → Calls Tryz.prog 46 #[.slice (some ⟨b0, off0, none⟩) n c, .pointer (some ⟨b, off + k * 8, none⟩)] W fun e w' => e = .returned (.int .i64 (byF (ofG gs) z)) ∧ Below W.heap.size W w') := fun W hW =>
          l3By_c _ _ _ gs b (off + k * 8) z W ((HG.out.below hnx).below hW.2) (by omega) (hra.below hW.2) (ofG_set HS.out) (HZ.out z hzm).1 (HZ.out z hzm).2
        have HAD : Hid (∀ W : World, ((∀ b o, b < wr.heap.size → W.cell? ⟨b, o, none⟩ = wr.cell? ⟨b, o, none⟩) ∧ Below wr.heap.size wr W) → Calls Tryz.prog 47 #[.slice (some ⟨g, 0, none⟩) l cap, .agg #[.int .i64 z.ho, .int .i64 z.hn], .int .i64 (byF (ofG gs) z)] W fun e w' => ∃ g' m' cap', e = .returned (.slice (some ⟨g', 0, none⟩) m' cap') ∧ (stepTo zs gs (k + 1)).length = m' ∧ Own3 w' w.heap.size (.slice (some ⟨g', 0, none⟩) m' cap') (stepTo zs gs (k + 1)) ∧ Below W.heap.size W w') := fun W hW => by
          rw [HE.out]
          exact l3Add_c w.heap.size g l cap _ (z.ho, z.hn) _ W hl (hown.below hW.2) (sg_stepTo (fun z h => (HZ.out z h).1) HS.out k) (Nat.le_trans hnx.size hW.2.size)
        obtain ⟨h0, h1, h2, _⟩ := hra
        have hbb : b < wr.heap.size := World.block_lt_of_cell? wr ⟨b, off + k * 8, none⟩ h0
        have hlt' : (k : Int) < (m : Int) := by omega
        clear hown hl HE hzm hzk
        go_wp2_with fail
        go_region_held3 (fun w' => (∀ b o, b < wr.heap.size → w'.cell? ⟨b, o, none⟩ = wr.cell? ⟨b, o, none⟩) ∧ Below wr.heap.size wr w') (first | exact hS | exact kp_drew _)
          (first
            | (go_at_call 46; refine (HBY.out _ (by assumption)).mono ?_; rintro e w' ⟨rfl, hb1⟩; have hS := kp_step (by assumption) hb1)
            | (go_at_call 47; refine (HAD.out _ (by assumption)).mono ?_; rintro e w' ⟨g', m', cap', rfl, hl', hown', hb1⟩; have hS := kp_step (by assumption) hb1))
        go_wp2
        exact ⟨⟨k + 1, m', g', cap', by omega, by go_num, rfl, hl', hown', hnx.trans (hS.2.mono hnx.size)⟩, by simp [intOf]; omega⟩
      · have hkn : k = m := by omega
        subst hkn
        have E : Hid (stepTo zs gs k = stepG zs gs) := by show stepTo zs gs k = _; rw [stepG, HR.out.1]
        have HO2 : Hid (Own3 wr w.heap.size (.slice (some ⟨g, 0, none⟩) l cap) (stepG zs gs)) := by rw [← E.out]; exact hown
        have HL : Hid ((stepG zs gs).length = l) := by rw [← E.out]; exact hl
        clear hown hl E
        go_wp2
        go_ret
        exact ⟨g, l, cap, rfl, HL.out, HO2.out, hnx⟩

end Go.Proofs.YtpeddanicenohaaGreat
