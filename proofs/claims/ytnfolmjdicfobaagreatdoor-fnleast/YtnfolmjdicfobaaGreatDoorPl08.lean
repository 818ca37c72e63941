/-
  CONTRACTS: spec.l3Step, one step of the rules.
  Conditions: each contract bears its own.
  PLAIN WORDS: the rules of a policy without a fault are such as the steps need. No Go text is walked here.
  Conditions: each fact bears its own.
  CONTRACTS: laws.toGrantS (a copy of a slice of grants) and laws.eqGrantS (two that are alike).
  Conditions: each contract bears its own.
  CONTRACT: spec.l3Grants: some grants, at most 41.
  Conditions: each contract bears its own.
-/
import Derived.Test.YtnfolmjdicfobaaGreatDoorPl07
import Derived.Test.YtnfolmjdicfobaaGreatDoorPl06
import Derived.Test.YtnfolmjdicfobaaGreatDoorPl02
import Derived.Deep.RegionHeld3
namespace Go.Proofs.YtnfolmjdicfobaaGreatDoor
open Go.RowKit
set_option linter.unusedVariables false
set_option linter.unusedSimpArgs false

theorem flat3_cell {w : World} {b off n : Nat} {gs : List GrI} (h : GrIn w (some ⟨b, off, none⟩) n gs) : ∀ j u, (flat3 gs)[j]? = some u → w.cell? ((⟨b, off, none⟩ : Addr).add j) = some u := by
  intro j u hj
  have hjl : j < gs.length * 3 := by
    by_cases q : j < gs.length * 3
    · exact q
    · rw [List.getElem?_eq_none (by rw [flat3_len]; omega)] at hj; cases hj
  have hk : j / 3 < n := by rw [← h.1]; omega
  obtain ⟨b', off', x, e, hx, ⟨c0, c1, c2⟩, _⟩ := h.at hk
  cases e
  obtain ⟨f0, f1, f2⟩ := flat3_at gs (j / 3) x hx
  rw [Go.WideShapes.add_plain]
  have hm : j = j / 3 * 3 ∨ j = j / 3 * 3 + 1 ∨ j = j / 3 * 3 + 2 := by omega
  rcases hm with e | e | e
  · rw [e, f0] at hj; rw [e, ← hj]; exact c0
  · rw [e, f1] at hj; rw [e, ← hj, ← Nat.add_assoc]; exact c1
  · rw [e, f2] at hj; rw [e, ← hj, ← Nat.add_assoc]; exact c2

set_option maxHeartbeats 1000000 in
theorem l3Step_c (b0 off0 n c : Nat) (gs : List GrI) (a : Option Addr) (m d : Nat) (zs : List RuleI) (w : World) (hg : GrIn w (some ⟨b0, off0, none⟩) n gs) (hs : SG gs) (hr : RulesIn w a m zs) (hm : m ≤ 1000) (hz : ∀ z ∈ zs, okR z ∧ 1 ≤ z.k ∧ z.k ≤ 4) :
    Calls Tryz.prog 144 #[.slice a m d, .slice (some ⟨b0, off0, none⟩) n c] w fun e w' => ∃ g l cap, e = .returned (.slice (some ⟨g, 0, none⟩) l cap) ∧ (stepG zs gs).length = l ∧ Own3 w' w.heap.size (.slice (some ⟨g, 0, none⟩) l cap) (stepG zs gs) ∧ Below w.heap.size w w' := by
  have hn : n ≤ 40 := by rw [← hg.1]; exact sg_len hs
  obtain ⟨i0, hi, hz0, hz1, hz2⟩ := info_parts Tryz.info196
  have HG : Hid (GrIn w (some ⟨b0, off0, none⟩) n gs) := hg
  have HS : Hid (SG gs) := hs
  have HR : Hid (RulesIn w a m zs) := hr
  have HZ : Hid (∀ z ∈ zs, okR z ∧ 1 ≤ z.k ∧ z.k ≤ 4) := hz
  clear hg hs hr hz
  have hn' : (n : Int) ≤ 40 := by omega
  have hm' : (m : Int) ≤ 1000 := by omega
  go_enter Tryz.func144, Tryz.ntmps144
  go_wp2_with (first | (at_builtin; refine wpList_append_own _ rfl _ _ 158 rfl w.heap.size 196 i0 (.agg #[.int .i64 0, .int .i64 0, .int .i64 0]) 3 24 Tryz.under158 hi hz0 hz1 hz2 rfl (by decide) (.slice (some ⟨w.heap.size, 0, none⟩) 0 0) 0 [] rfl ?c0 ⟨b0, off0, none⟩ n c (flat3 gs) rfl ?cl ?c1 ?c2 ?c3 ?c4 ?c5 ?_))
  case c0 => exact World.ownsRow_lit w #[] 0 (Nat.le_refl _) (Nat.zero_le _) rfl
  case cl => rw [flat3_len, HG.out.1]
  case c1 => exact flat3_cell (HG.out.below ((Below.refl _ _).alloc (Nat.le_refl _) _))
  case c2 => exact flat3_one gs
  case c3 => unfold maxLen; omega
  case c4 => omega
  case c5 => simp
  · intro v1 w1 hown hgrow hnil
    have R1 : Own3 w1 w.heap.size v1 gs := by
      unfold Own3
      rw [HG.out.1]
      simpa using hown
    have R2 : Hid (Below w.heap.size w w1) := ((Below.refl _ _).alloc (Nat.le_refl _) _).grown hgrow (by simp) (fun j hj => by simp [Value.ownBlock] at hj; omega)
    have hnn : v1 ≠ .slice none 0 0 := by first | exact hnil | simpa using hnil
    obtain ⟨g1, cap1, rfl⟩ := R1.shape hnn
    have HO : Hid (Own3 w1 w.heap.size (.slice (some ⟨g1, 0, none⟩) gs.length cap1) gs) := R1
    clear R1 hown hgrow hnil hnn
    go_wp2
    go_loopw [5, 6] (fun v i wr => ∃ k l g cap : Nat, k ≤ m ∧ i = .int .i64 (k : Int) ∧ v = .slice (some ⟨g, 0, none⟩) l cap ∧ (stepTo zs gs k).length = l ∧ Own3 wr w.heap.size (.slice (some ⟨g, 0, none⟩) l cap) (stepTo zs gs k) ∧ Below w.heap.size w wr) (fun _ i _ => m - (intOf i).toNat)
    case atStart => exact ⟨0, _, g1, cap1, Nat.zero_le _, rfl, rfl, by rw [stepTo_zero], by rw [stepTo_zero]; exact HO.out, R2.out⟩
    case round =>
      obtain ⟨k, l, g, cap, hk, rfl, rfl, hl, hown, hnx⟩ := hrel
      by_cases hlt : k < m
      · obtain ⟨b, off, z, e, hzk, hra⟩ := (HR.out.below hnx).at hlt
        subst e
        have hzm : z ∈ zs := List.mem_of_getElem? hzk
        have HE : Hid (stepTo zs gs (k + 1) = addG (stepTo zs gs k) (z.ho, z.hn) (byF (ofG gs) z)) := stepTo_succ hzk gs
        have HBY : Hid (∀ W : World, ((∀ b o, b < wr.heap.size → W.cell? ⟨b, o, none⟩ = wr.cell? ⟨b, o, none⟩) ∧ Below wr.heap.size wr W) → Calls Tryz.prog 158 #[.slice (some ⟨b0, off0, none⟩) n c, .pointer (some ⟨b, off + k * 8, none⟩)] W fun e w' => e = .returned (.int .i64 (byF (ofG gs) z)) ∧ Below W.heap.size W w') := fun W hW =>
          l3By_c _ _ _ gs b (off + k * 8) z W ((HG.out.below hnx).below hW.2) (by omega) (hra.below hW.2) (ofG_set HS.out) (HZ.out z hzm).1 (HZ.out z hzm).2
        have HAD : Hid (∀ W : World, ((∀ b o, b < wr.heap.size → W.cell? ⟨b, o, none⟩ = wr.cell? ⟨b, o, none⟩) ∧ Below wr.heap.size wr W) → Calls Tryz.prog 157 #[.slice (some ⟨g, 0, none⟩) l cap, .agg #[.int .i64 z.ho, .int .i64 z.hn], .int .i64 (byF (ofG gs) z)] W fun e w' => ∃ g' m' cap', e = .returned (.slice (some ⟨g', 0, none⟩) m' cap') ∧ (stepTo zs gs (k + 1)).length = m' ∧ Own3 w' w.heap.size (.slice (some ⟨g', 0, none⟩) m' cap') (stepTo zs gs (k + 1)) ∧ Below W.heap.size W w') := fun W hW => by
          rw [HE.out]
          exact l3Add_c w.heap.size g l cap _ (z.ho, z.hn) _ W hl (hown.below hW.2) (sg_stepTo (fun z h => (HZ.out z h).1) HS.out k) (Nat.le_trans hnx.size hW.2.size)
        obtain ⟨h0, h1, h2, _⟩ := hra
        have hbb : b < wr.heap.size := World.block_lt_of_cell? wr ⟨b, off + k * 8, none⟩ h0
        have hlt' : (k : Int) < (m : Int) := by omega
        clear hown hl HE hzm hzk
        go_wp2_with fail
        go_region_held3 (fun w' => (∀ b o, b < wr.heap.size → w'.cell? ⟨b, o, none⟩ = wr.cell? ⟨b, o, none⟩) ∧ Below wr.heap.size wr w') (first | exact hS | exact kp_drew _)
          (first
            | (go_at_call 158; refine (HBY.out _ (by assumption)).mono ?_; rintro e w' ⟨rfl, hb1⟩; have hS := kp_step (by assumption) hb1)
            | (go_at_call 157; refine (HAD.out _ (by assumption)).mono ?_; rintro e w' ⟨g', m', cap', rfl, hl', hown', hb1⟩; have hS := kp_step (by assumption) hb1))
        go_wp2
        exact ⟨⟨k + 1, m', g', cap', by omega, by go_num, rfl, hl', hown', hnx.trans (hS.2.mono hnx.size)⟩, by simp [intOf]; omega⟩
      · have hkn : k = m := by omega
        subst hkn
        have E : Hid (stepTo zs gs k = stepG zs gs) := by show stepTo zs gs k = _; rw [stepG, HR.out.1]
        have HO2 : Hid (Own3 wr w.heap.size (.slice (some ⟨g, 0, none⟩) l cap) (stepG zs gs)) := by rw [← E.out]; exact hown
        have HL : Hid ((stepG zs gs).length = l) := by rw [← E.out]; exact hl
        clear hown hl E
        go_wp2
        go_ret
        exact ⟨g, l, cap, rfl, HL.out, HO2.out, hnx⟩

end Go.Proofs.YtnfolmjdicfobaaGreatDoor

namespace Go.Proofs.YtnfolmjdicfobaaGreatDoor
open Go.RowKit

theorem okR_of {r : RuleI} (h : ruleCode r = 0) : okR r ∧ 1 ≤ r.k ∧ r.k ≤ 4 := by
  unfold ruleCode at h
  by_cases hk : 1 ≤ r.k ∧ r.k ≤ 4
  · rw [if_neg (fun q => q hk)] at h
    cases hr : roleB r.ho r.hn
    · simp [hr] at h
    · refine ⟨⟨hr, fun e => ?_⟩, hk⟩
      rw [if_neg (by rw [hr]; simp)] at h
      cases hb : bareB r
      · simp [hb] at h
      · cases hh : hasB r
        · simp [hb, hh] at h
        · unfold hasB at hh
          rw [if_pos e] at hh
          simpa [prinB] using hh
  · rw [if_pos hk] at h; cases h

theorem polTo_all {zs : List RuleI} : ∀ k, polTo zs k = 0 → ∀ j z, j < k → zs[j]? = some z → ruleCode z = 0
  | 0, _, j, _, hj, _ => by omega
  | k + 1, h, j, z, hj, hz => by
    have h0 : polTo zs k = 0 := by
      by_cases q : polTo zs k = 0
      · exact q
      · exact absurd (polTo_stay zs k (k + 1) _ q rfl (by omega)) (by rw [h]; exact fun e => q e.symm)
    by_cases e : j = k
    · subst e
      by_cases q : ruleCode z = 0
      · exact q
      · rw [polTo_bad zs j z hz h0 q] at h; exact h
    · exact polTo_all k h0 j z (by omega) hz

theorem pol_ok {zs : List RuleI} (h : polCode zs = 0) : zs.length ≤ 16 ∧ ∀ z ∈ zs, okR z ∧ 1 ≤ z.k ∧ z.k ≤ 4 := by
  unfold polCode at h
  split at h
  · cases h
  · refine ⟨by omega, fun z hz => ?_⟩
    obtain ⟨j, hj⟩ := List.mem_iff_getElem?.1 hz
    have hl : j < zs.length := by
      by_cases q : j < zs.length
      · exact q
      · rw [List.getElem?_eq_none (by omega)] at hj; cases hj
    exact okR_of (polTo_all _ h j z hl hj)

end Go.Proofs.YtnfolmjdicfobaaGreatDoor

namespace Go.Proofs.YtnfolmjdicfobaaGreatDoor
open Go.RowKit
set_option linter.unusedVariables false
set_option linter.unusedSimpArgs false

/-- Grants in a block, three cells each. -/
def GrsAt (w : World) (g : Nat) (gs : List GrI) : Prop := ∀ k x, gs[k]? = some x → GrAt w g (k * 3) x

theorem GrsAt.below {w w' : World} {g : Nat} {gs : List GrI} (h : GrsAt w g gs) (hb : Below w.heap.size w w') : GrsAt w' g gs := fun k x e =>
  (h k x e).below hb (World.block_lt_of_cell? w ⟨g, k * 3, none⟩ (h k x e).1)

theorem GrIn.of {w : World} {g n : Nat} {gs : List GrI} (hl : gs.length = n) (h : GrsAt w g gs) : GrIn w (some ⟨g, 0, none⟩) n gs :=
  ⟨hl, fun _ => ⟨g, 0, rfl, fun k x e => by rw [Nat.zero_add]; exact h k x e⟩⟩

/-- A block of n grants that may be written. -/
def Room3 (w : World) (g n : Nat) : Prop := (∀ j, j < n * 3 → ∃ v, w.cell? ⟨g, j, none⟩ = some v) ∧ ∀ j, w.frozen? ⟨g, j, none⟩ = false

abbrev put3 (w : World) (g o : Nat) (s : GrI) : World := (((w.setCell ⟨g, o, none⟩ (.int .i64 s.1.1)).setCell ⟨g, o + 1, none⟩ (.int .i64 s.1.2)).setCell ⟨g, o + 2, none⟩ (.int .i64 s.2))

theorem put3_other (w : World) (g o : Nat) (s : GrI) (a : Addr) (h : ∀ j, j < 3 → a ≠ ⟨g, o + j, none⟩) : (put3 w g o s).cell? a = w.cell? a := by
  rw [World.cell?_setCell_other (h := Ne.symm (h 2 (by omega))), World.cell?_setCell_other (h := Ne.symm (h 1 (by omega))), World.cell?_setCell_other (h := Ne.symm (a := a) (b := ⟨g, o, none⟩) (by simpa using h 0 (by omega)))]

theorem put3_gr (w : World) (g o : Nat) (s : GrI) (h : ∀ j, j < 3 → ∃ v, w.cell? ⟨g, o + j, none⟩ = some v) : GrAt (put3 w g o s) g o s := by
  obtain ⟨v0, h0⟩ := h 0 (by omega)
  obtain ⟨v1, h1⟩ := h 1 (by omega)
  obtain ⟨v2, h2⟩ := h 2 (by omega)
  rw [Nat.add_zero] at h0
  refine ⟨?_, ?_, ?_⟩ <;> simp [go_sem, h0, h1, h2]

theorem put3_room {w : World} {g n k : Nat} {zs : List GrI} {s : GrI} (hroom : Room3 w g n) (hd : GrsAt w g (zs.take k)) (hs : zs[k]? = some s) (hk : k < n) :
    Room3 (put3 w g (k * 3) s) g n ∧ GrsAt (put3 w g (k * 3) s) g (zs.take (k + 1)) := by
  have hr := put3_gr w g (k * 3) s (fun j hj => hroom.1 (k * 3 + j) (by omega))
  refine ⟨⟨fun j hj => ?_, fun j => ?_⟩, fun i r e => ?_⟩
  · by_cases h : k * 3 ≤ j ∧ j < k * 3 + 3
    · have hj' : j = k * 3 ∨ j = k * 3 + 1 ∨ j = k * 3 + 2 := by omega
      obtain ⟨h0, h1, h2⟩ := hr
      rcases hj' with rfl | rfl | rfl
      · exact ⟨_, h0⟩
      · exact ⟨_, h1⟩
      · exact ⟨_, h2⟩
    · rw [put3_other w g (k * 3) s ⟨g, j, none⟩ (fun i hi e => by have e2 := congrArg Addr.off e; simp only at e2; omega)]
      exact hroom.1 j hj
  · simp only [World.frozen?_setCell]
    exact hroom.2 j
  · rw [List.getElem?_take] at e
    split at e
    · by_cases hik : i = k
      · subst hik
        rw [hs] at e
        cases e
        exact hr
      · have hi : i < k := by omega
        have h1 := hd i r (by rw [List.getElem?_take, if_pos hi]; exact e)
        obtain ⟨h0, h1, h2⟩ := h1
        refine ⟨?_, ?_, ?_⟩
        · rw [put3_other w g (k * 3) s ⟨g, i * 3, none⟩ (fun j hj e => by have e2 := congrArg Addr.off e; simp only at e2; omega)]; exact h0
        · rw [put3_other w g (k * 3) s ⟨g, i * 3 + 1, none⟩ (fun j hj e => by have e2 := congrArg Addr.off e; simp only at e2; omega)]; exact h1
        · rw [put3_other w g (k * 3) s ⟨g, i * 3 + 2, none⟩ (fun j hj e => by have e2 := congrArg Addr.off e; simp only at e2; omega)]; exact h2
    · cases e

theorem put3_below {w0 w : World} {B g o : Nat} (h : Below B w0 w) (hg : B ≤ g) (s : GrI) : Below B w0 (put3 w g o s) :=
  h.setCell hg _ |>.setCell hg _ |>.setCell hg _

set_option maxHeartbeats 400000 in
theorem toRoleL_c (o n : Int) (w : World) : Calls Tryz.prog 133 #[.agg #[.int .i64 o, .int .i64 n]] w fun e w' => e = .returned (.agg #[.int .i64 o, .int .i64 n]) ∧ Below w.heap.size w w' := by
  go_enter Tryz.func133, Tryz.ntmps133
  go_wp2
  go_returns
  exact ⟨rfl, by go_grown⟩

end Go.Proofs.YtnfolmjdicfobaaGreatDoor

namespace Go.Proofs.YtnfolmjdicfobaaGreatDoor
open Go.RowKit
set_option linter.unusedVariables false
set_option linter.unusedSimpArgs false

/-- What stands while grants are drawn. -/
structure LG (w wr : World) (B : Nat) (a : Option Addr) (len cap kk : Nat) (ys : List Int) (g n c : Nat) (gs : List GrI) : Prop where
  ow : Own3 wr w.heap.size (.slice (some ⟨g, 0, none⟩) n c) gs
  ln : gs.length = n
  ds : DS w wr B a len cap kk ys
  gw : w.heap.size ≤ g
  gl : g < wr.heap.size

theorem LG.draw {w wr wr' : World} {B : Nat} {a : Option Addr} {len cap kk k' : Nat} {ys : List Int} {g n c : Nat} {gs : List GrI} (h : LG w wr B a len cap kk ys g n c gs) (hB : B < w.heap.size) (hs : SrcAt wr' B a len cap k' ys) (hg : wr.grownBy wr' (some B)) : LG w wr' B a len cap k' ys g n c gs :=
  ⟨World.ownsRow.kept (row := some B) h.ow hg (.inr (by have := h.gw; simp [Value.ownBlock]; omega)), h.ln, h.ds.draw hs hg, h.gw, Nat.lt_of_lt_of_le h.gl hg.size⟩

theorem LG.below {w wr wr' : World} {B : Nat} {a : Option Addr} {len cap kk : Nat} {ys : List Int} {g n c : Nat} {gs : List GrI} (h : LG w wr B a len cap kk ys g n c gs) (hb : Below wr.heap.size wr wr') : LG w wr' B a len cap kk ys g n c gs :=
  ⟨h.ow.below hb, h.ln, ⟨h.ds.src.below hb, grown_trans h.ds.gr (grown_none ⟨hb.os, hb.tape, hb.output, hb.size, fun k hk _ => hb.block k hk⟩ _)⟩, h.gw, Nat.lt_of_lt_of_le h.gl hb.size⟩

theorem LG.size {w wr : World} {B : Nat} {a : Option Addr} {len cap kk : Nat} {ys : List Int} {g n c : Nat} {gs : List GrI} (h : LG w wr B a len cap kk ys g n c gs) : w.heap.size ≤ wr.heap.size := Nat.le_of_lt (Nat.lt_of_le_of_lt h.gw h.gl)

/-- Other grants, new, behind something that only adds memory. -/
theorem LG.turn {w wr wr' : World} {B : Nat} {a : Option Addr} {len cap kk : Nat} {ys : List Int} {g n c g' n' c' : Nat} {gs gs' : List GrI} (h : LG w wr B a len cap kk ys g n c gs) (hb : Below wr.heap.size wr wr') (ho : Own3 wr' w.heap.size (.slice (some ⟨g', 0, none⟩) n' c') gs') (hl : gs'.length = n') : LG w wr' B a len cap kk ys g' n' c' gs' :=
  ⟨ho, hl, (h.below hb).ds, (World.ownsRow.lt ho g' (by simp [Value.ownBlock])).1, (World.ownsRow.lt ho g' (by simp [Value.ownBlock])).2⟩

theorem rules_gr {w wx : World} {a : Option Addr} {m B : Nat} {zs : List RuleI} (h : RulesIn w a m zs) (hg : w.grownBy wx (some B)) (hne : ∀ b off, a = some ⟨b, off, none⟩ → m = 0 ∨ b ≠ B) : RulesIn wx a m zs := by
  refine ⟨h.1, fun hp => ?_⟩
  obtain ⟨b, off, e, hr⟩ := h.2 hp
  have hb : b ≠ B := by
    rcases hne b off e with q | q
    · omega
    · exact q
  refine ⟨b, off, e, fun k r hk => ?_⟩
  have hx : ∀ (o : Nat) (u : Value), w.cell? ⟨b, o, none⟩ = some u → wx.cell? ⟨b, o, none⟩ = some u := fun o u hu => hg.cell hu (by simpa using hb)
  obtain ⟨h0, h1, h2, h3, h4, h5, h6, h7⟩ := hr k r hk
  exact ⟨hx _ _ h0, hx _ _ h1, hx _ _ h2, hx _ _ h3, hx _ _ h4, hx _ _ h5, hx _ _ h6, hx _ _ h7⟩

theorem made41 : (madeCells (Value.cells (.agg #[.int .i64 0, .int .i64 0, .int .i64 0])) (41 * 3)).toList = flat3 (List.replicate 41 ((0, 0), 0)) := by kernel_rfl

/-- One more grant behind an append. -/
theorem LG.next {w wr w' : World} {B : Nat} {a : Option Addr} {len cap kk : Nat} {ys : List Int} {g n c : Nat} {gs : List GrI} {x : GrI} {o : Obj} {v' : Value} (h : LG w wr B a len cap kk ys g n c gs) (hcode : ∀ b off, a = some ⟨b, off, none⟩ → len = 0 ∨ b < w.heap.size) (hB : B < w.heap.size)
    (hown : w'.ownsRow w.heap.size 196 3 v' (n + 1) (flat3 gs ++ flat3 [x])) (hg : (wr.alloc o).grownBy w' (Value.ownBlock (.slice (some ⟨g, 0, none⟩) n c))) (hn : v' ≠ .slice none 0 0) :
    ∃ g' c', v' = .slice (some ⟨g', 0, none⟩) (n + 1) c' ∧ LG w w' B a len cap kk ys g' (n + 1) c' (gs ++ [x]) := by
  have hl : (gs ++ [x]).length = n + 1 := by rw [List.length_append, h.ln]; rfl
  have how : Own3 w' w.heap.size v' (gs ++ [x]) := by unfold Own3; rw [hl, flat3_append]; exact hown
  obtain ⟨g', c', e⟩ := how.shape hn
  rw [hl] at e
  subst e
  have hlt := hown.lt g' (by simp [Value.ownBlock])
  have hg' : (wr.alloc o).grownBy w' (some g) := hg
  have ds1 := h.ds.alloc o
  refine ⟨g', c', rfl, how, hl, ⟨ds1.src.kept hg' (by have := h.gw; simp; omega) (fun b off e => (hcode b off e).imp id (fun q => by have := h.gw; simp; omega)), ⟨hg'.os.trans ds1.gr.os, hg'.tape.trans ds1.gr.tape, hg'.output.trans ds1.gr.output, Nat.le_trans ds1.gr.size hg'.size, fun i hi hne => ?_⟩⟩, hlt.1, hlt.2⟩
  rw [hg'.block i (Nat.lt_of_lt_of_le hi ds1.gr.size) (by have := h.gw; simp; omega)]
  exact ds1.gr.block i hi hne

theorem pick_lg (w wx : World) (B : Nat) (a : Option Addr) (len cap kk : Nat) (ys : List Int) (g n c : Nat) (gs : List GrI) (h : LG w wx B a len cap kk ys g n c gs) (hB : B < w.heap.size) (hl : len ≤ 1048576) (hk : kk ≤ 900) (m : Nat) (xs : List Int) (hxs : xs.length = m) (hm : 1 ≤ m) (hm2 : m ≤ 100) (t : TypeId) :
    Calls Tryz.prog 31 #[.pointer (some ⟨B, 0, none⟩), .slice (some ⟨wx.heap.size, 0, none⟩) m m] (wx.alloc (.cells (xs.map (Value.int .i64)).toArray t)) fun e w' => ∃ v : Int, e = .returned (.int .i64 v) ∧ LG w w' B a len cap (kk + 1) ys g n c gs := by
  have hA := h.below ((Below.refl _ _).alloc (Nat.le_refl _) (.cells (xs.map (Value.int .i64)).toArray t))
  have hBl := h.ds.src.lt
  refine (pick_c _ B a len cap kk ys hA.ds.src hl (by omega) wx.heap.size m m xs hxs hm hm2 (by omega) (fun j hj => ?_)).mono ?_
  · have hb := heap_alloc_new wx (.cells (xs.map (Value.int .i64)).toArray t)
    rw [cell_of_row _ _ j _ t (0, 0) hb]
    simp [List.getElem?_eq_getElem (show j < xs.length by omega)]
  · rintro e w' ⟨j, hj, rfl, hS, hG⟩
    exact ⟨_, rfl, hA.draw hB hS hG⟩

end Go.Proofs.YtnfolmjdicfobaaGreatDoor
