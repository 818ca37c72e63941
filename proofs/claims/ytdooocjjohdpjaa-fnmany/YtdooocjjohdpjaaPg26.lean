/-
  THE LAW laws.FnMany.
  Conditions: each contract bears its own.
-/
import Derived.Test.YtdooocjjohdpjaaPg12
import Derived.Test.YtdooocjjohdpjaaPg25
import Derived.Test.YtdooocjjohdpjaaPg22
import Derived.Test.YtdooocjjohdpjaaPg23
import Derived.Deep.CutBlock
import Derived.BigQuiet
namespace Go.Proofs.Ytdooocjjohdpjaa
open Go.RowKit
set_option linter.unusedVariables false
set_option linter.unusedSimpArgs false

theorem fldS0 (x : Int) (a : Option Addr) (n c : Nat) (w : World) : (Instr.field 54 (.agg #[.int .i64 x, .slice a n c]) 0).run Try.prog w = .ok (.int .i64 x) w := by kernel_rfl
theorem fldS1 (x : Int) (a : Option Addr) (n c : Nat) (w : World) : (Instr.field 54 (.agg #[.int .i64 x, .slice a n c]) 1).run Try.prog w = .ok (.slice a n c) w := by kernel_rfl
theorem fldSz1 (x y : Int) (w : World) : (Instr.field 39 (.agg #[.int .i64 x, .int .i64 y]) 1).run Try.prog w = .ok (.int .i64 y) w := by kernel_rfl

attribute [local go_sem ↓] fldS0 fldS1 fldSz1

theorem infoB : (Try.prog.info? 4).map (fun i => (i.zero, i.size, i.bytes)) = some (some (.bool false), 1, 1) := by kernel_rfl

theorem nat_at {T : TS} {ls : List Int} (h : ls = (natL T).map (fun n : Nat => (n : Int))) {i : Nat} (hi : i < ls.length) : ∃ x : Nat, (natL T)[i]? = some x ∧ ls[i]?.getD 0 = (x : Int) ∧ x < 256 := by
  subst h
  rw [List.length_map] at hi
  have hx := List.getElem?_eq_getElem (l := natL T) (i := i) hi
  exact ⟨_, hx, by rw [List.getElem?_map, hx]; rfl, (natL_at hx).1⟩

abbrev KM (W W' : World) : Prop := (∀ b o, b < W.heap.size → W'.cell? ⟨b, o, none⟩ = W.cell? ⟨b, o, none⟩) ∧ Below W.heap.size W W'

/-- What stands of the two that were drawn. -/
structure FM (w : World) (g n : Nat) (zs : List RuleI) (b : Option Addr) (m : Nat) (ps : List PartI) (W : World) : Prop where
  bl : Below w.heap.size w W
  ra : RulesIn W (some ⟨g, 0, none⟩) n zs
  rp : PartsIn W b m ps

theorem FM.below {w : World} {g n : Nat} {zs : List RuleI} {b : Option Addr} {m : Nat} {ps : List PartI} {W W' : World} (h : FM w g n zs b m ps W) (hb : Below W.heap.size W W') : FM w g n zs b m ps W' :=
  ⟨h.bl.trans (hb.mono h.bl.size), h.ra.below hb, h.rp.below hb⟩

/-- A result of sets in its box. -/
structure NB (W : World) (B : Nat) (a : Option Addr) (cap : Nat) (ls : List Int) : Prop where
  bx : Box2 W B (.int .i64 0) (.slice a ls.length cap)
  rw : RowIn W a ls.length ls
  lt : ∀ g off, a = some ⟨g, off, none⟩ → g < W.heap.size

theorem NB.below {W W' : World} {B : Nat} {a : Option Addr} {cap : Nat} {ls : List Int} (h : NB W B a cap ls) (hb : Below W.heap.size W W') : NB W' B a cap ls := ⟨h.bx.below hb, h.rw.below hb, fun g off e => Nat.lt_of_lt_of_le (h.lt g off e) hb.size⟩

theorem NB.new {w : World} {a : Option Addr} {cap : Nat} {ls : List Int} {B : Nat} (h : w.ownsRow B 2 1 (.slice a ls.length cap) ls.length (ls.map (Value.int .i64))) (t : TypeId) : NB (w.alloc (.cells #[.int .i64 0, .slice a ls.length cap] t)) w.heap.size a cap ls :=
  ⟨Box2.new _ _ _ _, (row_of_owns h).below ((Below.refl _ _).alloc (Nat.le_refl _) _), fun g off e => by have := (owns_block h g off e).2; simp; omega⟩

theorem parts_take {w : World} {a : Option Addr} {m j : Nat} {ps : List PartI} (h : PartsIn w a m ps) (hj : j ≤ m) : PartsIn w a j (ps.take j) := by
  refine ⟨by have := h.1; simp; omega, fun hp => ?_⟩
  obtain ⟨b, off, e, hr⟩ := h.2 (by omega)
  refine ⟨b, off, e, fun k x hx => ?_⟩
  rw [List.getElem?_take] at hx
  split at hx
  · exact hr k x hx
  · cases hx

theorem many_of {zs : List RuleI} {ps : List PartI} (h1 : polCode zs = 0) (h2 : ptCode ps = 0) : manyCode zs ps = 0 := by
  unfold manyCode orC
  rw [if_pos h1]
  exact h2

set_option maxRecDepth 100000 in
set_option maxHeartbeats 20000000 in
theorem many_inner (a : Option Addr) (len cap : Nat) (bs : List Int) (w : World) (hl : len ≤ 1048576) (hc : CodeIn w a len bs) :
    Calls Try.prog 5 #[.slice a len cap] w fun e w' => e = .returned (.bool true) ∧ Below w.heap.size w w' := by
  have hl' : (len : Int) ≤ 1048576 := by omega
  have HCO : Hid (CodeIn w a len bs) := hc
  clear hc
  go_enter Try.func5, Try.ntmps5
  go_wp2_with (first | (go_at_call 11; go_in) | fail)
  refine (drawSets_c a len cap bs _ HCO.out hl).mono ?_
  rintro e w1 ⟨g, n, c, b, m, c', zs, ps, rfl, ⟨hn, hnc, hcm⟩, ⟨hm, hmc, hcm'⟩, hra, hrp, hb1⟩
  have F1 : Hid (FM w g n zs b m ps w1) := ⟨hb1, hra, hrp⟩
  have HZ : Hid (ps.length = m) := hrp.1
  clear HCO hra hrp hb1
  by_cases hok : manyCode zs ps = 0
  · obtain ⟨G, hG⟩ := all_some zs (many_zero hok).1
    have hpc := (many_zero hok).2
    have hzc := (many_zero hok).1
    have HI : Hid (∀ w : World, RulesIn w (some ⟨g, 0, none⟩) n zs → PartsIn w b m ps → GivesN 28 (some ⟨g, 0, none⟩) n c b m c' 0 (setsL (tellsL (ofG G) ps)) w) := fun w h k => implSets_ok _ _ _ _ _ _ _ _ _ _ (by omega) (by omega) hnc hcm h k hok hG
    have HS : Hid (∀ w : World, RulesIn w (some ⟨g, 0, none⟩) n zs → PartsIn w b m ps → GivesN 29 (some ⟨g, 0, none⟩) n c b m c' 0 (setsL (tellsL (ofG G) ps)) w) := fun w h k => specSets_ok _ _ _ _ _ _ _ _ _ _ (by omega) (by omega) h k hok hG
    have HIT : Hid (∀ (w : World) (j : Nat), 0 < j → j ≤ m → RulesIn w (some ⟨g, 0, none⟩) n zs → PartsIn w b m ps → GivesN 28 (some ⟨g, 0, none⟩) n c b j c' 0 (setsL (tellsL (ofG G) (ps.take j))) w) := fun w j h0 hj h k => implSets_ok _ _ _ _ _ _ _ _ _ _ (by omega) (by omega) hnc hcm h (parts_take k hj) (many_of hzc (pt_take hpc h0 (by rw [HZ.out]; exact hj))) hG
    have HMB : Hid (∀ (w : World) (r : RoI), RulesIn w (some ⟨g, 0, none⟩) n zs → roleB r.1 r.2 = true → GivesI 19 (some ⟨g, 0, none⟩) n c r 0 (ofG G r) w) := fun w r h hr => implMembersOf_ok _ _ _ _ _ _ _ hnc hcm h hzc hr hG
    have HST : Hid (∀ r, setB (ofG G r)) := fun r => ofG_set hG.sg r
    obtain ⟨T, hT⟩ : ∃ T, tellsL (ofG G) ps = T := ⟨_, rfl⟩
    obtain ⟨ls, hls⟩ : ∃ ls, setsL T = ls := ⟨_, rfl⟩
    rw [hT, hls] at HI HS
    obtain ⟨h1m, hm8, hpts⟩ := pt_all hpc
    rw [HZ.out] at h1m hm8
    obtain ⟨m', rfl⟩ : ∃ m', m = m' + 1 := ⟨m - 1, by omega⟩
    obtain ⟨p, hp⟩ : ∃ p, ps[m']? = some p := ⟨_, List.getElem?_eq_getElem (by rw [HZ.out]; omega)⟩
    have hpt := hpts m' p hp
    have HT : Hid (tellsL (ofG G) ps = T) := hT
    have HLS : Hid (setsL T = ls) := hls
    have HP : Hid (ps[m']? = some p) := hp
    have HLL : Hid (ls.length ≤ 256) := by show ls.length ≤ 256; rw [← hls, setsL_len]; exact natL_len T
    have hll' : (ls.length : Int) ≤ 256 := by have := HLL.out; omega
    have hm8' : (m' : Int) ≤ 7 := by omega
    clear hok hG hpc hzc hT hls hpts hp h1m
    go_wp2_with fail
    refine (HI.out _ F1.out.ra F1.out.rp).mono ?_
    rintro e w2 ⟨a2, cap2, rfl, hown2, hb2⟩
    have A2 : Below w2.heap.size w2 (w2.alloc (.cells #[.int .i64 0, .slice a2 ls.length cap2] 54)) := (Below.refl _ _).alloc (Nat.le_refl _) _
    have F2 : Hid (FM w g n zs b (m' + 1) ps (w2.alloc (.cells #[.int .i64 0, .slice a2 ls.length cap2] 54))) := (F1.out.below hb2).below A2
    have R2 : Hid (NB (w2.alloc (.cells #[.int .i64 0, .slice a2 ls.length cap2] 54)) w2.heap.size a2 cap2 ls) := NB.new hown2 _
    clear hown2 hb2 A2 F1 HI
    go_upto_region 5 with fail
    generalize w2.alloc (.cells #[.int .i64 0, .slice a2 ls.length cap2] 54) = w3 at F2 R2 ⊢
    obtain ⟨x0, x1⟩ := R2.out.bx
    obtain ⟨bb, off, p', e1, hp', q0, q1, q2, q3, q4⟩ := F2.out.rp.at (show m' < m' + 1 by omega)
    rw [HP.out] at hp'
    cases hp'
    subst e1
    have hbl : bb < w3.heap.size := World.block_lt_of_cell? w3 ⟨bb, off + m' * 5, none⟩ q0
    have hjw3 : IntKind.i64.wrap (((m' + 1 : Nat) : Int) - 1) = (m' : Int) := by rw [IntKind.wrap_i64]; omega
    have hjw : IntKind.i64.wrap ((m' : Int) + 1 - 1) = (m' : Int) := by rw [IntKind.wrap_i64]; omega
    have hjw2 : IntKind.i64.wrap (m' : Int) = (m' : Int) := by rw [IntKind.wrap_i64]; omega
    have A3 : Below w3.heap.size w3 (w3.alloc (.cells #[.int .i64 p.k, .int .i64 p.ro, .int .i64 p.rn, .int .i64 p.l, .int .i64 p.r] 57)) := (Below.refl _ _).alloc (Nat.le_refl _) _
    have F3 : Hid (FM w g n zs (some ⟨bb, off, none⟩) (m' + 1) ps (w3.alloc (.cells #[.int .i64 p.k, .int .i64 p.ro, .int .i64 p.rn, .int .i64 p.l, .int .i64 p.r] 57))) := F2.out.below A3
    have R3 : Hid (NB (w3.alloc (.cells #[.int .i64 p.k, .int .i64 p.ro, .int .i64 p.rn, .int .i64 p.l, .int .i64 p.r] 57)) w2.heap.size a2 cap2 ls) := R2.out.below A3
    have P3 : Hid (PartAt (w3.alloc (.cells #[.int .i64 p.k, .int .i64 p.ro, .int .i64 p.rn, .int .i64 p.l, .int .i64 p.r] 57)) w3.heap.size 0 p) := ⟨by simp, by simp, by simp, by simp, by simp⟩
    go_upto_region 8 with fail
    generalize w3.alloc (.cells #[.int .i64 p.k, .int .i64 p.ro, .int .i64 p.rn, .int .i64 p.l, .int .i64 p.r] 57) = w4 at F3 R3 P3 ⊢
    clear x0 x1 q0 q1 q2 q3 q4 hbl hjw hjw2 hjw3 A3 F2 R2
    obtain ⟨k0, k1, k2, k3, k4⟩ := P3.out
    simp only [Nat.zero_add] at k1 k2 k3 k4
    by_cases hk1 : p.k = 1
    · have b1 : (p.k == 1) = true := by simp [hk1]
      have hro : roleB p.ro p.rn = true := by
        unfold ptOne at hpt
        rw [if_neg (by omega), if_pos hk1] at hpt
        cases q : roleB p.ro p.rn
        · rw [q] at hpt; simp at hpt
        · rfl
      obtain ⟨s, hs⟩ : ∃ s, ofG G (p.ro, p.rn) = s := ⟨_, rfl⟩
      have hss : setB s := by rw [← hs]; exact HST.out _
      have hT1 : T = oneT s := by rw [← HT.out, tells_last HZ.out HP.out, tellOne, if_pos hk1, hs]
      have hlen : ls.length = (listTo s 8).length := by rw [← HLS.out, hT1]; exact one_count hss
      have HSZ : Hid (∀ w' : World, Calls Try.prog 30 #[.int .i64 s] w' fun e w'' => e = .returned (.agg #[.int .i64 0, .int .i64 (ls.length : Int)]) ∧ Below w'.heap.size w' w'') := fun w' => by rw [hlen]; exact implSize_in s hss.1 hss.2 w'
      have HMB1 : Hid (∀ w : World, RulesIn w (some ⟨g, 0, none⟩) n zs → GivesI 19 (some ⟨g, 0, none⟩) n c (p.ro, p.rn) 0 s w) := fun w h => by rw [← hs]; exact HMB.out w _ h hro
      clear hk1 hs hss hT1 hlen hpt HIT HMB HST
      go_wp2_with fail
      refine (HMB1.out _ F3.out.ra).mono ?_
      rintro e w5 ⟨rfl, hb5⟩
      have A5 : Below w5.heap.size w5 (w5.alloc (.cells #[.int .i64 0, .int .i64 s] 39)) := (Below.refl _ _).alloc (Nat.le_refl _) _
      have F5 : Hid (FM w g n zs (some ⟨bb, off, none⟩) (m' + 1) ps (w5.alloc (.cells #[.int .i64 0, .int .i64 s] 39))) := (F3.out.below hb5).below A5
      have R5 : Hid (NB (w5.alloc (.cells #[.int .i64 0, .int .i64 s] 39)) w2.heap.size a2 cap2 ls) := (R3.out.below hb5).below A5
      have X5 : Hid (Box2 (w5.alloc (.cells #[.int .i64 0, .int .i64 s] 39)) w5.heap.size (.int .i64 0) (.int .i64 s)) := Box2.new _ _ _ _
      clear hb5 A5 k0 k1 k2 k3 k4 P3 F3 R3
      go_upto_region 10 with fail
      generalize w5.alloc (.cells #[.int .i64 0, .int .i64 s] 39) = w6 at F5 R5 X5 ⊢
      have y1 := R5.out.bx.2
      obtain ⟨z0, z1⟩ := X5.out
      have hly := R5.out.bx.lt
      have hlz := X5.out.lt
      have HR1 : Hid (∀ w' : World, KM w6 w' → GivesN 29 (some ⟨g, 0, none⟩) n c (some ⟨bb, off, none⟩) (m' + 1) c' 0 ls w') := fun w' q => HS.out _ (F5.out.ra.below q.2) (F5.out.rp.below q.2)
      have HBL : Hid (Below w.heap.size w w6) := F5.out.bl
      clear HS F5 R5 X5
      go_region_with (first | (go_at_call 30; refine (HSZ.out _).mono ?_; rintro e wA ⟨rfl, hbA⟩; have hS : KM w6 wA := kp_step (by first | exact hS | exact kp_drew _) hbA; have yA := (hS.1 _ 1 hly).trans y1; have zA := (hS.1 _ 0 hlz).trans z0; have zA1 := (hS.1 _ 1 hlz).trans z1) | (go_at_call 29; refine (HR1.out _ (by first | exact hS | exact kp_drew _)).mono ?_; rintro e wB ⟨_, _, rfl, _, hbB⟩; have hS : KM w6 wB := kp_step (by first | exact hS | exact kp_drew _) hbB; have yB := (hS.1 _ 1 hly).trans y1; have zB := (hS.1 _ 0 hlz).trans z0; have zB1 := (hS.1 _ 1 hlz).trans z1))
      all_goals go_wp2
      all_goals go_ret
      all_goals exact ⟨rfl, HBL.out.trans (hS.2.mono HBL.out.size)⟩
    · have b1 : (p.k == 1) = false := by simp [hk1]
      obtain ⟨hk23, hpl, hpr⟩ : (p.k = 2 ∨ p.k = 3) ∧ (0 ≤ p.l ∧ p.l < (m' : Int)) ∧ (0 ≤ p.r ∧ p.r < (m' : Int)) := by
        unfold ptOne at hpt
        split at hpt
        · cases hpt
        · try rw [if_neg hk1] at hpt
          split at hpt
          · cases hpt
          · split at hpt
            · cases hpt
            · split at hpt
              · cases hpt
              · rename_i a1 a2 a3 a4
                exact ⟨by omega, by omega, by omega⟩
      obtain ⟨l, hl⟩ := Int.eq_ofNat_of_zero_le hpl.1
      obtain ⟨r, hr⟩ := Int.eq_ofNat_of_zero_le hpr.1
      have hlm : l < m' := by omega
      have hrm : r < m' := by omega
      obtain ⟨ap, hap⟩ : ∃ ap, decide (p.k = 3) = ap := ⟨_, rfl⟩
      obtain ⟨TL, hTL⟩ : ∃ TL, (tellsTo (ofG G) ps m')[l]?.getD noT = TL := ⟨_, rfl⟩
      obtain ⟨TR, hTR⟩ : ∃ TR, (tellsTo (ofG G) ps m')[r]?.getD noT = TR := ⟨_, rfl⟩
      have HTB : Hid (T = bothT ap TL TR) := by
        show T = bothT ap TL TR
        rw [← HT.out, tells_last HZ.out HP.out, tellOne, if_neg hk1, hap, hl, hr]
        simp only [Int.ofNat_eq_natCast, Int.toNat_natCast, hTL, hTR]
      have HIA : Hid (∀ (w : World) (j : Nat), j = l + 1 → RulesIn w (some ⟨g, 0, none⟩) n zs → PartsIn w (some ⟨bb, off, none⟩) (m' + 1) ps → GivesN 28 (some ⟨g, 0, none⟩) n c (some ⟨bb, off, none⟩) j c' 0 (setsL TL) w) := fun w j hj h k => by
        have := HIT.out w (l + 1) (by omega) (by omega) h k
        rw [tells_part HZ.out hlm, hTL] at this
        rw [hj]
        exact this
      have HIB : Hid (∀ (w : World) (j : Nat), j = r + 1 → RulesIn w (some ⟨g, 0, none⟩) n zs → PartsIn w (some ⟨bb, off, none⟩) (m' + 1) ps → GivesN 28 (some ⟨g, 0, none⟩) n c (some ⟨bb, off, none⟩) j c' 0 (setsL TR) w) := fun w j hj h k => by
        have := HIT.out w (r + 1) (by omega) (by omega) h k
        rw [tells_part HZ.out hrm, hTR] at this
        rw [hj]
        exact this
      have HAP : Hid (decide (p.k = 3) = ap ∧ (p.k = 2 ∨ p.k = 3)) := ⟨hap, hk23⟩
      have hLA : ((natL TL).length : Int) ≤ 256 := by have := natL_len TL; omega
      have hLB : ((natL TR).length : Int) ≤ 256 := by have := natL_len TR; omega
      obtain ⟨A, hA⟩ : ∃ A, setsL TL = A := ⟨_, rfl⟩
      obtain ⟨D, hD⟩ : ∃ D, setsL TR = D := ⟨_, rfl⟩
      rw [hA] at HIA
      rw [hD] at HIB
      have hAl : A.length = (natL TL).length := by rw [← hA, setsL_len]
      have hDl : D.length = (natL TR).length := by rw [← hD, setsL_len]
      have HA : Hid (A = (natL TL).map (fun n : Nat => (n : Int))) := by show A = _; rw [← hA, setsL_nat]
      have HD : Hid (D = (natL TR).map (fun n : Nat => (n : Int))) := by show D = _; rw [← hD, setsL_nat]
      rw [hl] at k3
      rw [hr] at k4
      try simp only [Int.ofNat_eq_natCast] at k3 k4
      have hl1 : (0 : Int) ≤ (l : Int) + 1 := by omega
      have hl2 : (l : Int) + 1 ≤ (c' : Int) := by omega
      have hl3 : (l : Int) ≤ 8 := by omega
      have hr1 : (0 : Int) ≤ (r : Int) + 1 := by omega
      have hr2 : (r : Int) + 1 ≤ (c' : Int) := by omega
      have hr3 : (r : Int) ≤ 8 := by omega
      have K4 : Hid (PartAt w4 w3.heap.size 0 p) := P3.out
      have hAl' : (A.length : Int) ≤ 256 := by rw [hAl]; exact hLA
      have hDl' : (D.length : Int) ≤ 256 := by rw [hDl]; exact hLB
      have HDl : Hid (D.length = (natL TR).length) := hDl
      have HAl : Hid (A.length = (natL TL).length) := hAl
      clear hAl hDl hLA hLB
      clear hk1 hk23 hpl hpr hl hr hap hTL hTR hA hD HIT HMB HST hpt HT HP
      go_wp2_with fail
      refine (HIA.out _ _ ?_ F3.out.ra F3.out.rp).mono ?_
      · first | rfl | omega | (simp; omega)
      rintro e w5 ⟨a5, cap5, rfl, hown5, hb5⟩
      have A5 : Below w5.heap.size w5 (w5.alloc (.cells #[.int .i64 0, .slice a5 A.length cap5] 54)) := (Below.refl _ _).alloc (Nat.le_refl _) _
      have F5 : Hid (FM w g n zs (some ⟨bb, off, none⟩) (m' + 1) ps (w5.alloc (.cells #[.int .i64 0, .slice a5 A.length cap5] 54))) := (F3.out.below hb5).below A5
      have R5 : Hid (NB (w5.alloc (.cells #[.int .i64 0, .slice a5 A.length cap5] 54)) w2.heap.size a2 cap2 ls) := (R3.out.below hb5).below A5
      have K5 : Hid (PartAt (w5.alloc (.cells #[.int .i64 0, .slice a5 A.length cap5] 54)) w3.heap.size 0 p) := (K4.out.below hb5).below A5
      have hk5r : (w5.alloc (.cells #[.int .i64 0, .slice a5 A.length cap5] 54)).cell? ⟨w3.heap.size, 4, none⟩ = some (.int .i64 (r : Int)) := by
        rw [World.cell?_alloc_past _ _ _ (Nat.lt_of_lt_of_le (World.block_lt_of_cell? w4 ⟨w3.heap.size, 4, none⟩ k4) hb5.size)]
        exact (hb5.cell (p := ⟨w3.heap.size, 4, none⟩) (World.block_lt_of_cell? w4 ⟨w3.heap.size, 4, none⟩ k4)).trans k4
      have S5 : Hid (NB (w5.alloc (.cells #[.int .i64 0, .slice a5 A.length cap5] 54)) w5.heap.size a5 cap5 A) := NB.new hown5 _
      clear hown5 hb5 A5 k0 k1 k2 k3 k4 P3 F3 R3 K4 HIA
      go_upto_region 12 with fail
      generalize w5.alloc (.cells #[.int .i64 0, .slice a5 A.length cap5] 54) = w6 at F5 R5 K5 S5 hk5r ⊢
      go_wp2_with fail
      refine (HIB.out _ _ ?_ F5.out.ra F5.out.rp).mono ?_
      · first | rfl | omega | (simp; omega)
      rintro e w7 ⟨a7, cap7, rfl, hown7, hb7⟩
      have A7 : Below w7.heap.size w7 (w7.alloc (.cells #[.int .i64 0, .slice a7 D.length cap7] 54)) := (Below.refl _ _).alloc (Nat.le_refl _) _
      have F7 : Hid (FM w g n zs (some ⟨bb, off, none⟩) (m' + 1) ps (w7.alloc (.cells #[.int .i64 0, .slice a7 D.length cap7] 54))) := (F5.out.below hb7).below A7
      have R7 : Hid (NB (w7.alloc (.cells #[.int .i64 0, .slice a7 D.length cap7] 54)) w2.heap.size a2 cap2 ls) := (R5.out.below hb7).below A7
      have K7 : Hid (PartAt (w7.alloc (.cells #[.int .i64 0, .slice a7 D.length cap7] 54)) w3.heap.size 0 p) := (K5.out.below hb7).below A7
      have S7 : Hid (NB (w7.alloc (.cells #[.int .i64 0, .slice a7 D.length cap7] 54)) w5.heap.size a5 cap5 A) := (S5.out.below hb7).below A7
      have U7 : Hid (NB (w7.alloc (.cells #[.int .i64 0, .slice a7 D.length cap7] 54)) w7.heap.size a7 cap7 D) := NB.new hown7 _
      clear hown7 hb7 A7 F5 R5 K5 S5 HIB hk5r
      go_upto_region 13 with fail
      generalize w7.alloc (.cells #[.int .i64 0, .slice a7 D.length cap7] 54) = w8 at F7 R7 K7 S7 U7 ⊢
      obtain ⟨i1, hi1, hy0, hy1, hy2⟩ := info_parts infoB
      have hunB : Try.prog.underlying 59 = some (.slice 4) := by kernel_rfl
      obtain ⟨wm, hmk, hownm, hgrm⟩ := run_make_full (P := Try.prog) (w := w8) w8.heap.size 59 4 i1 (.bool false) 1 hunB hi1 hy0 hy1 .i64 .i64 256 (by rw [hy2]; omega) (by unfold maxLen; omega) (Nat.le_refl _)
      rw [made256] at hownm
      have hmk' : (Instr.makeSlice 59 (.int .i64 256) (.int .i64 256)).run Try.prog w8 = .ok (.slice (some ⟨w8.heap.size, 0, none⟩) 256 256) wm := hmk
      have HW0 : Hid (wm.ownsRow w8.heap.size 4 1 (.slice (some ⟨w8.heap.size, 0, none⟩) 256 256) 256 (boolL noT) ∧ Below w8.heap.size w8 wm) := ⟨hownm, (Below.refl _ _).grown hgrm (Nat.le_refl _) (fun q e => by cases e)⟩
      clear hownm hgrm hmk
      go_wp2
      go_loopw [11, 12] (fun nv i wr => ∃ (i' : Nat) (U : TS), i' ≤ A.length ∧ i = .int .i64 (i' : Int) ∧ nv = .int .i64 ((natL U).length : Int) ∧ Hid (PB ap TL TR i' 0 U ∧ wr.ownsRow w8.heap.size 4 1 (.slice (some ⟨w8.heap.size, 0, none⟩) 256 256) 256 (boolL U) ∧ Below w8.heap.size w8 wr)) (fun _ i _ => A.length - (intOf i).toNat)
      case atStart => exact ⟨0, noT, Nat.zero_le _, rfl, by rw [natL_no]; rfl, pb_start _ _ _, HW0.out⟩
      case round =>
        obtain ⟨i', U, hi', rfl, rfl, HPB⟩ := hrel
        obtain ⟨sx0, sx1⟩ := (S7.out.below HPB.out.2.2).bx
        by_cases hlt : i' < A.length
        · have hlt' : (i' : Int) < (A.length : Int) := by omega
          obtain ⟨x', hx', hxv, hx256⟩ := nat_at HA.out hlt
          have HX : Hid ((natL TL)[i']? = some x') := hx'
          clear hx'
          go_wp2
          go_loopw [11, 13] (fun nv k wq => ∃ (k' : Nat) (U : TS), k' ≤ D.length ∧ k = .int .i64 (k' : Int) ∧ nv = .int .i64 ((natL U).length : Int) ∧ Hid (PB ap TL TR i' k' U ∧ wq.ownsRow w8.heap.size 4 1 (.slice (some ⟨w8.heap.size, 0, none⟩) 256 256) 256 (boolL U) ∧ Below w8.heap.size w8 wq)) (fun _ k _ => D.length - (intOf k).toNat)
          case atStart => exact ⟨0, U, Nat.zero_le _, rfl, rfl, HPB.out⟩
          case round =>
            clear HPB sx0 sx1
            obtain ⟨k', U, hk', rfl, rfl, HPB⟩ := hrel
            obtain ⟨sx0, sx1⟩ := (S7.out.below HPB.out.2.2).bx
            obtain ⟨ux0, ux1⟩ := (U7.out.below HPB.out.2.2).bx
            by_cases hltk : k' < D.length
            · have hltk' : (k' : Int) < (D.length : Int) := by omega
              obtain ⟨y', hy', hyv, hy256⟩ := nat_at HD.out hltk
              have HY : Hid ((natL TR)[k']? = some y') := hy'
              obtain ⟨ga, oa, ea, ca⟩ := (S7.out.below HPB.out.2.2).rw.2 i' hlt
              obtain ⟨gb, ob, eb, cb⟩ := (U7.out.below HPB.out.2.2).rw.2 k' hltk
              rw [hxv] at ca
              rw [hyv] at cb
              have hKP := (K7.out.below HPB.out.2.2).1
              have hz256 : x' ||| y' < 256 := or_lt hx256 hy256
              have hor : bits .or .i64 (x' : Int) (y' : Int) = ((x' ||| y' : Nat) : Int) := or_nat x' y' hx256 hy256
              have hand : bits .and .i64 (x' : Int) (y' : Int) = ((x' &&& y' : Nat) : Int) := and_nat x' y' hx256 hy256
              obtain ⟨z, hz⟩ : ∃ z, x' ||| y' = z := ⟨_, rfl⟩
              obtain ⟨v, hv⟩ : ∃ v, x' &&& y' = v := ⟨_, rfl⟩
              have ct : wr.cell? ⟨w8.heap.size, z, none⟩ = some (.bool (U z)) := (HPB.out.2.1.cellAt z (by omega)).trans (boolL_at U (by omega))
              have cf : wr.frozen? ⟨w8.heap.size, z, none⟩ = false := HPB.out.2.1.frozenAt z
              have HST : Hid ((wr.setCell ⟨w8.heap.size, z, none⟩ (.bool true)).ownsRow w8.heap.size 4 1 (.slice (some ⟨w8.heap.size, 0, none⟩) 256 256) 256 (boolL (putT U z)) ∧ Below w8.heap.size w8 (wr.setCell ⟨w8.heap.size, z, none⟩ (.bool true))) := by
                have h1 := (HPB.out.2.1.stored z (.bool true)).1
                rw [boolL_put U (by omega)] at h1
                exact ⟨h1, HPB.out.2.2.setCell (p := ⟨w8.heap.size, z, none⟩) (Nat.le_refl _) _⟩
              have hns : ((natL U).length : Int) ≤ 256 := by have := natL_len U; omega
              subst ea eb
              rw [hz] at hor
              rw [hv] at hand
              have HZ2 : Hid (x' ||| y' = z ∧ x' &&& y' = v) := ⟨hz, hv⟩
              have hz8 : (z : Int) < 256 := by omega
              have hx8 : (x' : Int) ≤ 255 := by omega
              have hy8 : (y' : Int) ≤ 255 := by omega
              obtain ⟨t, ht⟩ : ∃ t, U z = t := ⟨_, rfl⟩
              rw [ht] at ct
              have HU : Hid (U z = t) := ht
              clear hy' hxv hyv hz hv hz256 ht
              rcases HAP.out.2 with hk2 | hk3
              · have HOK : Hid (okAB ap x' y' = true) := by
                  show okAB ap x' y' = true
                  have := HAP.out.1
                  rw [hk2] at this
                  subst this
                  rfl
                rw [hk2] at hKP
                clear hk2
                cases t with
                | true =>
                  have HN : Hid (PB ap TL TR i' (k' + 1) U) := pb_no HPB.out.1 HX.out HY.out (.inr (by rw [HZ2.out.1]; exact HU.out))
                  go_wp2
                  exact ⟨⟨k' + 1, U, by omega, by go_num, rfl, HN.out, HPB.out.2⟩, by simp [intOf]; omega⟩
                | false =>
                  have HN : Hid (PB ap TL TR i' (k' + 1) (putT U z)) := by have := pb_put HPB.out.1 HX.out HY.out HOK.out; rw [HZ2.out.1] at this; exact this
                  have HC : Hid ((natL (putT U z)).length = (natL U).length + 1) := cnt_put HU.out (by omega)
                  go_wp2
                  exact ⟨⟨k' + 1, putT U z, by omega, by go_num, by rw [HC.out]; go_num, HN.out, HST.out⟩, by simp [intOf]; omega⟩
              · rw [hk3] at hKP
                by_cases hv0 : v = 0
                · have HOK : Hid (okAB ap x' y' = true) := by
                    show okAB ap x' y' = true
                    unfold okAB
                    rw [HZ2.out.2, hv0]
                    simp
                  subst hv0
                  clear hk3
                  cases t with
                  | true =>
                    have HN : Hid (PB ap TL TR i' (k' + 1) U) := pb_no HPB.out.1 HX.out HY.out (.inr (by rw [HZ2.out.1]; exact HU.out))
                    go_wp2
                    exact ⟨⟨k' + 1, U, by omega, by go_num, rfl, HN.out, HPB.out.2⟩, by simp [intOf]; omega⟩
                  | false =>
                    have HN : Hid (PB ap TL TR i' (k' + 1) (putT U z)) := by have := pb_put HPB.out.1 HX.out HY.out HOK.out; rw [HZ2.out.1] at this; exact this
                    have HC : Hid ((natL (putT U z)).length = (natL U).length + 1) := cnt_put HU.out (by omega)
                    go_wp2
                    exact ⟨⟨k' + 1, putT U z, by omega, by go_num, by rw [HC.out]; go_num, HN.out, HST.out⟩, by simp [intOf]; omega⟩
                · have HOK : Hid (okAB ap x' y' = false) := by
                    show okAB ap x' y' = false
                    have := HAP.out.1
                    rw [hk3] at this
                    subst this
                    unfold okAB
                    rw [HZ2.out.2]
                    simp [hv0]
                  have hv0' : ¬ ((v : Int) = 0) := by omega
                  clear hk3 hv0
                  have HN : Hid (PB ap TL TR i' (k' + 1) U) := pb_no HPB.out.1 HX.out HY.out (.inl HOK.out)
                  go_wp2
                  exact ⟨⟨k' + 1, U, by omega, by go_num, rfl, HN.out, HPB.out.2⟩, by simp [intOf]; omega⟩
            · have hltk' : ¬ ((k' : Int) < (D.length : Int)) := by omega
              have hkd : k' = (natL TR).length := by have := HDl.out; omega
              have HN : Hid (PB ap TL TR (i' + 1) 0 U) := by have := HPB.out.1; rw [hkd] at this; exact pb_next this
              go_wp2
              exact ⟨⟨i' + 1, U, by omega, by go_num, rfl, HN.out, HPB.out.2⟩, by simp [intOf]; omega⟩
        · have hlt' : ¬ ((i' : Int) < (A.length : Int)) := by omega
          have hie : i' = (natL TL).length := by have := HAl.out; omega
          have HUT : Hid (natL T = natL U) := by
            have h1 := HPB.out.1
            rw [hie] at h1
            have h2 := pb_end h1
            show natL T = natL U
            rw [HTB.out]
            exact (natL_ext h2).symm
          have HLU : Hid (ls = (natL U).map (fun n : Nat => (n : Int))) := by
            show ls = _
            rw [← HLS.out, setsL_nat, HUT.out]
          have hul : (natL U).length = ls.length := by rw [HLU.out, List.length_map]
          have R8 : Hid (NB wr w2.heap.size a2 cap2 ls) := R7.out.below HPB.out.2.2
          have F8 : Hid (FM w g n zs (some ⟨bb, off, none⟩) (m' + 1) ps wr) := F7.out.below HPB.out.2.2
          have S8 : Hid (NB wr w5.heap.size a5 cap5 A) := S7.out.below HPB.out.2.2
          have U8 : Hid (NB wr w7.heap.size a7 cap7 D) := U7.out.below HPB.out.2.2
          have HOB : Hid (wr.ownsRow w8.heap.size 4 1 (.slice (some ⟨w8.heap.size, 0, none⟩) 256 256) 256 (boolL U)) := HPB.out.2.1
          rw [hul]
          clear R7 F7 S7 U7 HPB HUT hie hul K7 HTB HLS HA HD HAl HDl HAP
          obtain ⟨rx0, rx1⟩ := R8.out.bx
          go_wp2
          go_loopw [16] (fun i wq => ∃ j : Nat, j ≤ ls.length ∧ i = .int .i64 (j : Int) ∧ ∃ m, wq = wr.drewN m) (fun i _ => ls.length - (intOf i).toNat)
          case atStart => exact ⟨0, Nat.zero_le _, rfl, 0, rfl⟩
          case round =>
            obtain ⟨j, hj, rfl, md, rfl⟩ := hrel
            by_cases hlj : j < ls.length
            · have hlj' : (j : Int) < (ls.length : Int) := by omega
              obtain ⟨s, hs, hsv, hs256⟩ := nat_at HLU.out hlj
              obtain ⟨ga, oa, ea, ca⟩ := R8.out.rw.2 j hlj
              rw [hsv] at ca
              have ct : wr.cell? ⟨w8.heap.size, s, none⟩ = some (.bool true) := by
                have := (HOB.out.cellAt s (by omega)).trans (boolL_at U (by omega))
                rw [(natL_at hs).2] at this
                exact this
              have hs8 : (s : Int) ≤ 255 := by omega
              have hs9 : (s : Int) < 256 := by omega
              have hsn : ¬ ((s : Int) < 0) := by omega
              have hsm : ¬ ((255 : Int) < (s : Int)) := by omega
              subst ea
              by_cases hj0 : j = 0
              · have hj0' : ¬ ((0 : Int) < (j : Int)) := by omega
                have hj0n : ¬ (0 < j) := by omega
                have g1 : decide ((0 : Int) < (j : Int)) = false := by simp only [decide_eq_false_iff_not]; omega
                have g2 : decide (0 < j) = false := by simp only [decide_eq_false_iff_not]; omega
                clear hs hsv hs256 hlj hj0
                go_upto_region 31 with fail
                go_big_quiet (fail)
                go_wp2
                exact ⟨⟨j + 1, by omega, by go_num, _, rfl⟩, by simp [intOf]; omega⟩
              · obtain ⟨j1, hj1⟩ : ∃ j1, j = j1 + 1 := ⟨j - 1, by omega⟩
                obtain ⟨s1, hs1, hsv1, hs1256⟩ := nat_at HLU.out (show j1 < ls.length by omega)
                obtain ⟨gb, ob, eb, cb⟩ := R8.out.rw.2 j1 (by omega)
                rw [hsv1] at cb
                cases eb
                have hup : s1 < s := by
                  obtain ⟨q1, r1⟩ := List.getElem?_eq_some_iff.1 hs1
                  obtain ⟨q2, r2⟩ := List.getElem?_eq_some_iff.1 hs
                  rw [← r1, ← r2]
                  exact List.pairwise_iff_getElem.1 (natL_up U) _ _ q1 q2 (by omega)
                have hup' : (s1 : Int) < (s : Int) := by omega
                have hupn : ¬ ((s : Int) ≤ (s1 : Int)) := by omega
                have hjp : (0 : Int) < (j : Int) := by omega
                have hjn : 0 < j := by omega
                have g1 : decide ((0 : Int) < (j : Int)) = true := by simp only [decide_eq_true_eq]; omega
                have g2 : decide (0 < j) = true := by simp only [decide_eq_true_eq]; omega
                have hjw : IntKind.i64.wrap ((j : Int) - 1) = (j1 : Int) := by rw [IntKind.wrap_i64]; omega
                have hjs : (j : Int) - 1 = (j1 : Int) := by omega
                have hj1l : (j1 : Int) < (ls.length : Int) := by omega
                have hj1' : j1 < ls.length := by omega
                clear hs hsv hs256 hs1 hsv1 hs1256 hup hj0 hj1
                go_upto_region 31 with fail
                go_big_quiet (fail)
                go_wp2
                exact ⟨⟨j + 1, by omega, by go_num, _, rfl⟩, by simp [intOf]; omega⟩
            · have hlj' : ¬ ((j : Int) < (ls.length : Int)) := by omega
              have hdr : Below wr.heap.size wr (wr.drewN md) := below_drewN (Below.refl _ _) _
              have R9 : Hid (NB (wr.drewN md) w2.heap.size a2 cap2 ls) := R8.out.below hdr
              have S9 : Hid (NB (wr.drewN md) w5.heap.size a5 cap5 A) := S8.out.below hdr
              have U9 : Hid (NB (wr.drewN md) w7.heap.size a7 cap7 D) := U8.out.below hdr
              have F9 : Hid (FM w g n zs (some ⟨bb, off, none⟩) (m' + 1) ps (wr.drewN md)) := F8.out.below hdr
              clear hdr R8 S8 U8 F8 HOB rx0 rx1 sx0 sx1
              generalize wr.drewN md = w9 at R9 S9 U9 F9 ⊢
              obtain ⟨rx0, rx1⟩ := R9.out.bx
              obtain ⟨s0, s1⟩ := S9.out.bx
              obtain ⟨u0, u1⟩ := U9.out.bx
              have hly := R9.out.bx.lt
              have hls := S9.out.bx.lt
              have hlu := U9.out.bx.lt
              have HR1 : Hid (∀ w' : World, KM w9 w' → GivesN 29 (some ⟨g, 0, none⟩) n c (some ⟨bb, off, none⟩) (m' + 1) c' 0 ls w') := fun w' q => HS.out _ (F9.out.ra.below q.2) (F9.out.rp.below q.2)
              have HBL : Hid (Below w.heap.size w w9) := F9.out.bl
              clear HS
              go_upto_region 33 with fail
              go_region_with (first | (go_at_call 29; refine (HR1.out _ (by first | exact hS | exact kp_drew _)).mono ?_; rintro e wB ⟨_, _, rfl, _, hbB⟩; have hS : KM w9 wB := kp_step (by first | exact hS | exact kp_drew _) hbB; have yB := (hS.1 _ 1 hly).trans rx1; have sB := (hS.1 _ 0 hls).trans s0; have uB := (hS.1 _ 0 hlu).trans u0))
              all_goals go_wp2
              all_goals go_ret
              all_goals exact ⟨by first | rfl | (simp; done), HBL.out.trans (hS.2.mono HBL.out.size)⟩
  · obtain ⟨cd, hcd⟩ : ∃ cd, manyCode zs ps = cd := ⟨_, rfl⟩
    have h0 : cd ≠ 0 := by rw [← hcd]; exact hok
    have HI : Hid (∀ w : World, RulesIn w (some ⟨g, 0, none⟩) n zs → PartsIn w b m ps → GivesN 28 (some ⟨g, 0, none⟩) n c b m c' cd [] w) := fun w h k => implSets_bad _ _ _ _ _ _ _ _ _ _ (by omega) (by omega) hnc hcm h k hcd h0
    have HS : Hid (∀ w : World, RulesIn w (some ⟨g, 0, none⟩) n zs → PartsIn w b m ps → GivesN 29 (some ⟨g, 0, none⟩) n c b m c' cd [] w) := fun w h k => specSets_bad _ _ _ _ _ _ _ _ _ _ (by omega) (by omega) h k hcd h0
    have cb : (cd != 0) = true := by simp [h0]
    clear hok hcd h0
    go_wp2_with fail
    refine (HI.out _ F1.out.ra F1.out.rp).mono ?_
    rintro e w2 ⟨a2, cap2, rfl, hown2, hb2⟩
    have A2 : Below w2.heap.size w2 (w2.alloc (.cells #[.int .i64 cd, .slice a2 0 cap2] 54)) := (Below.refl _ _).alloc (Nat.le_refl _) _
    have F2 : Hid (FM w g n zs b m ps (w2.alloc (.cells #[.int .i64 cd, .slice a2 0 cap2] 54))) := (F1.out.below hb2).below A2
    have X2 : Hid (Box2 (w2.alloc (.cells #[.int .i64 cd, .slice a2 0 cap2] 54)) w2.heap.size (.int .i64 cd) (.slice a2 0 cap2)) := Box2.new _ _ _ _
    clear hown2 hb2 A2 F1 HI
    go_upto_region 5 with fail
    generalize w2.alloc (.cells #[.int .i64 cd, .slice a2 0 cap2] 54) = w3 at F2 X2 ⊢
    obtain ⟨x0, x1⟩ := X2.out
    have hlx := X2.out.lt
    have HR1 : Hid (∀ w' : World, KM w3 w' → GivesN 29 (some ⟨g, 0, none⟩) n c b m c' cd [] w') := fun w' q => HS.out _ (F2.out.ra.below q.2) (F2.out.rp.below q.2)
    have HBL : Hid (Below w.heap.size w w3) := F2.out.bl
    clear HS F2 X2
    go_upto_region 6 with fail
    go_region_with (first | (go_at_call 29; refine (HR1.out _ (by first | exact hS | exact kp_drew _)).mono ?_; rintro e wB ⟨_, _, rfl, _, hbB⟩; have hS : KM w3 wB := kp_step (by first | exact hS | exact kp_drew _) hbB; have yB := (hS.1 _ 0 hlx).trans x0))
    all_goals go_wp2
    all_goals go_ret
    all_goals exact ⟨by first | rfl | (simp; done) | (show Ending.returned (.bool (cd == cd)) = _; simp), HBL.out.trans (hS.2.mono HBL.out.size)⟩

end Go.Proofs.Ytdooocjjohdpjaa
