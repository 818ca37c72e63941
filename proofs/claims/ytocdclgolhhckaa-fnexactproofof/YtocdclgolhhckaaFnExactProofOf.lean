/-
  PROVED: for every slice of rules, every role and every number the law laws.FnExactProofOf returns true, that is impl.ProofOf answers as spec.ProofOf there (up to 1<<20 rules, as the law itself says), writes nothing into its argument, and its list is memory of its own, behind another call too; the arguments read as they did.
  Conditions: none beside those that the given row itself bears. The frame is the shell written by program, turned for a slice of structs and a struct; the walk is ours.
-/
import Derived.Test.YtocdclgolhhckaaRows
import Derived.WalkKit
import Derived.ProofKit
import Derived.OpenShut
import Derived.ShutString
import Derived.ChangeOld
import Derived.Below
import Derived.Test.YtocdclgolhhckaaPk25
import Derived.Test.YtocdclgolhhckaaPk19
import Derived.Test.YtocdclgolhhckaaPk06
import Derived.Deep.CutRange
namespace Go.Proofs.Ytocdclgolhhckaa.fnExactProofOf
open Go.ChangeShapes Go.WideShapes Go.ChangeAt Go.RowKit
open Go.ChangeMaps (open_string shut_string)
set_option linter.unusedVariables false

theorem own : ownKnob Try.prog.godebug = none := by kernel_rfl
theorem laidOut : laidOutB Try.prog = true := by kernel_rfl

set_option maxRecDepth 100000 in
set_option maxHeartbeats 8000000 in
theorem inner (a0 : Option Addr) (len cap : Nat) (zs : List RuleI) (r : RoI) (p c : Int) (ls : List Int) (w : World) (hl : len ≤ 1048576) (hy : ls.length ≤ 2) (hr : RulesIn w a0 len zs)
    (HS : Hid (∀ (g : Nat) (w : World), RulesAt w g 0 zs → GivesP 33 (some ⟨g, 0, none⟩) len len r p c ls w))
    (HI : Hid (∀ (g : Nat) (w : World), RulesAt w g 0 zs → GivesP 34 (some ⟨g, 0, none⟩) len len r p c ls w)) :
    Calls Try.prog 7 #[.slice a0 len cap, .agg #[.int .i64 r.1, .int .i64 r.2], .int .i64 p] w fun e w' => e = .returned (.bool true) ∧ Below w.heap.size w w' := by
  have hl' : (len : Int) ≤ 1048576 := by omega
  obtain ⟨W, hW⟩ : ∃ W, W = w.alloc (.cells #[.int .i64 r.1, .int .i64 r.2] 24) := ⟨_, rfl⟩
  have hs : W.heap.size = w.heap.size + 1 := by rw [hW]; simp
  have B0 : Below w.heap.size w W := by rw [hW]; exact (Below.refl _ _).alloc (Nat.le_refl _) _
  have r0 : W.cell? ⟨w.heap.size, 0, none⟩ = some (.int .i64 r.1) := by rw [hW]; simp
  have r1 : W.cell? ⟨w.heap.size, 1, none⟩ = some (.int .i64 r.2) := by rw [hW]; simp
  have HR : Hid (RulesIn W a0 len zs) := hr.below B0
  have HZ : Hid (zs.length = len) := hr.1
  have HLT : Hid (∀ b off, a0 = some ⟨b, off, none⟩ → len = 0 ∨ b < w.heap.size) := rules_lt hr
  clear hr
  have hlt0 : w.heap.size < W.heap.size := by omega
  go_enter Try.func7, Try.ntmps7
  go_wp2_with (first | (go_at_call 12; go_in) | fail)
  rw [← hW]
  clear hW hs
  go_cut [8] from 20 to 25 (fun s8 wx => Res1 c ls W s8 wx)
  case first =>
    go_region_with (first
      | (go_at_call 14; refine (toRules_c a0 len cap zs _ hl (HR.out.below (by first | exact (Below.refl _ W).drew | exact (Below.refl _ W).drew.alloc (Nat.le_refl _) _ | exact hbA | exact hbR | exact hbA.alloc hbA.size _ | exact hbR.alloc hbR.size _))).mono ?_; rintro e w1 ⟨rfl, hat1, hlt1, hb1'⟩; have hbA : Below W.heap.size W w1 := Below.trans (by first | exact (Below.refl _ W).drew | exact (Below.refl _ W).drew.alloc (Nat.le_refl _) _ | exact hbA | exact hbR | exact hbA.alloc hbA.size _ | exact hbR.alloc hbR.size _) (hb1'.mono (Below.size (B := W.heap.size) (by first | exact (Below.refl _ W).drew | exact (Below.refl _ W).drew.alloc (Nat.le_refl _) _ | exact hbA | exact hbR | exact hbA.alloc hbA.size _ | exact hbR.alloc hbR.size _))); have hl1 : w.heap.size < w1.heap.size := Nat.lt_of_lt_of_le hlt0 hbA.size; have x0 := (hbA.cell (p := ⟨w.heap.size, 0, none⟩) hlt0).trans r0; have x1 := (hbA.cell (p := ⟨w.heap.size, 1, none⟩) hlt0).trans r1; first | (have HX1 : Hid (BoxI w1 _) := HXR.out.below hb1') | (have HX1 : Hid (BoxI w1 _) := (BoxI.newD _).below hb1') | (have HX1 : Hid (BoxI w1 _) := (BoxI.new _).below hb1') | skip)
      | (go_at_call 15; refine (toRole_c r.1 r.2 _).mono ?_; rintro e wR ⟨rfl, hbR'⟩; have hbR : Below W.heap.size W wR := Below.trans (by first | exact (Below.refl _ W).drew | exact (Below.refl _ W).drew.alloc (Nat.le_refl _) _ | exact hbA | exact hbR | exact hbA.alloc hbA.size _ | exact hbR.alloc hbR.size _) (hbR'.mono (Below.size (B := W.heap.size) (by first | exact (Below.refl _ W).drew | exact (Below.refl _ W).drew.alloc (Nat.le_refl _) _ | exact hbA | exact hbR | exact hbA.alloc hbA.size _ | exact hbR.alloc hbR.size _))); first | (have HXR : Hid (BoxI wR _) := HX1.out.below hbR') | (have HXR : Hid (BoxI wR _) := (BoxI.newD _).below hbR') | (have HXR : Hid (BoxI wR _) := (BoxI.new _).below hbR') | skip)
      | (go_at_call 33; refine (HS.out _ _ ?_).mono ?_; (· first | exact hat1 | exact hat1.below hbR' | exact (at_cast hat1 (by simp [go_sem])).below hbR' | exact at_cast hat1 (by simp [go_sem]) | exact (at_cast hat1 (by simp [go_sem])).below ((Below.refl _ _).alloc (Nat.le_refl _) _) | exact hat1.below ((Below.refl _ _).alloc (Nat.le_refl _) _) | exact (hat1.below hbR').below ((Below.refl _ _).alloc (Nat.le_refl _) _) | exact (hat1.below ((Below.refl _ _).alloc (Nat.le_refl _) _)).below hbR'); rintro e w2 ⟨a1, cap1, rfl, hown2, hb2'⟩; have HB2 : Hid (Below W.heap.size W w2) := Below.trans (by first | exact (Below.refl _ W).drew | exact (Below.refl _ W).drew.alloc (Nat.le_refl _) _ | exact hbA | exact hbR | exact hbA.alloc hbA.size _ | exact hbR.alloc hbR.size _) (hb2'.mono (Below.size (B := W.heap.size) (by first | exact (Below.refl _ W).drew | exact (Below.refl _ W).drew.alloc (Nat.le_refl _) _ | exact hbA | exact hbR | exact hbA.alloc hbA.size _ | exact hbR.alloc hbR.size _))); have HO2 : Hid (RowIn w2 a1 ls.length ls) := row_of_owns hown2; (first | (have HX2 : Hid (BoxI w2 _ ∧ RowB w2 _ a1 ls) := ⟨HXR.out.below hb2', row_box hown2 HXR.out.lt⟩) | (have HX2 : Hid (BoxI w2 _ ∧ RowB w2 _ a1 ls) := ⟨HX1.out.below hb2', row_box hown2 HX1.out.lt⟩) | (have HX2 : Hid (BoxI w2 _ ∧ RowB w2 _ a1 ls) := ⟨(BoxI.new _).below hb2', row_box hown2 (BoxI.new _).lt⟩) | skip); clear hown2; (first | (obtain ⟨y0, y1, g0, g1⟩ := HX2.out.1) | skip)))
    all_goals
      go_wp2_with fail
      go_meet
      first
        | exact ⟨_, a1, cap1, rfl, Box2.new w2 (.int .i64 c) (.slice a1 ls.length cap1) 55, HO2.out.below ((Below.refl _ _).alloc (Nat.le_refl _) _), HB2.out.alloc HB2.out.size _⟩
        | exact ⟨_, a1, cap1, rfl, HX2.out.1.put c _, HX2.out.2 _ _, (HB2.out.setCell (by first | exact Nat.le_refl _ | exact hbA.size | exact hbR.size) _).setCell (by first | exact Nat.le_refl _ | exact hbA.size | exact hbR.size) _⟩
  case rest =>
    obtain ⟨B1, a1, cap1, rfl, hbx, hrow, hbW⟩ := hcut
    have S3 : Hid (SP w a0 len zs r w.heap.size B1 c a1 cap1 ls wc) := ⟨B0.trans (hbW.mono B0.size), HR.out.below hbW, ⟨(hbW.cell (p := ⟨w.heap.size, 0, none⟩) hlt0).trans r0, (hbW.cell (p := ⟨w.heap.size, 1, none⟩) hlt0).trans r1⟩, hbx, hrow⟩
    have HN : Hid (w.heap.size ≤ wc.heap.size ∧ w.heap.size < wc.heap.size ∧ B1 < wc.heap.size ∧ ∀ g off, a1 = some ⟨g, off, none⟩ → ls.length = 0 ∨ g < wc.heap.size) := ⟨by have := hbW.size; omega, Nat.lt_of_lt_of_le hlt0 hbW.size, hbx.lt, row_lt hrow⟩
    clear hbx hrow hbW r0 r1 HR
    go_wp2_with fail
    refine (toRules_room a0 len cap zs _ hl S3.out.ru).mono ?_
    rintro e w4 ⟨rfl, hat4, hlt4, hb4, hroom4⟩
    have HA4 : Hid (RulesAt w4 wc.heap.size 0 zs) := hat4
    have RM4 : Hid (RoomAt w4 wc.heap.size len) := hroom4
    have S4 : Hid (SP w a0 len zs r w.heap.size B1 c a1 cap1 ls w4) := S3.out.below hb4
    clear hat4 hroom4 hb4 S3
    obtain ⟨k0, k1⟩ := S4.out.ro
    go_wp2_with fail
    refine (toRole_c r.1 r.2 _).mono ?_
    rintro e w5 ⟨rfl, hb5⟩
    have hz5 := hb5.size
    have HA5 : Hid (RulesAt w5 wc.heap.size 0 zs) := HA4.out.below hb5
    have RM5 : Hid (RoomAt w5 wc.heap.size len) := roomAt_below RM4.out hlt4 hb5
    have S5 : Hid (SP w a0 len zs r w.heap.size B1 c a1 cap1 ls w5) := S4.out.below hb5
    clear hb5 S4 HA4 RM4 k0 k1
    go_wp2_with fail
    refine (HI.out _ _ HA5.out).mono ?_
    rintro e w6' ⟨a2, cap2', rfl, hown6, hb6⟩
    have hz6 := hb6.size
    have A6 : Below w6'.heap.size w6' (w6'.alloc (.cells #[.int .i64 c, .slice a2 ls.length cap2'] 55)) := (Below.refl _ _).alloc (Nat.le_refl _) _
    have hb56 : Below w5.heap.size w5 (w6'.alloc (.cells #[.int .i64 c, .slice a2 ls.length cap2'] 55)) := hb6.trans (A6.mono hz6)
    have S6 : Hid (SP w a0 len zs r w.heap.size B1 c a1 cap1 ls (w6'.alloc (.cells #[.int .i64 c, .slice a2 ls.length cap2'] 55))) := S5.out.below hb56
    have HA6 : Hid (RulesAt (w6'.alloc (.cells #[.int .i64 c, .slice a2 ls.length cap2'] 55)) wc.heap.size 0 zs) := HA5.out.below hb56
    have RM6 : Hid (RoomAt (w6'.alloc (.cells #[.int .i64 c, .slice a2 ls.length cap2'] 55)) wc.heap.size len) := roomAt_below RM5.out (by omega) hb56
    have Y6 : Hid (Box2 (w6'.alloc (.cells #[.int .i64 c, .slice a2 ls.length cap2'] 55)) w6'.heap.size (.int .i64 c) (.slice a2 ls.length cap2')) := Box2.new _ _ _ _
    have O6 : Hid ((w6'.alloc (.cells #[.int .i64 c, .slice a2 ls.length cap2'] 55)).ownsRow w5.heap.size 2 1 (.slice a2 ls.length cap2') ls.length (ls.map (Value.int .i64))) := owns_below hown6 A6
    have HRW : Hid (∀ q, (Value.slice a2 ls.length cap2').ownBlock = some q → w5.heap.size ≤ q ∧ q < w6'.heap.size) := fun q e => hown6.lt q e
    have hs6 : w6'.heap.size < (w6'.alloc (.cells #[.int .i64 c, .slice a2 ls.length cap2'] 55)).heap.size := by simp
    clear hown6 hb6 A6 hb56 S5 HA5 RM5
    go_upto_region 8 with fail
    generalize w6'.alloc (.cells #[.int .i64 c, .slice a2 ls.length cap2'] 55) = w6 at S6 HA6 RM6 Y6 O6 hs6 ⊢
    obtain ⟨x0, x1⟩ := S6.out.bx
    obtain ⟨y0, y1⟩ := Y6.out
    go_wp2_with fail
    refine (eqInts_same c a2 a1 ls.length cap2' cap1 ls _ (by omega) (row_of_owns O6.out) S6.out.vw).mono ?_
    rintro e w7 ⟨rfl, hb7⟩
    have hz7 := hb7.size
    have S7 : Hid (SP w a0 len zs r w.heap.size B1 c a1 cap1 ls w7) := S6.out.below hb7
    have HA7 : Hid (RulesAt w7 wc.heap.size 0 zs) := HA6.out.below hb7
    have RM7 : Hid (RoomAt w7 wc.heap.size len) := roomAt_below RM6.out (by omega) hb7
    have Y7 : Hid (Box2 w7 w6'.heap.size (.int .i64 c) (.slice a2 ls.length cap2')) := Y6.out.below hb7
    have O7 : Hid (w7.ownsRow w5.heap.size 2 1 (.slice a2 ls.length cap2') ls.length (ls.map (Value.int .i64))) := owns_below O6.out hb7
    clear hb7 S6 HA6 RM6 Y6 O6 x0 x1 y0 y1
    go_wp2_with fail
    refine (toRules_c a0 len cap zs _ hl S7.out.ru).mono ?_
    rintro e w8 ⟨rfl, hat8, hlt8, hb8⟩
    have hz8 := hb8.size
    have HB8 : Hid (RulesAt w8 w7.heap.size 0 zs) := hat8
    have HA8 : Hid (RulesAt w8 wc.heap.size 0 zs) := HA7.out.below hb8
    clear hat8
    go_wp2_with fail
    refine (eqRules_same _ _ len _ _ zs _ hl (RulesIn.of HZ.out HA8.out) (RulesIn.of HZ.out HB8.out)).mono ?_
    rintro e w9 ⟨rfl, hb9'⟩
    have hz9 := hb9'.size
    have hb9 : Below w7.heap.size w7 w9 := hb8.trans (hb9'.mono hz8)
    have S9 : Hid (SP w a0 len zs r w.heap.size B1 c a1 cap1 ls w9) := S7.out.below hb9
    have RM9 : Hid (RoomAt w9 wc.heap.size len) := roomAt_below RM7.out (by omega) hb9
    have Y9 : Hid (Box2 w9 w6'.heap.size (.int .i64 c) (.slice a2 ls.length cap2')) := Y7.out.below hb9
    have O9 : Hid (w9.ownsRow w5.heap.size 2 1 (.slice a2 ls.length cap2') ls.length (ls.map (Value.int .i64))) := owns_below O7.out hb9
    clear hb8 hb9 hb9' S7 HA7 RM7 Y7 O7 HA8 HB8
    go_wp2_with fail
    refine (markRules_c wc.heap.size len len _ hl RM9.out).mono ?_
    rintro e w10 ⟨rfl, hg10⟩
    have hz10 := hg10.size
    have T10 : Hid (SP w a0 len zs r w.heap.size B1 c a1 cap1 ls w10) := S9.out.grown wc.heap.size hg10 HLT.out (fun q e => by cases e; omega) HN.out.1 HN.out.2.1 HN.out.2.2.1 HN.out.2.2.2
    have Yu : Hid (Box2 w10 w6'.heap.size (.int .i64 c) (.slice a2 ls.length cap2')) := Y9.out.grown hg10 (by simp; omega)
    have Ou : Hid (w10.ownsRow w5.heap.size 2 1 (.slice a2 ls.length cap2') ls.length (ls.map (Value.int .i64))) := owns_kept1 O9.out hg10 (by omega)
    clear hg10 S9 RM9 Y9 O9
    have hk0 : decide ((1 : Int) + 8 * (len : Int) < 0) = false := by simp; omega
    obtain ⟨x0, x1⟩ := T10.out.bx
    obtain ⟨y0, y1⟩ := Yu.out
    go_wp2_with fail
    refine (eqInts_same c a2 a1 ls.length cap2' cap1 ls _ (by omega) (row_of_owns Ou.out) T10.out.vw).mono ?_
    rintro e w11 ⟨rfl, hb11⟩
    have hz11 := hb11.size
    have S11 : Hid (SP w a0 len zs r w.heap.size B1 c a1 cap1 ls w11) := T10.out.below hb11
    have Y11 : Hid (Box2 w11 w6'.heap.size (.int .i64 c) (.slice a2 ls.length cap2')) := Yu.out.below hb11
    have O11 : Hid (w11.ownsRow w5.heap.size 2 1 (.slice a2 ls.length cap2') ls.length (ls.map (Value.int .i64))) := owns_below Ou.out hb11
    clear hb11 T10 Yu Ou x0 x1 y0 y1
    obtain ⟨y0, y1⟩ := Y11.out
    go_wp2_with fail
    refine (mark1 c w5.heap.size a2 ls.length cap2' _ _ (by omega) O11.out).mono ?_
    rintro e w12 ⟨rfl, hown12, hg12⟩
    have hz12 := hg12.size
    have S12 : Hid (SP w a0 len zs r w.heap.size B1 c a1 cap1 ls w12) := S11.out.grown wc.heap.size hg12 HLT.out (fun q e => by have := HRW.out q e; omega) HN.out.1 HN.out.2.1 HN.out.2.2.1 HN.out.2.2.2
    have Y12 : Hid (Box2 w12 w6'.heap.size (.int .i64 c) (.slice a2 ls.length cap2')) := Y11.out.grown hg12 (fun e => by have := HRW.out _ e.symm; omega)
    have M12 : Hid (RowIn w12 a2 ls.length (marks 1 ls.length)) := row_of_owns hown12
    clear hown12 hg12 S11 Y11 O11 y0 y1
    obtain ⟨y0, y1⟩ := Y12.out
    have hq0 : decide ((1 : Int) + (ls.length : Int) < 0) = false := by simp; omega
    go_wp2_with fail
    refine (held1 c a2 ls.length cap2' _ (by omega) M12.out).mono ?_
    rintro e w13 ⟨rfl, hb13⟩
    have hz13 := hb13.size
    have S13 : Hid (SP w a0 len zs r w.heap.size B1 c a1 cap1 ls w13) := S12.out.below hb13
    have Y13 : Hid (Box2 w13 w6'.heap.size (.int .i64 c) (.slice a2 ls.length cap2')) := Y12.out.below hb13
    have M13 : Hid (RowIn w13 a2 ls.length (marks 1 ls.length)) := M12.out.below hb13
    clear hb13 S12 Y12 M12 y0 y1
    go_upto_region 24 with fail
    have HR : Hid (RulesIn w13 a0 len zs) := S13.out.ru
    obtain ⟨r0, r1⟩ := S13.out.ro
    have hlt0 : w.heap.size < w13.heap.size := S13.out.ro.lt
    obtain ⟨W, hWW⟩ : ∃ W, W = w13 := ⟨_, rfl⟩
    rw [← hWW] at HR r0 r1 hlt0 S13 Y13 M13 ⊢
    clear hWW hz13
    go_cut [14] from 64 to 69 (fun s14 wx => Res1 c ls W s14 wx)
    case first =>
      go_region_with (first
        | (go_at_call 14; refine (toRules_c a0 len cap zs _ hl (HR.out.below (by first | exact (Below.refl _ W).drew | exact (Below.refl _ W).drew.alloc (Nat.le_refl _) _ | exact hbA | exact hbR | exact hbA.alloc hbA.size _ | exact hbR.alloc hbR.size _))).mono ?_; rintro e w1 ⟨rfl, hat1, hlt1, hb1'⟩; have hbA : Below W.heap.size W w1 := Below.trans (by first | exact (Below.refl _ W).drew | exact (Below.refl _ W).drew.alloc (Nat.le_refl _) _ | exact hbA | exact hbR | exact hbA.alloc hbA.size _ | exact hbR.alloc hbR.size _) (hb1'.mono (Below.size (B := W.heap.size) (by first | exact (Below.refl _ W).drew | exact (Below.refl _ W).drew.alloc (Nat.le_refl _) _ | exact hbA | exact hbR | exact hbA.alloc hbA.size _ | exact hbR.alloc hbR.size _))); have hl1 : w.heap.size < w1.heap.size := Nat.lt_of_lt_of_le hlt0 hbA.size; have x0 := (hbA.cell (p := ⟨w.heap.size, 0, none⟩) hlt0).trans r0; have x1 := (hbA.cell (p := ⟨w.heap.size, 1, none⟩) hlt0).trans r1; first | (have HX1 : Hid (BoxI w1 _) := HXR.out.below hb1') | (have HX1 : Hid (BoxI w1 _) := (BoxI.newD _).below hb1') | (have HX1 : Hid (BoxI w1 _) := (BoxI.new _).below hb1') | skip)
        | (go_at_call 15; refine (toRole_c r.1 r.2 _).mono ?_; rintro e wR ⟨rfl, hbR'⟩; have hbR : Below W.heap.size W wR := Below.trans (by first | exact (Below.refl _ W).drew | exact (Below.refl _ W).drew.alloc (Nat.le_refl _) _ | exact hbA | exact hbR | exact hbA.alloc hbA.size _ | exact hbR.alloc hbR.size _) (hbR'.mono (Below.size (B := W.heap.size) (by first | exact (Below.refl _ W).drew | exact (Below.refl _ W).drew.alloc (Nat.le_refl _) _ | exact hbA | exact hbR | exact hbA.alloc hbA.size _ | exact hbR.alloc hbR.size _))); first | (have HXR : Hid (BoxI wR _) := HX1.out.below hbR') | (have HXR : Hid (BoxI wR _) := (BoxI.newD _).below hbR') | (have HXR : Hid (BoxI wR _) := (BoxI.new _).below hbR') | skip)
        | (go_at_call 34; refine (HI.out _ _ ?_).mono ?_; (· first | exact hat1 | exact hat1.below hbR' | exact (at_cast hat1 (by simp [go_sem])).below hbR' | exact at_cast hat1 (by simp [go_sem]) | exact (at_cast hat1 (by simp [go_sem])).below ((Below.refl _ _).alloc (Nat.le_refl _) _) | exact hat1.below ((Below.refl _ _).alloc (Nat.le_refl _) _) | exact (hat1.below hbR').below ((Below.refl _ _).alloc (Nat.le_refl _) _) | exact (hat1.below ((Below.refl _ _).alloc (Nat.le_refl _) _)).below hbR'); rintro e w2 ⟨a1, cap1, rfl, hown2, hb2'⟩; have HB2 : Hid (Below W.heap.size W w2) := Below.trans (by first | exact (Below.refl _ W).drew | exact (Below.refl _ W).drew.alloc (Nat.le_refl _) _ | exact hbA | exact hbR | exact hbA.alloc hbA.size _ | exact hbR.alloc hbR.size _) (hb2'.mono (Below.size (B := W.heap.size) (by first | exact (Below.refl _ W).drew | exact (Below.refl _ W).drew.alloc (Nat.le_refl _) _ | exact hbA | exact hbR | exact hbA.alloc hbA.size _ | exact hbR.alloc hbR.size _))); have HO2 : Hid (RowIn w2 a1 ls.length ls) := row_of_owns hown2; (first | (have HX2 : Hid (BoxI w2 _ ∧ RowB w2 _ a1 ls) := ⟨HXR.out.below hb2', row_box hown2 HXR.out.lt⟩) | (have HX2 : Hid (BoxI w2 _ ∧ RowB w2 _ a1 ls) := ⟨HX1.out.below hb2', row_box hown2 HX1.out.lt⟩) | (have HX2 : Hid (BoxI w2 _ ∧ RowB w2 _ a1 ls) := ⟨(BoxI.new _).below hb2', row_box hown2 (BoxI.new _).lt⟩) | skip); clear hown2; (first | (obtain ⟨y0, y1, g0, g1⟩ := HX2.out.1) | skip)))
      all_goals
        go_wp2_with fail
        go_meet
        first
          | exact ⟨_, a1, cap1, rfl, Box2.new w2 (.int .i64 c) (.slice a1 ls.length cap1) 55, HO2.out.below ((Below.refl _ _).alloc (Nat.le_refl _) _), HB2.out.alloc HB2.out.size _⟩
          | exact ⟨_, a1, cap1, rfl, HX2.out.1.put c _, HX2.out.2 _ _, (HB2.out.setCell (by first | exact Nat.le_refl _ | exact hbA.size | exact hbR.size) _).setCell (by first | exact Nat.le_refl _ | exact hbA.size | exact hbR.size) _⟩
    case rest =>
      obtain ⟨B3, a3, cap3, rfl, hbx3, hrow3, hbW3⟩ := hcut
      have S16 : Hid (SP w a0 len zs r w.heap.size B1 c a1 cap1 ls wc) := S13.out.below hbW3
      have Y16 : Hid (Box2 wc w6'.heap.size (.int .i64 c) (.slice a2 ls.length cap2')) := Y13.out.below hbW3
      have M16 : Hid (RowIn wc a2 ls.length (marks 1 ls.length)) := M13.out.below hbW3
      have U16 : Hid (RowIn wc a3 ls.length ls) := hrow3
      obtain ⟨x0, x1⟩ := S16.out.bx
      obtain ⟨z0, z1⟩ := hbx3
      clear hrow3 hbW3 S13 Y13 M13 r0 r1 HR
      go_wp2_with fail
      refine (eqInts_same c a3 a1 ls.length cap3 cap1 ls _ (by omega) U16.out S16.out.vw).mono ?_
      rintro e w17 ⟨rfl, hb17⟩
      have B17 : Hid (Below w.heap.size w w17) := (S16.out.below hb17).bl
      have M17 : Hid (RowIn w17 a2 ls.length (marks 1 ls.length)) := M16.out.below hb17
      obtain ⟨y0, y1⟩ := Y16.out.below hb17
      clear hb17 S16 Y16 M16 U16 x0 x1 z0 z1
      go_wp2_with fail
      refine (held1 c a2 ls.length cap2' _ (by omega) M17.out).mono ?_
      rintro e w18 ⟨rfl, hb18⟩
      have B18 : Hid (Below w.heap.size w w18) := B17.out.trans (hb18.mono (by have := B17.out.size; omega))
      clear hb18 B17 M17 y0 y1
      go_wp2
      go_ret
      exact ⟨rfl, B18.out⟩

set_option maxRecDepth 20000 in
set_option maxHeartbeats 400000 in
theorem long (a0 : Option Addr) (len cap : Nat) (o n p : Int) (w : World) (hl : 1048576 < len) (hm : len ≤ maxLen) :
    Calls Try.prog 7 #[.slice a0 len cap, .agg #[.int .i64 o, .int .i64 n], .int .i64 p] w fun e w' => e = .returned (.bool true) ∧ Below w.heap.size w w' := by
  unfold maxLen at hm
  have hl' : (1048576 : Int) < (len : Int) := by omega
  have hm' : (len : Int) ≤ 9223372036854775807 := by omega
  clear hm
  go_enter Try.func7, Try.ntmps7
  go_wp2
  go_ret
  exact ⟨rfl, by go_grown⟩

/-! The walk: the Go text returns true. -/
theorem walk (a0 : Option Addr) (len0 cap0 : Nat) (z0 : List RuleI) (o1 n1 : Int) (a2 : Int) (w : World) (w0 : RulesArg w a0 len0 z0) (w2 : (Lit.int .i64 a2).wf = true) :
    Calls Try.prog 7 #[.slice a0 len0 cap0, .agg #[.int .i64 o1, .int .i64 n1], .int .i64 a2] w fun e w' => e = .returned (.bool true) ∧ Below w.heap.size w w' := by
  by_cases hl : len0 ≤ 1048576
  · obtain ⟨c, ls, hy, hS, hI⟩ := proof_both z0 (o1, n1) a2 len0 hl w0.1.1
    exact inner a0 len0 cap0 z0 (o1, n1) a2 c ls w hl hy w0.1 hS hI
  · exact long a0 len0 cap0 o1 n1 a2 w (by omega) w0.2

/-! The row's step. -/
set_option maxRecDepth 100000 in
theorem lifted (os : Os) (started : os.Started) (H : Type) (enc : TypeId × Value → H) :
    ReturnsInHanded {} Try.checked os 7 .any (Rows.fnExactProofOfSpec.pre6 enc Try.prog Try.f7 Rows.fnExactProofOfRow.domain false) (Rows.fnExactProofOfSpec.post enc Try.prog Try.f7 false true false false) := by
  refine returnsInHanded_of_change (C := Try.checked) own started (by kernel_rfl) Try.func7
    (ChangeSpec.witness6 (enc := enc) (C := Try.checked) false ⟨#[], #[.slice none 0 0, .agg #[.int .i64 0, .int .i64 0], .int .i64 0], []⟩ 8 (by kernel_rfl) (by kernel_rfl) (by kernel_rfl) (by kernel_rfl)) ?_
  intro W base args ds gs before hval0 hW hcnd _
  have hval : ∀ (j : Nat) t v, Try.f7.params[j]? = some t → args[j]? = some v → Value.okWide Try.prog W .any base t v := hval0
  have hW' := hW
  obtain ⟨p, q, hA0, hV, rfl, hfz, hnd⟩ := hW
  have hA : DataW.TrodAll enc Try.prog W 0 (fun _ => true) true Try.f7.params.toList args.toList ds p := hA0
  rw [Try.params7] at hA hval
  obtain ⟨v0, vs0, d0, ds0, p0, q0, hargs, rfl, rfl, h0, r0⟩ := trodAll_cons hA
  obtain ⟨v1, vs1, d1, ds1, p1, q1, rfl, rfl, rfl, h1, r1⟩ := trodAll_cons r0
  obtain ⟨v2, vs2, d2, ds2, p2, q2, rfl, rfl, rfl, h2, r2⟩ := trodAll_cons r1
  obtain ⟨rfl, rfl, rfl⟩ := trodAll_nil r2
  obtain rfl : args = #[v0, v1, v2] := by cases args; simp_all
  obtain ⟨rfl, rfl⟩ := trodVars_none hV
  obtain ⟨a0, len0, cap0, rfl⟩ := okWide_slice Try.underlying22 (hval 0 22 v0 rfl rfl)
  have k0 := h0
  have lt0 : ∀ x ∈ p0, x.block < W.heap.size := by obtain ⟨m, hm⟩ := k0; exact DataW.trod_lt m _ _ _ hm
  obtain ⟨z0, w0⟩ : ∃ zs : List RuleI, RulesArg W a0 len0 zs := by
    obtain ⟨fuel, hf⟩ := h0
    exact rules_shape hf
  obtain ⟨cs1, rfl, hs1⟩ := okWide_struct Try.underlying24 (hval 1 24 v1 rfl rfl)
  have k1 := h1
  have lt1 : ∀ x ∈ p1, x.block < W.heap.size := by obtain ⟨m, hm⟩ := k1; exact DataW.trod_lt m _ _ _ hm
  obtain ⟨o1, n1, rfl⟩ : ∃ o n, cs1 = #[.int .i64 o, .int .i64 n] := by
    obtain ⟨fuel, hf⟩ := h1
    exact role_shape _ hf
  obtain ⟨a2, rfl, rfl, rfl, w2⟩ := open_int Try.underlying2 (hval 2 2 v2 rfl rfl) h2
  clear hA0 hval0
  refine (walk a0 len0 cap0 z0 o1 n1 a2 W w0 w2).mono fun e W' ⟨he, bel⟩ => ?_
  subst he
  exact ⟨_, rfl, _, _, _, [], _, [], hW', trodAll_mk1 (shut_bool Try.underlying4 _), (trodAll_cons_mk (Below.trod laidOut (by kernel_rfl) (of_decide_eq_true (by kernel_rfl)) k0 bel lt0) (trodAll_cons_mk (Below.trod laidOut (by kernel_rfl) (of_decide_eq_true (by kernel_rfl)) k1 bel lt1) (trodAll_cons_mk (shut_int Try.underlying2 w2) trodAll_mk0))), rfl, bel.frame _, fun h => by cases h⟩

theorem over : Rows.fnExactProofOfRow.holds Try.pinned (OpenSpec.ofChange Rows.fnExactProofOfSpec) :=
  OpenClaim.holds_of_wide 7 Try.f7 rfl rfl rfl rfl rfl rfl rfl ⟨rfl, rfl, rfl, rfl, rfl⟩ rfl rfl rfl rfl rfl (by kernel_rfl) Try.func7 (by kernel_rfl)
    (of_decide_eq_true (by kernel_rfl)) (by unfold Func.isWrapper; first | (rw [if_pos (by decide +kernel)]; kernel_rfl) | (rw [if_neg (by decide +kernel)]; exact ⟨rfl, rfl⟩))
    (fun os started H enc _ => lifted os started H enc)

end Go.Proofs.Ytocdclgolhhckaa.fnExactProofOf
namespace Go.Proofs.Ytocdclgolhhckaa
theorem fnExactProofOf_holds : Rows.FnExactProofOfSaid := fnExactProofOf.over
#print axioms fnExactProofOf_holds
end Go.Proofs.Ytocdclgolhhckaa
