/-
  PROVED: for every slice of rules and every slice of parts the law laws.FnExactSetsOf returns true, that is impl.SetsOf answers as spec.SetsOf there (up to 1<<20 rules and parts together, as the law itself says), writes nothing into its arguments, and its list is memory of its own, behind another call too; the arguments read as they did.
  Conditions: none beside those that the given row itself bears. The frame is the shell written by program, turned for slices of structs; the walk is ours.
-/
import Derived.Test.YtocdclgolhhckaaRows
import Derived.WalkKit
import Derived.ProofKit
import Derived.OpenShut
import Derived.ShutString
import Derived.ChangeOld
import Derived.Below
import Derived.Test.YtocdclgolhhckaaPk29
import Derived.Test.YtocdclgolhhckaaPk19
import Derived.Test.YtocdclgolhhckaaPk30
namespace Go.Proofs.Ytocdclgolhhckaa.fnExactSetsOf
open Go.ChangeShapes Go.WideShapes Go.ChangeAt Go.RowKit
open Go.ChangeMaps (open_string shut_string)
set_option linter.unusedVariables false

theorem own : ownKnob Try.prog.godebug = none := by kernel_rfl
theorem laidOut : laidOutB Try.prog = true := by kernel_rfl

set_option maxRecDepth 100000 in
set_option maxHeartbeats 4000000 in
theorem inner (a0 : Option Addr) (len cap : Nat) (zs : List RuleI) (b0 : Option Addr) (m cap2 : Nat) (gs : List PartI) (c : Int) (ys : List Int) (w : World) (hl : len ≤ 1048576) (hlm : len + m ≤ 1048576) (hy : ys.length ≤ 1000) (hr : RulesIn w a0 len zs) (hg : PartsIn w b0 m gs)
    (HS : Hid (∀ (g k : Nat) (w : World), RulesAt w g 0 zs → PartsAt w k 0 gs → GivesN 39 (some ⟨g, 0, none⟩) len len (some ⟨k, 0, none⟩) m m c ys w))
    (HI : Hid (∀ (g k : Nat) (w : World), RulesAt w g 0 zs → PartsAt w k 0 gs → GivesN 41 (some ⟨g, 0, none⟩) len len (some ⟨k, 0, none⟩) m m c ys w)) :
    Calls Try.prog 8 #[.slice a0 len cap, .slice b0 m cap2] w fun e w' => e = .returned (.bool true) ∧ Below w.heap.size w w' := by
  have hl' : (len : Int) ≤ 1048576 := by omega
  have hlm' : (len : Int) + (m : Int) ≤ 1048576 := by omega
  have hm : m ≤ 1048576 := by omega
  have HR : Hid (RulesIn w a0 len zs) := hr
  have HGr : Hid (PartsIn w b0 m gs) := hg
  have HZ : Hid (zs.length = len) := hr.1
  have HZG : Hid (gs.length = m) := hg.1
  have HLT : Hid (∀ b off, a0 = some ⟨b, off, none⟩ → len = 0 ∨ b < w.heap.size) := rules_lt hr
  have HLG : Hid (∀ b off, b0 = some ⟨b, off, none⟩ → m = 0 ∨ b < w.heap.size) := parts_lt hg
  clear hr hg
  go_enter Try.func8, Try.ntmps8
  go_wp2_with (first | (go_at_call 12; go_in) | (go_at_call 38; go_in) | fail)
  refine (toRules_c a0 len cap zs _ hl HR.out).mono ?_
  rintro e w1 ⟨rfl, hat1, hlt1, hb1⟩
  have HA1 : Hid (RulesAt w1 w.heap.size 0 zs) := hat1
  have HG1 : Hid (PartsIn w1 b0 m gs) := HGr.out.below hb1
  clear hat1
  go_wp2_with fail
  refine (toParts_c b0 m cap2 gs _ hm HG1.out).mono ?_
  rintro e w1b ⟨rfl, hag1, hlg1, hb1b⟩
  have HA1b : Hid (RulesAt w1b w.heap.size 0 zs) := HA1.out.below hb1b
  have HAG1 : Hid (PartsAt w1b w1.heap.size 0 gs) := hag1
  clear hag1
  go_wp2_with fail
  refine (HS.out _ _ _ HA1b.out HAG1.out).mono ?_
  rintro e w2 ⟨a1, cap1, rfl, hown2, hb2⟩
  have hz1 := hb1.size
  have hz1b := hb1b.size
  have hz2 := hb2.size
  have hbw2 : Below w.heap.size w w2 := (hb1.trans (hb1b.mono hz1)).trans (hb2.mono (by omega))
  have hA3 : Below w2.heap.size w2 (w2.alloc (.cells #[.int .i64 c, .slice a1 ys.length cap1] 62)) := (Below.refl _ _).alloc (Nat.le_refl _) _
  have S3 : Hid (SQ w a0 len zs b0 m gs w2.heap.size c a1 cap1 ys (w2.alloc (.cells #[.int .i64 c, .slice a1 ys.length cap1] 62))) := by
    have hbl := hbw2.trans (hA3.mono hbw2.size)
    exact ⟨hbl, HR.out.below hbl, HGr.out.below hbl, Box2.new _ _ _ _, (row_of_owns hown2).below hA3⟩
  have L1 : Hid (∀ g off, a1 = some ⟨g, off, none⟩ → ys.length = 0 ∨ g < w2.heap.size) := row_lt (row_of_owns hown2)
  clear hown2 hb1 hb1b hb2 HA1 HA1b HAG1 HG1 hA3 hbw2 HR HGr
  generalize hw3 : w2.alloc (.cells #[.int .i64 c, .slice a1 ys.length cap1] 62) = w3 at S3
  have hz3 : w3.heap.size = w2.heap.size + 1 := by rw [← hw3]; simp
  have HZ3 : Hid (w3.heap.size = w2.heap.size + 1) := hz3
  clear hz3
  go_wp2_with fail
  clear hw3
  refine (toRules_room a0 len cap zs _ hl S3.out.ru).mono ?_
  rintro e w4 ⟨rfl, hat4, hlt4, hb4, hroom4⟩
  have HA4 : Hid (RulesAt w4 w3.heap.size 0 zs) := hat4
  have RM4 : Hid (RoomAt w4 w3.heap.size len) := hroom4
  have S4 : Hid (SQ w a0 len zs b0 m gs w2.heap.size c a1 cap1 ys w4) := S3.out.below hb4
  clear hat4 hroom4 hb4 S3
  go_wp2_with fail
  refine (toParts_room b0 m cap2 gs _ hm S4.out.gr).mono ?_
  rintro e w5 ⟨rfl, hag5, hlg5, hb5, hroom5⟩
  have HA5 : Hid (RulesAt w5 w3.heap.size 0 zs) := HA4.out.below hb5
  have RM5 : Hid (RoomAt w5 w3.heap.size len) := roomAt_below RM4.out hlt4 hb5
  have AG5 : Hid (PartsAt w5 w4.heap.size 0 gs) := hag5
  have RG5 : Hid (Room5 w5 w4.heap.size m) := hroom5
  have S5 : Hid (SQ w a0 len zs b0 m gs w2.heap.size c a1 cap1 ys w5) := S4.out.below hb5
  clear hag5 hroom5 hb5 S4 HA4 RM4
  go_wp2_with fail
  refine (HI.out _ _ _ HA5.out AG5.out).mono ?_
  rintro e w6' ⟨a2, cap2', rfl, hown6, hb6⟩
  have hz6 := hb6.size
  have A6 : Below w6'.heap.size w6' (w6'.alloc (.cells #[.int .i64 c, .slice a2 ys.length cap2'] 62)) := (Below.refl _ _).alloc (Nat.le_refl _) _
  have hb56 : Below w5.heap.size w5 (w6'.alloc (.cells #[.int .i64 c, .slice a2 ys.length cap2'] 62)) := hb6.trans (A6.mono hz6)
  have S6 : Hid (SQ w a0 len zs b0 m gs w2.heap.size c a1 cap1 ys (w6'.alloc (.cells #[.int .i64 c, .slice a2 ys.length cap2'] 62))) := S5.out.below hb56
  have HA6 : Hid (RulesAt (w6'.alloc (.cells #[.int .i64 c, .slice a2 ys.length cap2'] 62)) w3.heap.size 0 zs) := HA5.out.below hb56
  have AG6 : Hid (PartsAt (w6'.alloc (.cells #[.int .i64 c, .slice a2 ys.length cap2'] 62)) w4.heap.size 0 gs) := AG5.out.below hb56
  have RM6 : Hid (RoomAt (w6'.alloc (.cells #[.int .i64 c, .slice a2 ys.length cap2'] 62)) w3.heap.size len) := roomAt_below RM5.out (by omega) hb56
  have RG6 : Hid (Room5 (w6'.alloc (.cells #[.int .i64 c, .slice a2 ys.length cap2'] 62)) w4.heap.size m) := RG5.out.below hlg5 hb56
  have Y6 : Hid (Box2 (w6'.alloc (.cells #[.int .i64 c, .slice a2 ys.length cap2'] 62)) w6'.heap.size (.int .i64 c) (.slice a2 ys.length cap2')) := Box2.new _ _ _ _
  have O6 : Hid ((w6'.alloc (.cells #[.int .i64 c, .slice a2 ys.length cap2'] 62)).ownsRow w5.heap.size 2 1 (.slice a2 ys.length cap2') ys.length (ys.map (Value.int .i64))) := hown6.alloc _
  have HRW : Hid (∀ q, (Value.slice a2 ys.length cap2').ownBlock = some q → w5.heap.size ≤ q ∧ q < w6'.heap.size) := fun q e => hown6.lt q e
  have hs6 : w6'.heap.size < (w6'.alloc (.cells #[.int .i64 c, .slice a2 ys.length cap2'] 62)).heap.size := by simp
  clear hown6 hb6 A6 hb56 S5 HA5 AG5 RM5 RG5
  go_upto_region 12 with fail
  generalize w6'.alloc (.cells #[.int .i64 c, .slice a2 ys.length cap2'] 62) = w6 at S6 HA6 AG6 RM6 RG6 Y6 O6 hs6 ⊢
  obtain ⟨x0, x1⟩ := S6.out.bx
  obtain ⟨y0, y1⟩ := Y6.out
  go_wp2_with fail
  refine (eqSets_same c a2 a1 ys.length cap2' cap1 ys _ (by omega) (row_of_owns O6.out) S6.out.vw).mono ?_
  rintro e w7 ⟨rfl, hb7⟩
  have hz7 := hb7.size
  have S7 : Hid (SQ w a0 len zs b0 m gs w2.heap.size c a1 cap1 ys w7) := S6.out.below hb7
  have HA7 : Hid (RulesAt w7 w3.heap.size 0 zs) := HA6.out.below hb7
  have AG7 : Hid (PartsAt w7 w4.heap.size 0 gs) := AG6.out.below hb7
  have RM7 : Hid (RoomAt w7 w3.heap.size len) := roomAt_below RM6.out (by omega) hb7
  have RG7 : Hid (Room5 w7 w4.heap.size m) := RG6.out.below (by omega) hb7
  have Y7 : Hid (Box2 w7 w6'.heap.size (.int .i64 c) (.slice a2 ys.length cap2')) := Y6.out.below hb7
  have O7 : Hid (w7.ownsRow w5.heap.size 2 1 (.slice a2 ys.length cap2') ys.length (ys.map (Value.int .i64))) := owns_below O6.out hb7
  clear hb7 S6 HA6 AG6 RM6 RG6 Y6 O6 x0 x1 y0 y1
  go_wp2_with fail
  refine (toRules_c a0 len cap zs _ hl S7.out.ru).mono ?_
  rintro e w8 ⟨rfl, hat8, hlt8, hb8⟩
  have hz8 := hb8.size
  have HB8 : Hid (RulesAt w8 w7.heap.size 0 zs) := hat8
  have HA8 : Hid (RulesAt w8 w3.heap.size 0 zs) := HA7.out.below hb8
  clear hat8
  go_wp2_with fail
  refine (eqRules_same _ _ len _ _ zs _ hl (RulesIn.of HZ.out HA8.out) (RulesIn.of HZ.out HB8.out)).mono ?_
  rintro e w9 ⟨rfl, hb9'⟩
  have hz9 := hb9'.size
  have hb9 : Below w7.heap.size w7 w9 := hb8.trans (hb9'.mono hz8)
  have S9 : Hid (SQ w a0 len zs b0 m gs w2.heap.size c a1 cap1 ys w9) := S7.out.below hb9
  have AG9 : Hid (PartsAt w9 w4.heap.size 0 gs) := AG7.out.below hb9
  have RM9 : Hid (RoomAt w9 w3.heap.size len) := roomAt_below RM7.out (by omega) hb9
  have RG9 : Hid (Room5 w9 w4.heap.size m) := RG7.out.below (by omega) hb9
  have Y9 : Hid (Box2 w9 w6'.heap.size (.int .i64 c) (.slice a2 ys.length cap2')) := Y7.out.below hb9
  have O9 : Hid (w9.ownsRow w5.heap.size 2 1 (.slice a2 ys.length cap2') ys.length (ys.map (Value.int .i64))) := owns_below O7.out hb9
  clear hb8 hb9 hb9' S7 HA7 AG7 RM7 RG7 Y7 O7 HA8 HB8
  go_wp2_with fail
  refine (toParts_c b0 m cap2 gs _ hm S9.out.gr).mono ?_
  rintro e v8 ⟨rfl, hag8, hlg8, hc8⟩
  have hzv8 := hc8.size
  have GB8 : Hid (PartsAt v8 w9.heap.size 0 gs) := hag8
  have GA8 : Hid (PartsAt v8 w4.heap.size 0 gs) := AG9.out.below hc8
  clear hag8
  go_wp2_with fail
  refine (eqParts_same _ _ m _ _ gs _ hm (PartsIn.of HZG.out GA8.out) (PartsIn.of HZG.out GB8.out)).mono ?_
  rintro e v9 ⟨rfl, hc9'⟩
  have hzv9 := hc9'.size
  have hc9 : Below w9.heap.size w9 v9 := hc8.trans (hc9'.mono hzv8)
  have T9 : Hid (SQ w a0 len zs b0 m gs w2.heap.size c a1 cap1 ys v9) := S9.out.below hc9
  have RMv : Hid (RoomAt v9 w3.heap.size len) := roomAt_below RM9.out (by omega) hc9
  have RGv : Hid (Room5 v9 w4.heap.size m) := RG9.out.below (by omega) hc9
  have Yv : Hid (Box2 v9 w6'.heap.size (.int .i64 c) (.slice a2 ys.length cap2')) := Y9.out.below hc9
  have Ov : Hid (v9.ownsRow w5.heap.size 2 1 (.slice a2 ys.length cap2') ys.length (ys.map (Value.int .i64))) := owns_below O9.out hc9
  have hN : w.heap.size ≤ w3.heap.size := by have := HZ3.out; omega
  have hB1 : w2.heap.size < w3.heap.size := by have := HZ3.out; omega
  have HV : Hid (∀ g off, a1 = some ⟨g, off, none⟩ → ys.length = 0 ∨ g < w3.heap.size) := fun g off e => by have := L1.out g off e; have := HZ3.out; omega
  clear hc8 hc9 hc9' S9 AG9 RM9 RG9 Y9 O9 GA8 GB8
  go_wp2_with fail
  refine (markRules_c w3.heap.size len len _ hl RMv.out).mono ?_
  rintro e w10 ⟨rfl, hg10⟩
  have hz10 := hg10.size
  have S10 : Hid (SQ w a0 len zs b0 m gs w2.heap.size c a1 cap1 ys w10) := T9.out.grown w3.heap.size hg10 HLT.out HLG.out (fun q e => by cases e; omega) hN hB1 HV.out
  have Y10 : Hid (Box2 w10 w6'.heap.size (.int .i64 c) (.slice a2 ys.length cap2')) := Yv.out.grown hg10 (by simp; omega)
  have O10 : Hid (w10.ownsRow w5.heap.size 2 1 (.slice a2 ys.length cap2') ys.length (ys.map (Value.int .i64))) := owns_kept1 Ov.out hg10 (by omega)
  have RG10 : Hid (Room5 w10 w4.heap.size m) := RGv.out.grown (by omega) hg10 (by simp; omega)
  clear hg10 T9 RMv RGv Yv Ov
  go_wp2_with fail
  refine (markPartsR_c w4.heap.size m m (1 + 8 * (len : Int)) _ hm (by omega) (by omega) RG10.out).mono ?_
  rintro e v10 ⟨rfl, hg11⟩
  have hzv10 := hg11.size
  have T10 : Hid (SQ w a0 len zs b0 m gs w2.heap.size c a1 cap1 ys v10) := S10.out.grown w3.heap.size hg11 HLT.out HLG.out (fun q e => by cases e; omega) hN hB1 HV.out
  have Yu : Hid (Box2 v10 w6'.heap.size (.int .i64 c) (.slice a2 ys.length cap2')) := Y10.out.grown hg11 (by simp; omega)
  have Ou : Hid (v10.ownsRow w5.heap.size 2 1 (.slice a2 ys.length cap2') ys.length (ys.map (Value.int .i64))) := owns_kept1 O10.out hg11 (by omega)
  clear hg11 S10 Y10 O10 RG10
  have hk0 : decide ((1 : Int) + 8 * (len : Int) + 5 * (m : Int) < 0) = false := by simp; omega
  obtain ⟨x0, x1⟩ := T10.out.bx
  obtain ⟨y0, y1⟩ := Yu.out
  go_wp2_with fail
  refine (eqSets_same c a2 a1 ys.length cap2' cap1 ys _ (by omega) (row_of_owns Ou.out) T10.out.vw).mono ?_
  rintro e w11 ⟨rfl, hb11⟩
  have hz11 := hb11.size
  have S11 : Hid (SQ w a0 len zs b0 m gs w2.heap.size c a1 cap1 ys w11) := T10.out.below hb11
  have Y11 : Hid (Box2 w11 w6'.heap.size (.int .i64 c) (.slice a2 ys.length cap2')) := Yu.out.below hb11
  have O11 : Hid (w11.ownsRow w5.heap.size 2 1 (.slice a2 ys.length cap2') ys.length (ys.map (Value.int .i64))) := owns_below Ou.out hb11
  clear hb11 T10 Yu Ou x0 x1 y0 y1
  obtain ⟨y0, y1⟩ := Y11.out
  go_wp2_with fail
  refine (markSets1 c w5.heap.size a2 ys.length cap2' _ _ (by omega) O11.out).mono ?_
  rintro e w12 ⟨rfl, hown12, hg12⟩
  have hz12 := hg12.size
  have S12 : Hid (SQ w a0 len zs b0 m gs w2.heap.size c a1 cap1 ys w12) := S11.out.grown w3.heap.size hg12 HLT.out HLG.out (fun q e => by have := HRW.out q e; omega) hN hB1 HV.out
  have Y12 : Hid (Box2 w12 w6'.heap.size (.int .i64 c) (.slice a2 ys.length cap2')) := Y11.out.grown hg12 (fun e => by have := HRW.out _ e.symm; omega)
  have M12 : Hid (RowIn w12 a2 ys.length (marks 1 ys.length)) := row_of_owns hown12
  clear hown12 hg12 S11 Y11 O11 y0 y1
  obtain ⟨y0, y1⟩ := Y12.out
  have hq0 : decide ((1 : Int) + (ys.length : Int) < 0) = false := by simp; omega
  go_wp2_with fail
  refine (heldSets1 c a2 ys.length cap2' _ (by omega) M12.out).mono ?_
  rintro e w13 ⟨rfl, hb13⟩
  have hz13 := hb13.size
  have S13 : Hid (SQ w a0 len zs b0 m gs w2.heap.size c a1 cap1 ys w13) := S12.out.below hb13
  have Y13 : Hid (Box2 w13 w6'.heap.size (.int .i64 c) (.slice a2 ys.length cap2')) := Y12.out.below hb13
  have M13 : Hid (RowIn w13 a2 ys.length (marks 1 ys.length)) := M12.out.below hb13
  clear hb13 S12 Y12 M12 y0 y1
  go_wp2_with fail
  refine (toRules_c a0 len cap zs _ hl S13.out.ru).mono ?_
  rintro e w14 ⟨rfl, hat14, hlt14, hb14⟩
  have hz14 := hb14.size
  have HA14 : Hid (RulesAt w14 w13.heap.size 0 zs) := hat14
  have HG14 : Hid (PartsIn w14 b0 m gs) := S13.out.gr.below hb14
  clear hat14
  go_wp2_with fail
  refine (toParts_c b0 m cap2 gs _ hm HG14.out).mono ?_
  rintro e v14 ⟨rfl, hag14, hlg14, hc14⟩
  have hzv14 := hc14.size
  have HAv : Hid (RulesAt v14 w13.heap.size 0 zs) := HA14.out.below hc14
  have GAv : Hid (PartsAt v14 w14.heap.size 0 gs) := hag14
  clear hag14
  go_wp2_with fail
  refine (HI.out _ _ _ HAv.out GAv.out).mono ?_
  rintro e w15 ⟨a3, cap3, rfl, hown15, hb15⟩
  have hz15 := hb15.size
  have A16 : Below w15.heap.size w15 (w15.alloc (.cells #[.int .i64 c, .slice a3 ys.length cap3] 62)) := (Below.refl _ _).alloc (Nat.le_refl _) _
  have hb1316 : Below w13.heap.size w13 (w15.alloc (.cells #[.int .i64 c, .slice a3 ys.length cap3] 62)) := ((hb14.trans (hc14.mono hz14)).trans (hb15.mono (by omega))).trans (A16.mono (by omega))
  have S16 : Hid (SQ w a0 len zs b0 m gs w2.heap.size c a1 cap1 ys (w15.alloc (.cells #[.int .i64 c, .slice a3 ys.length cap3] 62))) := S13.out.below hb1316
  have Y16 : Hid (Box2 (w15.alloc (.cells #[.int .i64 c, .slice a3 ys.length cap3] 62)) w6'.heap.size (.int .i64 c) (.slice a2 ys.length cap2')) := Y13.out.below hb1316
  have Z16 : Hid (Box2 (w15.alloc (.cells #[.int .i64 c, .slice a3 ys.length cap3] 62)) w15.heap.size (.int .i64 c) (.slice a3 ys.length cap3)) := Box2.new _ _ _ _
  have M16 : Hid (RowIn (w15.alloc (.cells #[.int .i64 c, .slice a3 ys.length cap3] 62)) a2 ys.length (marks 1 ys.length)) := M13.out.below hb1316
  have U16 : Hid (RowIn (w15.alloc (.cells #[.int .i64 c, .slice a3 ys.length cap3] 62)) a3 ys.length ys) := (row_of_owns hown15).below A16
  have hs16 : w15.heap.size < (w15.alloc (.cells #[.int .i64 c, .slice a3 ys.length cap3] 62)).heap.size := by simp
  clear hown15 hb14 hc14 hb15 A16 hb1316 S13 Y13 M13 HA14 HG14 HAv GAv
  go_upto_region 32 with fail
  generalize w15.alloc (.cells #[.int .i64 c, .slice a3 ys.length cap3] 62) = w16 at S16 Y16 Z16 M16 U16 hs16 ⊢
  obtain ⟨x0, x1⟩ := S16.out.bx
  obtain ⟨z0, z1⟩ := Z16.out
  go_wp2_with fail
  refine (eqSets_same c a3 a1 ys.length cap3 cap1 ys _ (by omega) U16.out S16.out.vw).mono ?_
  rintro e w17 ⟨rfl, hb17⟩
  have hz17 := hb17.size
  have B17 : Hid (Below w.heap.size w w17) := (S16.out.below hb17).bl
  have M17 : Hid (RowIn w17 a2 ys.length (marks 1 ys.length)) := M16.out.below hb17
  obtain ⟨y0, y1⟩ := Y16.out.below hb17
  clear hb17 S16 Y16 Z16 M16 U16 x0 x1 z0 z1
  go_wp2_with fail
  refine (heldSets1 c a2 ys.length cap2' _ (by omega) M17.out).mono ?_
  rintro e w18 ⟨rfl, hb18⟩
  have B18 : Hid (Below w.heap.size w w18) := B17.out.trans (hb18.mono (by have := B17.out.size; omega))
  clear hb18 B17 M17 y0 y1
  go_wp2
  go_ret
  exact ⟨rfl, B18.out⟩

set_option maxRecDepth 20000 in
set_option maxHeartbeats 400000 in
theorem long (a0 : Option Addr) (len cap : Nat) (b0 : Option Addr) (m cap2 : Nat) (w : World) (hl : 1048576 < len) (hm : len ≤ maxLen) :
    Calls Try.prog 8 #[.slice a0 len cap, .slice b0 m cap2] w fun e w' => e = .returned (.bool true) ∧ Below w.heap.size w w' := by
  unfold maxLen at hm
  have hl' : (1048576 : Int) < (len : Int) := by omega
  have hm' : (len : Int) ≤ 9223372036854775807 := by omega
  clear hm
  go_enter Try.func8, Try.ntmps8
  go_wp2
  go_ret
  exact ⟨rfl, Below.refl _ _⟩

set_option maxRecDepth 20000 in
set_option maxHeartbeats 400000 in
theorem long2 (a0 : Option Addr) (len cap : Nat) (b0 : Option Addr) (m cap2 : Nat) (w : World) (hl : len ≤ 1048576) (hl2 : 1048576 < len + m) (hm : m ≤ maxLen) :
    Calls Try.prog 8 #[.slice a0 len cap, .slice b0 m cap2] w fun e w' => e = .returned (.bool true) ∧ Below w.heap.size w w' := by
  unfold maxLen at hm
  have hl' : (len : Int) ≤ 1048576 := by omega
  have hl2' : (1048576 : Int) < (len : Int) + (m : Int) := by omega
  have hm' : (m : Int) ≤ 9223372036854775807 := by omega
  clear hm
  go_enter Try.func8, Try.ntmps8
  go_wp2
  go_ret
  exact ⟨rfl, Below.refl _ _⟩

/-! The walk: the Go text returns true. -/
theorem walk (a0 : Option Addr) (len0 cap0 : Nat) (z0 : List RuleI) (a1 : Option Addr) (len1 cap1 : Nat) (z1 : List PartI) (w : World) (w0 : RulesArg w a0 len0 z0) (w1 : PartsArg w a1 len1 z1) :
    Calls Try.prog 8 #[.slice a0 len0 cap0, .slice a1 len1 cap1] w fun e w' => e = .returned (.bool true) ∧ Below w.heap.size w w' := by
  by_cases hl : len0 ≤ 1048576
  · by_cases hl2 : len0 + len1 ≤ 1048576
    · have hmx : len0 ≤ maxLen := by unfold maxLen; omega
      have hz := w0.1.1
      have hzp := w1.1.1
      by_cases hc : manyCode z0 z1 = 0
      · obtain ⟨gs, hg⟩ := all_some z0 (many_zero hc).1
        exact inner a0 len0 cap0 z0 a1 len1 cap1 z1 0 (setsL (tellsL (ofG gs) z1)) w hl hl2 (by have := setsTo_len (tellsL (ofG gs) z1) 256; unfold setsL; omega) w0.1 w1.1 (fun g k w h h' => specSets_ok _ _ _ _ _ _ _ _ gs _ hl (by omega) (RulesIn.of hz h) (PartsIn.of hzp h') hc hg) (fun g k w h h' => implSets_ok _ _ _ _ _ _ _ _ gs _ hl (by omega) (Nat.le_refl _) hmx (RulesIn.of hz h) (PartsIn.of hzp h') hc hg)
      · exact inner a0 len0 cap0 z0 a1 len1 cap1 z1 (manyCode z0 z1) [] w hl hl2 (by simp) w0.1 w1.1 (fun g k w h h' => specSets_bad _ _ _ _ _ _ _ _ _ _ hl (by omega) (RulesIn.of hz h) (PartsIn.of hzp h') rfl hc) (fun g k w h h' => implSets_bad _ _ _ _ _ _ _ _ _ _ hl (by omega) (Nat.le_refl _) hmx (RulesIn.of hz h) (PartsIn.of hzp h') rfl hc)
    · exact long2 a0 len0 cap0 a1 len1 cap1 w hl (by omega) w1.2
  · exact long a0 len0 cap0 a1 len1 cap1 w (by omega) w0.2

/-! The row's step. -/
set_option maxRecDepth 100000 in
theorem lifted (os : Os) (started : os.Started) (H : Type) (enc : TypeId × Value → H) :
    ReturnsInHanded {} Try.checked os 8 .any (Rows.fnExactSetsOfSpec.pre6 enc Try.prog Try.f8 Rows.fnExactSetsOfRow.domain false) (Rows.fnExactSetsOfSpec.post enc Try.prog Try.f8 false true false false) := by
  refine returnsInHanded_of_change (C := Try.checked) own started (by kernel_rfl) Try.func8
    (ChangeSpec.witness6 (enc := enc) (C := Try.checked) false ⟨#[], #[.slice none 0 0, .slice none 0 0], []⟩ 8 (by kernel_rfl) (by kernel_rfl) (by kernel_rfl) (by kernel_rfl)) ?_
  intro W base args ds gs before hval0 hW hcnd _
  have hval : ∀ (j : Nat) t v, Try.f8.params[j]? = some t → args[j]? = some v → Value.okWide Try.prog W .any base t v := hval0
  have hW' := hW
  obtain ⟨p, q, hA0, hV, rfl, hfz, hnd⟩ := hW
  have hA : DataW.TrodAll enc Try.prog W 0 (fun _ => true) true Try.f8.params.toList args.toList ds p := hA0
  rw [Try.params8] at hA hval
  obtain ⟨v0, vs0, d0, ds0, p0, q0, hargs, rfl, rfl, h0, r0⟩ := trodAll_cons hA
  obtain ⟨v1, vs1, d1, ds1, p1, q1, rfl, rfl, rfl, h1, r1⟩ := trodAll_cons r0
  obtain ⟨rfl, rfl, rfl⟩ := trodAll_nil r1
  obtain rfl : args = #[v0, v1] := by cases args; simp_all
  obtain ⟨rfl, rfl⟩ := trodVars_none hV
  obtain ⟨a0, len0, cap0, rfl⟩ := okWide_slice Try.underlying22 (hval 0 22 v0 rfl rfl)
  have k0 := h0
  have lt0 : ∀ x ∈ p0, x.block < W.heap.size := by obtain ⟨m, hm⟩ := k0; exact DataW.trod_lt m _ _ _ hm
  obtain ⟨z0, w0⟩ : ∃ zs : List RuleI, RulesArg W a0 len0 zs := by
    obtain ⟨fuel, hf⟩ := h0
    exact rules_shape hf
  obtain ⟨a1, len1, cap1, rfl⟩ := okWide_slice Try.underlying59 (hval 1 59 v1 rfl rfl)
  have k1 := h1
  have lt1 : ∀ x ∈ p1, x.block < W.heap.size := by obtain ⟨m, hm⟩ := k1; exact DataW.trod_lt m _ _ _ hm
  obtain ⟨z1, w1⟩ : ∃ zs : List PartI, PartsArg W a1 len1 zs := by
    obtain ⟨fuel, hf⟩ := h1
    exact parts_shape hf
  clear hA0 hval0
  refine (walk a0 len0 cap0 z0 a1 len1 cap1 z1 W w0 w1).mono fun e W' ⟨he, bel⟩ => ?_
  subst he
  exact ⟨_, rfl, _, _, _, [], _, [], hW', trodAll_mk1 (shut_bool Try.underlying4 _), (trodAll_cons_mk (Below.trod laidOut (by kernel_rfl) (of_decide_eq_true (by kernel_rfl)) k0 bel lt0) (trodAll_cons_mk (Below.trod laidOut (by kernel_rfl) (of_decide_eq_true (by kernel_rfl)) k1 bel lt1) trodAll_mk0)), rfl, bel.frame _, fun h => by cases h⟩

theorem over : Rows.fnExactSetsOfRow.holds Try.pinned (OpenSpec.ofChange Rows.fnExactSetsOfSpec) :=
  OpenClaim.holds_of_wide 8 Try.f8 rfl rfl rfl rfl rfl rfl rfl ⟨rfl, rfl, rfl, rfl, rfl⟩ rfl rfl rfl rfl rfl (by kernel_rfl) Try.func8 (by kernel_rfl)
    (of_decide_eq_true (by kernel_rfl)) (by unfold Func.isWrapper; first | (rw [if_pos (by decide +kernel)]; kernel_rfl) | (rw [if_neg (by decide +kernel)]; exact ⟨rfl, rfl⟩))
    (fun os started H enc _ => lifted os started H enc)

end Go.Proofs.Ytocdclgolhhckaa.fnExactSetsOf
namespace Go.Proofs.Ytocdclgolhhckaa
theorem fnExactSetsOf_holds : Rows.FnExactSetsOfSaid := fnExactSetsOf.over
#print axioms fnExactSetsOf_holds
end Go.Proofs.Ytocdclgolhhckaa
