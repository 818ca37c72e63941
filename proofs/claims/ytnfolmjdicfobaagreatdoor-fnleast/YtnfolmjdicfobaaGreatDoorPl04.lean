/-
  CONTRACT of the draw of a rule: spec.l2DrawRule.
  Conditions: each contract bears its own.
  CONTRACTS of the draws of bent rules: spec.l2BentRule, spec.DrawRuleText.
  Conditions: each contract bears its own.
  CONTRACTS on rules: spec.l2Rule, spec.RuleFault.
  Conditions: each contract bears its own.
  CONTRACTS: spec.l2Fault, spec.PolicyFault.
  Conditions: each contract bears its own.
-/
import Derived.Test.YtnfolmjdicfobaaGreatDoorPl03
import Derived.Test.YtnfolmjdicfobaaGreatDoorPl01
import Derived.BigQuiet
import Derived.Deep.QuietTactic
import Derived.Test.YtnfolmjdicfobaaGreatDoorPl02
import Derived.Deep.RegionHeld3
namespace Go.Proofs.YtnfolmjdicfobaaGreatDoor
open Go.RowKit
set_option linter.unusedVariables false
set_option linter.unusedSimpArgs false

theorem mk_1 (o n d : Int) (h : 1 ≤ o ∧ o ≤ 3 ∧ 1 ≤ n ∧ n ≤ 3) (hd : 1 ≤ d ∧ d ≤ 8) : ruleCode ⟨1, o, n, d, 0, 0, 0, 0⟩ = 0 := by
  have h1 : roleB o n = true := by simp [roleB, prinB, nameB]; omega
  have h2 : prinB d = true := by simp [prinB]; omega
  simp [ruleCode, bareB, hasB, h1, h2]
theorem mk_2 (o n p m : Int) (h : 1 ≤ o ∧ o ≤ 3 ∧ 1 ≤ n ∧ n ≤ 3) (h' : 1 ≤ p ∧ p ≤ 3 ∧ 1 ≤ m ∧ m ≤ 3) : ruleCode ⟨2, o, n, 0, p, m, 0, 0⟩ = 0 := by
  have h1 : roleB o n = true := by simp [roleB, prinB, nameB]; omega
  have h2 : roleB p m = true := by simp [roleB, prinB, nameB]; omega
  simp [ruleCode, bareB, hasB, h1, h2]
theorem mk_3 (o n p m d : Int) (h : 1 ≤ o ∧ o ≤ 3 ∧ 1 ≤ n ∧ n ≤ 3) (h' : 1 ≤ p ∧ p ≤ 3 ∧ 1 ≤ m ∧ m ≤ 3) (hd : 1 ≤ d ∧ d ≤ 5) : ruleCode ⟨3, o, n, 0, p, m, 0, d⟩ = 0 := by
  have h1 : roleB o n = true := by simp [roleB, prinB, nameB]; omega
  have h2 : roleB p m = true := by simp [roleB, prinB, nameB]; omega
  have h3 : nameB d = true := by simp [nameB]; omega
  simp [ruleCode, bareB, hasB, h1, h2, h3]
theorem mk_4 (o n p m s t : Int) (h : 1 ≤ o ∧ o ≤ 3 ∧ 1 ≤ n ∧ n ≤ 3) (h' : 1 ≤ p ∧ p ≤ 3 ∧ 1 ≤ m ∧ m ≤ 3) (h'' : 1 ≤ s ∧ s ≤ 3 ∧ 1 ≤ t ∧ t ≤ 3) : ruleCode ⟨4, o, n, 0, p, m, s, t⟩ = 0 := by
  have h1 : roleB o n = true := by simp [roleB, prinB, nameB]; omega
  have h2 : roleB p m = true := by simp [roleB, prinB, nameB]; omega
  have h3 : roleB s t = true := by simp [roleB, prinB, nameB]; omega
  simp [ruleCode, bareB, hasB, h1, h2, h3]

theorem six_at (k : Nat) (hk : k < 6) : ([1, 1, 1, 2, 3, 4] : List Int)[k]?.getD 0 = 1 ∨ ([1, 1, 1, 2, 3, 4] : List Int)[k]?.getD 0 = 2 ∨ ([1, 1, 1, 2, 3, 4] : List Int)[k]?.getD 0 = 3 ∨ ([1, 1, 1, 2, 3, 4] : List Int)[k]?.getD 0 = 4 := by
  match k, hk with
  | 0, _ => exact .inl rfl
  | 1, _ => exact .inl rfl
  | 2, _ => exact .inl rfl
  | 3, _ => exact .inr (.inl rfl)
  | 4, _ => exact .inr (.inr (.inl rfl))
  | 5, _ => exact .inr (.inr (.inr rfl))

set_option maxRecDepth 20000 in
set_option maxHeartbeats 2000000 in
theorem drawRule_c (w : World) (B : Nat) (a : Option Addr) (len cap k : Nat) (ys : List Int) (h : SrcAt w B a len cap k ys) (hl : len ≤ 1048576) (hk : k ≤ 800) :
    Calls Tryz.prog 141 #[.pointer (some ⟨B, 0, none⟩)] w fun e w' => ∃ (r : RuleI) (k' : Nat), ruleCode r = 0 ∧ k' ≤ k + 7 ∧ e = .returned (.agg #[.int .i64 r.k, .int .i64 r.ho, .int .i64 r.hn, .int .i64 r.w, .int .i64 r.oo, .int .i64 r.on, .int .i64 r.to, .int .i64 r.tn]) ∧ SrcAt w' B a len cap k' ys ∧ w.grownBy w' (some B) := by
  have hB := h.lt
  have hcode := h.code_lt
  have HCode : Hid (∀ b off, a = some ⟨b, off, none⟩ → len = 0 ∨ b < w.heap.size) := hcode
  clear hcode
  have D0 : Hid (DS w ((w.alloc (.cells #[.int .i64 0, .int .i64 0, .int .i64 0, .int .i64 0, .int .i64 0, .int .i64 0, .int .i64 0, .int .i64 0] 81)).alloc (.cells #[.int .i64 1, .int .i64 1, .int .i64 1, .int .i64 2, .int .i64 3, .int .i64 4] 2)) B a len cap k ys) := ((DS.start h).alloc _).alloc _
  have R0 : Hid (BlkAt ((w.alloc (.cells #[.int .i64 0, .int .i64 0, .int .i64 0, .int .i64 0, .int .i64 0, .int .i64 0, .int .i64 0, .int .i64 0] 81)).alloc (.cells #[.int .i64 1, .int .i64 1, .int .i64 1, .int .i64 2, .int .i64 3, .int .i64 4] 2)) w.heap.size 0 0 0 0 0 0 0 0) := (BlkAt.new w 0 0 0 0 0 0 0 0 _).below ((Below.refl _ _).alloc (Nat.le_refl _) _)
  clear h
  go_enter Tryz.func141, Tryz.ntmps141
  go_wp2_with fail
  refine (pick_c _ B a len cap k ys D0.out.src hl (by omega) (w.heap.size + 1) 6 6 [1, 1, 1, 2, 3, 4] rfl (by omega) (by omega) (by omega) (fun k hk => by
    match k, hk with
    | 0, _ => simp
    | 1, _ => simp
    | 2, _ => simp
    | 3, _ => simp
    | 4, _ => simp
    | 5, _ => simp)).mono ?_
  rintro e w1 ⟨i, hi, rfl, hS1, hG1⟩
  have D1 : Hid (DS w w1 B a len cap (k + 1) ys) := D0.out.draw hS1 hG1
  have R1 : Hid (BlkAt w1 w.heap.size 0 0 0 0 0 0 0 0) := R0.out.grown hG1 (by omega)
  obtain ⟨kd, hkd⟩ : ∃ kd : Int, kd = ([1, 1, 1, 2, 3, 4] : List Int)[i]?.getD 0 := ⟨_, rfl⟩
  have HK : Hid (kd = 1 ∨ kd = 2 ∨ kd = 3 ∨ kd = 4) := by rw [hkd]; exact six_at i hi
  rw [← hkd]
  clear hkd hS1 hG1 D0 R0 hi
  go_wp2_with fail
  refine (drawRole_c _ B a len cap (k + 1) ys D1.out.src hl (by omega)).mono ?_
  rintro e w2 ⟨o, n, hon, rfl, hS2, hG2⟩
  have D2 : Hid (DS w w2 B a len cap (k + 3) ys) := D1.out.draw hS2 hG2
  have R2 : Hid (BlkAt w2 w.heap.size 0 0 0 0 0 0 0 0) := R1.out.grown hG2 (by omega)
  have HON : Hid (1 ≤ o ∧ o ≤ 3 ∧ 1 ≤ n ∧ n ≤ 3) := hon
  have hz2 : w.heap.size < w2.heap.size := World.block_lt_of_cell? w2 ⟨w.heap.size, 0, none⟩ R2.out.1
  have S3 : Hid (DR w (w2.alloc (.cells #[.int .i64 kd, .int .i64 o, .int .i64 n, .int .i64 0, .int .i64 0, .int .i64 0, .int .i64 0, .int .i64 0] 81)) w2.heap.size w.heap.size B a len cap (k + 3) ys ⟨kd, o, n, 0, 0, 0, 0, 0⟩) :=
    ⟨BlkAt.new w2 kd o n 0 0 0 0 0 _, R2.out.below ((Below.refl _ _).alloc (Nat.le_refl _) _), D2.out.alloc _, by simp, by simp; omega, ⟨by omega, by omega, by omega, by omega, by omega, hB⟩, HCode.out⟩
  clear hon hS2 hG2 D1 R1 D2 R2
  go_upto_block 0 with fail
  generalize w2.alloc (.cells #[.int .i64 kd, .int .i64 o, .int .i64 n, .int .i64 0, .int .i64 0, .int .i64 0, .int .i64 0, .int .i64 0] 81) = w3 at S3 ⊢
  obtain ⟨q, hq⟩ : ∃ q, q = w2.heap.size := ⟨_, rfl⟩
  rw [← hq] at S3 ⊢
  clear hq
  go_cut [15] (fun s15 wx => ∃ (r : RuleI) (k' : Nat), ruleCode r = 0 ∧ k' ≤ k + 7 ∧ DR w wx q w.heap.size B a len cap k' ys r)
  case rest =>
    obtain ⟨r, k', hr, hk', hd⟩ := hcut
    have HD : Hid (DR w wc q w.heap.size B a len cap k' ys r) := hd
    have HR : Hid (ruleCode r = 0) := hr
    clear hd hr S3 HK
    obtain ⟨q0, q1, q2, q3, q4, q5, q6, q7, f0, f1, f2, f3, f4, f5, f6, f7⟩ := HD.out.blk
    obtain ⟨r0, r1, r2, r3, r4, r5, r6, r7, e0, e1, e2, e3, e4, e5, e6, e7⟩ := HD.out.res
    have hqlt := HD.out.hq
    have hRlt := HD.out.hR
    have hne := HD.out.ne.2.2.1
    go_wp2
    refine bodyPost_ret (v := .agg #[.int .i64 r.k, .int .i64 r.ho, .int .i64 r.hn, .int .i64 r.w, .int .i64 r.oo, .int .i64 r.on, .int .i64 r.to, .int .i64 r.tn]) (by simp [results, Tryz.results141, go_sem, r0, r1, r2, r3, r4, r5, r6, r7, hRlt]) rfl ⟨r, k', HR.out, hk', rfl, ?_⟩
    have DD := ((((((((HD.out.ds.set (Nat.le_refl _) hB HCode.out 0 (.int .i64 r.k)).set (Nat.le_refl _) hB HCode.out 1 (.int .i64 r.ho)).set (Nat.le_refl _) hB HCode.out 2 (.int .i64 r.hn)).set (Nat.le_refl _) hB HCode.out 3 (.int .i64 r.w)).set (Nat.le_refl _) hB HCode.out 4 (.int .i64 r.oo)).set (Nat.le_refl _) hB HCode.out 5 (.int .i64 r.on)).set (Nat.le_refl _) hB HCode.out 6 (.int .i64 r.to)).set (Nat.le_refl _) hB HCode.out 7 (.int .i64 r.tn))
    exact ⟨DD.src, DD.gr⟩
  case first =>
    rcases HK.out with e1 | e2 | e3 | e4
    · have b1 : (kd == 1) = true := by simp [e1]
      have HE : Hid (kd = 1) := e1
      clear e1 HK
      obtain ⟨q0, q1, q2, q3, q4, q5, q6, q7, f0, f1, f2, f3, f4, f5, f6, f7⟩ := S3.out.blk
      have hqlt := S3.out.hq
      go_wp2_with fail
      refine (next_c _ B a len cap (k + 3) ys 5 S3.out.ds.src hl (by omega) (by omega) (by omega)).mono ?_
      rintro e w4 ⟨v, v0, v1, rfl, hS4, hG4⟩
      have S4 : Hid (DR w w4 q w.heap.size B a len cap (k + 4) ys ⟨kd, o, n, 0, 0, 0, 0, 0⟩) := S3.out.draw hS4 hG4
      clear hS4 hG4 S3
      clear q0 q1 q2 q3 q4 q5 q6 q7 f0 f1 f2 f3 f4 f5 f6 f7 hqlt
      obtain ⟨q0, q1, q2, q3, q4, q5, q6, q7, f0, f1, f2, f3, f4, f5, f6, f7⟩ := S4.out.blk
      have hqlt := S4.out.hq
      go_wp2_with fail
      go_meet
      case rel => exact ⟨_, k + 4, by rw [HE.out]; exact mk_1 o n (1 + v) HON.out ⟨by omega, by omega⟩, by omega, S4.out.set3 (1 + v)⟩
    · have b1 : (kd == 1) = false := by simp [e2]
      have b3 : (kd == 3) = false := by simp [e2]
      have b4 : (kd == 4) = false := by simp [e2]
      have HE : Hid (kd = 2) := e2
      clear e2 HK
      obtain ⟨q0, q1, q2, q3, q4, q5, q6, q7, f0, f1, f2, f3, f4, f5, f6, f7⟩ := S3.out.blk
      have hqlt := S3.out.hq
      go_wp2_with fail
      refine (drawRole_c _ B a len cap (k + 3) ys S3.out.ds.src hl (by omega)).mono ?_
      rintro e w4 ⟨p, m, hpm, rfl, hS4, hG4⟩
      have S4 : Hid (DR w w4 q w.heap.size B a len cap (k + 5) ys ⟨kd, o, n, 0, 0, 0, 0, 0⟩) := S3.out.draw hS4 hG4
      have HPM : Hid (1 ≤ p ∧ p ≤ 3 ∧ 1 ≤ m ∧ m ≤ 3) := hpm
      clear hS4 hG4 S3 hpm
      clear q0 q1 q2 q3 q4 q5 q6 q7 f0 f1 f2 f3 f4 f5 f6 f7 hqlt
      obtain ⟨q0, q1, q2, q3, q4, q5, q6, q7, f0, f1, f2, f3, f4, f5, f6, f7⟩ := S4.out.blk
      have hqlt := S4.out.hq
      go_wp2_with fail
      go_meet
      case rel => exact ⟨_, k + 5, by rw [HE.out]; exact mk_2 o n p m HON.out HPM.out, by omega, (S4.out.set4 p).set5 m⟩
    · have b1 : (kd == 1) = false := by simp [e3]
      have b3 : (kd == 3) = true := by simp [e3]
      have HE : Hid (kd = 3) := e3
      clear e3 HK
      obtain ⟨q0, q1, q2, q3, q4, q5, q6, q7, f0, f1, f2, f3, f4, f5, f6, f7⟩ := S3.out.blk
      have hqlt := S3.out.hq
      go_wp2_with fail
      refine (drawRole_c _ B a len cap (k + 3) ys S3.out.ds.src hl (by omega)).mono ?_
      rintro e w4 ⟨p, m, hpm, rfl, hS4, hG4⟩
      have S4 : Hid (DR w w4 q w.heap.size B a len cap (k + 5) ys ⟨kd, o, n, 0, 0, 0, 0, 0⟩) := S3.out.draw hS4 hG4
      have HPM : Hid (1 ≤ p ∧ p ≤ 3 ∧ 1 ≤ m ∧ m ≤ 3) := hpm
      clear hS4 hG4 S3 hpm
      clear q0 q1 q2 q3 q4 q5 q6 q7 f0 f1 f2 f3 f4 f5 f6 f7 hqlt
      obtain ⟨q0, q1, q2, q3, q4, q5, q6, q7, f0, f1, f2, f3, f4, f5, f6, f7⟩ := S4.out.blk
      have hqlt := S4.out.hq
      go_wp2_with fail
      have S5 : Hid (DR w ((w4.setCell ⟨q, 4, none⟩ (.int .i64 p)).setCell ⟨q, 5, none⟩ (.int .i64 m)) q w.heap.size B a len cap (k + 5) ys ⟨kd, o, n, 0, p, m, 0, 0⟩) := (S4.out.set4 p).set5 m
      refine (next_c _ B a len cap (k + 5) ys 3 S5.out.ds.src hl (by omega) (by omega) (by omega)).mono ?_
      rintro e w5 ⟨v, v0, v1, rfl, hS5, hG5⟩
      have S6 : Hid (DR w w5 q w.heap.size B a len cap (k + 6) ys ⟨kd, o, n, 0, p, m, 0, 0⟩) := S5.out.draw hS5 hG5
      clear hS5 hG5 S4 S5
      clear q0 q1 q2 q3 q4 q5 q6 q7 f0 f1 f2 f3 f4 f5 f6 f7 hqlt
      obtain ⟨q0, q1, q2, q3, q4, q5, q6, q7, f0, f1, f2, f3, f4, f5, f6, f7⟩ := S6.out.blk
      have hqlt := S6.out.hq
      go_wp2_with fail
      go_meet
      case rel => exact ⟨_, k + 6, by rw [HE.out]; exact mk_3 o n p m (1 + v) HON.out HPM.out ⟨by omega, by omega⟩, by omega, (S6.out.set6 0).set7 (1 + v)⟩
    · have b1 : (kd == 1) = false := by simp [e4]
      have b3 : (kd == 3) = false := by simp [e4]
      have b4 : (kd == 4) = true := by simp [e4]
      have HE : Hid (kd = 4) := e4
      clear e4 HK
      obtain ⟨q0, q1, q2, q3, q4, q5, q6, q7, f0, f1, f2, f3, f4, f5, f6, f7⟩ := S3.out.blk
      have hqlt := S3.out.hq
      go_wp2_with fail
      refine (drawRole_c _ B a len cap (k + 3) ys S3.out.ds.src hl (by omega)).mono ?_
      rintro e w4 ⟨p, m, hpm, rfl, hS4, hG4⟩
      have S4 : Hid (DR w w4 q w.heap.size B a len cap (k + 5) ys ⟨kd, o, n, 0, 0, 0, 0, 0⟩) := S3.out.draw hS4 hG4
      have HPM : Hid (1 ≤ p ∧ p ≤ 3 ∧ 1 ≤ m ∧ m ≤ 3) := hpm
      clear hS4 hG4 S3 hpm
      clear q0 q1 q2 q3 q4 q5 q6 q7 f0 f1 f2 f3 f4 f5 f6 f7 hqlt
      obtain ⟨q0, q1, q2, q3, q4, q5, q6, q7, f0, f1, f2, f3, f4, f5, f6, f7⟩ := S4.out.blk
      have hqlt := S4.out.hq
      go_wp2_with fail
      have S5 : Hid (DR w ((w4.setCell ⟨q, 4, none⟩ (.int .i64 p)).setCell ⟨q, 5, none⟩ (.int .i64 m)) q w.heap.size B a len cap (k + 5) ys ⟨kd, o, n, 0, p, m, 0, 0⟩) := (S4.out.set4 p).set5 m
      refine (drawRole_c _ B a len cap (k + 5) ys S5.out.ds.src hl (by omega)).mono ?_
      rintro e w5 ⟨s, t, hst, rfl, hS5, hG5⟩
      have S6 : Hid (DR w w5 q w.heap.size B a len cap (k + 7) ys ⟨kd, o, n, 0, p, m, 0, 0⟩) := S5.out.draw hS5 hG5
      have HST : Hid (1 ≤ s ∧ s ≤ 3 ∧ 1 ≤ t ∧ t ≤ 3) := hst
      clear hS5 hG5 S4 S5 hst
      clear q0 q1 q2 q3 q4 q5 q6 q7 f0 f1 f2 f3 f4 f5 f6 f7 hqlt
      obtain ⟨q0, q1, q2, q3, q4, q5, q6, q7, f0, f1, f2, f3, f4, f5, f6, f7⟩ := S6.out.blk
      have hqlt := S6.out.hq
      go_wp2_with fail
      go_meet
      case rel => exact ⟨_, k + 7, by rw [HE.out]; exact mk_4 o n p m s t HON.out HPM.out HST.out, by omega, (S6.out.set6 s).set7 t⟩

end Go.Proofs.YtnfolmjdicfobaaGreatDoor

namespace Go.Proofs.YtnfolmjdicfobaaGreatDoor
open Go.RowKit
set_option linter.unusedVariables false
set_option linter.unusedSimpArgs false

/-- A pick out of a list that lies in a new block, while a rule is drawn. -/
theorem pick_dr (w wx : World) (q R B : Nat) (a : Option Addr) (len cap k : Nat) (ys : List Int) (x : RuleI) (h : DR w wx q R B a len cap k ys x) (hl : len ≤ 1048576) (hk : k ≤ 900) (n : Nat) (xs : List Int) (hxs : xs.length = n) (hn : 1 ≤ n) (hn2 : n ≤ 100) (t : TypeId) :
    Calls Tryz.prog 31 #[.pointer (some ⟨B, 0, none⟩), .slice (some ⟨wx.heap.size, 0, none⟩) n n] (wx.alloc (.cells (xs.map (Value.int .i64)).toArray t)) fun e w' => ∃ v : Int, e = .returned (.int .i64 v) ∧ DR w w' q R B a len cap (k + 1) ys x := by
  have hA := h.alloc (.cells (xs.map (Value.int .i64)).toArray t)
  have hBl := h.ds.src.lt
  refine (pick_c _ B a len cap k ys hA.ds.src hl (by omega) wx.heap.size n n xs hxs hn hn2 (by omega) (fun j hj => ?_)).mono ?_
  · have hb := heap_alloc_new wx (.cells (xs.map (Value.int .i64)).toArray t)
    rw [cell_of_row _ _ j _ t (0, 0) hb]
    simp [List.getElem?_eq_getElem (show j < xs.length by omega)]
  · rintro e w' ⟨j, hj, rfl, hS, hG⟩
    exact ⟨_, rfl, hA.draw hS hG⟩

set_option maxRecDepth 20000 in
set_option maxHeartbeats 2000000 in
theorem bentRule_c (w : World) (B : Nat) (a : Option Addr) (len cap k : Nat) (ys : List Int) (h : SrcAt w B a len cap k ys) (hl : len ≤ 1048576) (hk : k ≤ 700) :
    Calls Tryz.prog 110 #[.pointer (some ⟨B, 0, none⟩)] w fun e w' => ∃ (r : RuleI) (k' : Nat), k' ≤ k + 10 ∧ e = .returned (.agg #[.int .i64 r.k, .int .i64 r.ho, .int .i64 r.hn, .int .i64 r.w, .int .i64 r.oo, .int .i64 r.on, .int .i64 r.to, .int .i64 r.tn]) ∧ SrcAt w' B a len cap k' ys ∧ w.grownBy w' (some B) := by
  have hB := h.lt
  have HCode : Hid (∀ b off, a = some ⟨b, off, none⟩ → len = 0 ∨ b < w.heap.size) := h.code_lt
  have D0 : Hid (DS w (w.alloc (.cells #[.int .i64 0, .int .i64 0, .int .i64 0, .int .i64 0, .int .i64 0, .int .i64 0, .int .i64 0, .int .i64 0] 81)) B a len cap k ys) := (DS.start h).alloc _
  have R0 : Hid (BlkAt (w.alloc (.cells #[.int .i64 0, .int .i64 0, .int .i64 0, .int .i64 0, .int .i64 0, .int .i64 0, .int .i64 0, .int .i64 0] 81)) w.heap.size 0 0 0 0 0 0 0 0) := BlkAt.new w 0 0 0 0 0 0 0 0 _
  clear h
  go_enter Tryz.func110, Tryz.ntmps110
  go_wp2_with fail
  refine (drawRule_c _ B a len cap k ys D0.out.src hl (by omega)).mono ?_
  rintro e w2 ⟨x, k2, _, hk2, rfl, hS2, hG2⟩
  have D2 : Hid (DS w w2 B a len cap k2 ys) := D0.out.draw hS2 hG2
  have R2 : Hid (BlkAt w2 w.heap.size 0 0 0 0 0 0 0 0) := R0.out.grown hG2 (by omega)
  have hz2 : w.heap.size < w2.heap.size := World.block_lt_of_cell? w2 ⟨w.heap.size, 0, none⟩ R2.out.1
  have S3 : Hid (DR w (w2.alloc (.cells #[.int .i64 x.k, .int .i64 x.ho, .int .i64 x.hn, .int .i64 x.w, .int .i64 x.oo, .int .i64 x.on, .int .i64 x.to, .int .i64 x.tn] 81)) w2.heap.size w.heap.size B a len cap k2 ys x) :=
    ⟨BlkAt.new w2 x.k x.ho x.hn x.w x.oo x.on x.to x.tn _, R2.out.below ((Below.refl _ _).alloc (Nat.le_refl _) _), D2.out.alloc _, by simp, by simp; omega, ⟨by omega, by omega, by omega, by omega, by omega, hB⟩, HCode.out⟩
  clear hS2 hG2 D0 R0 D2 R2
  go_wp2_with fail
  refine (next_c _ B a len cap k2 ys 12 S3.out.ds.src hl (by omega) (by omega) (by omega)).mono ?_
  rintro e w3 ⟨v, v0, v1, rfl, hS3, hG3⟩
  have S4 : Hid (DR w w3 w2.heap.size w.heap.size B a len cap (k2 + 1) ys x) := S3.out.draw hS3 hG3
  clear hS3 hG3 S3
  obtain ⟨q, hq⟩ : ∃ q, q = w2.heap.size := ⟨_, rfl⟩
  rw [← hq] at S4 ⊢
  clear hq
  go_upto_block 0 with fail
  go_cut [8] (fun s8 wx => ∃ (r : RuleI) (k' : Nat), k' ≤ k + 10 ∧ DR w wx q w.heap.size B a len cap k' ys r)
  case rest =>
    obtain ⟨r, k', hk', hd⟩ := hcut
    have HD : Hid (DR w wc q w.heap.size B a len cap k' ys r) := hd
    clear hd S4
    obtain ⟨q0, q1, q2, q3, q4, q5, q6, q7, f0, f1, f2, f3, f4, f5, f6, f7⟩ := HD.out.blk
    obtain ⟨r0, r1, r2, r3, r4, r5, r6, r7, e0, e1, e2, e3, e4, e5, e6, e7⟩ := HD.out.res
    have hqlt := HD.out.hq
    have hRlt := HD.out.hR
    have hne := HD.out.ne.2.2.1
    go_wp2
    refine bodyPost_ret (v := .agg #[.int .i64 r.k, .int .i64 r.ho, .int .i64 r.hn, .int .i64 r.w, .int .i64 r.oo, .int .i64 r.on, .int .i64 r.to, .int .i64 r.tn]) (by simp [results, Tryz.results110, go_sem, r0, r1, r2, r3, r4, r5, r6, r7, hRlt]) rfl ⟨r, k', hk', rfl, ?_⟩
    have DD := ((((((((HD.out.ds.set (Nat.le_refl _) hB HCode.out 0 (.int .i64 r.k)).set (Nat.le_refl _) hB HCode.out 1 (.int .i64 r.ho)).set (Nat.le_refl _) hB HCode.out 2 (.int .i64 r.hn)).set (Nat.le_refl _) hB HCode.out 3 (.int .i64 r.w)).set (Nat.le_refl _) hB HCode.out 4 (.int .i64 r.oo)).set (Nat.le_refl _) hB HCode.out 5 (.int .i64 r.on)).set (Nat.le_refl _) hB HCode.out 6 (.int .i64 r.to)).set (Nat.le_refl _) hB HCode.out 7 (.int .i64 r.tn))
    exact ⟨DD.src, DD.gr⟩
  case first =>
    have hv : v = 0 ∨ v = 1 ∨ v = 2 ∨ v = 3 ∨ v = 4 ∨ 4 < v := by omega
    rcases hv with e0 | e1 | e2 | e3 | e4 | e5
    · have b0 : (v == 0) = true := by simp; omega
      clear e0
      obtain ⟨q0, q1, q2, q3, q4, q5, q6, q7, f0, f1, f2, f3, f4, f5, f6, f7⟩ := S4.out.blk
      have hqlt := S4.out.hq
      go_wp2_with fail
      refine (pick_dr w w3 q w.heap.size B a len cap (k2 + 1) ys _ S4.out hl (by omega) 4 [0, 5, 1, 3] rfl (by omega) (by omega) _).mono ?_
      rintro e w4 ⟨m, rfl, hdw4⟩
      have S5 : Hid (DR w w4 q w.heap.size B a len cap (k2 + 2) ys x) := hdw4
      clear hdw4 S4
      clear q0 q1 q2 q3 q4 q5 q6 q7 f0 f1 f2 f3 f4 f5 f6 f7 hqlt
      obtain ⟨q0, q1, q2, q3, q4, q5, q6, q7, f0, f1, f2, f3, f4, f5, f6, f7⟩ := S5.out.blk
      have hqlt := S5.out.hq
      go_wp2_with fail
      go_meet
      case rel => exact ⟨_, k2 + 2, by omega, S5.out.set0 m⟩
    · have b0 : (v == 0) = false := by simp; omega
      have b1 : (v == 1) = true := by simp; omega
      clear e1
      obtain ⟨q0, q1, q2, q3, q4, q5, q6, q7, f0, f1, f2, f3, f4, f5, f6, f7⟩ := S4.out.blk
      have hqlt := S4.out.hq
      go_wp2_with fail
      refine (pick_dr w w3 q w.heap.size B a len cap (k2 + 1) ys _ S4.out hl (by omega) 3 [0, 9, 3] rfl (by omega) (by omega) _).mono ?_
      rintro e w4 ⟨m, rfl, hdw4⟩
      have S5 : Hid (DR w w4 q w.heap.size B a len cap (k2 + 2) ys x) := hdw4
      clear hdw4 S4
      clear q0 q1 q2 q3 q4 q5 q6 q7 f0 f1 f2 f3 f4 f5 f6 f7 hqlt
      obtain ⟨q0, q1, q2, q3, q4, q5, q6, q7, f0, f1, f2, f3, f4, f5, f6, f7⟩ := S5.out.blk
      have hqlt := S5.out.hq
      go_wp2_with fail
      go_meet
      case rel => exact ⟨_, k2 + 2, by omega, S5.out.set3 m⟩
    · have b0 : (v == 0) = false := by simp; omega
      have b1 : (v == 1) = false := by simp; omega
      have b2 : (v == 2) = true := by simp; omega
      clear e2
      obtain ⟨q0, q1, q2, q3, q4, q5, q6, q7, f0, f1, f2, f3, f4, f5, f6, f7⟩ := S4.out.blk
      have hqlt := S4.out.hq
      go_wp2_with fail
      refine (pick_dr w w3 q w.heap.size B a len cap (k2 + 1) ys _ S4.out hl (by omega) 3 [0, 9, 8] rfl (by omega) (by omega) _).mono ?_
      rintro e w4 ⟨m, rfl, hdw4⟩
      have S5 : Hid (DR w w4 q w.heap.size B a len cap (k2 + 2) ys x) := hdw4
      clear hdw4 S4
      clear q0 q1 q2 q3 q4 q5 q6 q7 f0 f1 f2 f3 f4 f5 f6 f7 hqlt
      obtain ⟨q0, q1, q2, q3, q4, q5, q6, q7, f0, f1, f2, f3, f4, f5, f6, f7⟩ := S5.out.blk
      have hqlt := S5.out.hq
      go_wp2_with fail
      refine (pick_dr w w4 q w.heap.size B a len cap (k2 + 2) ys _ S5.out hl (by omega) 3 [1, 6, 0] rfl (by omega) (by omega) _).mono ?_
      rintro e w5 ⟨m2, rfl, hdw5⟩
      have S6 : Hid (DR w w5 q w.heap.size B a len cap (k2 + 3) ys x) := hdw5
      clear hdw5 S5
      clear q0 q1 q2 q3 q4 q5 q6 q7 f0 f1 f2 f3 f4 f5 f6 f7 hqlt
      obtain ⟨q0, q1, q2, q3, q4, q5, q6, q7, f0, f1, f2, f3, f4, f5, f6, f7⟩ := S6.out.blk
      have hqlt := S6.out.hq
      go_wp2_with fail
      go_meet
      case rel => exact ⟨_, k2 + 3, by omega, (S6.out.set1 m).set2 m2⟩
    · have b0 : (v == 0) = false := by simp; omega
      have b1 : (v == 1) = false := by simp; omega
      have b2 : (v == 2) = false := by simp; omega
      have b3 : (v == 3) = true := by simp; omega
      clear e3
      obtain ⟨q0, q1, q2, q3, q4, q5, q6, q7, f0, f1, f2, f3, f4, f5, f6, f7⟩ := S4.out.blk
      have hqlt := S4.out.hq
      go_wp2_with fail
      refine (pick_dr w w3 q w.heap.size B a len cap (k2 + 1) ys _ S4.out hl (by omega) 2 [0, 3] rfl (by omega) (by omega) _).mono ?_
      rintro e w4 ⟨m, rfl, hdw4⟩
      have S5 : Hid (DR w w4 q w.heap.size B a len cap (k2 + 2) ys x) := hdw4
      clear hdw4 S4
      clear q0 q1 q2 q3 q4 q5 q6 q7 f0 f1 f2 f3 f4 f5 f6 f7 hqlt
      obtain ⟨q0, q1, q2, q3, q4, q5, q6, q7, f0, f1, f2, f3, f4, f5, f6, f7⟩ := S5.out.blk
      have hqlt := S5.out.hq
      go_wp2_with fail
      refine (pick_dr w w4 q w.heap.size B a len cap (k2 + 2) ys _ S5.out hl (by omega) 3 [0, 6, 5] rfl (by omega) (by omega) _).mono ?_
      rintro e w5 ⟨m2, rfl, hdw5⟩
      have S6 : Hid (DR w w5 q w.heap.size B a len cap (k2 + 3) ys x) := hdw5
      clear hdw5 S5
      clear q0 q1 q2 q3 q4 q5 q6 q7 f0 f1 f2 f3 f4 f5 f6 f7 hqlt
      obtain ⟨q0, q1, q2, q3, q4, q5, q6, q7, f0, f1, f2, f3, f4, f5, f6, f7⟩ := S6.out.blk
      have hqlt := S6.out.hq
      go_wp2_with fail
      go_meet
      case rel => exact ⟨_, k2 + 3, by omega, (S6.out.set6 m).set7 m2⟩
    · have b0 : (v == 0) = false := by simp; omega
      have b1 : (v == 1) = false := by simp; omega
      have b2 : (v == 2) = false := by simp; omega
      have b3 : (v == 3) = false := by simp; omega
      have b4 : (v == 4) = true := by simp; omega
      clear e4
      obtain ⟨q0, q1, q2, q3, q4, q5, q6, q7, f0, f1, f2, f3, f4, f5, f6, f7⟩ := S4.out.blk
      have hqlt := S4.out.hq
      go_wp2_with fail
      refine (pick_dr w w3 q w.heap.size B a len cap (k2 + 1) ys _ S4.out hl (by omega) 2 [0, 6] rfl (by omega) (by omega) _).mono ?_
      rintro e w4 ⟨m, rfl, hdw4⟩
      have S5 : Hid (DR w w4 q w.heap.size B a len cap (k2 + 2) ys x) := hdw4
      clear hdw4 S4
      clear q0 q1 q2 q3 q4 q5 q6 q7 f0 f1 f2 f3 f4 f5 f6 f7 hqlt
      obtain ⟨q0, q1, q2, q3, q4, q5, q6, q7, f0, f1, f2, f3, f4, f5, f6, f7⟩ := S5.out.blk
      have hqlt := S5.out.hq
      go_wp2_with fail
      go_meet
      case rel => exact ⟨_, k2 + 2, by omega, S5.out.set5 m⟩
    · have b0 : (v == 0) = false := by simp; omega
      have b1 : (v == 1) = false := by simp; omega
      have b2 : (v == 2) = false := by simp; omega
      have b3 : (v == 3) = false := by simp; omega
      have b4 : (v == 4) = false := by simp; omega
      clear e5
      go_wp2_with fail
      go_meet
      case rel => exact ⟨_, k2 + 1, by omega, S4.out⟩

end Go.Proofs.YtnfolmjdicfobaaGreatDoor

namespace Go.Proofs.YtnfolmjdicfobaaGreatDoor
open Go.RowKit
set_option linter.unusedVariables false
set_option linter.unusedSimpArgs false

/-- What 'ok' is in the end, kind by kind. -/
theorem code_1 (r : RuleI) (h : r.k = 1) (hr : roleB r.ho r.hn = true) (hb : bareB r = true) : ruleCode r = if prinB r.w = true then 0 else 3 := by
  have : 1 ≤ r.k ∧ r.k ≤ 4 := by omega
  have e : hasB r = prinB r.w := by simp [hasB, h]
  simp [ruleCode, this, hr, hb, e]
  cases prinB r.w <;> rfl
theorem code_2 (r : RuleI) (h : r.k = 2) (hr : roleB r.ho r.hn = true) (hb : bareB r = true) : ruleCode r = if roleB r.oo r.on = true then 0 else 3 := by
  have : 1 ≤ r.k ∧ r.k ≤ 4 := by omega
  have e : hasB r = roleB r.oo r.on := by simp [hasB, h]
  simp [ruleCode, this, hr, hb, e]
  cases roleB r.oo r.on <;> rfl
theorem code_3 (r : RuleI) (h : r.k = 3) (hr : roleB r.ho r.hn = true) (hb : bareB r = true) : ruleCode r = if (roleB r.oo r.on && nameB r.tn) = true then 0 else 3 := by
  have : 1 ≤ r.k ∧ r.k ≤ 4 := by omega
  have e : hasB r = (roleB r.oo r.on && nameB r.tn) := by simp [hasB, h]
  simp only [ruleCode, this, hr, hb, e]
  cases roleB r.oo r.on <;> cases nameB r.tn <;> rfl
theorem code_4 (r : RuleI) (h : r.k = 4) (hr : roleB r.ho r.hn = true) (hb : bareB r = true) : ruleCode r = if (roleB r.oo r.on && roleB r.to r.tn) = true then 0 else 3 := by
  have : 1 ≤ r.k ∧ r.k ≤ 4 := by omega
  have e : hasB r = (roleB r.oo r.on && roleB r.to r.tn) := by simp [hasB, h]
  simp only [ruleCode, this, hr, hb, e]
  cases roleB r.oo r.on <;> cases roleB r.to r.tn <;> rfl

set_option maxHeartbeats 2000000 in
theorem l2Rule_c (g off : Nat) (r : RuleI) (w : World) (h : RuleAt w g off r) :
    Calls Tryz.prog 111 #[.pointer (some ⟨g, off, none⟩)] w fun e w' => e = .returned (.int .i64 (ruleCode r)) ∧ Below w.heap.size w w' := by
  have hB : Hid (∀ w' : World, Below w.heap.size w w' → 1 ≤ r.k ∧ r.k ≤ 4 → Calls Tryz.prog 143 #[.pointer (some ⟨g, off, none⟩)] w' fun e w'' => e = .returned (.bool (bareB r)) ∧ Below w'.heap.size w' w'') := fun w' hb hk => l2Bare_c g off r w' (h.below hb) hk
  have hX : Hid (RuleAt w g off r) := h
  clear h
  by_cases hk : 1 ≤ r.k ∧ r.k ≤ 4
  · have HK : Hid (1 ≤ r.k ∧ r.k ≤ 4) := hk
    cases hr : roleB r.ho r.hn
    · have E : Hid (ruleCode r = 3) := by show ruleCode r = 3; simp [ruleCode, hk, hr]
      clear hB
      obtain ⟨k, ho, hn, wh, oo, on, tw, tn⟩ := r
      have hb : Below w.heap.size w w := Below.refl _ _
      obtain ⟨h0, h1, h2, h3, h4, h5, h6, h7⟩ := hX.out.below hb
      simp only at h0 h1 h2 h3 h4 h5 h6 h7
      simp only at hk hr 
      go_enter Tryz.func111, Tryz.ntmps111
      go_wp2_with (first | (go_at_call 107; refine (l2Role_c _ _ _).mono ?_; rintro e w1 ⟨rfl, hb1⟩; replace hb := hb.trans (hb1.mono hb.size); clear h0 h1 h2 h3 h4 h5 h6 h7 hb1; obtain ⟨h0, h1, h2, h3, h4, h5, h6, h7⟩ := hX.out.below hb; simp only at h0 h1 h2 h3 h4 h5 h6 h7; (first | rw [hr])) | go_in)
      go_ret
      exact ⟨by rw [E.out]; rfl, hb⟩
    · cases hbr : bareB r
      · have E : Hid (ruleCode r = 1) := by show ruleCode r = 1; simp [ruleCode, hk, hr, hbr]
        rw [hbr] at hB
        clear hbr
        obtain ⟨k, ho, hn, wh, oo, on, tw, tn⟩ := r
        have hb : Below w.heap.size w w := Below.refl _ _
        obtain ⟨h0, h1, h2, h3, h4, h5, h6, h7⟩ := hX.out.below hb
        simp only at h0 h1 h2 h3 h4 h5 h6 h7
        simp only at hk hr 
        go_enter Tryz.func111, Tryz.ntmps111
        go_wp2_with (first | (go_at_call 107; refine (l2Role_c _ _ _).mono ?_; rintro e w1 ⟨rfl, hb1⟩; replace hb := hb.trans (hb1.mono hb.size); clear h0 h1 h2 h3 h4 h5 h6 h7 hb1; obtain ⟨h0, h1, h2, h3, h4, h5, h6, h7⟩ := hX.out.below hb; simp only at h0 h1 h2 h3 h4 h5 h6 h7; (first | rw [hr])) | (go_at_call 143; refine (hB.out _ hb HK.out).mono ?_; rintro e w1 ⟨rfl, hb1⟩; replace hb := hb.trans (hb1.mono hb.size); clear h0 h1 h2 h3 h4 h5 h6 h7 hb1; obtain ⟨h0, h1, h2, h3, h4, h5, h6, h7⟩ := hX.out.below hb; simp only at h0 h1 h2 h3 h4 h5 h6 h7) | go_in)
        go_ret
        exact ⟨by rw [E.out]; rfl, hb⟩
      · have hk' : r.k = 1 ∨ r.k = 2 ∨ r.k = 3 ∨ r.k = 4 := by omega
        rw [hbr] at hB
        rcases hk' with e | e | e | e
        · have E2 := code_1 r e hr hbr
          clear hbr
          cases hq : roleB r.oo r.on <;> cases hp : prinB r.w
          all_goals
            rw [hp] at E2
            have E : Hid (ruleCode r = _) := E2
            clear E2
            obtain ⟨k, ho, hn, wh, oo, on, tw, tn⟩ := r
            have hb : Below w.heap.size w w := Below.refl _ _
            obtain ⟨h0, h1, h2, h3, h4, h5, h6, h7⟩ := hX.out.below hb
            simp only at h0 h1 h2 h3 h4 h5 h6 h7
            simp only at hk hr hq hp e
            subst e
            go_enter Tryz.func111, Tryz.ntmps111
            go_wp2_with (first | (go_at_call 107; refine (l2Role_c _ _ _).mono ?_; rintro e w1 ⟨rfl, hb1⟩; replace hb := hb.trans (hb1.mono hb.size); clear h0 h1 h2 h3 h4 h5 h6 h7 hb1; obtain ⟨h0, h1, h2, h3, h4, h5, h6, h7⟩ := hX.out.below hb; simp only at h0 h1 h2 h3 h4 h5 h6 h7; (first | rw [hr] | rw [hq])) | (go_at_call 143; refine (hB.out _ hb HK.out).mono ?_; rintro e w1 ⟨rfl, hb1⟩; replace hb := hb.trans (hb1.mono hb.size); clear h0 h1 h2 h3 h4 h5 h6 h7 hb1; obtain ⟨h0, h1, h2, h3, h4, h5, h6, h7⟩ := hX.out.below hb; simp only at h0 h1 h2 h3 h4 h5 h6 h7) | (go_at_call 139; refine (l1Principal_c _ _).mono ?_; rintro e w1 ⟨rfl, rfl⟩; rw [hp]) | go_in)
            go_ret
            exact ⟨by rw [E.out]; rfl, hb⟩
        · have E2 := code_2 r e hr hbr
          clear hbr
          cases hq : roleB r.oo r.on
          all_goals
            rw [hq] at E2
            have E : Hid (ruleCode r = _) := E2
            clear E2
            obtain ⟨k, ho, hn, wh, oo, on, tw, tn⟩ := r
            have hb : Below w.heap.size w w := Below.refl _ _
            obtain ⟨h0, h1, h2, h3, h4, h5, h6, h7⟩ := hX.out.below hb
            simp only at h0 h1 h2 h3 h4 h5 h6 h7
            simp only at hk hr hq e
            subst e
            go_enter Tryz.func111, Tryz.ntmps111
            go_wp2_with (first | (go_at_call 107; refine (l2Role_c _ _ _).mono ?_; rintro e w1 ⟨rfl, hb1⟩; replace hb := hb.trans (hb1.mono hb.size); clear h0 h1 h2 h3 h4 h5 h6 h7 hb1; obtain ⟨h0, h1, h2, h3, h4, h5, h6, h7⟩ := hX.out.below hb; simp only at h0 h1 h2 h3 h4 h5 h6 h7; (first | rw [hr] | rw [hq])) | (go_at_call 143; refine (hB.out _ hb HK.out).mono ?_; rintro e w1 ⟨rfl, hb1⟩; replace hb := hb.trans (hb1.mono hb.size); clear h0 h1 h2 h3 h4 h5 h6 h7 hb1; obtain ⟨h0, h1, h2, h3, h4, h5, h6, h7⟩ := hX.out.below hb; simp only at h0 h1 h2 h3 h4 h5 h6 h7) | go_in)
            go_ret
            exact ⟨by rw [E.out]; rfl, hb⟩
        · have E2 := code_3 r e hr hbr
          clear hbr
          cases hq : roleB r.oo r.on <;> cases hp : nameB r.tn
          all_goals
            rw [hq, hp] at E2
            have E : Hid (ruleCode r = _) := E2
            clear E2
            obtain ⟨k, ho, hn, wh, oo, on, tw, tn⟩ := r
            have hb : Below w.heap.size w w := Below.refl _ _
            obtain ⟨h0, h1, h2, h3, h4, h5, h6, h7⟩ := hX.out.below hb
            simp only at h0 h1 h2 h3 h4 h5 h6 h7
            simp only at hk hr hq hp e
            subst e
            go_enter Tryz.func111, Tryz.ntmps111
            go_wp2_with (first | (go_at_call 107; refine (l2Role_c _ _ _).mono ?_; rintro e w1 ⟨rfl, hb1⟩; replace hb := hb.trans (hb1.mono hb.size); clear h0 h1 h2 h3 h4 h5 h6 h7 hb1; obtain ⟨h0, h1, h2, h3, h4, h5, h6, h7⟩ := hX.out.below hb; simp only at h0 h1 h2 h3 h4 h5 h6 h7; (first | rw [hr] | rw [hq])) | (go_at_call 143; refine (hB.out _ hb HK.out).mono ?_; rintro e w1 ⟨rfl, hb1⟩; replace hb := hb.trans (hb1.mono hb.size); clear h0 h1 h2 h3 h4 h5 h6 h7 hb1; obtain ⟨h0, h1, h2, h3, h4, h5, h6, h7⟩ := hX.out.below hb; simp only at h0 h1 h2 h3 h4 h5 h6 h7) | (go_at_call 140; refine (l2Name_c _ _).mono ?_; rintro e w1 ⟨rfl, rfl⟩; rw [hp]) | go_in)
            go_ret
            exact ⟨by rw [E.out]; rfl, hb⟩
        · have E2 := code_4 r e hr hbr
          clear hbr
          cases hq : roleB r.oo r.on <;> cases ht : roleB r.to r.tn
          all_goals
            rw [hq, ht] at E2
            have E : Hid (ruleCode r = _) := E2
            clear E2
            obtain ⟨k, ho, hn, wh, oo, on, tw, tn⟩ := r
            have hb : Below w.heap.size w w := Below.refl _ _
            obtain ⟨h0, h1, h2, h3, h4, h5, h6, h7⟩ := hX.out.below hb
            simp only at h0 h1 h2 h3 h4 h5 h6 h7
            simp only at hk hr hq ht e
            subst e
            go_enter Tryz.func111, Tryz.ntmps111
            go_wp2_with (first | (go_at_call 107; refine (l2Role_c _ _ _).mono ?_; rintro e w1 ⟨rfl, hb1⟩; replace hb := hb.trans (hb1.mono hb.size); clear h0 h1 h2 h3 h4 h5 h6 h7 hb1; obtain ⟨h0, h1, h2, h3, h4, h5, h6, h7⟩ := hX.out.below hb; simp only at h0 h1 h2 h3 h4 h5 h6 h7; (first | rw [hr] | rw [hq] | rw [ht])) | (go_at_call 143; refine (hB.out _ hb HK.out).mono ?_; rintro e w1 ⟨rfl, hb1⟩; replace hb := hb.trans (hb1.mono hb.size); clear h0 h1 h2 h3 h4 h5 h6 h7 hb1; obtain ⟨h0, h1, h2, h3, h4, h5, h6, h7⟩ := hX.out.below hb; simp only at h0 h1 h2 h3 h4 h5 h6 h7) | go_in)
            go_ret
            exact ⟨by rw [E.out]; rfl, hb⟩
  · have E : Hid (ruleCode r = 1) := by show ruleCode r = 1; simp [ruleCode, hk]
    clear hB
    obtain ⟨k, ho, hn, wh, oo, on, tw, tn⟩ := r
    obtain ⟨h0, h1, h2, h3, h4, h5, h6, h7⟩ := hX.out
    simp only at h0 h1 h2 h3 h4 h5 h6 h7 hk
    by_cases k1 : 1 ≤ k
    · have k4 : decide (k ≤ 4) = false := by simp; omega
      go_enter Tryz.func111, Tryz.ntmps111
      go_wp2
      go_ret
      exact ⟨by rw [E.out]; rfl, Below.refl _ _⟩
    · have k4 : decide (1 ≤ k) = false := by simp; omega
      go_enter Tryz.func111, Tryz.ntmps111
      go_wp2
      go_ret
      exact ⟨by rw [E.out]; rfl, Below.refl _ _⟩

end Go.Proofs.YtnfolmjdicfobaaGreatDoor

namespace Go.Proofs.YtnfolmjdicfobaaGreatDoor
open Go.RowKit
set_option linter.unusedVariables false
set_option linter.unusedSimpArgs false
attribute [local go_sem ↓] rule_eql

set_option maxHeartbeats 1000000 in
theorem l2Fault_many (a : Option Addr) (n cap : Nat) (w : World) (hn : n ≤ 1048576) (h16 : 16 < n) :
    Calls Tryz.prog 71 #[.slice a n cap] w fun e w' => e = .returned (.int .i64 2) ∧ Below w.heap.size w w' := by
  have h' : (16 : Int) < (n : Int) := by omega
  go_enter Tryz.func71, Tryz.ntmps71
  go_wp2
  go_ret
  exact ⟨rfl, Below.refl _ _⟩

set_option maxHeartbeats 2000000 in
theorem l2Fault_few (a : Option Addr) (n cap : Nat) (zs : List RuleI) (c : Int) (w : World) (h16 : n ≤ 16) (h : RulesIn w a n zs) (hc : polTo zs n = c) :
    Calls Tryz.prog 71 #[.slice a n cap] w fun e w' => e = .returned (.int .i64 c) ∧ Below w.heap.size w w' := by
  have H : Hid (RulesIn w a n zs) := h
  have hz : Hid (zs.length = n) := h.1
  have HC : Hid (polTo zs n = c) := hc
  clear h hc
  have h' : ¬ ((16 : Int) < (n : Int)) := by omega
  go_enter Tryz.func71, Tryz.ntmps71
  go_wp2
  go_loopw [3] (fun i wr => ∃ k : Nat, k ≤ n ∧ i = .int .i64 (k : Int) ∧ polTo zs k = 0 ∧ Below w.heap.size w wr) (fun i _ => n - (intOf i).toNat)
  case atStart => exact ⟨0, Nat.zero_le _, rfl, rfl, Below.refl _ _⟩
  case round =>
    obtain ⟨k, hk, rfl, hp, hnx⟩ := hrel
    have HP : Hid (polTo zs k = 0) := hp
    clear hp
    by_cases hlt : k < n
    · obtain ⟨b, off, r, rfl, hs, hr⟩ := H.out.at hlt
      have HS : Hid (zs[k]? = some r) := hs
      clear hs
      have hr1 : Hid (RuleAt wr b (off + k * 8) r) := hr.below hnx
      clear hr
      have hlt' : (k : Int) < (n : Int) := by omega
      go_wp2_with fail
      refine (l2Rule_c b (off + k * 8) r _ hr1.out).mono ?_
      rintro e w1 ⟨rfl, hb1⟩
      have hnx1 : Below w.heap.size w w1 := hnx.trans (hb1.mono hnx.size)
      have hr2 : Hid (RuleAt w1 b (off + k * 8) r) := hr1.out.below hb1
      clear hr1 hb1 hnx
      by_cases hcode : ruleCode r = 0
      · rw [hcode]
        have HO : Hid (ruleCode r = 0) := hcode
        clear hcode
        go_wp2
        go_loopw [5] (fun i2 wq => ∃ j : Nat, j ≤ k ∧ i2 = .int .i64 (j : Int) ∧ ¬ r ∈ zs.take j ∧ ∃ m, wq = w1.drewN m) (fun i2 _ => k - (intOf i2).toNat)
        case atStart => exact ⟨0, Nat.zero_le _, rfl, by simp, 0, rfl⟩
        case round =>
          obtain ⟨j, hj, rfl, hm, m, rfl⟩ := hrel
          have HM : Hid (¬ r ∈ zs.take j) := hm
          clear hm
          by_cases hjk : j < k
          · obtain ⟨s, hs2, hq⟩ := H.out.here (show j < n by omega)
            have HS2 : Hid (zs[j]? = some s) := hs2
            clear hs2
            obtain ⟨h0, h1, h2, h3, h4, h5, h6, h7⟩ := hr2.out
            obtain ⟨g0, g1, g2, g3, g4, g5, g6, g7⟩ := hq.below hnx1
            clear hq
            have hjk' : (j : Int) < (k : Int) := by omega
            cases hsame : sameB s r
            · have HF : Hid (sameB s r = false) := hsame
              have HN : Hid (¬ r ∈ zs.take (j + 1)) := by
                show ¬ r ∈ zs.take (j + 1)
                rw [mem_take_iff]
                rintro ⟨i, hi, his⟩
                by_cases e : i = j
                · subst e
                  rw [HS2.out] at his
                  simp [sameB] at hsame
                  exact hsame (Option.some.inj his)
                · exact HM.out ((mem_take_iff _ _ _).2 ⟨i, by omega, his⟩)
              clear hsame
              have hsame : sameB s r = false := HF.out
              go_wp2
              go_quiet (fail)
              go_wp2
              exact ⟨⟨j + 1, by omega, by go_num, HN.out, _, rfl⟩, by simp [intOf]; omega⟩
            · have HI : Hid (c = 6) := by
                show c = 6
                simp [sameB] at hsame
                subst hsame
                exact HC.out.symm.trans (polTo_stay zs (k + 1) n 6 (by decide) (polTo_same zs k s HS.out HP.out HO.out ((mem_take_iff _ _ _).2 ⟨j, hjk, HS2.out⟩)) (by omega))
              go_wp2
              go_quiet (fail)
              go_wp2
              go_ret
              exact ⟨by rw [HI.out]; rfl, by first | exact bdN hnx1 _ | exact bdN (bdN hnx1 _) _⟩
          · have hjn : j = k := by omega
            subst hjn
            have HN : Hid (polTo zs (j + 1) = 0) := polTo_good zs j r HS.out HP.out HO.out HM.out
            go_wp2
            exact ⟨⟨j + 1, by omega, by go_num, HN.out, by first | exact hnx1 | exact bdN hnx1 _⟩, by simp [intOf]; omega⟩
      · have E : Hid (c = ruleCode r) := (HC.out.symm.trans (polTo_stay zs (k + 1) n _ hcode (polTo_bad zs k r HS.out HP.out hcode) (by omega)))
        obtain ⟨d, hd⟩ : ∃ d, d = ruleCode r := ⟨_, rfl⟩
        rw [← hd] at hcode E ⊢
        clear hd
        have hne : (d != 0) = true := by simpa using hcode
        go_wp2
        go_ret
        exact ⟨by rw [E.out]; rfl, hnx1⟩
    · have hkn : k = n := by omega
      subst hkn
      have E : Hid (c = 0) := HC.out.symm.trans HP.out
      go_wp2
      go_ret
      exact ⟨by rw [E.out]; rfl, hnx⟩

theorem l2Fault_c (a : Option Addr) (n cap : Nat) (zs : List RuleI) (w : World) (hn : n ≤ 1048576) (h : RulesIn w a n zs) :
    Calls Tryz.prog 71 #[.slice a n cap] w fun e w' => e = .returned (.int .i64 (polCode zs)) ∧ Below w.heap.size w w' := by
  have hz := h.1
  by_cases h16 : 16 < n
  · have e : polCode zs = 2 := by simp [polCode, hz, h16]
    rw [e]
    exact l2Fault_many a n cap w hn h16
  · have e : polCode zs = polTo zs n := by simp [polCode, hz, h16]
    rw [e]
    exact l2Fault_few a n cap zs _ w (by omega) h rfl

end Go.Proofs.YtnfolmjdicfobaaGreatDoor
