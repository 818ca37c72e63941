/-
  CONTRACT of the draw of a rule: spec.l2DrawRule.
  Conditions: each contract bears its own.
-/
import Derived.Test.YtaeigimgobilaaaGreatDoorDraw3
namespace Go.Proofs.YtaeigimgobilaaaGreatDoor
open Go.RowKit
set_option linter.unusedVariables false
set_option linter.unusedSimpArgs false

theorem mk_1 (o n d : Int) (h : 1 ≤ o ∧ o ≤ 3 ∧ 1 ≤ n ∧ n ≤ 3) (hd : 1 ≤ d ∧ d ≤ 8) : ruleCode ⟨1, o, n, d, 0, 0, 0, 0⟩ = 0 := by
  have h1 : roleB o n = true := by simp [roleB, prinB, nameB]; omega
  have h2 : prinB d = true := by simp [prinB]; omega
  simp [ruleCode, bareB, hasB, h1, h2]
theorem mk_2 (o n p m : Int) (h : 1 ≤ o ∧ o ≤ 3 ∧ 1 ≤ n ∧ n ≤ 3) (h' : 1 ≤ p ∧ p ≤ 3 ∧ 1 ≤ m ∧ m ≤ 3) : ruleCode ⟨2, o, n, 0, p, m, 0, 0⟩ = 0 := by
  have h1 : roleB o n = true := by simp [roleB, prinB, nameB]; omega
  have h2 : roleB p m = true := by simp [roleB, prinB, nameB]; omega
  simp [ruleCode, bareB, hasB, h1, h2]
theorem mk_3 (o n p m d : Int) (h : 1 ≤ o ∧ o ≤ 3 ∧ 1 ≤ n ∧ n ≤ 3) (h' : 1 ≤ p ∧ p ≤ 3 ∧ 1 ≤ m ∧ m ≤ 3) (hd : 1 ≤ d ∧ d ≤ 5) : ruleCode ⟨3, o, n, 0, p, m, 0, d⟩ = 0 := by
  have h1 : roleB o n = true := by simp [roleB, prinB, nameB]; omega
  have h2 : roleB p m = true := by simp [roleB, prinB, nameB]; omega
  have h3 : nameB d = true := by simp [nameB]; omega
  simp [ruleCode, bareB, hasB, h1, h2, h3]
theorem mk_4 (o n p m s t : Int) (h : 1 ≤ o ∧ o ≤ 3 ∧ 1 ≤ n ∧ n ≤ 3) (h' : 1 ≤ p ∧ p ≤ 3 ∧ 1 ≤ m ∧ m ≤ 3) (h'' : 1 ≤ s ∧ s ≤ 3 ∧ 1 ≤ t ∧ t ≤ 3) : ruleCode ⟨4, o, n, 0, p, m, s, t⟩ = 0 := by
  have h1 : roleB o n = true := by simp [roleB, prinB, nameB]; omega
  have h2 : roleB p m = true := by simp [roleB, prinB, nameB]; omega
  have h3 : roleB s t = true := by simp [roleB, prinB, nameB]; omega
  simp [ruleCode, bareB, hasB, h1, h2, h3]

theorem six_at (k : Nat) (hk : k < 6) : ([1, 1, 1, 2, 3, 4] : List Int)[k]?.getD 0 = 1 ∨ ([1, 1, 1, 2, 3, 4] : List Int)[k]?.getD 0 = 2 ∨ ([1, 1, 1, 2, 3, 4] : List Int)[k]?.getD 0 = 3 ∨ ([1, 1, 1, 2, 3, 4] : List Int)[k]?.getD 0 = 4 := by
  match k, hk with
  | 0, _ => exact .inl rfl
  | 1, _ => exact .inl rfl
  | 2, _ => exact .inl rfl
  | 3, _ => exact .inr (.inl rfl)
  | 4, _ => exact .inr (.inr (.inl rfl))
  | 5, _ => exact .inr (.inr (.inr rfl))

set_option maxRecDepth 20000 in
set_option maxHeartbeats 2000000 in
theorem drawRule_c (w : World) (B : Nat) (a : Option Addr) (len cap k : Nat) (ys : List Int) (h : SrcAt w B a len cap k ys) (hl : len ≤ 1048576) (hk : k ≤ 800) :
    Calls Tryz.prog 100 #[.pointer (some ⟨B, 0, none⟩)] w fun e w' => ∃ (r : RuleI) (k' : Nat), ruleCode r = 0 ∧ k' ≤ k + 7 ∧ e = .returned (.agg #[.int .i64 r.k, .int .i64 r.ho, .int .i64 r.hn, .int .i64 r.w, .int .i64 r.oo, .int .i64 r.on, .int .i64 r.to, .int .i64 r.tn]) ∧ SrcAt w' B a len cap k' ys ∧ w.grownBy w' (some B) := by
  have hB := h.lt
  have hcode := h.code_lt
  have HCode : Hid (∀ b off, a = some ⟨b, off, none⟩ → len = 0 ∨ b < w.heap.size) := hcode
  clear hcode
  have D0 : Hid (DS w ((w.alloc (.cells #[.int .i64 0, .int .i64 0, .int .i64 0, .int .i64 0, .int .i64 0, .int .i64 0, .int .i64 0, .int .i64 0] 68)).alloc (.cells #[.int .i64 1, .int .i64 1, .int .i64 1, .int .i64 2, .int .i64 3, .int .i64 4] 2)) B a len cap k ys) := ((DS.start h).alloc _).alloc _
  have R0 : Hid (BlkAt ((w.alloc (.cells #[.int .i64 0, .int .i64 0, .int .i64 0, .int .i64 0, .int .i64 0, .int .i64 0, .int .i64 0, .int .i64 0] 68)).alloc (.cells #[.int .i64 1, .int .i64 1, .int .i64 1, .int .i64 2, .int .i64 3, .int .i64 4] 2)) w.heap.size 0 0 0 0 0 0 0 0) := (BlkAt.new w 0 0 0 0 0 0 0 0 _).below ((Below.refl _ _).alloc (Nat.le_refl _) _)
  clear h
  go_enter Tryz.func100, Tryz.ntmps100
  go_wp2_with fail
  refine (pick_c _ B a len cap k ys D0.out.src hl (by omega) (w.heap.size + 1) 6 6 [1, 1, 1, 2, 3, 4] rfl (by omega) (by omega) (by omega) (fun k hk => by
    match k, hk with
    | 0, _ => simp
    | 1, _ => simp
    | 2, _ => simp
    | 3, _ => simp
    | 4, _ => simp
    | 5, _ => simp)).mono ?_
  rintro e w1 ⟨i, hi, rfl, hS1, hG1⟩
  have D1 : Hid (DS w w1 B a len cap (k + 1) ys) := D0.out.draw hS1 hG1
  have R1 : Hid (BlkAt w1 w.heap.size 0 0 0 0 0 0 0 0) := R0.out.grown hG1 (by omega)
  obtain ⟨kd, hkd⟩ : ∃ kd : Int, kd = ([1, 1, 1, 2, 3, 4] : List Int)[i]?.getD 0 := ⟨_, rfl⟩
  have HK : Hid (kd = 1 ∨ kd = 2 ∨ kd = 3 ∨ kd = 4) := by rw [hkd]; exact six_at i hi
  rw [← hkd]
  clear hkd hS1 hG1 D0 R0 hi
  go_wp2_with fail
  refine (drawRole_c _ B a len cap (k + 1) ys D1.out.src hl (by omega)).mono ?_
  rintro e w2 ⟨o, n, hon, rfl, hS2, hG2⟩
  have D2 : Hid (DS w w2 B a len cap (k + 3) ys) := D1.out.draw hS2 hG2
  have R2 : Hid (BlkAt w2 w.heap.size 0 0 0 0 0 0 0 0) := R1.out.grown hG2 (by omega)
  have HON : Hid (1 ≤ o ∧ o ≤ 3 ∧ 1 ≤ n ∧ n ≤ 3) := hon
  have hz2 : w.heap.size < w2.heap.size := World.block_lt_of_cell? w2 ⟨w.heap.size, 0, none⟩ R2.out.1
  have S3 : Hid (DR w (w2.alloc (.cells #[.int .i64 kd, .int .i64 o, .int .i64 n, .int .i64 0, .int .i64 0, .int .i64 0, .int .i64 0, .int .i64 0] 68)) w2.heap.size w.heap.size B a len cap (k + 3) ys ⟨kd, o, n, 0, 0, 0, 0, 0⟩) :=
    ⟨BlkAt.new w2 kd o n 0 0 0 0 0 _, R2.out.below ((Below.refl _ _).alloc (Nat.le_refl _) _), D2.out.alloc _, by simp, by simp; omega, ⟨by omega, by omega, by omega, by omega, by omega, hB⟩, HCode.out⟩
  clear hon hS2 hG2 D1 R1 D2 R2
  go_upto_block 0 with fail
  generalize w2.alloc (.cells #[.int .i64 kd, .int .i64 o, .int .i64 n, .int .i64 0, .int .i64 0, .int .i64 0, .int .i64 0, .int .i64 0] 68) = w3 at S3 ⊢
  obtain ⟨q, hq⟩ : ∃ q, q = w2.heap.size := ⟨_, rfl⟩
  rw [← hq] at S3 ⊢
  clear hq
  go_cut [15] (fun s15 wx => ∃ (r : RuleI) (k' : Nat), ruleCode r = 0 ∧ k' ≤ k + 7 ∧ DR w wx q w.heap.size B a len cap k' ys r)
  case rest =>
    obtain ⟨r, k', hr, hk', hd⟩ := hcut
    have HD : Hid (DR w wc q w.heap.size B a len cap k' ys r) := hd
    have HR : Hid (ruleCode r = 0) := hr
    clear hd hr S3 HK
    obtain ⟨q0, q1, q2, q3, q4, q5, q6, q7, f0, f1, f2, f3, f4, f5, f6, f7⟩ := HD.out.blk
    obtain ⟨r0, r1, r2, r3, r4, r5, r6, r7, e0, e1, e2, e3, e4, e5, e6, e7⟩ := HD.out.res
    have hqlt := HD.out.hq
    have hRlt := HD.out.hR
    have hne := HD.out.ne.2.2.1
    go_wp2
    refine bodyPost_ret (v := .agg #[.int .i64 r.k, .int .i64 r.ho, .int .i64 r.hn, .int .i64 r.w, .int .i64 r.oo, .int .i64 r.on, .int .i64 r.to, .int .i64 r.tn]) (by simp [results, Tryz.results100, go_sem, r0, r1, r2, r3, r4, r5, r6, r7, hRlt]) rfl ⟨r, k', HR.out, hk', rfl, ?_⟩
    have DD := ((((((((HD.out.ds.set (Nat.le_refl _) hB HCode.out 0 (.int .i64 r.k)).set (Nat.le_refl _) hB HCode.out 1 (.int .i64 r.ho)).set (Nat.le_refl _) hB HCode.out 2 (.int .i64 r.hn)).set (Nat.le_refl _) hB HCode.out 3 (.int .i64 r.w)).set (Nat.le_refl _) hB HCode.out 4 (.int .i64 r.oo)).set (Nat.le_refl _) hB HCode.out 5 (.int .i64 r.on)).set (Nat.le_refl _) hB HCode.out 6 (.int .i64 r.to)).set (Nat.le_refl _) hB HCode.out 7 (.int .i64 r.tn))
    exact ⟨DD.src, DD.gr⟩
  case first =>
    rcases HK.out with e1 | e2 | e3 | e4
    · have b1 : (kd == 1) = true := by simp [e1]
      have HE : Hid (kd = 1) := e1
      clear e1 HK
      obtain ⟨q0, q1, q2, q3, q4, q5, q6, q7, f0, f1, f2, f3, f4, f5, f6, f7⟩ := S3.out.blk
      have hqlt := S3.out.hq
      go_wp2_with fail
      refine (next_c _ B a len cap (k + 3) ys 5 S3.out.ds.src hl (by omega) (by omega) (by omega)).mono ?_
      rintro e w4 ⟨v, v0, v1, rfl, hS4, hG4⟩
      have S4 : Hid (DR w w4 q w.heap.size B a len cap (k + 4) ys ⟨kd, o, n, 0, 0, 0, 0, 0⟩) := S3.out.draw hS4 hG4
      clear hS4 hG4 S3
      clear q0 q1 q2 q3 q4 q5 q6 q7 f0 f1 f2 f3 f4 f5 f6 f7 hqlt
      obtain ⟨q0, q1, q2, q3, q4, q5, q6, q7, f0, f1, f2, f3, f4, f5, f6, f7⟩ := S4.out.blk
      have hqlt := S4.out.hq
      go_wp2_with fail
      go_meet
      case rel => exact ⟨_, k + 4, by rw [HE.out]; exact mk_1 o n (1 + v) HON.out ⟨by omega, by omega⟩, by omega, S4.out.set3 (1 + v)⟩
    · have b1 : (kd == 1) = false := by simp [e2]
      have b3 : (kd == 3) = false := by simp [e2]
      have b4 : (kd == 4) = false := by simp [e2]
      have HE : Hid (kd = 2) := e2
      clear e2 HK
      obtain ⟨q0, q1, q2, q3, q4, q5, q6, q7, f0, f1, f2, f3, f4, f5, f6, f7⟩ := S3.out.blk
      have hqlt := S3.out.hq
      go_wp2_with fail
      refine (drawRole_c _ B a len cap (k + 3) ys S3.out.ds.src hl (by omega)).mono ?_
      rintro e w4 ⟨p, m, hpm, rfl, hS4, hG4⟩
      have S4 : Hid (DR w w4 q w.heap.size B a len cap (k + 5) ys ⟨kd, o, n, 0, 0, 0, 0, 0⟩) := S3.out.draw hS4 hG4
      have HPM : Hid (1 ≤ p ∧ p ≤ 3 ∧ 1 ≤ m ∧ m ≤ 3) := hpm
      clear hS4 hG4 S3 hpm
      clear q0 q1 q2 q3 q4 q5 q6 q7 f0 f1 f2 f3 f4 f5 f6 f7 hqlt
      obtain ⟨q0, q1, q2, q3, q4, q5, q6, q7, f0, f1, f2, f3, f4, f5, f6, f7⟩ := S4.out.blk
      have hqlt := S4.out.hq
      go_wp2_with fail
      go_meet
      case rel => exact ⟨_, k + 5, by rw [HE.out]; exact mk_2 o n p m HON.out HPM.out, by omega, (S4.out.set4 p).set5 m⟩
    · have b1 : (kd == 1) = false := by simp [e3]
      have b3 : (kd == 3) = true := by simp [e3]
      have HE : Hid (kd = 3) := e3
      clear e3 HK
      obtain ⟨q0, q1, q2, q3, q4, q5, q6, q7, f0, f1, f2, f3, f4, f5, f6, f7⟩ := S3.out.blk
      have hqlt := S3.out.hq
      go_wp2_with fail
      refine (drawRole_c _ B a len cap (k + 3) ys S3.out.ds.src hl (by omega)).mono ?_
      rintro e w4 ⟨p, m, hpm, rfl, hS4, hG4⟩
      have S4 : Hid (DR w w4 q w.heap.size B a len cap (k + 5) ys ⟨kd, o, n, 0, 0, 0, 0, 0⟩) := S3.out.draw hS4 hG4
      have HPM : Hid (1 ≤ p ∧ p ≤ 3 ∧ 1 ≤ m ∧ m ≤ 3) := hpm
      clear hS4 hG4 S3 hpm
      clear q0 q1 q2 q3 q4 q5 q6 q7 f0 f1 f2 f3 f4 f5 f6 f7 hqlt
      obtain ⟨q0, q1, q2, q3, q4, q5, q6, q7, f0, f1, f2, f3, f4, f5, f6, f7⟩ := S4.out.blk
      have hqlt := S4.out.hq
      go_wp2_with fail
      have S5 : Hid (DR w ((w4.setCell ⟨q, 4, none⟩ (.int .i64 p)).setCell ⟨q, 5, none⟩ (.int .i64 m)) q w.heap.size B a len cap (k + 5) ys ⟨kd, o, n, 0, p, m, 0, 0⟩) := (S4.out.set4 p).set5 m
      refine (next_c _ B a len cap (k + 5) ys 3 S5.out.ds.src hl (by omega) (by omega) (by omega)).mono ?_
      rintro e w5 ⟨v, v0, v1, rfl, hS5, hG5⟩
      have S6 : Hid (DR w w5 q w.heap.size B a len cap (k + 6) ys ⟨kd, o, n, 0, p, m, 0, 0⟩) := S5.out.draw hS5 hG5
      clear hS5 hG5 S4 S5
      clear q0 q1 q2 q3 q4 q5 q6 q7 f0 f1 f2 f3 f4 f5 f6 f7 hqlt
      obtain ⟨q0, q1, q2, q3, q4, q5, q6, q7, f0, f1, f2, f3, f4, f5, f6, f7⟩ := S6.out.blk
      have hqlt := S6.out.hq
      go_wp2_with fail
      go_meet
      case rel => exact ⟨_, k + 6, by rw [HE.out]; exact mk_3 o n p m (1 + v) HON.out HPM.out ⟨by omega, by omega⟩, by omega, (S6.out.set6 0).set7 (1 + v)⟩
    · have b1 : (kd == 1) = false := by simp [e4]
      have b3 : (kd == 3) = false := by simp [e4]
      have b4 : (kd == 4) = true := by simp [e4]
      have HE : Hid (kd = 4) := e4
      clear e4 HK
      obtain ⟨q0, q1, q2, q3, q4, q5, q6, q7, f0, f1, f2, f3, f4, f5, f6, f7⟩ := S3.out.blk
      have hqlt := S3.out.hq
      go_wp2_with fail
      refine (drawRole_c _ B a len cap (k + 3) ys S3.out.ds.src hl (by omega)).mono ?_
      rintro e w4 ⟨p, m, hpm, rfl, hS4, hG4⟩
      have S4 : Hid (DR w w4 q w.heap.size B a len cap (k + 5) ys ⟨kd, o, n, 0, 0, 0, 0, 0⟩) := S3.out.draw hS4 hG4
      have HPM : Hid (1 ≤ p ∧ p ≤ 3 ∧ 1 ≤ m ∧ m ≤ 3) := hpm
      clear hS4 hG4 S3 hpm
      clear q0 q1 q2 q3 q4 q5 q6 q7 f0 f1 f2 f3 f4 f5 f6 f7 hqlt
      obtain ⟨q0, q1, q2, q3, q4, q5, q6, q7, f0, f1, f2, f3, f4, f5, f6, f7⟩ := S4.out.blk
      have hqlt := S4.out.hq
      go_wp2_with fail
      have S5 : Hid (DR w ((w4.setCell ⟨q, 4, none⟩ (.int .i64 p)).setCell ⟨q, 5, none⟩ (.int .i64 m)) q w.heap.size B a len cap (k + 5) ys ⟨kd, o, n, 0, p, m, 0, 0⟩) := (S4.out.set4 p).set5 m
      refine (drawRole_c _ B a len cap (k + 5) ys S5.out.ds.src hl (by omega)).mono ?_
      rintro e w5 ⟨s, t, hst, rfl, hS5, hG5⟩
      have S6 : Hid (DR w w5 q w.heap.size B a len cap (k + 7) ys ⟨kd, o, n, 0, p, m, 0, 0⟩) := S5.out.draw hS5 hG5
      have HST : Hid (1 ≤ s ∧ s ≤ 3 ∧ 1 ≤ t ∧ t ≤ 3) := hst
      clear hS5 hG5 S4 S5 hst
      clear q0 q1 q2 q3 q4 q5 q6 q7 f0 f1 f2 f3 f4 f5 f6 f7 hqlt
      obtain ⟨q0, q1, q2, q3, q4, q5, q6, q7, f0, f1, f2, f3, f4, f5, f6, f7⟩ := S6.out.blk
      have hqlt := S6.out.hq
      go_wp2_with fail
      go_meet
      case rel => exact ⟨_, k + 7, by rw [HE.out]; exact mk_4 o n p m s t HON.out HPM.out HST.out, by omega, (S6.out.set6 s).set7 t⟩

end Go.Proofs.YtaeigimgobilaaaGreatDoor
