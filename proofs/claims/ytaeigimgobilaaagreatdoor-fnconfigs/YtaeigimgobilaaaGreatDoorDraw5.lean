/-
  CONTRACTS of the draws of bent rules: spec.l2BentRule, spec.DrawRuleText.
  Conditions: each contract bears its own.
-/
import Derived.Test.YtaeigimgobilaaaGreatDoorDraw4
namespace Go.Proofs.YtaeigimgobilaaaGreatDoor
open Go.RowKit
set_option linter.unusedVariables false
set_option linter.unusedSimpArgs false

/-- A pick out of a list that lies in a new block, while a rule is drawn. -/
theorem pick_dr (w wx : World) (q R B : Nat) (a : Option Addr) (len cap k : Nat) (ys : List Int) (x : RuleI) (h : DR w wx q R B a len cap k ys x) (hl : len ≤ 1048576) (hk : k ≤ 900) (n : Nat) (xs : List Int) (hxs : xs.length = n) (hn : 1 ≤ n) (hn2 : n ≤ 100) (t : TypeId) :
    Calls Tryz.prog 18 #[.pointer (some ⟨B, 0, none⟩), .slice (some ⟨wx.heap.size, 0, none⟩) n n] (wx.alloc (.cells (xs.map (Value.int .i64)).toArray t)) fun e w' => ∃ v : Int, e = .returned (.int .i64 v) ∧ DR w w' q R B a len cap (k + 1) ys x := by
  have hA := h.alloc (.cells (xs.map (Value.int .i64)).toArray t)
  have hBl := h.ds.src.lt
  refine (pick_c _ B a len cap k ys hA.ds.src hl (by omega) wx.heap.size n n xs hxs hn hn2 (by omega) (fun j hj => ?_)).mono ?_
  · have hb := heap_alloc_new wx (.cells (xs.map (Value.int .i64)).toArray t)
    rw [cell_of_row _ _ j _ t (0, 0) hb]
    simp [List.getElem?_eq_getElem (show j < xs.length by omega)]
  · rintro e w' ⟨j, hj, rfl, hS, hG⟩
    exact ⟨_, rfl, hA.draw hS hG⟩

set_option maxRecDepth 20000 in
set_option maxHeartbeats 2000000 in
theorem bentRule_c (w : World) (B : Nat) (a : Option Addr) (len cap k : Nat) (ys : List Int) (h : SrcAt w B a len cap k ys) (hl : len ≤ 1048576) (hk : k ≤ 700) :
    Calls Tryz.prog 73 #[.pointer (some ⟨B, 0, none⟩)] w fun e w' => ∃ (r : RuleI) (k' : Nat), k' ≤ k + 10 ∧ e = .returned (.agg #[.int .i64 r.k, .int .i64 r.ho, .int .i64 r.hn, .int .i64 r.w, .int .i64 r.oo, .int .i64 r.on, .int .i64 r.to, .int .i64 r.tn]) ∧ SrcAt w' B a len cap k' ys ∧ w.grownBy w' (some B) := by
  have hB := h.lt
  have HCode : Hid (∀ b off, a = some ⟨b, off, none⟩ → len = 0 ∨ b < w.heap.size) := h.code_lt
  have D0 : Hid (DS w (w.alloc (.cells #[.int .i64 0, .int .i64 0, .int .i64 0, .int .i64 0, .int .i64 0, .int .i64 0, .int .i64 0, .int .i64 0] 68)) B a len cap k ys) := (DS.start h).alloc _
  have R0 : Hid (BlkAt (w.alloc (.cells #[.int .i64 0, .int .i64 0, .int .i64 0, .int .i64 0, .int .i64 0, .int .i64 0, .int .i64 0, .int .i64 0] 68)) w.heap.size 0 0 0 0 0 0 0 0) := BlkAt.new w 0 0 0 0 0 0 0 0 _
  clear h
  go_enter Tryz.func73, Tryz.ntmps73
  go_wp2_with fail
  refine (drawRule_c _ B a len cap k ys D0.out.src hl (by omega)).mono ?_
  rintro e w2 ⟨x, k2, _, hk2, rfl, hS2, hG2⟩
  have D2 : Hid (DS w w2 B a len cap k2 ys) := D0.out.draw hS2 hG2
  have R2 : Hid (BlkAt w2 w.heap.size 0 0 0 0 0 0 0 0) := R0.out.grown hG2 (by omega)
  have hz2 : w.heap.size < w2.heap.size := World.block_lt_of_cell? w2 ⟨w.heap.size, 0, none⟩ R2.out.1
  have S3 : Hid (DR w (w2.alloc (.cells #[.int .i64 x.k, .int .i64 x.ho, .int .i64 x.hn, .int .i64 x.w, .int .i64 x.oo, .int .i64 x.on, .int .i64 x.to, .int .i64 x.tn] 68)) w2.heap.size w.heap.size B a len cap k2 ys x) :=
    ⟨BlkAt.new w2 x.k x.ho x.hn x.w x.oo x.on x.to x.tn _, R2.out.below ((Below.refl _ _).alloc (Nat.le_refl _) _), D2.out.alloc _, by simp, by simp; omega, ⟨by omega, by omega, by omega, by omega, by omega, hB⟩, HCode.out⟩
  clear hS2 hG2 D0 R0 D2 R2
  go_wp2_with fail
  refine (next_c _ B a len cap k2 ys 12 S3.out.ds.src hl (by omega) (by omega) (by omega)).mono ?_
  rintro e w3 ⟨v, v0, v1, rfl, hS3, hG3⟩
  have S4 : Hid (DR w w3 w2.heap.size w.heap.size B a len cap (k2 + 1) ys x) := S3.out.draw hS3 hG3
  clear hS3 hG3 S3
  obtain ⟨q, hq⟩ : ∃ q, q = w2.heap.size := ⟨_, rfl⟩
  rw [← hq] at S4 ⊢
  clear hq
  go_upto_block 0 with fail
  go_cut [8] (fun s8 wx => ∃ (r : RuleI) (k' : Nat), k' ≤ k + 10 ∧ DR w wx q w.heap.size B a len cap k' ys r)
  case rest =>
    obtain ⟨r, k', hk', hd⟩ := hcut
    have HD : Hid (DR w wc q w.heap.size B a len cap k' ys r) := hd
    clear hd S4
    obtain ⟨q0, q1, q2, q3, q4, q5, q6, q7, f0, f1, f2, f3, f4, f5, f6, f7⟩ := HD.out.blk
    obtain ⟨r0, r1, r2, r3, r4, r5, r6, r7, e0, e1, e2, e3, e4, e5, e6, e7⟩ := HD.out.res
    have hqlt := HD.out.hq
    have hRlt := HD.out.hR
    have hne := HD.out.ne.2.2.1
    go_wp2
    refine bodyPost_ret (v := .agg #[.int .i64 r.k, .int .i64 r.ho, .int .i64 r.hn, .int .i64 r.w, .int .i64 r.oo, .int .i64 r.on, .int .i64 r.to, .int .i64 r.tn]) (by simp [results, Tryz.results73, go_sem, r0, r1, r2, r3, r4, r5, r6, r7, hRlt]) rfl ⟨r, k', hk', rfl, ?_⟩
    have DD := ((((((((HD.out.ds.set (Nat.le_refl _) hB HCode.out 0 (.int .i64 r.k)).set (Nat.le_refl _) hB HCode.out 1 (.int .i64 r.ho)).set (Nat.le_refl _) hB HCode.out 2 (.int .i64 r.hn)).set (Nat.le_refl _) hB HCode.out 3 (.int .i64 r.w)).set (Nat.le_refl _) hB HCode.out 4 (.int .i64 r.oo)).set (Nat.le_refl _) hB HCode.out 5 (.int .i64 r.on)).set (Nat.le_refl _) hB HCode.out 6 (.int .i64 r.to)).set (Nat.le_refl _) hB HCode.out 7 (.int .i64 r.tn))
    exact ⟨DD.src, DD.gr⟩
  case first =>
    have hv : v = 0 ∨ v = 1 ∨ v = 2 ∨ v = 3 ∨ v = 4 ∨ 4 < v := by omega
    rcases hv with e0 | e1 | e2 | e3 | e4 | e5
    · have b0 : (v == 0) = true := by simp; omega
      clear e0
      obtain ⟨q0, q1, q2, q3, q4, q5, q6, q7, f0, f1, f2, f3, f4, f5, f6, f7⟩ := S4.out.blk
      have hqlt := S4.out.hq
      go_wp2_with fail
      refine (pick_dr w w3 q w.heap.size B a len cap (k2 + 1) ys _ S4.out hl (by omega) 4 [0, 5, 1, 3] rfl (by omega) (by omega) _).mono ?_
      rintro e w4 ⟨m, rfl, hdw4⟩
      have S5 : Hid (DR w w4 q w.heap.size B a len cap (k2 + 2) ys x) := hdw4
      clear hdw4 S4
      clear q0 q1 q2 q3 q4 q5 q6 q7 f0 f1 f2 f3 f4 f5 f6 f7 hqlt
      obtain ⟨q0, q1, q2, q3, q4, q5, q6, q7, f0, f1, f2, f3, f4, f5, f6, f7⟩ := S5.out.blk
      have hqlt := S5.out.hq
      go_wp2_with fail
      go_meet
      case rel => exact ⟨_, k2 + 2, by omega, S5.out.set0 m⟩
    · have b0 : (v == 0) = false := by simp; omega
      have b1 : (v == 1) = true := by simp; omega
      clear e1
      obtain ⟨q0, q1, q2, q3, q4, q5, q6, q7, f0, f1, f2, f3, f4, f5, f6, f7⟩ := S4.out.blk
      have hqlt := S4.out.hq
      go_wp2_with fail
      refine (pick_dr w w3 q w.heap.size B a len cap (k2 + 1) ys _ S4.out hl (by omega) 3 [0, 9, 3] rfl (by omega) (by omega) _).mono ?_
      rintro e w4 ⟨m, rfl, hdw4⟩
      have S5 : Hid (DR w w4 q w.heap.size B a len cap (k2 + 2) ys x) := hdw4
      clear hdw4 S4
      clear q0 q1 q2 q3 q4 q5 q6 q7 f0 f1 f2 f3 f4 f5 f6 f7 hqlt
      obtain ⟨q0, q1, q2, q3, q4, q5, q6, q7, f0, f1, f2, f3, f4, f5, f6, f7⟩ := S5.out.blk
      have hqlt := S5.out.hq
      go_wp2_with fail
      go_meet
      case rel => exact ⟨_, k2 + 2, by omega, S5.out.set3 m⟩
    · have b0 : (v == 0) = false := by simp; omega
      have b1 : (v == 1) = false := by simp; omega
      have b2 : (v == 2) = true := by simp; omega
      clear e2
      obtain ⟨q0, q1, q2, q3, q4, q5, q6, q7, f0, f1, f2, f3, f4, f5, f6, f7⟩ := S4.out.blk
      have hqlt := S4.out.hq
      go_wp2_with fail
      refine (pick_dr w w3 q w.heap.size B a len cap (k2 + 1) ys _ S4.out hl (by omega) 3 [0, 9, 8] rfl (by omega) (by omega) _).mono ?_
      rintro e w4 ⟨m, rfl, hdw4⟩
      have S5 : Hid (DR w w4 q w.heap.size B a len cap (k2 + 2) ys x) := hdw4
      clear hdw4 S4
      clear q0 q1 q2 q3 q4 q5 q6 q7 f0 f1 f2 f3 f4 f5 f6 f7 hqlt
      obtain ⟨q0, q1, q2, q3, q4, q5, q6, q7, f0, f1, f2, f3, f4, f5, f6, f7⟩ := S5.out.blk
      have hqlt := S5.out.hq
      go_wp2_with fail
      refine (pick_dr w w4 q w.heap.size B a len cap (k2 + 2) ys _ S5.out hl (by omega) 3 [1, 6, 0] rfl (by omega) (by omega) _).mono ?_
      rintro e w5 ⟨m2, rfl, hdw5⟩
      have S6 : Hid (DR w w5 q w.heap.size B a len cap (k2 + 3) ys x) := hdw5
      clear hdw5 S5
      clear q0 q1 q2 q3 q4 q5 q6 q7 f0 f1 f2 f3 f4 f5 f6 f7 hqlt
      obtain ⟨q0, q1, q2, q3, q4, q5, q6, q7, f0, f1, f2, f3, f4, f5, f6, f7⟩ := S6.out.blk
      have hqlt := S6.out.hq
      go_wp2_with fail
      go_meet
      case rel => exact ⟨_, k2 + 3, by omega, (S6.out.set1 m).set2 m2⟩
    · have b0 : (v == 0) = false := by simp; omega
      have b1 : (v == 1) = false := by simp; omega
      have b2 : (v == 2) = false := by simp; omega
      have b3 : (v == 3) = true := by simp; omega
      clear e3
      obtain ⟨q0, q1, q2, q3, q4, q5, q6, q7, f0, f1, f2, f3, f4, f5, f6, f7⟩ := S4.out.blk
      have hqlt := S4.out.hq
      go_wp2_with fail
      refine (pick_dr w w3 q w.heap.size B a len cap (k2 + 1) ys _ S4.out hl (by omega) 2 [0, 3] rfl (by omega) (by omega) _).mono ?_
      rintro e w4 ⟨m, rfl, hdw4⟩
      have S5 : Hid (DR w w4 q w.heap.size B a len cap (k2 + 2) ys x) := hdw4
      clear hdw4 S4
      clear q0 q1 q2 q3 q4 q5 q6 q7 f0 f1 f2 f3 f4 f5 f6 f7 hqlt
      obtain ⟨q0, q1, q2, q3, q4, q5, q6, q7, f0, f1, f2, f3, f4, f5, f6, f7⟩ := S5.out.blk
      have hqlt := S5.out.hq
      go_wp2_with fail
      refine (pick_dr w w4 q w.heap.size B a len cap (k2 + 2) ys _ S5.out hl (by omega) 3 [0, 6, 5] rfl (by omega) (by omega) _).mono ?_
      rintro e w5 ⟨m2, rfl, hdw5⟩
      have S6 : Hid (DR w w5 q w.heap.size B a len cap (k2 + 3) ys x) := hdw5
      clear hdw5 S5
      clear q0 q1 q2 q3 q4 q5 q6 q7 f0 f1 f2 f3 f4 f5 f6 f7 hqlt
      obtain ⟨q0, q1, q2, q3, q4, q5, q6, q7, f0, f1, f2, f3, f4, f5, f6, f7⟩ := S6.out.blk
      have hqlt := S6.out.hq
      go_wp2_with fail
      go_meet
      case rel => exact ⟨_, k2 + 3, by omega, (S6.out.set6 m).set7 m2⟩
    · have b0 : (v == 0) = false := by simp; omega
      have b1 : (v == 1) = false := by simp; omega
      have b2 : (v == 2) = false := by simp; omega
      have b3 : (v == 3) = false := by simp; omega
      have b4 : (v == 4) = true := by simp; omega
      clear e4
      obtain ⟨q0, q1, q2, q3, q4, q5, q6, q7, f0, f1, f2, f3, f4, f5, f6, f7⟩ := S4.out.blk
      have hqlt := S4.out.hq
      go_wp2_with fail
      refine (pick_dr w w3 q w.heap.size B a len cap (k2 + 1) ys _ S4.out hl (by omega) 2 [0, 6] rfl (by omega) (by omega) _).mono ?_
      rintro e w4 ⟨m, rfl, hdw4⟩
      have S5 : Hid (DR w w4 q w.heap.size B a len cap (k2 + 2) ys x) := hdw4
      clear hdw4 S4
      clear q0 q1 q2 q3 q4 q5 q6 q7 f0 f1 f2 f3 f4 f5 f6 f7 hqlt
      obtain ⟨q0, q1, q2, q3, q4, q5, q6, q7, f0, f1, f2, f3, f4, f5, f6, f7⟩ := S5.out.blk
      have hqlt := S5.out.hq
      go_wp2_with fail
      go_meet
      case rel => exact ⟨_, k2 + 2, by omega, S5.out.set5 m⟩
    · have b0 : (v == 0) = false := by simp; omega
      have b1 : (v == 1) = false := by simp; omega
      have b2 : (v == 2) = false := by simp; omega
      have b3 : (v == 3) = false := by simp; omega
      have b4 : (v == 4) = false := by simp; omega
      clear e5
      go_wp2_with fail
      go_meet
      case rel => exact ⟨_, k2 + 1, by omega, S4.out⟩

end Go.Proofs.YtaeigimgobilaaaGreatDoor
