/-
  CONTRACTS: LocksFault of both programs; how two locks lie (impl.compareLocks, spec.l5Ahead).
  Conditions: each contract bears its own.
-/
import Derived.Test.YtabbjcngilocnaaDoorCl0
import Derived.Test.YtabbjcngilocnaaDoorRol1
import Derived.Deep.RegionHeld3
namespace Go.Proofs.YtabbjcngilocnaaDoor
open Go.RowKit
set_option linter.unusedVariables false
set_option linter.unusedSimpArgs false

theorem LkAt.new (w : World) (x : LkI) (t : TypeId) : LkAt (w.alloc (.cells #[.int .i64 x.e, .int .i64 x.c, .int .i64 x.p, .int .i64 x.f] t)) w.heap.size 0 x := ⟨by simp, by simp, by simp, by simp⟩

set_option maxHeartbeats 400000 in
theorem cmp64_c (x y : Int) (w : World) : Calls Tryd.prog 62 #[.int .i64 x, .int .i64 y] w fun e w' => e = .returned (.int .i64 (cmpJ x y)) ∧ w = w' := by
  unfold cmpJ
  by_cases h1 : x < y
  · go_enter Tryd.func62, Tryd.ntmps62
    go_wp2
    go_ret
    exact ⟨by simp [h1], rfl⟩
  · by_cases h2 : y < x
    · go_enter Tryd.func62, Tryd.ntmps62
      go_wp2
      go_ret
      exact ⟨by simp [h1, h2], rfl⟩
    · go_enter Tryd.func62, Tryd.ntmps62
      go_wp2
      go_ret
      exact ⟨by simp [h1, h2], rfl⟩

set_option maxHeartbeats 400000 in
theorem or3_c (g : Nat) (c d f : Int) (w : World) (h0 : w.cell? ⟨g, 0, none⟩ = some (.int .i64 c)) (h1 : w.cell? ⟨g, 1, none⟩ = some (.int .i64 d)) (h2 : w.cell? ⟨g, 2, none⟩ = some (.int .i64 f)) :
    Calls Tryd.prog 61 #[.slice (some ⟨g, 0, none⟩) 3 3] w fun e w' => e = .returned (.int .i64 (orJ c (orJ d f))) ∧ w = w' := by
  go_enter Tryd.func61, Tryd.ntmps61
  go_wp2
  go_loop [8] (fun i => ∃ k : Nat, k ≤ 3 ∧ i = .int .i64 (k : Int) ∧ (1 ≤ k → c = 0) ∧ (2 ≤ k → d = 0) ∧ (3 ≤ k → f = 0)) (fun i => 3 - (intOf i).toNat)
  case atStart => exact ⟨0, by omega, rfl, fun h => by omega, fun h => by omega, fun h => by omega⟩
  case round =>
    obtain ⟨k, hk, rfl, hc, hd, hf⟩ := hrel
    have hk' : k = 0 ∨ k = 1 ∨ k = 2 ∨ k = 3 := by omega
    rcases hk' with rfl | rfl | rfl | rfl
    · clear hc hd hf
      by_cases e : c = 0
      · have b : (c != 0) = false := by simp [e]
        have HE : Hid (c = 0) := e
        clear e
        go_wp2
        exact ⟨⟨1, by omega, by go_num, fun _ => HE.out, fun h => by omega, fun h => by omega⟩, by simp [intOf]⟩
      · have b : (c != 0) = true := by simp [e]
        go_wp2
        go_ret
        exact ⟨by simp [orJ, e], rfl⟩
    · have HC : Hid (c = 0) := hc (by omega)
      clear hc hd hf
      by_cases e : d = 0
      · have b : (d != 0) = false := by simp [e]
        have HE : Hid (d = 0) := e
        clear e
        go_wp2
        exact ⟨⟨2, by omega, by go_num, fun _ => HC.out, fun _ => HE.out, fun h => by omega⟩, by simp [intOf]⟩
      · have b : (d != 0) = true := by simp [e]
        go_wp2
        go_ret
        exact ⟨by simp [orJ, HC.out, e], rfl⟩
    · have HC : Hid (c = 0) := hc (by omega)
      have HD : Hid (d = 0) := hd (by omega)
      clear hc hd hf
      by_cases e : f = 0
      · have b : (f != 0) = false := by simp [e]
        have HE : Hid (f = 0) := e
        clear e
        go_wp2
        exact ⟨⟨3, by omega, by go_num, fun _ => HC.out, fun _ => HD.out, fun _ => HE.out⟩, by simp [intOf]⟩
      · have b : (f != 0) = true := by simp [e]
        go_wp2
        go_ret
        exact ⟨by simp [orJ, HC.out, HD.out], rfl⟩
    · have HC : Hid (c = 0) := hc (by omega)
      have HD : Hid (d = 0) := hd (by omega)
      have HF : Hid (f = 0) := hf (by omega)
      clear hc hd hf
      go_wp2
      go_ret
      exact ⟨by simp [orJ, HC.out, HD.out, HF.out], rfl⟩

/-- Three cells of each of two locks stand. -/
def Six (w : World) (b : Nat) (x y : LkI) : Prop := (w.cell? ⟨b, 0, none⟩ = some (.int .i64 x.e) ∧ w.cell? ⟨b, 1, none⟩ = some (.int .i64 x.c) ∧ w.cell? ⟨b, 2, none⟩ = some (.int .i64 x.p)) ∧ (w.cell? ⟨b + 1, 0, none⟩ = some (.int .i64 y.e) ∧ w.cell? ⟨b + 1, 1, none⟩ = some (.int .i64 y.c) ∧ w.cell? ⟨b + 1, 2, none⟩ = some (.int .i64 y.p))

set_option maxRecDepth 100000 in
set_option maxHeartbeats 2000000 in
theorem compareLocks_c (x y : LkI) (W : World) : Calls Tryd.prog 35 #[.agg #[.int .i64 x.e, .int .i64 x.c, .int .i64 x.p, .int .i64 x.f], .agg #[.int .i64 y.e, .int .i64 y.c, .int .i64 y.p, .int .i64 y.f]] W fun e w' => e = .returned (.int .i64 (cfL x y)) ∧ Below W.heap.size W w' := by
  have HF : Hid (cfL x y = orJ (cmpJ x.e y.e) (orJ (cmpJ x.c y.c) (cmpJ x.p y.p))) := rfl
  go_enter Tryd.func35, Tryd.ntmps35
  go_wp2
  go_region_held3 (fun w' => ((w'.cell? ⟨W.heap.size, 0, none⟩ = some (.int .i64 x.e) ∧ w'.cell? ⟨W.heap.size, 1, none⟩ = some (.int .i64 x.c) ∧ w'.cell? ⟨W.heap.size, 2, none⟩ = some (.int .i64 x.p)) ∧ (w'.cell? ⟨W.heap.size + 1, 0, none⟩ = some (.int .i64 y.e) ∧ w'.cell? ⟨W.heap.size + 1, 1, none⟩ = some (.int .i64 y.c) ∧ w'.cell? ⟨W.heap.size + 1, 2, none⟩ = some (.int .i64 y.p)))) (first | assumption | (refine ⟨⟨?_, ?_, ?_⟩, ?_, ?_, ?_⟩ <;> simp [go_sem]))
    (first | (go_at_call 62; refine (cmp64_c _ _ _).mono ?_; rintro e w' ⟨rfl, rfl⟩) | (go_at_call 61; refine (or3_c _ (cmpJ x.e y.e) (cmpJ x.c y.c) (cmpJ x.p y.p) _ ?_ ?_ ?_).mono ?_; (· simp [go_sem]); (· simp [go_sem]); (· simp [go_sem]); rintro e w' ⟨rfl, rfl⟩))
  all_goals go_wp2
  all_goals go_ret
  all_goals exact ⟨by rw [HF.out]; rfl, by go_grown⟩

set_option maxHeartbeats 1000000 in
theorem l5Ahead_c (x y : LkI) (w : World) : Calls Tryd.prog 52 #[.agg #[.int .i64 x.e, .int .i64 x.c, .int .i64 x.p, .int .i64 x.f], .agg #[.int .i64 y.e, .int .i64 y.c, .int .i64 y.p, .int .i64 y.f]] w fun e w' => e = .returned (.bool (ltL x y)) ∧ Below w.heap.size w w' := by
  by_cases q1 : x.e = y.e
  · have b1 : (x.e != y.e) = false := by simp [q1]
    by_cases q2 : x.c = y.c
    · have b2 : (x.c != y.c) = false := by simp [q2]
      have HV : Hid (ltL x y = decide (x.p < y.p)) := by show ltL x y = _; simp [ltL, q1, q2]
      clear q1 q2
      go_enter Tryd.func52, Tryd.ntmps52
      go_wp2
      go_ret
      exact ⟨by rw [HV.out]; rfl, by go_grown⟩
    · have b2 : (x.c != y.c) = true := by simp [q2]
      have HV : Hid (ltL x y = decide (x.c < y.c)) := by show ltL x y = _; simp [ltL, q1, q2]
      clear q1 q2
      go_enter Tryd.func52, Tryd.ntmps52
      go_wp2
      go_ret
      exact ⟨by rw [HV.out]; rfl, by go_grown⟩
  · have b1 : (x.e != y.e) = true := by simp [q1]
    have HV : Hid (ltL x y = decide (x.e < y.e)) := by show ltL x y = _; simp [ltL, q1]
    clear q1
    go_enter Tryd.func52, Tryd.ntmps52
    go_wp2
    go_ret
    exact ⟨by rw [HV.out]; rfl, by go_grown⟩

set_option maxHeartbeats 1000000 in
theorem isLock_c (x : LkI) (w : World) : Calls Tryd.prog 36 #[.agg #[.int .i64 x.e, .int .i64 x.c, .int .i64 x.p, .int .i64 x.f]] w fun e w' => e = .returned (.bool (okL x)) ∧ Below w.heap.size w w' := by
  obtain ⟨t1, h1⟩ : ∃ t, inR x.e 1 9 = t := ⟨_, rfl⟩
  obtain ⟨t2, h2⟩ : ∃ t, inR x.c 0 3 = t := ⟨_, rfl⟩
  obtain ⟨t3, h3⟩ : ∃ t, inR x.p 1 8 = t := ⟨_, rfl⟩
  obtain ⟨t4, h4⟩ : ∃ t, inR x.f 1 4 = t := ⟨_, rfl⟩
  have HV : Hid (okL x = (t1 && t2 && t3 && t4)) := by show okL x = _; rw [okL, h1, h2, h3, h4]
  have H1 : Hid (inR x.e 1 9 = t1) := h1
  have H2 : Hid (inR x.c 0 3 = t2) := h2
  have H3 : Hid (inR x.p 1 8 = t3) := h3
  have H4 : Hid (inR x.f 1 4 = t4) := h4
  clear h1 h2 h3 h4
  cases t1
  · go_enter Tryd.func36, Tryd.ntmps36
    go_wp2_with (first | (go_at_call 29; refine (iEpoch_c _ _).mono ?_; rintro e w' ⟨rfl, rfl⟩; rw [H1.out]))
    go_ret
    exact ⟨by rw [HV.out]; rfl, by go_grown⟩
  · cases t2
    · go_enter Tryd.func36, Tryd.ntmps36
      go_wp2_with (first | (go_at_call 29; refine (iEpoch_c _ _).mono ?_; rintro e w' ⟨rfl, rfl⟩; rw [H1.out]) | (go_at_call 63; refine (iPlace_c _ _).mono ?_; rintro e w' ⟨rfl, rfl⟩; rw [H2.out]))
      go_ret
      exact ⟨by rw [HV.out]; rfl, by go_grown⟩
    · cases t3
      · go_enter Tryd.func36, Tryd.ntmps36
        go_wp2_with (first | (go_at_call 29; refine (iEpoch_c _ _).mono ?_; rintro e w' ⟨rfl, rfl⟩; rw [H1.out]) | (go_at_call 63; refine (iPlace_c _ _).mono ?_; rintro e w' ⟨rfl, rfl⟩; rw [H2.out]) | (go_at_call 64; refine (iPrin_c _ _).mono ?_; rintro e w' ⟨rfl, rfl⟩; rw [H3.out]))
        go_ret
        exact ⟨by rw [HV.out]; rfl, by go_grown⟩
      · cases t4
        all_goals
          go_enter Tryd.func36, Tryd.ntmps36
          go_wp2_with (first | (go_at_call 29; refine (iEpoch_c _ _).mono ?_; rintro e w' ⟨rfl, rfl⟩; rw [H1.out]) | (go_at_call 63; refine (iPlace_c _ _).mono ?_; rintro e w' ⟨rfl, rfl⟩; rw [H2.out]) | (go_at_call 64; refine (iPrin_c _ _).mono ?_; rintro e w' ⟨rfl, rfl⟩; rw [H3.out]) | (go_at_call 30; refine (iForm_c _ _).mono ?_; rintro e w' ⟨rfl, rfl⟩; rw [H4.out]))
          go_ret
          exact ⟨by rw [HV.out]; rfl, by go_grown⟩

end Go.Proofs.YtabbjcngilocnaaDoor
