/-
  CONTRACTS: spec.l4Text; PartText of both programs together.
  Conditions: each contract bears its own.
  CONTRACTS on rules in impl: bodyOf; the type switch.
  Conditions: each contract bears its own.
  CONTRACTS on rules in impl: bodyFault, kinds 1 to 3.
  Conditions: each contract bears its own.
  CONTRACTS on rules in impl: bodyFault, kind 4.
  Conditions: each contract bears its own.
-/
import Derived.Test.YtnfolmjdicfobaaGreatDoorPc06
import Derived.Test.YtnfolmjdicfobaaGreatDoorPc03
namespace Go.Proofs.YtnfolmjdicfobaaGreatDoor
open Go.RowKit
set_option linter.unusedVariables false
set_option linter.unusedSimpArgs false

theorem l4Text_c (a : Option Addr) (n cap : Nat) (zs : List PartI) (hc : ptCode zs = 0) : ∀ (m p : Nat), p < m → p < n → ∀ w : World, PartsIn w a n zs →
    Calls Tryz.prog 64 #[.slice a n cap, .int .i64 (p : Int)] w fun e w' => e = .returned (.string (textAt zs p)) ∧ Below w.heap.size w w'
  | 0, p, h, _, _, _ => by omega
  | m + 1, p, hpm, hpn, w, hP => by
    obtain ⟨hz1, hz8, hall⟩ := pt_all hc
    rw [hP.1] at hz1 hz8
    obtain ⟨b, off, x, rfl, hs, hx⟩ := hP.at hpn
    have hx0 := hall p x hs
    rw [textAt_is hs]
    have IH : ∀ j : Nat, j < p → Hid (∀ w2, Below w.heap.size w w2 → Calls Tryz.prog 64 #[.slice (some ⟨b, off, none⟩) n cap, .int .i64 (j : Int)] w2 fun e w' => e = .returned (.string (textAt zs j)) ∧ Below w2.heap.size w2 w') := fun j hj w2 hb =>
      l4Text_c (some ⟨b, off, none⟩) n cap zs hc m j (by omega) (by omega) w2 (hP.below hb)
    have hlen := hP.1
    obtain ⟨kk, ro, rn, l, r⟩ := x
    unfold ptOne at hx0
    simp only at hx0
    split at hx0
    · cases hx0
    · split at hx0
      · rename_i e1
        subst e1
        have hb : roleB ro rn = true := by
          cases q : roleB ro rn
          · rw [if_pos q] at hx0; cases hx0
          · rfl
        exact l4Text_role b off n cap p ro rn l r w hpn hz8 hx hb
      · rename_i e1
        split at hx0
        · cases hx0
        · split at hx0
          · cases hx0
          · split at hx0
            · cases hx0
            · obtain ⟨l', rfl⟩ := Int.eq_ofNat_of_zero_le (show 0 ≤ l by omega)
              obtain ⟨r', rfl⟩ := Int.eq_ofNat_of_zero_le (show 0 ≤ r by omega)
              have hl := textAt_ahead (zs := zs) (show l' < p by omega) (by omega)
              have hr := textAt_ahead (zs := zs) (show r' < p by omega) (by omega)
              have hs1 := textAt_small (zs := zs) (show l' < 8 by omega)
              have hs2 := textAt_small (zs := zs) (show r' < 8 by omega)
              obtain ⟨tx, htx⟩ : ∃ tx : Int → ByteArray, ∀ q : Nat, tx (q : Int) = textAt zs q := ⟨fun q => textAt zs q.toNat, fun q => by simp⟩
              have ho : textOne (textsTo zs p) ⟨kk, ro, rn, (l' : Int), (r' : Int)⟩ = wrapT (sepT kk) (tx (l' : Int)) (tx (r' : Int)) := by
                rw [htx, htx]
                unfold textOne
                simp only
                rw [if_neg e1, Int.toNat_natCast, Int.toNat_natCast, hl, hr]; rfl
              rw [ho]
              have HH : Hid (∀ (q : Int) (w2 : World), (q = (l' : Int) ∨ q = (r' : Int)) → Below w.heap.size w w2 → Calls Tryz.prog 64 #[.slice (some ⟨b, off, none⟩) n cap, .int .i64 q] w2 fun e w' => e = .returned (.string (tx q)) ∧ Below w2.heap.size w2 w') := by
                rintro q w2 (rfl | rfl) hb
                · rw [htx]; exact (IH l' (by omega)).out w2 hb
                · rw [htx]; exact (IH r' (by omega)).out w2 hb
              have hk2 : kk = 2 ∨ kk = 3 := by omega
              rcases hk2 with rfl | rfl
              · rw [show sepT 2 = ⟨#[32, 43, 32]⟩ by unfold sepT; simp]
                exact l4Text_two b off n cap p ro rn (l' : Int) (r' : Int) tx w hpn hz8 hx (by rw [htx]; exact hs1) (by rw [htx]; exact hs2) HH
              · rw [show sepT 3 = ⟨#[32, 42, 32]⟩ by unfold sepT; simp]
                exact l4Text_three b off n cap p ro rn (l' : Int) (r' : Int) tx w hpn hz8 hx (by rw [htx]; exact hs1) (by rw [htx]; exact hs2) HH

theorem last_text (a : Option Addr) (n cap : Nat) (zs : List PartI) (w : World) (h : PartsIn w a n zs) (hc : ptCode zs = 0) : ∀ w2 : World, PartsIn w2 a n zs → Calls Tryz.prog 64 #[.slice a n cap, .int .i64 ((n : Int) - 1)] w2 fun e w' => e = .returned (.string (textAt zs (n - 1))) ∧ Below w2.heap.size w2 w' := fun w2 q => by
  obtain ⟨hz1, hz8, hall⟩ := pt_all hc
  rw [h.1] at hz1 hz8
  rw [show (n : Int) - 1 = ((n - 1 : Nat) : Int) by omega]
  exact l4Text_c a n cap zs hc n (n - 1) (by omega) (by omega) w2 q

/-- Both programs tell the same code and text of the same parts. -/
theorem partText_both (n : Nat) (zs : List PartI) (hm : n ≤ maxLen) : ∃ (c : Int) (t : ByteArray), (∀ (a : Option Addr) (cap : Nat) (w : World), PartsIn w a n zs → GivesT 28 a n cap c t w) ∧ (∀ (a : Option Addr) (cap : Nat) (w : World), PartsIn w a n zs → GivesT 26 a n cap c t w) := by
  by_cases hc : ptCode zs = 0
  · by_cases hb : 200 < (textAt zs (n - 1)).size
    · have HCT : Hid ((200 < (textAt zs (n - 1)).size → (2 : Int) = 2 ∧ noTx = noTx) ∧ (¬ 200 < (textAt zs (n - 1)).size → (2 : Int) = 0 ∧ noTx = textAt zs (n - 1))) := ⟨fun _ => ⟨rfl, rfl⟩, fun q => absurd hb q⟩
      exact ⟨2, noTx, fun a cap w h => specPT_ok a n cap zs _ w h hc rfl (last_text a n cap zs w h hc) 2 noTx HCT, fun a cap w h => implPT_ok a n cap zs _ w h hc rfl 2 noTx HCT⟩
    · have HCT : Hid ((200 < (textAt zs (n - 1)).size → (0 : Int) = 2 ∧ textAt zs (n - 1) = noTx) ∧ (¬ 200 < (textAt zs (n - 1)).size → (0 : Int) = 0 ∧ textAt zs (n - 1) = textAt zs (n - 1))) := ⟨fun q => absurd q hb, fun _ => ⟨rfl, rfl⟩⟩
      exact ⟨0, textAt zs (n - 1), fun a cap w h => specPT_ok a n cap zs _ w h hc rfl (last_text a n cap zs w h hc) 0 _ HCT, fun a cap w h => implPT_ok a n cap zs _ w h hc rfl 0 _ HCT⟩
  · exact ⟨ptCode zs, noTx, fun a cap w h => specPT_bad a n cap zs _ w hm h rfl hc, fun a cap w h => implPT_bad a n cap zs _ w hm h rfl hc⟩

end Go.Proofs.YtnfolmjdicfobaaGreatDoor

namespace Go.Proofs.YtnfolmjdicfobaaGreatDoor
open Go.RowKit
set_option linter.unusedVariables false
set_option linter.unusedSimpArgs false

set_option maxHeartbeats 400000 in
theorem bodyOf_1 (r : RuleI) (h : r.k = 1) (w : World) :
    Calls Tryz.prog 118 #[.agg #[.int .i64 r.k, .int .i64 r.ho, .int .i64 r.hn, .int .i64 r.w, .int .i64 r.oo, .int .i64 r.on, .int .i64 r.to, .int .i64 r.tn]] w fun e w' =>
      e = .returned (.iface 200 (.agg #[.int .i64 r.w])) ∧ Below w.heap.size w w' := by
  go_enter Tryz.func118, Tryz.ntmps118
  go_wp2
  go_ret
  exact ⟨rfl, by go_grown⟩

set_option maxHeartbeats 400000 in
theorem bodyOf_2 (r : RuleI) (h : r.k = 2) (w : World) :
    Calls Tryz.prog 118 #[.agg #[.int .i64 r.k, .int .i64 r.ho, .int .i64 r.hn, .int .i64 r.w, .int .i64 r.oo, .int .i64 r.on, .int .i64 r.to, .int .i64 r.tn]] w fun e w' =>
      e = .returned (.iface 202 (.agg #[.int .i64 r.oo, .int .i64 r.on])) ∧ Below w.heap.size w w' := by
  go_enter Tryz.func118, Tryz.ntmps118
  go_wp2
  go_ret
  exact ⟨rfl, by go_grown⟩

set_option maxHeartbeats 400000 in
theorem bodyOf_3 (r : RuleI) (h : r.k = 3) (w : World) :
    Calls Tryz.prog 118 #[.agg #[.int .i64 r.k, .int .i64 r.ho, .int .i64 r.hn, .int .i64 r.w, .int .i64 r.oo, .int .i64 r.on, .int .i64 r.to, .int .i64 r.tn]] w fun e w' =>
      e = .returned (.iface 204 (.agg #[.int .i64 r.oo, .int .i64 r.on, .int .i64 r.tn])) ∧ Below w.heap.size w w' := by
  go_enter Tryz.func118, Tryz.ntmps118
  go_wp2
  go_ret
  exact ⟨rfl, by go_grown⟩

set_option maxHeartbeats 400000 in
theorem bodyOf_4 (r : RuleI) (h : r.k = 4) (w : World) :
    Calls Tryz.prog 118 #[.agg #[.int .i64 r.k, .int .i64 r.ho, .int .i64 r.hn, .int .i64 r.w, .int .i64 r.oo, .int .i64 r.on, .int .i64 r.to, .int .i64 r.tn]] w fun e w' =>
      e = .returned (.iface 206 (.agg #[.int .i64 r.oo, .int .i64 r.on, .int .i64 r.to, .int .i64 r.tn])) ∧ Below w.heap.size w w' := by
  go_enter Tryz.func118, Tryz.ntmps118
  go_wp2
  go_ret
  exact ⟨rfl, by go_grown⟩

set_option maxHeartbeats 400000 in
theorem bodyOf_0 (r : RuleI) (h : ¬ (1 ≤ r.k ∧ r.k ≤ 4)) (w : World) :
    Calls Tryz.prog 118 #[.agg #[.int .i64 r.k, .int .i64 r.ho, .int .i64 r.hn, .int .i64 r.w, .int .i64 r.oo, .int .i64 r.on, .int .i64 r.to, .int .i64 r.tn]] w fun e w' =>
      e = .returned .nilIface ∧ Below w.heap.size w w' := by
  have h1 : (r.k == 1) = false := by simp; omega
  have h2 : (r.k == 2) = false := by simp; omega
  have h3 : (r.k == 3) = false := by simp; omega
  have h4 : (r.k == 4) = false := by simp; omega
  clear h
  go_enter Tryz.func118, Tryz.ntmps118
  go_wp2
  go_ret
  exact ⟨rfl, by go_grown⟩

theorem bcell2 {W w1 : World} (hb : Below W.heap.size W w1) : (∀ b o, b < W.heap.size → w1.cell? ⟨b, o, none⟩ = W.cell? ⟨b, o, none⟩) ∧ (∀ b o, b < W.heap.size → w1.frozen? ⟨b, o, none⟩ = W.frozen? ⟨b, o, none⟩) :=
  ⟨fun b o h => hb.cell (p := ⟨b, o, none⟩) h, fun b o h => hb.frozen (p := ⟨b, o, none⟩) h⟩

/-! The type switch: which body it is. -/
theorem ta11 (cs : Array Value) (w : World) : (Instr.typeAssert (.iface 200 (.agg cs)) 166 200 true).run Tryz.prog w = .ok (.tuple #[.agg cs, .bool true]) w := by kernel_rfl
theorem ta12 (cs : Array Value) (w : World) : (Instr.typeAssert (.iface 200 (.agg cs)) 166 202 true).run Tryz.prog w = .ok (.tuple #[.agg #[.int .i64 0, .int .i64 0], .bool false]) w := by kernel_rfl
theorem ta13 (cs : Array Value) (w : World) : (Instr.typeAssert (.iface 200 (.agg cs)) 166 204 true).run Tryz.prog w = .ok (.tuple #[.agg #[.int .i64 0, .int .i64 0, .int .i64 0], .bool false]) w := by kernel_rfl
theorem ta14 (cs : Array Value) (w : World) : (Instr.typeAssert (.iface 200 (.agg cs)) 166 206 true).run Tryz.prog w = .ok (.tuple #[.agg #[.int .i64 0, .int .i64 0, .int .i64 0, .int .i64 0], .bool false]) w := by kernel_rfl
theorem ta21 (cs : Array Value) (w : World) : (Instr.typeAssert (.iface 202 (.agg cs)) 166 200 true).run Tryz.prog w = .ok (.tuple #[.agg #[.int .i64 0], .bool false]) w := by kernel_rfl
theorem ta22 (cs : Array Value) (w : World) : (Instr.typeAssert (.iface 202 (.agg cs)) 166 202 true).run Tryz.prog w = .ok (.tuple #[.agg cs, .bool true]) w := by kernel_rfl
theorem ta23 (cs : Array Value) (w : World) : (Instr.typeAssert (.iface 202 (.agg cs)) 166 204 true).run Tryz.prog w = .ok (.tuple #[.agg #[.int .i64 0, .int .i64 0, .int .i64 0], .bool false]) w := by kernel_rfl
theorem ta24 (cs : Array Value) (w : World) : (Instr.typeAssert (.iface 202 (.agg cs)) 166 206 true).run Tryz.prog w = .ok (.tuple #[.agg #[.int .i64 0, .int .i64 0, .int .i64 0, .int .i64 0], .bool false]) w := by kernel_rfl
theorem ta31 (cs : Array Value) (w : World) : (Instr.typeAssert (.iface 204 (.agg cs)) 166 200 true).run Tryz.prog w = .ok (.tuple #[.agg #[.int .i64 0], .bool false]) w := by kernel_rfl
theorem ta32 (cs : Array Value) (w : World) : (Instr.typeAssert (.iface 204 (.agg cs)) 166 202 true).run Tryz.prog w = .ok (.tuple #[.agg #[.int .i64 0, .int .i64 0], .bool false]) w := by kernel_rfl
theorem ta33 (cs : Array Value) (w : World) : (Instr.typeAssert (.iface 204 (.agg cs)) 166 204 true).run Tryz.prog w = .ok (.tuple #[.agg cs, .bool true]) w := by kernel_rfl
theorem ta34 (cs : Array Value) (w : World) : (Instr.typeAssert (.iface 204 (.agg cs)) 166 206 true).run Tryz.prog w = .ok (.tuple #[.agg #[.int .i64 0, .int .i64 0, .int .i64 0, .int .i64 0], .bool false]) w := by kernel_rfl
theorem ta41 (cs : Array Value) (w : World) : (Instr.typeAssert (.iface 206 (.agg cs)) 166 200 true).run Tryz.prog w = .ok (.tuple #[.agg #[.int .i64 0], .bool false]) w := by kernel_rfl
theorem ta42 (cs : Array Value) (w : World) : (Instr.typeAssert (.iface 206 (.agg cs)) 166 202 true).run Tryz.prog w = .ok (.tuple #[.agg #[.int .i64 0, .int .i64 0], .bool false]) w := by kernel_rfl
theorem ta43 (cs : Array Value) (w : World) : (Instr.typeAssert (.iface 206 (.agg cs)) 166 204 true).run Tryz.prog w = .ok (.tuple #[.agg #[.int .i64 0, .int .i64 0, .int .i64 0], .bool false]) w := by kernel_rfl
theorem ta44 (cs : Array Value) (w : World) : (Instr.typeAssert (.iface 206 (.agg cs)) 166 206 true).run Tryz.prog w = .ok (.tuple #[.agg cs, .bool true]) w := by kernel_rfl
theorem below_new3 {w w1 : World} {o1 o2 o3 : Obj} (h : Below (((w.alloc o1).alloc o2).alloc o3).heap.size (((w.alloc o1).alloc o2).alloc o3) w1) : Below w.heap.size w w1 := below_new (below_new (below_new h))

end Go.Proofs.YtnfolmjdicfobaaGreatDoor

namespace Go.Proofs.YtnfolmjdicfobaaGreatDoor
open Go.RowKit
set_option linter.unusedVariables false
set_option linter.unusedSimpArgs false
attribute [local go_sem] ta11 ta12 ta13 ta14 ta21 ta22 ta23 ta24 ta31 ta32 ta33 ta34 ta41 ta42 ta43 ta44

set_option maxHeartbeats 400000 in
theorem bodyFault_1 (p : Int) (w : World) :
    Calls Tryz.prog 148 #[.iface 200 (.agg #[.int .i64 p])] w fun e w' =>
      e = .returned (.int .i64 (if prinB p = true then 0 else 3)) ∧ Below w.heap.size w w' := by
  cases hp : prinB p
  all_goals
    go_enter Tryz.func148, Tryz.ntmps148
    go_wp2
    refine wp_loop_rounds 1 ?_
    rw [rounds_succ]
    go_wp2_with (first | (go_at_call 137; refine (isPrin_c _ _).mono ?_; rintro e w1 ⟨rfl, rfl⟩; rw [hp]) | go_in)
    go_ret
    exact ⟨rfl, by go_grown⟩

set_option maxHeartbeats 400000 in
theorem bodyFault_2 (o n : Int) (w : World) :
    Calls Tryz.prog 148 #[.iface 202 (.agg #[.int .i64 o, .int .i64 n])] w fun e w' =>
      e = .returned (.int .i64 (if roleB o n = true then 0 else 3)) ∧ Below w.heap.size w w' := by
  cases hr : roleB o n
  · have hc : roleCode o n = 3 := by simp [roleCode, hr]
    go_enter Tryz.func148, Tryz.ntmps148
    go_wp2
    refine wp_loop_rounds 2 ?_
    rw [rounds_succ]
    go_wp2_with (first | (go_at_call 105; refine (implRoleFault_c _ _ _).mono ?_; rintro e w1 ⟨rfl, hb1⟩; rw [hc]) | go_in)
    go_ret
    exact ⟨rfl, below_new3 hb1⟩
  · have hc : roleCode o n = 0 := by simp [roleCode, hr]
    go_enter Tryz.func148, Tryz.ntmps148
    go_wp2
    refine wp_loop_rounds 2 ?_
    rw [rounds_succ]
    go_wp2_with (first | (go_at_call 105; refine (implRoleFault_c _ _ _).mono ?_; rintro e w1 ⟨rfl, hb1⟩; rw [hc]) | go_in)
    rw [rounds_succ]
    go_wp2
    go_ret
    exact ⟨rfl, below_new3 hb1⟩

set_option maxHeartbeats 400000 in
theorem bodyFault_3 (o n m : Int) (w : World) :
    Calls Tryz.prog 148 #[.iface 204 (.agg #[.int .i64 o, .int .i64 n, .int .i64 m])] w fun e w' =>
      e = .returned (.int .i64 (if (roleB o n && nameB m) = true then 0 else 3)) ∧ Below w.heap.size w w' := by
  cases hr : roleB o n
  · have hc : roleCode o n = 3 := by simp [roleCode, hr]
    go_enter Tryz.func148, Tryz.ntmps148
    go_wp2
    refine wp_loop_rounds 2 ?_
    rw [rounds_succ]
    go_wp2_with (first | (go_at_call 105; refine (implRoleFault_c _ _ _).mono ?_; rintro e w1 ⟨rfl, hb1⟩; rw [hc]) | go_in)
    go_ret
    exact ⟨rfl, below_new3 hb1⟩
  · have hc : roleCode o n = 0 := by simp [roleCode, hr]
    cases hp : nameB m
    all_goals
      go_enter Tryz.func148, Tryz.ntmps148
      go_wp2
      refine wp_loop_rounds 2 ?_
      rw [rounds_succ]
      go_wp2_with (first | (go_at_call 105; refine (implRoleFault_c _ _ _).mono ?_; rintro e w1 ⟨rfl, hb1⟩; rw [hc]) | go_in)
      rw [rounds_succ]
      go_wp2_with (first | (go_at_call 138; refine (isName_c _ _).mono ?_; rintro e w2 ⟨rfl, rfl⟩; rw [hp]) | go_in)
      go_ret
      exact ⟨rfl, (below_new3 hb1).alloc (below_new3 hb1).size _⟩

end Go.Proofs.YtnfolmjdicfobaaGreatDoor

namespace Go.Proofs.YtnfolmjdicfobaaGreatDoor
open Go.RowKit
set_option linter.unusedVariables false
set_option linter.unusedSimpArgs false
attribute [local go_sem] ta11 ta12 ta13 ta14 ta21 ta22 ta23 ta24 ta31 ta32 ta33 ta34 ta41 ta42 ta43 ta44

set_option maxHeartbeats 400000 in
theorem bodyFault_4 (o n p m : Int) (w : World) :
    Calls Tryz.prog 148 #[.iface 206 (.agg #[.int .i64 o, .int .i64 n, .int .i64 p, .int .i64 m])] w fun e w' =>
      e = .returned (.int .i64 (if (roleB o n && roleB p m) = true then 0 else 3)) ∧ Below w.heap.size w w' := by
  cases hr : roleB o n
  · have hc : roleCode o n = 3 := by simp [roleCode, hr]
    go_enter Tryz.func148, Tryz.ntmps148
    go_wp2
    refine wp_loop_rounds 3 ?_
    rw [rounds_succ]
    go_wp2_with (first | (go_at_call 105; refine (implRoleFault_c _ _ _).mono ?_; rintro e w1 ⟨rfl, hb1⟩; rw [hc]) | go_in)
    go_ret
    exact ⟨rfl, below_new3 hb1⟩
  · have hc : roleCode o n = 0 := by simp [roleCode, hr]
    cases hp : roleB p m
    all_goals
      have hd : roleCode p m = if roleB p m = true then 0 else 3 := rfl
      simp only [hp, if_true, Bool.false_eq_true, if_false] at hd
      go_enter Tryz.func148, Tryz.ntmps148
      go_wp2
      refine wp_loop_rounds 3 ?_
      rw [rounds_succ]
      go_wp2_with (first | (go_at_call 105; refine (implRoleFault_c _ _ _).mono ?_; rintro e w1 ⟨rfl, hb1⟩; rw [hc]) | go_in)
      rw [rounds_succ]
      have hz1 := hb1.size
      simp only [World.size_alloc] at hz1
      have hlt : w.heap.size + 1 < w1.heap.size := by omega
      have q0 : w1.cell? ⟨w.heap.size + 1, 2, none⟩ = some (.int .i64 p) := by rw [(bcell2 hb1).1 (w.heap.size + 1) 2 (by simp)]; go_cell
      have q1 : w1.cell? ⟨w.heap.size + 1, 3, none⟩ = some (.int .i64 m) := by rw [(bcell2 hb1).1 (w.heap.size + 1) 3 (by simp)]; go_cell
      go_wp2_with (first | (go_at_call 105; refine (implRoleFault_c _ _ _).mono ?_; rintro e w2 ⟨rfl, hb2⟩; rw [hd]) | go_in)
      first
        | (go_ret; exact ⟨rfl, (below_new3 hb1).trans ((below_new hb2).mono (by omega))⟩)
        | (rw [rounds_succ]; go_wp2; go_ret; exact ⟨rfl, (below_new3 hb1).trans ((below_new hb2).mono (by omega))⟩)

end Go.Proofs.YtnfolmjdicfobaaGreatDoor
