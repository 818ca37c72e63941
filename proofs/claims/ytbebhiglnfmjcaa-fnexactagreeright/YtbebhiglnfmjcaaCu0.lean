/-
  CONTRACTS: chapter 10, the model: members, values, messages, who is bad.
  Conditions: each contract bears its own.
-/
import Derived.Test.YtbebhiglnfmjcaaCq0
import Derived.Deep.CutBlock
namespace Go.Proofs.Ytbebhiglnfmjcaa
open Go.RowKit
set_option linter.unusedVariables false
set_option linter.unusedSimpArgs false

theorem wrap3 {f : Int} (h1 : 1 ≤ f) (h2 : f ≤ 2) : IntKind.i64.wrap (IntKind.i64.wrap (3 * f) + 1) = 3 * f + 1 := by
  rw [IntKind.wrap_i64, IntKind.wrap_i64]; omega

set_option maxHeartbeats 400000 in
theorem l10Member_c (f i : Int) (w : World) (h1 : 1 ≤ f) (h2 : f ≤ 2) : Calls Try.prog 68 #[.int .i64 f, .int .i64 i] w fun e w' => e = .returned (.bool (inR i 1 (3 * f + 1))) ∧ w = w' := by
  go_enter Try.func68, Try.ntmps68
  go_wp2_with (go_at_call 59; refine (cin_c _ _ _ _).mono ?_; rintro e w' ⟨rfl, rfl⟩)
  go_ret
  exact ⟨rfl, rfl⟩

set_option maxHeartbeats 400000 in
theorem l10Value_c (v : Int) (w : World) : Calls Try.prog 69 #[.int .i64 v] w fun e w' => e = .returned (.bool (inR v 1 3)) ∧ w = w' := by
  go_enter Try.func69, Try.ntmps69
  go_wp2_with (go_at_call 59; refine (cin_c _ _ _ _).mono ?_; rintro e w' ⟨rfl, rfl⟩)
  go_ret
  exact ⟨rfl, rfl⟩

set_option maxRecDepth 20000 in
set_option maxHeartbeats 1000000 in
theorem l10Msg_c (f : Int) (g o : Nat) (m : MsI) (w : World) (h1 : 1 ≤ f) (h2 : f ≤ 2) (hm : MsAt w g o m) : Calls Try.prog 79 #[.int .i64 f, .pointer (some ⟨g, o, none⟩)] w fun e w' => e = .returned (.bool (msB f m)) ∧ w = w' := by
  obtain ⟨m0, m1, m2, m3⟩ := hm
  have hgl : g < w.heap.size := World.block_lt_of_cell? w ⟨g, o, none⟩ m0
  obtain ⟨t1, q1⟩ : ∃ t, inR m.f 1 (3 * f + 1) = t := ⟨_, rfl⟩
  obtain ⟨t2, q2⟩ : ∃ t, inR m.t 1 (3 * f + 1) = t := ⟨_, rfl⟩
  obtain ⟨t3, q3⟩ : ∃ t, inR m.k 1 3 = t := ⟨_, rfl⟩
  obtain ⟨t4, q4⟩ : ∃ t, inR m.v 1 3 = t := ⟨_, rfl⟩
  have HB : msB f m = (t1 && (t2 && (t3 && t4))) := by unfold msB; rw [q1, q2, q3, q4]
  have H1 : Hid (Calls Try.prog 68 #[.int .i64 f, .int .i64 m.f] w fun e w' => e = .returned (.bool t1) ∧ w = w') := by rw [← q1]; exact l10Member_c f m.f w h1 h2
  have H2 : Hid (Calls Try.prog 68 #[.int .i64 f, .int .i64 m.t] w fun e w' => e = .returned (.bool t2) ∧ w = w') := by rw [← q2]; exact l10Member_c f m.t w h1 h2
  have H3 : Hid (Calls Try.prog 59 #[.int .i64 m.k, .int .i64 1, .int .i64 3] w fun e w' => e = .returned (.bool t3) ∧ w = w') := by rw [← q3]; exact cin_c m.k 1 3 w
  have H4 : Hid (Calls Try.prog 69 #[.int .i64 m.v] w fun e w' => e = .returned (.bool t4) ∧ w = w') := by rw [← q4]; exact l10Value_c m.v w
  rw [HB]
  obtain ⟨b, hb⟩ : ∃ b, (t1 && (t2 && (t3 && t4))) = b := ⟨_, rfl⟩
  have HBB : Hid ((t1 && (t2 && (t3 && t4))) = b) := hb
  rw [hb]
  clear q1 q2 q3 q4 HB hb
  go_enter Try.func79, Try.ntmps79
  go_wp2_with fail
  refine H1.out.mono ?_
  rintro e w1 ⟨rfl, rfl⟩
  cases t1
  · have Hb : b = false := by rw [← HBB.out]; simp
    clear HBB
    go_wp2
    go_ret
    exact ⟨by first | (rw [Hb]; rfl) | rfl, rfl⟩
  go_wp2_with fail
  refine H2.out.mono ?_
  rintro e w1 ⟨rfl, rfl⟩
  cases t2
  · have Hb : b = false := by rw [← HBB.out]; simp
    clear HBB
    go_wp2
    go_ret
    exact ⟨by first | (rw [Hb]; rfl) | rfl, rfl⟩
  go_wp2_with fail
  refine H3.out.mono ?_
  rintro e w1 ⟨rfl, rfl⟩
  cases t3
  · have Hb : b = false := by rw [← HBB.out]; simp
    clear HBB
    go_wp2
    go_ret
    exact ⟨by first | (rw [Hb]; rfl) | rfl, rfl⟩
  have Hb : Hid (b = t4) := by show b = t4; rw [← HBB.out]; simp
  clear HBB
  go_wp2_with fail
  refine H4.out.mono ?_
  rintro e w1 ⟨rfl, rfl⟩
  go_wp2
  go_ret
  exact ⟨by rw [Hb.out]; cases t4 <;> rfl, rfl⟩

/-- The code of who is bad. -/
def bdCode (f : Int) (us : List Int) : Int := if rngAll f us = true then (if f < (us.length : Int) then 2 else if riseB us = true then 0 else 1) else 3

set_option maxRecDepth 20000 in
set_option maxHeartbeats 1000000 in
theorem l10Bad_c (f : Int) (a : Option Addr) (n cap : Nat) (us : List Int) (w : World) (h1 : 1 ≤ f) (h2 : f ≤ 2) (hn : n ≤ 1048576) (h : IntIn w a n us) : Calls Try.prog 70 #[.int .i64 f, .slice a n cap] w fun e w' => e = .returned (.int .i64 (bdCode f us)) ∧ Below w.heap.size w w' := by
  have H : Hid (IntIn w a n us) := h
  have HZ : Hid (us.length = n) := h.1
  have hn' : (n : Int) ≤ 1048576 := by omega
  obtain ⟨K, hK⟩ : ∃ K, bdCode f us = K := ⟨_, rfl⟩
  have HK : Hid ((if rngAll f us = true then (if f < (n : Int) then 2 else if riseB us = true then 0 else 1) else 3) = K) := by
    show _ = K
    rw [← hK]
    unfold bdCode
    rw [h.1]
  have HM : Hid (∀ (i : Int) (w : World), Calls Try.prog 68 #[.int .i64 f, .int .i64 i] w fun e w' => e = .returned (.bool (inR i 1 (3 * f + 1))) ∧ w = w') := fun i w => l10Member_c f i w h1 h2
  rw [hK]
  clear h hK
  go_enter Try.func70, Try.ntmps70
  go_wp2_with fail
  go_loopw [5] (fun i wr => ∃ k : Nat, k ≤ n ∧ i = .int .i64 (k : Int) ∧ Hid (∀ j x, j < k → us[j]? = some x → inR x 1 (3 * f + 1) = true) ∧ w = wr) (fun i _ => n - (intOf i).toNat)
  case atStart => exact ⟨0, Nat.zero_le _, rfl, fun j x q => by omega, rfl⟩
  case round =>
    obtain ⟨k, hk, rfl, HJ, rfl⟩ := hrel
    by_cases hlt : k < n
    · obtain ⟨b, off, x, rfl, hx, hxa, hbl⟩ := H.out.at hlt
      have hlt' : (k : Int) < (n : Int) := by omega
      have HX : Hid (us[k]? = some x) := hx
      obtain ⟨t, ht⟩ : ∃ t, inR x 1 (3 * f + 1) = t := ⟨_, rfl⟩
      have HT : Hid (inR x 1 (3 * f + 1) = t) := ht
      have HC : Hid (∀ w : World, Calls Try.prog 68 #[.int .i64 f, .int .i64 x] w fun e w' => e = .returned (.bool t) ∧ w = w') := fun w => by rw [← ht]; exact HM.out x w
      clear hx ht
      go_wp2_with fail
      refine (HC.out _).mono ?_
      rintro e w1 ⟨rfl, rfl⟩
      cases t
      · have HE : Hid (K = 3) := by
          show K = 3
          rw [← HK.out]
          have : rngAll f us = false := by
            cases z : rngAll f us
            · rfl
            · unfold rngAll at z
              have := List.all_eq_true.1 z x (List.mem_of_getElem? HX.out)
              rw [HT.out] at this
              cases this
          rw [this]; rfl
        clear HK
        go_wp2
        go_ret
        exact ⟨by rw [HE.out]; rfl, Below.refl _ _⟩
      · have HN : Hid (∀ j y, j < k + 1 → us[j]? = some y → inR y 1 (3 * f + 1) = true) := fun j y q1 q2 => by
          by_cases e : j = k
          · subst e; rw [HX.out] at q2; cases q2; exact HT.out
          · exact HJ.out j y (by omega) q2
        go_wp2
        exact ⟨⟨k + 1, by omega, by go_num, HN, trivial⟩, by simp [intOf]; omega⟩
    · have hkn : k = n := by omega
      have hlt' : ¬ ((k : Int) < (n : Int)) := by omega
      have HK2 : Hid ((if f < (n : Int) then 2 else if riseB us = true then 0 else 1) = K) := by
        show _ = K
        rw [← HK.out]
        have : rngAll f us = true := by
          unfold rngAll
          refine List.all_eq_true.2 (fun y hy => ?_)
          obtain ⟨q, hq, e⟩ := List.mem_iff_getElem.1 hy
          exact HJ.out q y (by have := HZ.out; omega) (by rw [List.getElem?_eq_getElem hq, e])
        rw [this, if_pos rfl]
      clear hkn HK HJ
      by_cases q1 : f < (n : Int)
      · have HE : Hid (K = 2) := by show K = 2; rw [← HK2.out, if_pos q1]
        clear HK2
        go_wp2
        go_ret
        exact ⟨by rw [HE.out]; rfl, Below.refl _ _⟩
      have HK3 : Hid ((if riseB us = true then 0 else 1) = K) := by show _ = K; rw [← HK2.out, if_neg q1]
      clear HK2
      go_wp2_with fail
      go_loopw [6] (fun i wr => ∃ m : Nat, 1 ≤ m ∧ (m ≤ n ∨ m = 1) ∧ i = .int .i64 (m : Int) ∧ Hid (∀ j x y, 1 ≤ j → j < m → us[j - 1]? = some x → us[j]? = some y → x < y) ∧ Below w.heap.size w wr) (fun i _ => n + 1 - (intOf i).toNat)
      case atStart => exact ⟨1, Nat.le_refl _, .inr rfl, rfl, fun j x y h1 h2 => by omega, Below.refl _ _⟩
      case round =>
        obtain ⟨m, hm1, hmn, rfl, HR, hnx⟩ := hrel
        by_cases hlt : m < n
        · obtain ⟨k, hk⟩ : ∃ k, k + 1 = m := ⟨m - 1, by omega⟩
          obtain ⟨b, off, x, rfl, hx, hxa, hbl⟩ := H.out.at (show k < n by omega)
          obtain ⟨b', off', y, e', hy, hya, _⟩ := H.out.at hlt
          cases e'
          have c0 := (hnx.cell (p := ⟨b, off + k, none⟩) hbl).trans hxa
          have c1 := (hnx.cell (p := ⟨b, off + m, none⟩) hbl).trans hya
          have hbw : b < wr.heap.size := Nat.lt_of_lt_of_le hbl hnx.size
          have hlt' : (m : Int) < (n : Int) := by omega
          have hm0 : (0 : Int) ≤ (m : Int) := by omega
          have hk0 : (0 : Int) ≤ (k : Int) := by omega
          have hkn : (k : Int) < (n : Int) := by omega
          have hwr : IntKind.i64.wrap ((m : Int) - 1) = (k : Int) := by rw [IntKind.wrap_i64]; omega
          have HX : Hid (us[m - 1]? = some x ∧ us[m]? = some y) := ⟨by rw [show m - 1 = k by omega]; exact hx, hy⟩
          clear hx hy hxa hya hk hmn
          by_cases hxy : x < y
          · have hle : ¬ y ≤ x := by omega
            have HN : Hid (∀ j x y, 1 ≤ j → j < m + 1 → us[j - 1]? = some x → us[j]? = some y → x < y) := fun j x' y' h1 h2 e1 e2 => by
              by_cases q : j = m
              · subst q
                rw [HX.out.1] at e1
                rw [HX.out.2] at e2
                cases e1; cases e2; exact hxy
              · exact HR.out j x' y' h1 (by omega) e1 e2
            clear hxy
            go_wp2_with fail
            go_quiet (fail)
            go_wp2
            exact ⟨⟨m + 1, by omega, .inl (by omega), by go_num, HN, below_drewN hnx _⟩, by simp [intOf]; omega⟩
          · have hle : y ≤ x := by omega
            have HE : Hid (K = 1) := by
              show K = 1
              have : riseB us = false := decide_eq_false (rise_not (k := m) HX.out.1 HX.out.2 (by omega) hxy)
              rw [← HK3.out, this]; rfl
            clear hxy HK3
            go_wp2_with fail
            go_quiet (fail)
            go_wp2
            go_ret
            exact ⟨by rw [HE.out]; rfl, below_drewN hnx _⟩
        · have hlt' : ¬ ((m : Int) < (n : Int)) := by omega
          have HE : Hid (K = 0) := by
            show K = 0
            have : riseB us = true := decide_eq_true (rise_next HZ.out (fun j x y h1 h2 e1 e2 => HR.out j x y h1 (by omega) e1 e2))
            rw [← HK3.out, this]; rfl
          clear HK3
          go_wp2
          go_ret
          exact ⟨by rw [HE.out]; rfl, hnx⟩

end Go.Proofs.Ytbebhiglnfmjcaa
