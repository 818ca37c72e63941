/-
  CONTRACTS: VerifyCert of both programs.
  Conditions: each contract bears its own.
-/
import Derived.Test.YthogdfnaojijhaaCe4
namespace Go.Proofs.Ythogdfnaojijhaa
open Go.RowKit Go.Maps
set_option linter.unusedVariables false
set_option linter.unusedSimpArgs false
attribute [local go_sem] fldN0 fldN1

/-- What is asked of a certificate where the shares have no fault. -/
def vfL (f : Int) (zs : List ShI) (x : StI) (ys : List Int) : Int := if stCode x = 0 then (if sfCode f ys = 0 then (if sgdAll zs x ys = true then 0 else 7) else sfCode f ys) else stCode x

theorem vf_eq (f : Int) (zs : List ShI) (x : StI) (ys : List Int) : vfCode f zs x ys = if shCode f zs = 0 then vfL f zs x ys else shCode f zs := rfl

/-- A certificate in memory. -/
structure CrAt (w : World) (b : Nat) (x : StI) (ga : Option Addr) (gn gc : Nat) (ys : List Int) : Prop where
  st : StAt w b 0 x
  sl : w.cell? ⟨b, 5, none⟩ = some (.slice ga gn gc)
  row : IntIn w ga gn ys

theorem CrAt.lt {w : World} {b : Nat} {x : StI} {ga : Option Addr} {gn gc : Nat} {ys : List Int} (h : CrAt w b x ga gn gc ys) : b < w.heap.size := World.block_lt_of_cell? w ⟨b, 5, none⟩ h.sl

theorem CrAt.below {w w' : World} {b : Nat} {x : StI} {ga : Option Addr} {gn gc : Nat} {ys : List Int} (h : CrAt w b x ga gn gc ys) (hb : Below w.heap.size w w') : CrAt w' b x ga gn gc ys :=
  ⟨h.st.below hb h.lt, (hb.cell (p := ⟨b, 5, none⟩) h.lt).trans h.sl, h.row.below hb⟩

set_option maxRecDepth 20000 in
set_option maxHeartbeats 4000000 in
theorem l9Verify_c (a : Option Addr) (n cap : Nat) (zs : List ShI) (f : Int) (cb : Nat) (x : StI) (ga : Option Addr) (gn gc : Nat) (ys : List Int) (w : World) (hn : n ≤ 1048576) (hgn : gn ≤ 1048576) (hf : inR f 1 2 = true) (h : ShIn w a n zs) (hc : CrAt w cb x ga gn gc ys) :
    Calls Try.prog 57 #[.slice a n cap, .int .i64 f, .pointer (some ⟨cb, 0, none⟩)] w fun e w' => e = .returned (.int .i64 (vfL f zs x ys)) ∧ Below w.heap.size w w' := by
  have H : Hid (ShIn w a n zs) := h
  have HC : Hid (CrAt w cb x ga gn gc ys) := hc
  have HZ : Hid (ys.length = gn) := hc.row.1
  have hn' : (n : Int) ≤ 1048576 := by omega
  have hgn' : (gn : Int) ≤ 1048576 := by omega
  obtain ⟨hf1, hf2⟩ := (inR_iff f 1 2).1 hf
  obtain ⟨c, hcc⟩ : ∃ c, c = vfL f zs x ys := ⟨_, rfl⟩
  rw [← hcc]
  have HV : Hid (c = vfL f zs x ys) := hcc
  obtain ⟨s, hs⟩ : ∃ s, stCode x = s := ⟨_, rfl⟩
  have HSC : Hid (stCode x = s) := hs
  have hcl := hc.lt
  clear h hc hf hcc
  by_cases s0 : s = 0
  · have sb : (s != 0) = false := by simp [s0]
    have HV2 : Hid (c = if sfCode f ys = 0 then (if sgdAll zs x ys = true then 0 else 7) else sfCode f ys) := by show c = _; rw [HV.out]; unfold vfL; rw [hs, if_pos s0]
    clear hs s0 HV
    have hST := HC.out.st
    go_enter Try.func57, Try.ntmps57
    go_wp2_with (first | (go_at_call 30; refine (l7Fault_c _ _ x _ hST).mono ?_; rintro e w' ⟨rfl, rfl⟩; rw [HSC.out]))
    clear hST
    go_loopw [8] (fun i wr => ∃ m : Nat, 1 ≤ m ∧ (m ≤ gn ∨ m = 1) ∧ i = .int .i64 (m : Int) ∧ (∀ j x y, 1 ≤ j → j < m → ys[j - 1]? = some x → ys[j]? = some y → x < y) ∧ Below w.heap.size w wr) (fun i _ => gn + 1 - (intOf i).toNat)
    case atStart => exact ⟨1, Nat.le_refl _, .inr rfl, rfl, fun j x y h1 h2 => by omega, Below.refl _ _⟩
    case round =>
      obtain ⟨m, hm1, hmn, rfl, hr, hnx⟩ := hrel
      have HR : Hid (∀ j x y, 1 ≤ j → j < m → ys[j - 1]? = some x → ys[j]? = some y → x < y) := hr
      clear hr
      have c5 := (HC.out.below hnx).sl
      by_cases hlt : m < gn
      · obtain ⟨k, hk⟩ : ∃ k, k + 1 = m := ⟨m - 1, by omega⟩
        obtain ⟨b, off, p, rfl, hp, hpa, hbl⟩ := HC.out.row.at (show k < gn by omega)
        obtain ⟨b', off', y, e', hy, hya, _⟩ := HC.out.row.at hlt
        cases e'
        have c0 := (hnx.cell (p := ⟨b, off + k, none⟩) hbl).trans hpa
        have c1 := (hnx.cell (p := ⟨b, off + m, none⟩) hbl).trans hya
        have hbw : b < wr.heap.size := Nat.lt_of_lt_of_le hbl hnx.size
        have hcw : cb < wr.heap.size := Nat.lt_of_lt_of_le hcl hnx.size
        have hlt' : (m : Int) < (gn : Int) := by omega
        have hm0 : (0 : Int) ≤ (m : Int) := by omega
        have hk0 : (0 : Int) ≤ (k : Int) := by omega
        have hkn : (k : Int) < (gn : Int) := by omega
        have hwr : IntKind.i64.wrap ((m : Int) - 1) = (k : Int) := by rw [IntKind.wrap_i64]; omega
        have HX : Hid (ys[m - 1]? = some p ∧ ys[m]? = some y) := ⟨by rw [show m - 1 = k by omega]; exact hp, hy⟩
        clear hp hy hpa hya hk hmn
        by_cases hxy : p < y
        · have HN : Hid (∀ j x y, 1 ≤ j → j < m + 1 → ys[j - 1]? = some x → ys[j]? = some y → x < y) := fun j x' y' h1 h2 e1 e2 => by
            by_cases q : j = m
            · subst q
              rw [HX.out.1] at e1
              rw [HX.out.2] at e2
              cases e1; cases e2; exact hxy
            · exact HR.out j x' y' h1 (by omega) e1 e2
          have hle : ¬ (y ≤ p) := by omega
          go_wp2
          go_quiet (fail)
          go_wp2
          exact ⟨⟨m + 1, by omega, .inl (by omega), by go_num, HN.out, below_drewN hnx _⟩, by simp [intOf]; omega⟩
        · have H1 : Hid (c = 1) := by
            have : riseB ys = false := by unfold riseB; exact decide_eq_false (rise_not (k := m) HX.out.1 HX.out.2 (by omega) hxy)
            show c = 1
            rw [HV2.out]
            have e : sfCode f ys = 1 := by unfold sfCode; rw [if_neg (by rw [this]; simp)]
            rw [e]; rfl
          have hle : y ≤ p := by omega
          clear hxy
          go_wp2
          go_quiet (fail)
          go_wp2
          go_ret
          exact ⟨by rw [H1.out]; rfl, below_drewN hnx _⟩
      · have hlt' : ¬ ((m : Int) < (gn : Int)) := by omega
        have HRB : Hid (riseB ys = true) := by
          show riseB ys = true
          unfold riseB
          exact decide_eq_true (rise_next HZ.out (fun j x y h1 h2 e1 e2 => HR.out j x y h1 (by omega) e1 e2))
        have HV3 : Hid (c = if rngAll f ys = true then (if (gn : Int) < 2 * f + 1 then 7 else (if sgdAll zs x ys = true then 0 else 7)) else 3) := by
          show c = _
          rw [HV2.out]
          unfold sfCode
          rw [if_pos HRB.out, HZ.out]
          cases rngAll f ys
          · simp
          · by_cases q : (gn : Int) < 2 * f + 1
            · simp [q]
            · simp [q]
        clear HV2 HRB HR hm1 hmn
        obtain ⟨U, hU⟩ : ∃ U, U = wr := ⟨_, rfl⟩
        rw [← hU] at hnx c5 ⊢
        clear hU
        go_wp2
        clear c5
        go_loopw [9] (fun i wr => ∃ k : Nat, k ≤ gn ∧ i = .int .i64 (k : Int) ∧ (∀ j y, j < k → ys[j]? = some y → inR y 1 (3 * f + 1) = true) ∧ Below w.heap.size w wr) (fun i _ => gn - (intOf i).toNat)
        case atStart => exact ⟨0, Nat.zero_le _, rfl, fun j y h => by omega, hnx⟩
        case round =>
          obtain ⟨k, hk, rfl, hz, hnx2⟩ := hrel
          have HK0 : Hid (∀ j y, j < k → ys[j]? = some y → inR y 1 (3 * f + 1) = true) := hz
          clear hz
          have c5 := (HC.out.below hnx2).sl
          by_cases hlt : k < gn
          · obtain ⟨b, off, p, rfl, hp, hpa, hbl⟩ := HC.out.row.at hlt
            have hltk : (k : Int) < (gn : Int) := by omega
            have c0 := (hnx2.cell (p := ⟨b, off + k, none⟩) hbl).trans hpa
            obtain ⟨t, ht⟩ : ∃ t, inR p 1 (3 * f + 1) = t := ⟨_, rfl⟩
            have HX : Hid (ys[k]? = some p ∧ inR p 1 (3 * f + 1) = t) := ⟨hp, ht⟩
            clear hp hpa ht
            cases t
            · have HE : Hid (c = 3) := by
                show c = 3
                have : rngAll f ys = false := by
                  cases q : rngAll f ys
                  · rfl
                  · unfold rngAll at q
                    have := List.all_eq_true.1 q p (List.mem_of_getElem? HX.out.1)
                    rw [HX.out.2] at this
                    cases this
                rw [HV3.out, this]; rfl
              go_wp2_with (first | (go_at_call 27; refine (cin_c _ _ _ _).mono ?_; rintro e w' ⟨rfl, rfl⟩; rw [HX.out.2]))
              go_ret
              exact ⟨by rw [HE.out]; rfl, hnx2⟩
            · have HN : Hid (∀ j y, j < k + 1 → ys[j]? = some y → inR y 1 (3 * f + 1) = true) := fun j y h1 e1 => by
                by_cases q : j = k
                · subst q
                  rw [HX.out.1] at e1
                  cases e1
                  exact HX.out.2
                · exact HK0.out j y (by omega) e1
              go_wp2_with (first | (go_at_call 27; refine (cin_c _ _ _ _).mono ?_; rintro e w' ⟨rfl, rfl⟩; rw [HX.out.2]))
              exact ⟨⟨k + 1, by omega, by go_num, HN.out, hnx2⟩, by simp [intOf]; omega⟩
          · have hltk : ¬ ((k : Int) < (gn : Int)) := by omega
            have HV4 : c = if (gn : Int) < 2 * f + 1 then 7 else (if sgdAll zs x ys = true then 0 else 7) := by
              have : rngAll f ys = true := by
                unfold rngAll
                refine List.all_eq_true.2 (fun y hy => ?_)
                obtain ⟨j, hj, e⟩ := List.mem_iff_getElem.1 hy
                exact HK0.out j y (by have := HZ.out; omega) (by rw [List.getElem?_eq_getElem hj, e])
              rw [HV3.out, this, if_pos rfl]
            clear HV3 HK0 hk
            by_cases hq : (gn : Int) < 2 * f + 1
            · have H7 : Hid (c = 7) := by show c = 7; rw [HV4, if_pos hq]
              clear HV4
              go_wp2
              go_ret
              exact ⟨by rw [H7.out]; rfl, hnx2⟩
            · have HV5 : Hid (c = if sgdAll zs x ys = true then 0 else 7) := by show c = _; rw [HV4, if_neg hq]
              clear HV4
              obtain ⟨U2, hU⟩ : ∃ U, U = wr := ⟨_, rfl⟩
              rw [← hU] at hnx2 c5 ⊢
              clear hU
              go_wp2
              clear c5
              go_loopw [10] (fun i wr => ∃ k : Nat, k ≤ gn ∧ i = .int .i64 (k : Int) ∧ (∀ j y, j < k → ys[j]? = some y → hasSh zs (shOf y x) = true) ∧ Below w.heap.size w wr) (fun i _ => gn - (intOf i).toNat)
              case atStart => exact ⟨0, Nat.zero_le _, rfl, fun j y h => by omega, hnx2⟩
              case round =>
                obtain ⟨i, hi, rfl, hz, hnx3⟩ := hrel
                have HI0 : Hid (∀ j y, j < i → ys[j]? = some y → hasSh zs (shOf y x) = true) := hz
                clear hz
                have hK := HC.out.below hnx3
                have c5 := hK.sl
                by_cases hlt : i < gn
                · obtain ⟨b, off, p, rfl, hp, hpa, hbl⟩ := HC.out.row.at hlt
                  have hlti : (i : Int) < (gn : Int) := by omega
                  have hi0 : (0 : Int) ≤ (i : Int) := by omega
                  have c0 := (hnx3.cell (p := ⟨b, off + i, none⟩) hbl).trans hpa
                  obtain ⟨z0, z1, z2, z3, z4⟩ := hK.st
                  simp only [Nat.zero_add] at z0 z1 z2 z3 z4
                  have hbw : b < wr.heap.size := Nat.lt_of_lt_of_le hbl hnx3.size
                  have hcw : cb < wr.heap.size := Nat.lt_of_lt_of_le hcl hnx3.size
                  obtain ⟨t, ht⟩ : ∃ t, hasSh zs (shOf p x) = t := ⟨_, rfl⟩
                  have HX : Hid (ys[i]? = some p ∧ hasSh zs (shOf p x) = t) := ⟨hp, ht⟩
                  have HQ : Hid (∀ w2 : World, KC wr w2 → Calls Try.prog 54 #[.slice a n cap, .agg #[.int .i64 p, .int .i64 x.k, .int .i64 x.e, .int .i64 x.f, .int .i64 x.s, .int .i64 x.n]] w2 fun e w' => e = .returned (.bool t) ∧ Below w2.heap.size w2 w') := fun w2 hb => by
                    have := l9Has_c a n cap zs (shOf p x) w2 hn ((H.out.below hnx3).below hb.2)
                    rw [ht] at this
                    exact this
                  clear hp hpa ht hK
                  go_wp2
                  go_region_held3 (fun w' => KC wr w') (first | exact hS | exact kp_drew _)
                    (first | (go_at_call 54; refine (HQ.out _ (by assumption)).mono ?_; rintro e w' ⟨rfl, hb1⟩; have hS := kp_step (by assumption) hb1))
                  have B1 := hnx3.trans (hS.2.mono hnx3.size)
                  cases t
                  · have H7 : Hid (c = 7) := by
                      show c = 7
                      have : sgdAll zs x ys = false := by
                        cases q : sgdAll zs x ys
                        · rfl
                        · unfold sgdAll at q
                          have := List.all_eq_true.1 q p (List.mem_of_getElem? HX.out.1)
                          rw [HX.out.2] at this
                          cases this
                      rw [HV5.out, this]; rfl
                    go_wp2
                    go_ret
                    exact ⟨by rw [H7.out]; rfl, B1⟩
                  · have HN : Hid (∀ j y, j < i + 1 → ys[j]? = some y → hasSh zs (shOf y x) = true) := fun j y h1 e1 => by
                      by_cases q : j = i
                      · subst q
                        rw [HX.out.1] at e1
                        cases e1
                        exact HX.out.2
                      · exact HI0.out j y (by omega) e1
                    go_wp2
                    exact ⟨⟨i + 1, by omega, by go_num, HN.out, B1⟩, by simp [intOf]; omega⟩
                · have hlti : ¬ ((i : Int) < (gn : Int)) := by omega
                  have H0 : Hid (c = 0) := by
                    show c = 0
                    have : sgdAll zs x ys = true := by
                      unfold sgdAll
                      refine List.all_eq_true.2 (fun y hy => ?_)
                      obtain ⟨j, hj, e⟩ := List.mem_iff_getElem.1 hy
                      exact HI0.out j y (by have := HZ.out; omega) (by rw [List.getElem?_eq_getElem hj, e])
                    rw [HV5.out, this]; rfl
                  go_wp2
                  go_ret
                  exact ⟨by rw [H0.out]; rfl, hnx3⟩
  · have sb : (s != 0) = true := by simp [s0]
    have HE : Hid (c = s) := by show c = s; rw [HV.out]; unfold vfL; rw [hs, if_neg s0]
    clear hs s0 HV
    have hST := HC.out.st
    go_enter Try.func57, Try.ntmps57
    go_wp2_with (first | (go_at_call 30; refine (l7Fault_c _ _ x _ hST).mono ?_; rintro e w' ⟨rfl, rfl⟩; rw [HSC.out]))
    go_ret
    exact ⟨by rw [HE.out]; rfl, Below.refl _ _⟩

end Go.Proofs.Ythogdfnaojijhaa
