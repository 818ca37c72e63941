/- Contracts. -/
import Derived.Test.YtfkajnenniapaaaGreatPt30
import Derived.Test.YtfkajnenniapaaaGreatPt33
namespace Go.Proofs.YtfkajnenniapaaaGreat
set_option maxRecDepth 100000
set_option maxHeartbeats 8000000
open Go.RowKit
set_option linter.unusedVariables false
set_option linter.unusedSimpArgs false

def stC (cs : List ConfI) (zs : List ShI) (f : Int) (p : Nat) (x : StI) (ys : List Int) : Int := if vfL f zs x ys = 0 then (if x.k ≠ 3 then 1 else if x.e ≠ eAt cs p then 10 else nfC cs x.e x.n) else vfL f zs x ys
def toC (cs : List ConfI) (zs : List ShI) (f : Int) (p : Nat) (x : StI) (ys : List Int) : Int := if vfL f zs x ys = 0 then (if x.k ≠ 3 then 0 else if x.e ≠ eAt cs p then 0 else x.n) else 0
def chS (cs : List ConfI) (zs : List ShI) (f : Int) (ch : List (StI × List Int)) : Nat → Int × List Nat
 | 0 => (0, [0])
 | k + 1 => if (chS cs zs f ch k).1 = 0 then (match ch[k]? with
  | none => chS cs zs f ch k
  | some q => if stC cs zs f (lastP (chS cs zs f ch k).2) q.1 q.2 = 0 then (0, (chS cs zs f ch k).2 ++ [q.1.n.toNat]) else (stC cs zs f (lastP (chS cs zs f ch k).2) q.1 q.2, (chS cs zs f ch k).2)) else chS cs zs f ch k
theorem stC_zero {cs : List ConfI} {zs : List ShI} {f : Int} {p : Nat} {x : StI} {ys : List Int} (h : stC cs zs f p x ys = 0) : 0 ≤ x.n ∧ x.n.toNat < cs.length ∧ toC cs zs f p x ys = x.n := by
 unfold stC at h
 unfold toC
 by_cases q : vfL f zs x ys = 0
 ·rw [if_pos q] at h ⊢
  by_cases q1 : x.k ≠ 3
  ·rw [if_pos q1] at h; omega
  ·rw [if_neg q1] at h ⊢
   by_cases q2 : x.e ≠ eAt cs p
   ·rw [if_pos q2] at h; omega
   ·rw [if_neg q2] at h ⊢
    unfold nfC at h
    by_cases q3 : x.n < 0 ∨ (cs.length : Int) ≤ x.n
    ·rw [if_pos q3] at h; omega
    ·exact ⟨by omega, by omega, rfl⟩
 ·rw [if_neg q] at h; exact absurd h q
theorem chS_stay {cs : List ConfI} {zs : List ShI} {f : Int} {ch : List (StI × List Int)} {k : Nat} (h : (chS cs zs f ch k).1 ≠ 0) : ∀ m, k ≤ m → chS cs zs f ch m = chS cs zs f ch k := by
 intro m hm
 induction m with
 | zero => rw [show k = 0 by omega]
 | succ m ih =>
  by_cases q : k = m + 1
  ·rw [q]
  ·have e := ih (by omega)
   rw [chS, if_neg (by rw [e]; exact h)]
   exact e
theorem chS_ok {cs : List ConfI} {zs : List ShI} {f : Int} {ch : List (StI × List Int)} {k : Nat} {q : StI × List Int} (h : (chS cs zs f ch k).1 = 0) (hq : ch[k]? = some q) (hs : stC cs zs f (lastP (chS cs zs f ch k).2) q.1 q.2 = 0) : chS cs zs f ch (k + 1) = (0, (chS cs zs f ch k).2 ++ [q.1.n.toNat]) := by
 rw [chS, if_pos h, hq]
 simp only
 rw [if_pos hs]
theorem chS_bad {cs : List ConfI} {zs : List ShI} {f : Int} {ch : List (StI × List Int)} {k : Nat} {q : StI × List Int} (h : (chS cs zs f ch k).1 = 0) (hq : ch[k]? = some q) (hs : stC cs zs f (lastP (chS cs zs f ch k).2) q.1 q.2 ≠ 0) : chS cs zs f ch (k + 1) = (stC cs zs f (lastP (chS cs zs f ch k).2) q.1 q.2, (chS cs zs f ch k).2) := by
 rw [chS, if_pos h, hq]
 simp only
 rw [if_neg hs]
theorem chS_len {cs : List ConfI} {zs : List ShI} {f : Int} {ch : List (StI × List Int)} (h0 : 0 < cs.length) : ∀ k, k ≤ ch.length → (chS cs zs f ch k).1 = 0 → (chS cs zs f ch k).2.length = k + 1 ∧ ∃ p, (chS cs zs f ch k).2[k]? = some p ∧ p < cs.length ∧ lastP (chS cs zs f ch k).2 = p
 | 0, _, _ => ⟨rfl, 0, rfl, h0, rfl⟩
 | k + 1, hk, h => by
  have hq := List.getElem?_eq_getElem (l := ch) (i := k) (by omega)
  by_cases hz : (chS cs zs f ch k).1 = 0
  ·obtain ⟨hl, _⟩ := chS_len h0 k (by omega) hz
   by_cases hs : stC cs zs f (lastP (chS cs zs f ch k).2) (ch[k]'(by omega)).1 (ch[k]'(by omega)).2 = 0
   ·rw [chS_ok hz hq hs]
    refine ⟨by simp [hl], _, ?_, (stC_zero hs).2.1, last_app _ _⟩
    rw [List.getElem?_append_right (by omega), hl]
    simp
   ·rw [chS_bad hz hq hs] at h
    exact absurd h hs
  ·rw [chS, if_neg hz] at h
   exact absurd h hz
structure CrO (w : World) (b o : Nat) (x : StI) (ga : Option Addr) (gn gc : Nat) (ys : List Int) : Prop where
 st : StAt w b o x
 sl : w.cell? ⟨b, o + 5, none⟩ = some (.slice ga gn gc)
 row : IntIn w ga gn ys
theorem CrO.lt {w : World} {b o : Nat} {x : StI} {ga : Option Addr} {gn gc : Nat} {ys : List Int} (h : CrO w b o x ga gn gc ys) : b < w.heap.size := zL w ⟨b, o + 5, none⟩ h.sl
theorem CrO.below {w w' : World} {b o : Nat} {x : StI} {ga : Option Addr} {gn gc : Nat} {ys : List Int} (h : CrO w b o x ga gn gc ys) (hb : Below w.heap.size w w') : CrO w' b o x ga gn gc ys :=
 ⟨h.st.below hb h.lt, (hb.cell (p := ⟨b, o + 5, none⟩) h.lt).trans h.sl, h.row.below hb⟩
theorem l9VerifyO_c (a : Option Addr) (n cap : Nat) (zs : List ShI) (f : Int) (cb o : Nat) (x : StI) (ga : Option Addr) (gn gc : Nat) (ys : List Int) (w : World) (hn : n ≤ 1048576) (hgn : gn ≤ 1048576) (hf : inR f 1 2 = true) (h : ShIn w a n zs) (hc : CrO w cb o x ga gn gc ys) :
  Calls Tryz.prog 81 #[.slice a n cap, .int .i64 f, .pointer (some ⟨cb, o, none⟩)] w fun e w' => e = .returned (.int .i64 (vfL f zs x ys)) ∧ Below w.heap.size w w' := by
 have H : Hid (ShIn w a n zs) := h
 have HC : Hid (CrO w cb o x ga gn gc ys) := hc
 have HZ : Hid (ys.length = gn) := hc.row.1
 have hn' : (n : Int) ≤ 1048576 := by omega
 have hgn' : (gn : Int) ≤ 1048576 := by omega
 obtain ⟨hf1, hf2⟩ := (inR_iff f 1 2).1 hf
 obtain ⟨c, hcc⟩ : ∃ c, c = vfL f zs x ys := ⟨_, rfl⟩
 rw [← hcc]
 have HV : Hid (c = vfL f zs x ys) := hcc
 obtain ⟨s, hs⟩ : ∃ s, stCode x = s := ⟨_, rfl⟩
 have HSC : Hid (stCode x = s) := hs
 have hcl := hc.lt
 clear h hc hf hcc
 by_cases s0 : s = 0
 ·have sb : (s != 0) = false := by simp [s0]
  have HV2 : Hid (c = if sfCode f ys = 0 then (if sgdAll zs x ys = true then 0 else 7) else sfCode f ys) := by show c = _; rw [HV.out]; unfold vfL; rw [hs, if_pos s0]
  clear hs s0 HV
  have hST := HC.out.st
  go_enter Tryz.func81, Tryz.ntmps81
  go_wp2_with (first | (go_at_call 83; refine (l7Fault_c _ _ x _ hST).mono ?_; rintro e w' ⟨rfl, rfl⟩; rw [HSC.out]))
  clear hST
  go_loopw [8] (fun i wr => ∃ m : Nat, 1 ≤ m ∧ (m ≤ gn ∨ m = 1) ∧ i = .int .i64 (m : Int) ∧ (∀ j x y, 1 ≤ j → j < m → ys[j - 1]? = some x → ys[j]? = some y → x < y) ∧ Below w.heap.size w wr) (fun i _ => gn + 1 - (intOf i).toNat)
  case atStart => exact ⟨1, Nat.le_refl _, .inr rfl, rfl, fun j x y h1 h2 => by omega, Below.refl _ _⟩
  case round =>
   obtain ⟨m, hm1, hmn, rfl, hr, hnx⟩ := hrel
   have HR : Hid (∀ j x y, 1 ≤ j → j < m → ys[j - 1]? = some x → ys[j]? = some y → x < y) := hr
   clear hr
   have c5 := (HC.out.below hnx).sl
   by_cases hlt : m < gn
   ·obtain ⟨k, hk⟩ : ∃ k, k + 1 = m := ⟨m - 1, by omega⟩
    obtain ⟨b, off, p, rfl, hp, hpa, hbl⟩ := HC.out.row.at (show k < gn by omega)
    obtain ⟨b', off', y, e', hy, hya, _⟩ := HC.out.row.at hlt
    cases e'
    have c0 := (hnx.cell (p := ⟨b, off + k, none⟩) hbl).trans hpa
    have c1 := (hnx.cell (p := ⟨b, off + m, none⟩) hbl).trans hya
    have hbw : b < wr.heap.size := Nat.lt_of_lt_of_le hbl hnx.size
    have hcw : cb < wr.heap.size := Nat.lt_of_lt_of_le hcl hnx.size
    have hlt' : (m : Int) < (gn : Int) := by omega
    have hm0 : (0 : Int) ≤ (m : Int) := by omega
    have hk0 : (0 : Int) ≤ (k : Int) := by omega
    have hkn : (k : Int) < (gn : Int) := by omega
    have hwr : IntKind.i64.wrap ((m : Int) - 1) = (k : Int) := by rw [IntKind.wrap_i64]; omega
    have HX : Hid (ys[m - 1]? = some p ∧ ys[m]? = some y) := ⟨by rw [show m - 1 = k by omega]; exact hp, hy⟩
    clear hp hy hpa hya hk hmn
    by_cases hxy : p < y
    ·have HN : Hid (∀ j x y, 1 ≤ j → j < m + 1 → ys[j - 1]? = some x → ys[j]? = some y → x < y) := fun j x' y' h1 h2 e1 e2 => by
      by_cases q : j = m
      ·subst q
       rw [HX.out.1] at e1
       rw [HX.out.2] at e2
       cases e1; cases e2; exact hxy
      ·exact HR.out j x' y' h1 (by omega) e1 e2
     have hle : ¬ (y ≤ p) := by omega
     go_wp2
     go_quiet (fail)
     go_wp2
     exact ⟨⟨m + 1, by omega, .inl (by omega), by go_num, HN.out, below_drewN hnx _⟩, by simp [intOf]; omega⟩
    ·have H1 : Hid (c = 1) := by
      have : riseB ys = false := by unfold riseB; exact decide_eq_false (rise_not (k := m) HX.out.1 HX.out.2 (by omega) hxy)
      show c = 1
      rw [HV2.out]
      have e : sfCode f ys = 1 := by unfold sfCode; rw [if_neg (by rw [this]; simp)]
      rw [e]; rfl
     have hle : y ≤ p := by omega
     clear hxy
     go_wp2
     go_quiet (fail)
     go_wp2
     go_ret
     exact ⟨by rw [H1.out]; rfl, below_drewN hnx _⟩
   ·have hlt' : ¬ ((m : Int) < (gn : Int)) := by omega
    have HRB : Hid (riseB ys = true) := by
     show riseB ys = true
     unfold riseB
     exact decide_eq_true (rise_next HZ.out (fun j x y h1 h2 e1 e2 => HR.out j x y h1 (by omega) e1 e2))
    have HV3 : Hid (c = if rngAll f ys = true then (if (gn : Int) < 2 * f + 1 then 7 else (if sgdAll zs x ys = true then 0 else 7)) else 3) := by
     show c = _
     rw [HV2.out]
     unfold sfCode
     rw [if_pos HRB.out, HZ.out]
     cases rngAll f ys
     ·simp
     ·by_cases q : (gn : Int) < 2 * f + 1
      ·simp [q]
      ·simp [q]
    clear HV2 HRB HR hm1 hmn
    obtain ⟨U, hU⟩ : ∃ U, U = wr := ⟨_, rfl⟩
    rw [← hU] at hnx c5 ⊢
    clear hU
    go_wp2
    clear c5
    go_loopw [9] (fun i wr => ∃ k : Nat, k ≤ gn ∧ i = .int .i64 (k : Int) ∧ (∀ j y, j < k → ys[j]? = some y → inR y 1 (3 * f + 1) = true) ∧ Below w.heap.size w wr) (fun i _ => gn - (intOf i).toNat)
    case atStart => exact ⟨0, Nat.zero_le _, rfl, fun j y h => by omega, hnx⟩
    case round =>
     obtain ⟨k, hk, rfl, hz, hnx2⟩ := hrel
     have HK0 : Hid (∀ j y, j < k → ys[j]? = some y → inR y 1 (3 * f + 1) = true) := hz
     clear hz
     have c5 := (HC.out.below hnx2).sl
     by_cases hlt : k < gn
     ·obtain ⟨b, off, p, rfl, hp, hpa, hbl⟩ := HC.out.row.at hlt
      have hltk : (k : Int) < (gn : Int) := by omega
      have c0 := (hnx2.cell (p := ⟨b, off + k, none⟩) hbl).trans hpa
      obtain ⟨t, ht⟩ : ∃ t, inR p 1 (3 * f + 1) = t := ⟨_, rfl⟩
      have HX : Hid (ys[k]? = some p ∧ inR p 1 (3 * f + 1) = t) := ⟨hp, ht⟩
      clear hp hpa ht
      cases t
      ·have HE : Hid (c = 3) := by
        show c = 3
        have : rngAll f ys = false := by
         cases q : rngAll f ys
         ·rfl
         ·unfold rngAll at q
          have := List.all_eq_true.1 q p (List.mem_of_getElem? HX.out.1)
          rw [HX.out.2] at this
          cases this
        rw [HV3.out, this]; rfl
       go_wp2_with (first | (go_at_call 56; refine (cin_c _ _ _ _).mono ?_; rintro e w' ⟨rfl, rfl⟩; rw [HX.out.2]))
       go_ret
       exact ⟨by rw [HE.out]; rfl, hnx2⟩
      ·have HN : Hid (∀ j y, j < k + 1 → ys[j]? = some y → inR y 1 (3 * f + 1) = true) := fun j y h1 e1 => by
        by_cases q : j = k
        ·subst q
         rw [HX.out.1] at e1
         cases e1
         exact HX.out.2
        ·exact HK0.out j y (by omega) e1
       go_wp2_with (first | (go_at_call 56; refine (cin_c _ _ _ _).mono ?_; rintro e w' ⟨rfl, rfl⟩; rw [HX.out.2]))
       exact ⟨⟨k + 1, by omega, by go_num, HN.out, hnx2⟩, by simp [intOf]; omega⟩
     ·have hltk : ¬ ((k : Int) < (gn : Int)) := by omega
      have HV4 : c = if (gn : Int) < 2 * f + 1 then 7 else (if sgdAll zs x ys = true then 0 else 7) := by
       have : rngAll f ys = true := by
        unfold rngAll
        refine List.all_eq_true.2 (fun y hy => ?_)
        obtain ⟨j, hj, e⟩ := List.mem_iff_getElem.1 hy
        exact HK0.out j y (by have := HZ.out; omega) (by rw [List.getElem?_eq_getElem hj, e])
       rw [HV3.out, this, if_pos rfl]
      clear HV3 HK0 hk
      by_cases hq : (gn : Int) < 2 * f + 1
      ·have H7 : Hid (c = 7) := by show c = 7; rw [HV4, if_pos hq]
       clear HV4
       go_wp2
       go_ret
       exact ⟨by rw [H7.out]; rfl, hnx2⟩
      ·have HV5 : Hid (c = if sgdAll zs x ys = true then 0 else 7) := by show c = _; rw [HV4, if_neg hq]
       clear HV4
       obtain ⟨U2, hU⟩ : ∃ U, U = wr := ⟨_, rfl⟩
       rw [← hU] at hnx2 c5 ⊢
       clear hU
       go_wp2
       clear c5
       go_loopw [10] (fun i wr => ∃ k : Nat, k ≤ gn ∧ i = .int .i64 (k : Int) ∧ (∀ j y, j < k → ys[j]? = some y → hasSh zs (shOf y x) = true) ∧ Below w.heap.size w wr) (fun i _ => gn - (intOf i).toNat)
       case atStart => exact ⟨0, Nat.zero_le _, rfl, fun j y h => by omega, hnx2⟩
       case round =>
        obtain ⟨i, hi, rfl, hz, hnx3⟩ := hrel
        have HI0 : Hid (∀ j y, j < i → ys[j]? = some y → hasSh zs (shOf y x) = true) := hz
        clear hz
        have hK := HC.out.below hnx3
        have c5 := hK.sl
        by_cases hlt : i < gn
        ·obtain ⟨b, off, p, rfl, hp, hpa, hbl⟩ := HC.out.row.at hlt
         have hlti : (i : Int) < (gn : Int) := by omega
         have hi0 : (0 : Int) ≤ (i : Int) := by omega
         have c0 := (hnx3.cell (p := ⟨b, off + i, none⟩) hbl).trans hpa
         obtain ⟨z0, z1, z2, z3, z4⟩ := hK.st
         try simp only [Nat.zero_add] at z0 z1 z2 z3 z4
         have hbw : b < wr.heap.size := Nat.lt_of_lt_of_le hbl hnx3.size
         have hcw : cb < wr.heap.size := Nat.lt_of_lt_of_le hcl hnx3.size
         obtain ⟨t, ht⟩ : ∃ t, hasSh zs (shOf p x) = t := ⟨_, rfl⟩
         have HX : Hid (ys[i]? = some p ∧ hasSh zs (shOf p x) = t) := ⟨hp, ht⟩
         have HQ : Hid (∀ w2 : World, KC wr w2 → Calls Tryz.prog 90 #[.slice a n cap, .agg #[.int .i64 p, .int .i64 x.k, .int .i64 x.e, .int .i64 x.f, .int .i64 x.s, .int .i64 x.n]] w2 fun e w' => e = .returned (.bool t) ∧ Below w2.heap.size w2 w') := fun w2 hb => by
          have := l9Has_c a n cap zs (shOf p x) w2 hn ((H.out.below hnx3).below hb.2)
          rw [ht] at this
          exact this
         clear hp hpa ht hK
         go_wp2
         go_region_held3 (fun w' => KC wr w') (first | exact hS | exact kp_drew _)
          (first | (go_at_call 90; refine (HQ.out _ (by assumption)).mono ?_; rintro e w' ⟨rfl, hb1⟩; have hS := kp_step (by assumption) hb1))
         have B1 := hnx3.trans (hS.2.mono hnx3.size)
         cases t
         ·have H7 : Hid (c = 7) := by
           show c = 7
           have : sgdAll zs x ys = false := by
            cases q : sgdAll zs x ys
            ·rfl
            ·unfold sgdAll at q
             have := List.all_eq_true.1 q p (List.mem_of_getElem? HX.out.1)
             rw [HX.out.2] at this
             cases this
           rw [HV5.out, this]; rfl
          go_wp2
          go_ret
          exact ⟨by rw [H7.out]; rfl, B1⟩
         ·have HN : Hid (∀ j y, j < i + 1 → ys[j]? = some y → hasSh zs (shOf y x) = true) := fun j y h1 e1 => by
           by_cases q : j = i
           ·subst q
            rw [HX.out.1] at e1
            cases e1
            exact HX.out.2
           ·exact HI0.out j y (by omega) e1
          go_wp2
          exact ⟨⟨i + 1, by omega, by go_num, HN.out, B1⟩, by simp [intOf]; omega⟩
        ·have hlti : ¬ ((i : Int) < (gn : Int)) := by omega
         have H0 : Hid (c = 0) := by
          show c = 0
          have : sgdAll zs x ys = true := by
           unfold sgdAll
           refine List.all_eq_true.2 (fun y hy => ?_)
           obtain ⟨j, hj, e⟩ := List.mem_iff_getElem.1 hy
           exact HI0.out j y (by have := HZ.out; omega) (by rw [List.getElem?_eq_getElem hj, e])
          rw [HV5.out, this]; rfl
         go_wp2
         go_ret
         exact ⟨by rw [H0.out]; rfl, hnx3⟩
 ·have sb : (s != 0) = true := by simp [s0]
  have HE : Hid (c = s) := by show c = s; rw [HV.out]; unfold vfL; rw [hs, if_neg s0]
  clear hs s0 HV
  have hST := HC.out.st
  go_enter Tryz.func81, Tryz.ntmps81
  go_wp2_with (first | (go_at_call 83; refine (l7Fault_c _ _ x _ hST).mono ?_; rintro e w' ⟨rfl, rfl⟩; rw [HSC.out]))
  go_ret
  exact ⟨by rw [HE.out]; rfl, Below.refl _ _⟩
theorem st_bounds0 {x : StI} (h : stCode x = 0) : (1 ≤ x.e ∧ x.e ≤ 9) ∧ 0 ≤ x.n := by
 unfold stCode at h
 split at h
 ·omega
 ·split at h
  ·omega
  ·split at h
   ·omega
   ·rename_i q1 q2 q3
    simp only [Bool.not_eq_false] at q1 q2 q3
    have h1 := of_decide_eq_true q2
    unfold rngB at q3
    unfold ownI at h1
    split at q3
    ·cases q3
    ·rename_i q4
     simp only [Bool.not_eq_false] at q4
     refine ⟨(inR_iff _ _ _).1 q4, ?_⟩
     split at q3
     ·rename_i q5
      rw [if_pos q5] at h1
      rw [h1]
      exact Int.le_refl 0
     ·exact ((inR_iff _ _ _).1 q3).1
theorem vfL_st {f : Int} {zs : List ShI} {x : StI} {ys : List Int} (h : vfL f zs x ys = 0) : stCode x = 0 := by
 unfold vfL at h
 by_cases q : stCode x = 0
 ·exact q
 ·rw [if_neg q] at h; exact h
theorem l12Step_c (a : Option Addr) (n cap : Nat) (cs : List ConfI) (b : Option Addr) (m cap' : Nat) (zs : List ShI) (p : Nat) (cb o : Nat) (c : CrI) (w : World) (hk : akCode cs zs = 0) (h : ConfsIn w a n cs) (hm : m ≤ 1048576) (h' : ShIn w b m zs) (hp : p < n) (hgn : c.gn ≤ 1048576) (hc : CrO w cb o c.st c.ga c.gn c.gc c.zs) :
  Calls Tryz.prog 51 #[.slice a n cap, .slice b m cap', .int .i64 (p : Int), .pointer (some ⟨cb, o, none⟩)] w fun d w' => d = .returned (.tuple #[.int .i64 (if stC cs zs (fOf cs) p c.st c.zs = 0 then c.n else 0), .int .i64 (stC cs zs (fOf cs) p c.st c.zs)]) ∧ Below w.heap.size w w' := by
 have HLN : Hid (cs.length = n) := h.len
 have HEO : Hid (∀ p, p < n → 1 ≤ eAt cs p ∧ eAt cs p ≤ 9) := fun p hp => e_of (ak_ok hk).1 (by rw [h.len]; exact hp)
 obtain ⟨hk1, hk2⟩ := ak_ok hk
 obtain ⟨hn1, hn8, -⟩ := cfs_ok hk1
 rw [h.len] at hn1 hn8
 obtain ⟨hf0, -, -⟩ := sh_ok hk2
 obtain ⟨b0, off0, cc0, ea, hcc0, hc0a, -⟩ := h.at (k := 0) (by omega)
 subst ea
 rw [Nat.zero_mul, Nat.add_zero] at hc0a
 obtain ⟨f, hfe⟩ : ∃ f, fOf cs = f := ⟨_, rfl⟩
 have hcf : cc0.f = f := by rw [← hfe]; unfold fOf; rw [hcc0]; rfl
 rw [hfe] at hf0 ⊢
 obtain ⟨_, z1, -⟩ := hc0a
 rw [hcf] at z1
 have hl0 := zL w _ z1
 obtain ⟨e, hee⟩ : ∃ e, eAt cs p = e := ⟨_, rfl⟩
 have HEE : Hid (eAt cs p = e) := hee
 obtain ⟨_, _, cp, ecp, hcpe, hcpa, -⟩ := h.at hp
 cases ecp
 have hcpe2 : cp.e = e := by rw [← hee]; unfold eAt; rw [hcpe]; rfl
 have HPA := hidX hcpa
 have HC := hidX h
 have HCR := hidX hc
 obtain ⟨v, hv⟩ : ∃ v, vfL f zs c.st c.zs = v := ⟨_, rfl⟩
 have HV := l9VerifyO_c b m cap' zs f cb o c.st c.ga c.gn c.gc c.zs w hm hgn hf0 h' hc
 rw [hv] at HV
 have HV := hidX HV
 have hnp : 0 < n := hn1
 have hn0 : (0 : Int) < (n : Int) := by omega
 have hp' : (p : Int) < (n : Int) := by omega
 obtain ⟨r, hr⟩ : ∃ r, stC cs zs f p c.st c.zs = r := ⟨_, rfl⟩
 have HR : Hid (r = if v = 0 then (if c.k ≠ 3 then 1 else if c.e ≠ e then 10 else nfC cs c.e c.n) else v) := by show r = _; rw [← hr, ← hv, ← hee]; rfl
 obtain ⟨t, ht⟩ : ∃ t, (if stC cs zs f p c.st c.zs = 0 then c.n else 0) = t := ⟨_, rfl⟩
 have HT : Hid (t = if r = 0 then c.n else 0) := by show t = _; rw [← ht, hr]
 rw [ht, hr]
 have HNN : Hid (v = 0 → 0 ≤ c.n) := fun q => by
  rw [q] at hv
  exact (st_bounds0 (vfL_st hv)).2
 clear hv hr ht hee hcpe hcpa hcc0 hk hk1 hk2 hf0 h h' hcf hfe
 by_cases v0 : v = 0
 ·subst v0
  have hnn := HNN.out rfl
  go_enter Tryz.func51, Tryz.ntmps51
  go_wp2_with fail
  refine HV.out.mono ?_
  rintro d w1 ⟨rfl, hb1⟩
  have HB1 := hidX hb1
  obtain ⟨⟨s0, s1, s2, s3, s4⟩, -, -⟩ := HCR.out.below hb1
  have hcl := zL w1 _ s0
  obtain ⟨V, hV⟩ : ∃ V, V = w1.alloc (.cells #[.int .i64 c.k, .int .i64 c.e, .int .i64 c.f, .int .i64 c.s, .int .i64 c.n] 54) := ⟨_, rfl⟩
  have BV : Below w1.heap.size w1 V := by rw [hV]; exact zN
  have HX : Hid (BoxV w1.heap.size [.int .i64 c.k, .int .i64 c.e, .int .i64 c.f, .int .i64 c.s, .int .i64 c.n] V) := by rw [hV]; exact (boxV_new w1 _ _).out
  have hXl : w1.heap.size < V.heap.size := by rw [hV]; simp
  have HBV : Hid (Below w.heap.size w V) := HB1.out.trans (BV.mono HB1.out.size)
  clear hb1 BV
  go_upto_region 5 with fail
  rw [← hV]
  clear hV s0 s1 s2 s3 s4 hcl z1 hl0
  generalize w1.heap.size = Sb at HX hXl ⊢
  have x0 := HX.out 0 _ rfl
  have x1 := HX.out 1 _ rfl
  have x4 := HX.out 4 _ rfl
  by_cases k3 : c.k = 3
  ·have kb : (c.k != 3) = false := by simp [k3]
   obtain ⟨y0, -⟩ := HPA.out.below HBV.out
   rw [hcpe2] at y0
   have hyl := zL V _ y0
   by_cases ke : c.e = e
   ·have eb : (c.e != e) = false := by simp [ke]
    by_cases hge : (n : Int) ≤ c.n
    ·have hgb : decide (c.n ≥ (n : Int)) = true := by simp; omega
     have HRR : Hid (r = 3 ∧ t = 0) := by
      have : r = 3 := by rw [HR.out, if_pos trivial, if_neg (by simp [k3]), if_neg (by simp [ke])]; unfold nfC; rw [if_pos (.inr (by rw [HLN.out]; exact hge))]
      exact ⟨this, by rw [HT.out, if_neg (by rw [this]; omega)]⟩
     clear k3 ke
     go_wp2_with fail
     go_quiet (fail)
     go_wp2_with fail
     refine bodyPost_ret (v := .tuple #[.int .i64 0, .int .i64 3]) (by simp [results, Tryz.results51, go_sem]) rfl ?_
     exact ⟨by rw [HRR.out.1, HRR.out.2], by first | exact below_drewN HBV.out _ | exact below_drewN (below_drewN HBV.out _) _⟩
    ·have hgb : decide (c.n ≥ (n : Int)) = false := by simp; omega
     obtain ⟨i, hin⟩ : ∃ i : Nat, c.n = (i : Int) := Int.eq_ofNat_of_zero_le hnn
     have hi : i < n := by omega
     obtain ⟨_, _, ci, eci, hci, hcia, -⟩ := HC.out.at hi
     cases eci
     obtain ⟨u0, -⟩ := hcia.below HBV.out
     have hi' : (i : Int) < (n : Int) := by omega
     rw [hin] at x4 hgb
     have HNF : Hid (nfC cs c.e c.n = if ci.e = c.e + 1 then 0 else 10) := by
      show _ = _
      unfold nfC
      rw [if_neg (by rw [HLN.out]; omega), hin, Int.toNat_natCast, hci]
      by_cases q : ci.e = c.e + 1
      ·rw [if_pos q, if_neg (by simp [q])]
      ·rw [if_neg q, if_pos (by simpa using q)]
     obtain ⟨he1, he9⟩ : 1 ≤ c.e ∧ c.e ≤ 9 := by
      have := HEE.out
      rw [ke, ← this]
      exact HEO.out p hp
     have hwe : IntKind.i64.wrap (c.e + 1) = c.e + 1 := by rw [IntKind.wrap_i64]; omega
     have hul := zL V _ u0
     by_cases kn : ci.e = c.e + 1
     ·have nb : (ci.e != c.e + 1) = false := by simp [kn]
      have HRR : Hid (r = 0 ∧ t = (i : Int)) := by
       have : r = 0 := by rw [HR.out, if_pos trivial, if_neg (by simp [k3]), if_neg (by simp [ke]), HNF.out, if_pos kn]
       exact ⟨this, by rw [HT.out, if_pos this, hin]⟩
      clear k3 ke kn hci hcia hin
      go_wp2_with fail
      go_quiet (fail)
      go_wp2_with fail
      go_quiet (fail)
      go_wp2_with fail
      refine bodyPost_ret (v := .tuple #[.int .i64 (i : Int), .int .i64 0]) (by simp [results, Tryz.results51, go_sem]) rfl ?_
      exact ⟨by rw [HRR.out.1, HRR.out.2], by first | exact below_drewN HBV.out _ | exact below_drewN (below_drewN HBV.out _) _⟩
     ·have nb : (ci.e != c.e + 1) = true := by simp [kn]
      have HRR : Hid (r = 10 ∧ t = 0) := by
       have : r = 10 := by rw [HR.out, if_pos trivial, if_neg (by simp [k3]), if_neg (by simp [ke]), HNF.out, if_neg kn]
       exact ⟨this, by rw [HT.out, if_neg (by rw [this]; omega)]⟩
      clear k3 ke kn hci hcia hin
      go_wp2_with fail
      go_quiet (fail)
      go_wp2_with fail
      go_quiet (fail)
      go_wp2_with fail
      refine bodyPost_ret (v := .tuple #[.int .i64 0, .int .i64 10]) (by simp [results, Tryz.results51, go_sem]) rfl ?_
      exact ⟨by rw [HRR.out.1, HRR.out.2], by first | exact below_drewN HBV.out _ | exact below_drewN (below_drewN HBV.out _) _⟩
   ·have eb : (c.e != e) = true := by simp [ke]
    have HRR : Hid (r = 10 ∧ t = 0) := by
     have : r = 10 := by rw [HR.out, if_pos trivial, if_neg (by simp [k3]), if_pos ke]
     exact ⟨this, by rw [HT.out, if_neg (by rw [this]; omega)]⟩
    clear k3 ke
    go_wp2_with fail
    go_quiet (fail)
    go_wp2_with fail
    refine bodyPost_ret (v := .tuple #[.int .i64 0, .int .i64 10]) (by simp [results, Tryz.results51, go_sem]) rfl ?_
    exact ⟨by rw [HRR.out.1, HRR.out.2], by first | exact below_drewN HBV.out _ | exact below_drewN (below_drewN HBV.out _) _⟩
  ·have kb : (c.k != 3) = true := by simp [k3]
   have HRR : Hid (r = 1 ∧ t = 0) := by
    have : r = 1 := by rw [HR.out, if_pos trivial, if_pos k3]
    exact ⟨this, by rw [HT.out, if_neg (by rw [this]; omega)]⟩
   clear k3
   go_wp2_with fail
   refine bodyPost_ret (v := .tuple #[.int .i64 0, .int .i64 1]) (by simp [results, Tryz.results51, go_sem]) rfl ?_
   exact ⟨by rw [HRR.out.1, HRR.out.2], HBV.out⟩
 ·have vb : (v != 0) = true := by simp [v0]
  have HRR : Hid (r = v ∧ t = 0) := by
   have : r = v := by rw [HR.out, if_neg v0]
   exact ⟨this, by rw [HT.out, if_neg (by rw [this]; exact v0)]⟩
  clear v0
  go_enter Tryz.func51, Tryz.ntmps51
  go_wp2_with fail
  refine HV.out.mono ?_
  rintro d w1 ⟨rfl, hb1⟩
  go_wp2_with fail
  refine bodyPost_ret (v := .tuple #[.int .i64 0, .int .i64 v]) (by simp [results, Tryz.results51, go_sem]) rfl ?_
  exact ⟨by rw [HRR.out.1, HRR.out.2], hb1⟩

end Go.Proofs.YtfkajnenniapaaaGreat
