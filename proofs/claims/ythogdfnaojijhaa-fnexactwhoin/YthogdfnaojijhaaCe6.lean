/-
  CONTRACTS: VerifyCert of both programs; certificates copied, compared, marked.
  Conditions: each contract bears its own.
-/
import Derived.Test.YthogdfnaojijhaaCe5
import Derived.Test.YthogdfnaojijhaaEx0
import Derived.Test.YthogdfnaojijhaaShM
import Derived.Test.YthogdfnaojijhaaShA
import Derived.Test.YthogdfnaojijhaaList2
namespace Go.Proofs.Ythogdfnaojijhaa
open Go.RowKit Go.Maps
set_option linter.unusedVariables false
set_option linter.unusedSimpArgs false
attribute [local go_sem] fldN0 fldN1

def orS (c d : Int) : Int := if c = 0 then d else c

set_option maxHeartbeats 400000 in
theorem or264_c (g : Nat) (c d : Int) (w : World) (h0 : w.cell? ⟨g, 0, none⟩ = some (.int .i64 c)) (h1 : w.cell? ⟨g, 1, none⟩ = some (.int .i64 d)) :
    Calls Try.prog 67 #[.slice (some ⟨g, 0, none⟩) 2 2] w fun e w' => e = .returned (.int .i64 (orS c d)) ∧ w = w' := by
  go_enter Try.func67, Try.ntmps67
  go_wp2
  go_loop [8] (fun i => ∃ k : Nat, k ≤ 2 ∧ i = .int .i64 (k : Int) ∧ (1 ≤ k → c = 0) ∧ (2 ≤ k → d = 0)) (fun i => 2 - (intOf i).toNat)
  case atStart => exact ⟨0, by omega, rfl, fun h => by omega, fun h => by omega⟩
  case round =>
    obtain ⟨k, hk, rfl, hc, hd⟩ := hrel
    have hk' : k = 0 ∨ k = 1 ∨ k = 2 := by omega
    rcases hk' with rfl | rfl | rfl
    · clear hc hd
      by_cases e : c = 0
      · have b : (c != 0) = false := by simp [e]
        have HE : Hid (c = 0) := e
        clear e
        go_wp2
        exact ⟨⟨1, by omega, by go_num, fun _ => HE.out, fun h => by omega⟩, by simp [intOf]⟩
      · have b : (c != 0) = true := by simp [e]
        go_wp2
        go_ret
        exact ⟨by simp [orS, e], rfl⟩
    · have HC : Hid (c = 0) := hc (by omega)
      clear hc hd
      by_cases e : d = 0
      · have b : (d != 0) = false := by simp [e]
        have HE : Hid (d = 0) := e
        clear e
        go_wp2
        exact ⟨⟨2, by omega, by go_num, fun _ => HC.out, fun _ => HE.out⟩, by simp [intOf]⟩
      · have b : (d != 0) = true := by simp [e]
        go_wp2
        go_ret
        exact ⟨by simp [orS, HC.out], rfl⟩
    · have HC : Hid (c = 0) := hc (by omega)
      have HD : Hid (d = 0) := hd (by omega)
      clear hc hd
      go_wp2
      go_ret
      exact ⟨by simp [orS, HC.out, HD.out], rfl⟩

def GivesVC (fn : Nat) (a : Option Addr) (n cap : Nat) (f : Int) (x : StI) (ga : Option Addr) (gn gc : Nat) (c : Int) (w : World) : Prop := Calls Try.prog fn #[.slice a n cap, .int .i64 f, .agg #[.int .i64 x.k, .int .i64 x.e, .int .i64 x.f, .int .i64 x.s, .int .i64 x.n, .slice ga gn gc]] w fun e w' => e = .returned (.int .i64 c) ∧ Below w.heap.size w w'

theorem crAt_new (w : World) (x : StI) (ga : Option Addr) (gn gc : Nat) (ys : List Int) (t : TypeId) (h : IntIn w ga gn ys) : CrAt (w.alloc (.cells #[.int .i64 x.k, .int .i64 x.e, .int .i64 x.f, .int .i64 x.s, .int .i64 x.n, .slice ga gn gc] t)) w.heap.size x ga gn gc ys := by
  refine ⟨⟨?_, ?_, ?_, ?_, ?_⟩, ?_, h.below ((Below.refl _ _).alloc (Nat.le_refl _) _)⟩ <;> simp

set_option maxRecDepth 20000 in
set_option maxHeartbeats 2000000 in
theorem implVerifyCert_c (a : Option Addr) (n cap : Nat) (zs : List ShI) (f : Int) (x : StI) (ga : Option Addr) (gn gc : Nat) (ys : List Int) (w : World) (hn : n ≤ 1048576) (hcap : n ≤ cap) (hcm : cap ≤ maxLen) (hgn : gn ≤ 1048576) (h : ShIn w a n zs) (hg : IntIn w ga gn ys) : GivesVC 39 a n cap f x ga gn gc (vfCode f zs x ys) w := by
  unfold GivesVC
  obtain ⟨V, hV⟩ : ∃ V, V = w.alloc (.cells #[.int .i64 x.k, .int .i64 x.e, .int .i64 x.f, .int .i64 x.s, .int .i64 x.n, .slice ga gn gc] 53) := ⟨_, rfl⟩
  have BV : Below w.heap.size w V := by rw [hV]; exact (Below.refl _ _).alloc (Nat.le_refl _) _
  have HC : Hid (CrAt V w.heap.size x ga gn gc ys) := by rw [hV]; exact crAt_new w x ga gn gc ys _ hg
  have HS : Hid (ShIn V a n zs) := h.below BV
  have hVl : w.heap.size < V.heap.size := HC.out.lt
  obtain ⟨s, hs⟩ : ∃ s, shCode f zs = s := ⟨_, rfl⟩
  obtain ⟨t, ht⟩ : ∃ t, stCode x = t := ⟨_, rfl⟩
  have HF : Hid (∀ w : World, KC V w → Calls Try.prog 34 #[.slice a n cap, .int .i64 f] w fun e w' => e = .returned (.int .i64 s) ∧ Below w.heap.size w w') := fun w hw => by have := implSharesFault_c a n cap zs f w hn hcap hcm (HS.out.below hw.2); rw [hs] at this; exact this
  have HT : Hid (∀ w : World, Calls Try.prog 35 #[.agg #[.int .i64 x.k, .int .i64 x.e, .int .i64 x.f, .int .i64 x.s, .int .i64 x.n]] w fun e w' => e = .returned (.int .i64 t) ∧ Below w.heap.size w w') := by rw [← ht]; exact implStatementFault_c x
  obtain ⟨c, hc⟩ : ∃ c, c = vfCode f zs x ys := ⟨_, rfl⟩
  rw [← hc]
  have HV : Hid (c = if s = 0 then vfL f zs x ys else s) := by show c = _; rw [hc, vf_eq, hs]
  have HL : Hid (vfL f zs x ys = if t = 0 then (if sfCode f ys = 0 then (if sgdAll zs x ys = true then 0 else 7) else sfCode f ys) else t) := by show _ = _; unfold vfL; rw [ht]
  have HOK : Hid (s = 0 → inR f 1 2 = true ∧ zs.length ≤ 120 ∧ ∀ x ∈ zs, inR x.r 1 (3 * f + 1) = true ∧ stCode x.st = 0) := fun q => sh_ok (hs.trans q)
  have HZ : Hid (zs.length = n ∧ ys.length = gn) := ⟨h.1, hg.1⟩
  obtain ⟨u, hu⟩ : ∃ u, orS s t = u := ⟨_, rfl⟩
  have HU : Hid (orS s t = u) := hu
  obtain ⟨z0, z1, z2, z3, z4⟩ := HC.out.st
  have z5 := HC.out.sl
  simp only [Nat.zero_add] at z0 z1 z2 z3 z4
  clear h hg hs ht hc hu
  go_enter Try.func39, Try.ntmps39
  go_upto_region 1 with fail
  rw [← hV]
  clear hV
  go_region_held3 (fun w' => KC V w') (first | exact hS | exact kp_drew _ | exact kpE_new (by assumption) _ | assumption)
    (first | (go_at_call 34; refine (HF.out _ (by assumption)).mono ?_; rintro e w' ⟨rfl, hb2⟩; have hS := kp_step (by assumption) hb2) | (go_at_call 35; refine (HT.out _).mono ?_; rintro e w' ⟨rfl, hb2⟩; have hS := kp_step (by assumption) hb2) | (go_at_call 67; refine (or264_c _ s t _ ?_ ?_).mono ?_; (· simp [go_sem]); (· simp [go_sem]); rintro e w' ⟨rfl, rfl⟩; rw [HU.out]))
  have hS3 := kpE_new hS (.cells #[.int .i64 s, .int .i64 t] 2)
  generalize w'.alloc (.cells #[.int .i64 s, .int .i64 t] 2) = w3 at hS3 ⊢
  have B3 : Below w.heap.size w w3 := BV.trans (hS3.2.mono BV.size)
  have C3 : Hid (CrAt w3 w.heap.size x ga gn gc ys) := HC.out.below hS3.2
  have S3 : Hid (ShIn w3 a n zs) := HS.out.below hS3.2
  clear hS hS3 z0 z1 z2 z3 z4 z5
  by_cases u0 : u = 0
  · have ub : (u != 0) = false := by simp [u0]
    have hst : s = 0 ∧ t = 0 := by
      have := HU.out
      unfold orS at this
      by_cases q : s = 0
      · rw [if_pos q] at this; exact ⟨q, by omega⟩
      · rw [if_neg q] at this; exact absurd (this.trans u0) q
    have hok := HOK.out hst.1
    obtain ⟨v, hv⟩ : ∃ v, sfCode f ys = v := ⟨_, rfl⟩
    have HV2 : Hid (c = if v = 0 then (if sgdAll zs x ys = true then 0 else 7) else v) := by show c = _; rw [HV.out, if_pos hst.1, HL.out, if_pos hst.2, hv]
    have HSF : Hid (∀ w : World, IntIn w ga gn ys → Calls Try.prog 68 #[.slice ga gn gc, .int .i64 f] w fun e w' => e = .returned (.int .i64 v) ∧ Below w.heap.size w w') := fun w hw => by rw [← hv]; exact signersFault_c ga gn gc ys f w hgn hok.1 hw
    have HWF : Hid (v = 0 → n ≤ 1000 ∧ gn ≤ 1000 ∧ (∀ z ∈ zs, i64W z.r) ∧ ∀ y ∈ ys, i64W y) := fun q => by
      have hfr := (inR_iff _ _ _).1 hok.1
      rw [← hv] at q
      unfold sfCode at q
      by_cases r1 : riseB ys = true
      · rw [if_pos r1] at q
        by_cases r2 : rngAll f ys = true
        · have hrg : ∀ y ∈ ys, 1 ≤ y ∧ y ≤ 3 * f + 1 := fun y hy => by
            unfold rngAll at r2
            exact (inR_iff _ _ _).1 (List.all_eq_true.1 r2 y hy)
          refine ⟨by have := HZ.out.1; omega, ?_, fun z hz => ?_, fun y hy => ?_⟩
          · unfold riseB at r1
            have hup : Up ys := of_decide_eq_true r1
            have := nodup_lenI ys ((List.range 100).map (fun k : Nat => (k : Int))) (up_nodup hup) (fun y hy => by
              have := hrg y hy
              exact List.mem_map.2 ⟨y.toNat, List.mem_range.2 (by omega), by omega⟩)
            have hz2 := HZ.out.2
            simp at this
            omega
          · have := (inR_iff _ _ _).1 (hok.2.2 z hz).1
            exact i64W_of (by omega) (by omega)
          · have := hrg y hy
            exact i64W_of (by omega) (by omega)
        · rw [if_neg r2] at q; omega
      · rw [if_neg r1] at q; omega
    clear hst hok hv u0 HV HL HOK
    have z5 := C3.out.sl
    go_wp2_with fail
    refine (HSF.out _ C3.out.row).mono ?_
    rintro e w4 ⟨rfl, hb4⟩
    have B4 := B3.trans (hb4.mono B3.size)
    have C4 : Hid (CrAt w4 w.heap.size x ga gn gc ys) := C3.out.below hb4
    have S4 : Hid (ShIn w4 a n zs) := S3.out.below hb4
    clear z5 hb4
    by_cases v0 : v = 0
    · have vb : (v != 0) = false := by simp [v0]
      obtain ⟨k1, k2, k3, k4⟩ := HWF.out v0
      have HH : Hid (∀ w : World, ShIn w a n zs → IntIn w ga gn ys → Calls Try.prog 69 #[.slice a n cap, .agg #[.int .i64 x.k, .int .i64 x.e, .int .i64 x.f, .int .i64 x.s, .int .i64 x.n, .slice ga gn gc]] w fun e w' => e = .returned (.bool (sgdAll zs x ys)) ∧ Below w.heap.size w w') := fun w h1 h2 => haveShares_c a n cap zs x ga gn gc ys w k1 k2 h1 h2 k3 k4
      obtain ⟨g, hg⟩ : ∃ g, sgdAll zs x ys = g := ⟨_, rfl⟩
      have HV3 : Hid (c = if g = true then 0 else 7) := by show c = _; rw [HV2.out, if_pos v0, hg]
      rw [hg] at HH
      clear k1 k2 k3 k4 v0 hg HV2
      obtain ⟨z0, z1, z2, z3, z4⟩ := C4.out.st
      have z5 := C4.out.sl
      simp only [Nat.zero_add] at z0 z1 z2 z3 z4
      go_wp2_with fail
      refine (HH.out _ S4.out C4.out.row).mono ?_
      rintro e w5 ⟨rfl, hb5⟩
      have B5 := B4.trans (hb5.mono B4.size)
      clear z0 z1 z2 z3 z4 z5 hb5
      cases g
      · have H7 : Hid (c = 7) := by show c = 7; rw [HV3.out]; rfl
        go_wp2
        go_ret
        exact ⟨by rw [H7.out]; rfl, B5⟩
      · have H7 : Hid (c = 0) := by show c = 0; rw [HV3.out]; rfl
        go_wp2
        go_ret
        exact ⟨by rw [H7.out]; rfl, B5⟩
    · have vb : (v != 0) = true := by simp [v0]
      have HE : Hid (c = v) := by show c = v; rw [HV2.out, if_neg v0]
      clear v0
      go_wp2
      go_ret
      exact ⟨by rw [HE.out]; rfl, B4⟩
  · have ub : (u != 0) = true := by simp [u0]
    have HE : Hid (c = u) := by
      show c = u
      rw [HV.out, HL.out, ← HU.out]
      have h2 := HU.out
      unfold orS at h2 ⊢
      by_cases q : s = 0
      · rw [if_pos q] at h2 ⊢
        rw [if_pos q, if_neg (by rw [h2]; exact u0)]
      · rw [if_neg q, if_neg q]
    clear u0
    go_wp2
    go_ret
    exact ⟨by rw [HE.out]; rfl, B3⟩

end Go.Proofs.Ythogdfnaojijhaa
