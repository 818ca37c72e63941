/-
  PROVED: for every slice of shares, every int64, every statement and every slice of certificates the law laws.FnExactRevokedBy returns true, that is impl.RevokedBy answers as spec.RevokedBy there (up to 1<<20 elements in all, as the law itself says) and writes nothing into its arguments; the arguments read as they did.
  Conditions: none beside those that the given row itself bears. The frame is the shell written by program, turned for slices of structs and for structs; the walk is ours.
-/
import Derived.Test.YthogdfnaojijhaaRows
import Derived.WalkKit
import Derived.ProofKit
import Derived.OpenShut
import Derived.ShutString
import Derived.ChangeOld
import Derived.Below
import Derived.Test.YthogdfnaojijhaaWz3
import Derived.Test.YthogdfnaojijhaaCr0
import Derived.Test.YthogdfnaojijhaaShM
import Derived.Test.YthogdfnaojijhaaShA
import Derived.Test.YthogdfnaojijhaaStA
import Derived.Test.YthogdfnaojijhaaList2
import Derived.Deep.CutBlock
import Derived.Deep.RegionHeld3
namespace Go.Proofs.Ythogdfnaojijhaa.fnExactRevokedBy
open Go.ChangeShapes Go.WideShapes Go.ChangeAt Go.RowKit
open Go.ChangeMaps (open_string shut_string)
set_option linter.unusedVariables false

theorem own : ownKnob Try.prog.godebug = none := by kernel_rfl
theorem laidOut : laidOutB Try.prog = true := by kernel_rfl

set_option linter.unusedSimpArgs false

abbrev KR0 (W W' : World) : Prop := (∀ b o, b < W.heap.size → W'.cell? ⟨b, o, none⟩ = W.cell? ⟨b, o, none⟩) ∧ Below W.heap.size W W'

set_option maxRecDepth 100000 in
set_option maxHeartbeats 8000000 in
theorem inner (a0 : Option Addr) (len0 cap0 : Nat) (z0 : List ShI) (a1 : Int) (x2 : StI) (a3 : Option Addr) (len3 cap3 : Nat) (z3 : List CrI) (c : Bool) (w : World) (hm0 : len0 ≤ maxLen) (h0 : ShIn w a0 len0 z0) (hm3 : len3 ≤ maxLen) (hq3 : ∀ (k : Nat) c, z3[k]? = some c → c.gn ≤ maxLen) (h3 : CrsIn w a3 len3 z3)
    (HS : Hid (len0 ≤ 1048576 → len3 ≤ 1048576 → ∀ (g0 : Nat) (g3 h3 : Nat) (W : World), ShCp g0 len0 z0 W → CpR g3 h3 len3 z3 W → Calls Try.prog 11 #[.slice (some ⟨g0, 0, none⟩) len0 len0, .int .i64 a1, .agg #[.int .i64 x2.k, .int .i64 x2.e, .int .i64 x2.f, .int .i64 x2.s, .int .i64 x2.n], .slice (some ⟨g3, 0, none⟩) len3 len3] W fun e W' => e = .returned (.bool c) ∧ Below W.heap.size W W'))
    (HI : Hid (len0 ≤ 1048576 → len3 ≤ 1048576 → ∀ (g0 : Nat) (g3 h3 : Nat) (W : World), ShCp g0 len0 z0 W → CpR g3 h3 len3 z3 W → Calls Try.prog 15 #[.slice (some ⟨g0, 0, none⟩) len0 len0, .int .i64 a1, .agg #[.int .i64 x2.k, .int .i64 x2.e, .int .i64 x2.f, .int .i64 x2.s, .int .i64 x2.n], .slice (some ⟨g3, 0, none⟩) len3 len3] W fun e W' => e = .returned (.bool c) ∧ Below W.heap.size W W')) :
    Calls Try.prog 4 #[.slice a0 len0 cap0, .int .i64 a1, .agg #[.int .i64 x2.k, .int .i64 x2.e, .int .i64 x2.f, .int .i64 x2.s, .int .i64 x2.n], .slice a3 len3 cap3] w fun e w' => e = .returned (.bool true) ∧ Below w.heap.size w w' := by
  have H0 : Hid (ShIn w a0 len0 z0) := h0
  have HZ0 : Hid (z0.length = len0) := h0.1
  clear h0
  have H3 : Hid (CrsIn w a3 len3 z3) := h3
  have HM3 : Hid (∀ (k : Nat) c, z3[k]? = some c → c.gn ≤ maxLen) := hq3
  clear h3 hq3
  obtain ⟨V, hV⟩ : ∃ V, V = (w.alloc (.cells #[.int .i64 x2.k, .int .i64 x2.e, .int .i64 x2.f, .int .i64 x2.s, .int .i64 x2.n] 29)) := ⟨_, rfl⟩
  have B0 : Hid (Below w.heap.size w V) := by rw [hV]; exact (Below.refl _ _).alloc (Nat.le_refl _) _
  have F1 : Hid (Hold (w.heap.size) (w.heap.size + 1) (BoxV (w.heap.size) [.int .i64 x2.k, .int .i64 x2.e, .int .i64 x2.f, .int .i64 x2.s, .int .i64 x2.n]) V) := by rw [hV]; have q := boxV_new w #[.int .i64 x2.k, .int .i64 x2.e, .int .i64 x2.f, .int .i64 x2.s, .int .i64 x2.n] 29; exact q
  have hl2 := F1.out.le
  have hz0 := B0.out.size
  go_enter Try.func4, Try.ntmps4
  go_wp2_with fail
  rw [← hV]
  clear hV
  refine (szShares_c a0 len0 cap0 1048576 _ hm0 (by omega) (by omega)).mono ?_
  rintro e w4 ⟨⟨v3, rfl, hv, hv2⟩, hb⟩
  have B5 : Hid (Below w.heap.size w w4) := B0.out.trans (hb.mono B0.out.size)
  have hz6 := hb.size
  have F7 : Hid (Hold (w.heap.size) (w.heap.size + 1) (BoxV (w.heap.size) [.int .i64 x2.k, .int .i64 x2.e, .int .i64 x2.f, .int .i64 x2.s, .int .i64 x2.n]) w4) := F1.out.below hb
  clear B0 F1
  clear hb
  by_cases hneg : v3 < 0
  · go_wp2
    go_ret
    exact ⟨rfl, B5.out⟩
  have hs0 : len0 ≤ 1048576 := hv2 (by omega)
  have hiv3 : 0 ≤ v3 ∧ v3 ≤ 1048576 := ⟨by omega, by omega⟩
  clear hv2 hneg
  go_wp2_with fail
  refine (szCerts_c a3 len3 cap3 z3 v3 _ hm3 HM3.out (by omega) (by omega) (H3.out.below B5.out)).mono ?_
  rintro e w9 ⟨⟨v8, rfl, hv, hv2⟩, hb⟩
  have B10 : Hid (Below w.heap.size w w9) := B5.out.trans (hb.mono B5.out.size)
  have hz11 := hb.size
  have F12 : Hid (Hold (w.heap.size) (w.heap.size + 1) (BoxV (w.heap.size) [.int .i64 x2.k, .int .i64 x2.e, .int .i64 x2.f, .int .i64 x2.s, .int .i64 x2.n]) w9) := F7.out.below hb
  clear B5 F7
  clear hb
  by_cases hneg : v8 < 0
  · go_wp2
    go_ret
    exact ⟨rfl, B10.out⟩
  have hs3 : len3 ≤ 1048576 := by have := (hv2 (by omega)).1; omega
  have HLE3 : Hid (∀ (k : Nat) c, z3[k]? = some c → c.gn ≤ 1048576) := fun k c e => (hv2 (by omega)).2 k c e
  have hiv8 : 0 ≤ v8 ∧ v8 ≤ v3 := ⟨by omega, by omega⟩
  clear hv hv2 hneg HM3
  have HS' := HS.out hs0 hs3
  have HI' := HI.out hs0 hs3
  have HSP : Hid _ := HS'
  have HIM : Hid _ := HI'
  clear HS' HI' HS HI
  have b20 := F12.out.out 0 _ rfl
  have b21 := F12.out.out 1 _ rfl
  have b22 := F12.out.out 2 _ rfl
  have b23 := F12.out.out 3 _ rfl
  have b24 := F12.out.out 4 _ rfl
  have hbl2 : w.heap.size < w9.heap.size := by omega
  go_upto_region 8 with fail
  have HTO0 : Hid (∀ w2, KR0 w9 w2 → Below w.heap.size w w2) := fun w2 q => B10.out.trans (q.2.mono B10.out.size)
  have HTO3 : Hid (∀ w2, KR0 w9 w2 → Below w.heap.size w w2) := fun w2 q => B10.out.trans (q.2.mono B10.out.size)
  go_cut [10] from 24 to 31 (fun s wx => s = .bool c ∧ Below w9.heap.size w9 wx)
  case first =>
    refine wp_region_held_drew (S := fun w' => KR0 w9 w') (by kernel_rfl) (kp_drew _) (fun hHeld => ?_)
    refine wpAnyH_take (i := 0) (v := ?_) rfl (by kernel_rfl) (by kernel_rfl) (by kernel_rfl) (fun _ _ _ h => h) (Or.inl ⟨by kernel_rfl, ?_⟩) (by assumption) ?_
    rotate_left 1
    · intro w hSw; (try dsimp only at hSw); go_simp; try (with_reducible rfl)
    try simp only [Act.put, List.getElem_toArray, List.getElem_cons_succ, List.getElem_cons_zero, List.setIfInBounds_toArray, List.set_cons_zero, List.set_cons_succ]
    refine wpAnyH_take (i := 2) (v := ?_) rfl (by kernel_rfl) (by kernel_rfl) (by kernel_rfl) (fun _ _ _ h => h) (Or.inl ⟨by kernel_rfl, ?_⟩) (by assumption) ?_
    rotate_left 1
    · intro w hSw; (try dsimp only at hSw); go_simp; try (with_reducible rfl)
    try simp only [Act.put, List.getElem_toArray, List.getElem_cons_succ, List.getElem_cons_zero, List.setIfInBounds_toArray, List.set_cons_zero, List.set_cons_succ]
    refine wpAnyH_take (i := 3) (v := ?_) rfl (by kernel_rfl) (by kernel_rfl) (by kernel_rfl) (fun _ _ _ h => h) (Or.inl ⟨by kernel_rfl, ?_⟩) (by assumption) ?_
    rotate_left 1
    · intro w hSw; (try dsimp only at hSw); go_simp; try (with_reducible rfl)
    try simp only [Act.put, List.getElem_toArray, List.getElem_cons_succ, List.getElem_cons_zero, List.setIfInBounds_toArray, List.set_cons_zero, List.set_cons_succ]
    refine wpAnyH_take (i := 5) (v := ?_) rfl (by kernel_rfl) (by kernel_rfl) (by kernel_rfl) (fun _ _ _ h => h) (Or.inl ⟨by kernel_rfl, ?_⟩) (by assumption) ?_
    rotate_left 1
    · intro w hSw; (try dsimp only at hSw); go_simp; try (with_reducible rfl)
    try simp only [Act.put, List.getElem_toArray, List.getElem_cons_succ, List.getElem_cons_zero, List.setIfInBounds_toArray, List.set_cons_zero, List.set_cons_succ]
    refine wpAnyH_ready (rs := [1]) (by kernel_rfl) (by simp) ?_
    refine AllReadyH.cons rfl (fun K hK => ?_) AllReadyH.nil
    go_simp
    refine (toShares_room a0 len0 cap0 z0 _ hs0 (H0.out.below (HTO0.out _ (by assumption)))).mono ?_
    rintro d y00 ⟨rfl, hat, hlt, hby00, hroom⟩
    have hS := kp_step (by assumption) hby00
    have hzy00 := hby00.size
    have E00 := ShCp.cast (g' := w9.heap.size) (ShCp.hold ⟨hat, hroom⟩ hlt) (by first | rfl | simp [go_sem] | (simp [go_sem]; done))
    have hSy00 := hS
    refine hK.out _ _ hS (fun hHeld => ?_)
    clear hK K
    try simp only [Act.put, List.getElem_toArray, List.getElem_cons_succ, List.getElem_cons_zero, List.setIfInBounds_toArray, List.set_cons_zero, List.set_cons_succ]
    refine wpAnyH_ready (rs := [4]) (by kernel_rfl) (by simp) ?_
    refine AllReadyH.cons rfl (fun K hK => ?_) AllReadyH.nil
    go_simp
    refine (toStatement_c x2 _).mono ?_
    rintro d y01 ⟨rfl, hby01⟩
    have hS := kp_step (by assumption) hby01
    have hzy01 := hby01.size
    replace E00 := (by first | exact E00 | exact E00.alloc _ : Hold _ _ _ _).below hby01
    have hSy01 := hS
    refine hK.out _ _ hS (fun hHeld => ?_)
    clear hK K
    try simp only [Act.put, List.getElem_toArray, List.getElem_cons_succ, List.getElem_cons_zero, List.setIfInBounds_toArray, List.set_cons_zero, List.set_cons_succ]
    refine wpAnyH_ready (rs := [6]) (by kernel_rfl) (by simp) ?_
    refine AllReadyH.cons rfl (fun K hK => ?_) AllReadyH.nil
    go_simp
    refine (toCerts_c a3 len3 cap3 z3 _ hs3 HLE3.out (H3.out.below (HTO3.out _ (by assumption)))).mono ?_
    rintro d y02 ⟨rfl, dsT, hct⟩
    have hby02 := hct.bl
    have hS := kp_step (by assumption) hby02
    have hzy02 := hby02.size
    replace E00 := (by first | exact E00 | exact E00.alloc _ : Hold _ _ _ _).below hby02
    have E03 := hct.cpH H3.out HLE3.out
    clear hct
    have hSy02 := hS
    refine hK.out _ _ hS (fun hHeld => ?_)
    clear hK K
    try simp only [Act.put, List.getElem_toArray, List.getElem_cons_succ, List.getElem_cons_zero, List.setIfInBounds_toArray, List.set_cons_zero, List.set_cons_succ]
    refine wpAnyH_ready (rs := [7]) (by kernel_rfl) (by simp) ?_
    refine AllReadyH.cons rfl (fun K hK => ?_) AllReadyH.nil
    go_simp
    refine (HSP.out _ _ _ _ (by first | exact E00.out | exact (E00.alloc _).out) (by first | exact E03.out | exact (E03.alloc _).out)).mono ?_
    rintro d y03 ⟨rfl, hby03⟩
    have hS := kp_step (by assumption) hby03
    have hzy03 := hby03.size
    replace E00 := (by first | exact E00 | exact E00.alloc _ : Hold _ _ _ _).below hby03
    replace E03 := (by first | exact E03 | exact E03.alloc _ : Hold _ _ _ _).below hby03
    have hSy03 := hS
    refine hK.out _ _ hS (fun hHeld => ?_)
    clear hK K
    try simp only [Act.put, List.getElem_toArray, List.getElem_cons_succ, List.getElem_cons_zero, List.setIfInBounds_toArray, List.set_cons_zero, List.set_cons_succ]
    refine wpAnyH_ready (rs := [8]) (by kernel_rfl) (by simp) ?_
    refine AllReadyH.cons rfl (fun K hK => ?_) AllReadyH.nil
    go_simp
    refine hK.out _ _ (by assumption) (fun hHeld => ?_)
    clear hK K
    try simp only [Act.put, List.getElem_toArray, List.getElem_cons_succ, List.getElem_cons_zero, List.setIfInBounds_toArray, List.set_cons_zero, List.set_cons_succ]
    refine wpAnyH_done (by kernel_rfl) ?_ _
    go_wp2_with fail
    go_meet
    exact ⟨rfl, hS.2⟩
  case rest =>
    obtain ⟨U13, rfl⟩ : ∃ U, U = wc := ⟨_, rfl⟩
    obtain ⟨rfl, hb⟩ := hcut
    have B14 : Hid (Below w.heap.size w U13) := B10.out.trans (hb.mono B10.out.size)
    have hz15 := hb.size
    have F16 : Hid (Hold (w.heap.size) (w.heap.size + 1) (BoxV (w.heap.size) [.int .i64 x2.k, .int .i64 x2.e, .int .i64 x2.f, .int .i64 x2.s, .int .i64 x2.n]) U13) := F12.out.below hb
    clear B10 F12
    clear hb
    clear b20 b21 b22 b23 b24
    clear hbl2
    clear HTO0
    clear HTO3
    have hNB : w.heap.size ≤ U13.heap.size := B14.out.size
    go_wp2_with fail
    refine (toShares_room a0 len0 cap0 z0 _ hs0 (H0.out.below B14.out)).mono ?_
    rintro e w17 ⟨rfl, hat, hlt, hb, hroom⟩
    have B18 : Hid (Below w.heap.size w w17) := B14.out.trans (hb.mono B14.out.size)
    have hz19 := hb.size
    have F20 : Hid (Hold (w.heap.size) (w.heap.size + 1) (BoxV (w.heap.size) [.int .i64 x2.k, .int .i64 x2.e, .int .i64 x2.f, .int .i64 x2.s, .int .i64 x2.n]) w17) := F16.out.below hb
    clear B14 F16
    obtain ⟨xg0, hxg0⟩ : ∃ g, g = U13.heap.size := ⟨_, rfl⟩
    have hgexg0 : U13.heap.size ≤ xg0 := by omega
    rw [← hxg0] at hat hroom hlt ⊢
    have F21 : Hid (Hold (xg0) (xg0 + 1) (ShCp xg0 len0 z0) w17) := ShCp.hold ⟨hat, hroom⟩ hlt
    have hl22 := F21.out.le
    clear hxg0 hat hroom hlt hb
    go_wp2_with fail
    refine (toCerts_c a3 len3 cap3 z3 _ hs3 HLE3.out (H3.out.below B18.out)).mono ?_
    rintro e w23 ⟨rfl, dsT, hct⟩
    have hb := hct.bl
    have hlt := hct.lt
    have B24 : Hid (Below w.heap.size w w23) := B18.out.trans (hb.mono B18.out.size)
    have hz25 := hb.size
    have F26 : Hid (Hold (w.heap.size) (w.heap.size + 1) (BoxV (w.heap.size) [.int .i64 x2.k, .int .i64 x2.e, .int .i64 x2.f, .int .i64 x2.s, .int .i64 x2.n]) w23) := F20.out.below hb
    have F27 : Hid (Hold (xg0) (xg0 + 1) (ShCp xg0 len0 z0) w23) := F21.out.below hb
    clear B18 F20 F21
    obtain ⟨xg3, hxg3⟩ : ∃ g, g = w17.heap.size := ⟨_, rfl⟩
    obtain ⟨xh3, hxh3⟩ : ∃ g, g = w23.heap.size := ⟨_, rfl⟩
    have hgexg3 : w17.heap.size ≤ xg3 := by omega
    have hgxh3 : xg3 < xh3 ∧ xh3 ≤ w23.heap.size := by omega
    have F28 : Hid (Hold (xg3) (xh3) (CpR (xg3) (xh3) len3 z3) w23) := by rw [hxg3, hxh3]; exact hct.cpH H3.out HLE3.out
    have hl29 := F28.out.le
    rw [← hxg3]
    clear hb hlt hct hxg3 hxh3
    have b20 := F26.out.out 0 _ rfl
    have b21 := F26.out.out 1 _ rfl
    have b22 := F26.out.out 2 _ rfl
    have b23 := F26.out.out 3 _ rfl
    have b24 := F26.out.out 4 _ rfl
    go_wp2_with fail
    refine (toStatement_c x2 _).mono ?_
    rintro e w30 ⟨rfl, hb⟩
    clear b20 b21 b22 b23 b24
    have B31 : Hid (Below w.heap.size w w30) := B24.out.trans (hb.mono B24.out.size)
    have hz32 := hb.size
    have F33 : Hid (Hold (w.heap.size) (w.heap.size + 1) (BoxV (w.heap.size) [.int .i64 x2.k, .int .i64 x2.e, .int .i64 x2.f, .int .i64 x2.s, .int .i64 x2.n]) w30) := F26.out.below hb
    have F34 : Hid (Hold (xg0) (xg0 + 1) (ShCp xg0 len0 z0) w30) := F27.out.below hb
    have F35 : Hid (Hold (xg3) (xh3) (CpR (xg3) (xh3) len3 z3) w30) := F28.out.below hb
    clear B24 F26 F27 F28
    clear hb
    go_wp2_with fail
    refine (HIM.out _ _ _ _ F34.out.out F35.out.out).mono ?_
    rintro e w36 ⟨rfl, hb⟩
    have B37 : Hid (Below w.heap.size w w36) := B31.out.trans (hb.mono B31.out.size)
    have hz38 := hb.size
    have F39 : Hid (Hold (w.heap.size) (w.heap.size + 1) (BoxV (w.heap.size) [.int .i64 x2.k, .int .i64 x2.e, .int .i64 x2.f, .int .i64 x2.s, .int .i64 x2.n]) w36) := F33.out.below hb
    have F40 : Hid (Hold (xg0) (xg0 + 1) (ShCp xg0 len0 z0) w36) := F34.out.below hb
    have F41 : Hid (Hold (xg3) (xh3) (CpR (xg3) (xh3) len3 z3) w36) := F35.out.below hb
    clear B31 F33 F34 F35
    clear hb
    go_wp2_with fail
    refine (toShares_room a0 len0 cap0 z0 _ hs0 (H0.out.below B37.out)).mono ?_
    rintro e w42 ⟨rfl, hat, hlt, hb, hroom⟩
    have B43 : Hid (Below w.heap.size w w42) := B37.out.trans (hb.mono B37.out.size)
    have hz44 := hb.size
    have F45 : Hid (Hold (w.heap.size) (w.heap.size + 1) (BoxV (w.heap.size) [.int .i64 x2.k, .int .i64 x2.e, .int .i64 x2.f, .int .i64 x2.s, .int .i64 x2.n]) w42) := F39.out.below hb
    have F46 : Hid (Hold (xg0) (xg0 + 1) (ShCp xg0 len0 z0) w42) := F40.out.below hb
    have F47 : Hid (Hold (xg3) (xh3) (CpR (xg3) (xh3) len3 z3) w42) := F41.out.below hb
    clear B37 F39 F40 F41
    have F48 : Hid (Hold (w36.heap.size) (w36.heap.size + 1) (ShCp w36.heap.size len0 z0) w42) := ShCp.hold ⟨hat, hroom⟩ hlt
    have hl49 := F48.out.le
    clear hat hroom hlt hb
    go_wp2_with fail
    refine (eqShares_same _ _ len0 _ _ z0 _ hs0 (ShIn.of HZ0.out F46.out.out.1) (ShIn.of HZ0.out F48.out.out.1)).mono ?_
    rintro e w50 ⟨rfl, hb⟩
    clear F48
    have B51 : Hid (Below w.heap.size w w50) := B43.out.trans (hb.mono B43.out.size)
    have hz52 := hb.size
    have F53 : Hid (Hold (w.heap.size) (w.heap.size + 1) (BoxV (w.heap.size) [.int .i64 x2.k, .int .i64 x2.e, .int .i64 x2.f, .int .i64 x2.s, .int .i64 x2.n]) w50) := F45.out.below hb
    have F54 : Hid (Hold (xg0) (xg0 + 1) (ShCp xg0 len0 z0) w50) := F46.out.below hb
    have F55 : Hid (Hold (xg3) (xh3) (CpR (xg3) (xh3) len3 z3) w50) := F47.out.below hb
    clear B43 F45 F46 F47
    clear hb
    go_wp2_with fail
    refine (toCerts_c a3 len3 cap3 z3 _ hs3 HLE3.out (H3.out.below B51.out)).mono ?_
    rintro e w56 ⟨rfl, dsT, hct⟩
    have hb := hct.bl
    have B57 : Hid (Below w.heap.size w w56) := B51.out.trans (hb.mono B51.out.size)
    have hz58 := hb.size
    have F59 : Hid (Hold (w.heap.size) (w.heap.size + 1) (BoxV (w.heap.size) [.int .i64 x2.k, .int .i64 x2.e, .int .i64 x2.f, .int .i64 x2.s, .int .i64 x2.n]) w56) := F53.out.below hb
    have F60 : Hid (Hold (xg0) (xg0 + 1) (ShCp xg0 len0 z0) w56) := F54.out.below hb
    have F61 : Hid (Hold (xg3) (xh3) (CpR (xg3) (xh3) len3 z3) w56) := F55.out.below hb
    clear B51 F53 F54 F55
    have F62 : Hid (Hold (w50.heap.size) (w56.heap.size) (CpR (w50.heap.size) (w56.heap.size) len3 z3) w56) := hct.cpH H3.out HLE3.out
    have hl63 := F62.out.le
    clear hb hct
    go_wp2_with fail
    refine (eqCpR_c _ _ hs3 F61.out.out F62.out.out).mono ?_
    rintro e w64 ⟨rfl, hb⟩
    clear F62
    have B65 : Hid (Below w.heap.size w w64) := B57.out.trans (hb.mono B57.out.size)
    have hz66 := hb.size
    have F67 : Hid (Hold (w.heap.size) (w.heap.size + 1) (BoxV (w.heap.size) [.int .i64 x2.k, .int .i64 x2.e, .int .i64 x2.f, .int .i64 x2.s, .int .i64 x2.n]) w64) := F59.out.below hb
    have F68 : Hid (Hold (xg0) (xg0 + 1) (ShCp xg0 len0 z0) w64) := F60.out.below hb
    have F69 : Hid (Hold (xg3) (xh3) (CpR (xg3) (xh3) len3 z3) w64) := F61.out.below hb
    clear B57 F59 F60 F61
    clear hb
    go_wp2
    go_ret
    exact ⟨rfl, B65.out⟩

/-! The walk: the Go text returns true. -/
theorem walk (a0 : Option Addr) (len0 cap0 : Nat) (z0 : List ShI) (a1 : Int) (x2 : StI) (a3 : Option Addr) (len3 cap3 : Nat) (z3 : List CrI) (w : World) (w0 : ShArg w a0 len0 z0) (w1 : (Lit.int .i64 a1).wf = true) (w3 : CrsArg w a3 len3 z3) :
    Calls Try.prog 4 #[.slice a0 len0 cap0, .int .i64 a1, .agg #[.int .i64 x2.k, .int .i64 x2.e, .int .i64 x2.f, .int .i64 x2.s, .int .i64 x2.n], .slice a3 len3 cap3] w fun e w' => e = .returned (.bool true) ∧ Below w.heap.size w w' := by
  exact inner a0 len0 cap0 z0 a1 x2 a3 len3 cap3 z3 (rvB a1 z0 x2 (chL z3)) w w0.2.1 w0.1 w3.2.1 w3.2.2 w3.1
    (fun h0 h3 g0 g3 k3 W q0 q3 => specRevoked_same a1 x2 h0 h3 (ShIn.of w0.1.1 q0.1) q3)
    (fun h0 h3 g0 g3 k3 W q0 q3 => implRevoked_same a1 x2 h0 h3 (ShIn.of w0.1.1 q0.1) q3)

/-! The row's step. -/
set_option maxRecDepth 100000 in
theorem lifted (os : Os) (started : os.Started) (H : Type) (enc : TypeId × Value → H) :
    ReturnsInHanded {} Try.checked os 4 .any (Rows.fnExactRevokedBySpec.pre6 enc Try.prog Try.f4 Rows.fnExactRevokedByRow.domain false) (Rows.fnExactRevokedBySpec.post enc Try.prog Try.f4 false true false false) := by
  refine returnsInHanded_of_change (C := Try.checked) own started (by kernel_rfl) Try.func4
    (ChangeSpec.witness6 (enc := enc) (C := Try.checked) false ⟨#[], #[.slice none 0 0, .int .i64 0, .agg #[.int .i64 0, .int .i64 0, .int .i64 0, .int .i64 0, .int .i64 0], .slice none 0 0], []⟩ 8 (by kernel_rfl) (by kernel_rfl) (by kernel_rfl) (by kernel_rfl)) ?_
  intro W base args ds gs before hval0 hW hcnd _
  have hval : ∀ (j : Nat) t v, Try.f4.params[j]? = some t → args[j]? = some v → Value.okWide Try.prog W .any base t v := hval0
  have hW' := hW
  obtain ⟨p, q, hA0, hV, rfl, hfz, hnd⟩ := hW
  have hA : DataW.TrodAll enc Try.prog W 0 (fun _ => true) true Try.f4.params.toList args.toList ds p := hA0
  rw [Try.params4] at hA hval
  obtain ⟨v0, vs0, d0, ds0, p0, q0, hargs, rfl, rfl, h0, r0⟩ := trodAll_cons hA
  obtain ⟨v1, vs1, d1, ds1, p1, q1, rfl, rfl, rfl, h1, r1⟩ := trodAll_cons r0
  obtain ⟨v2, vs2, d2, ds2, p2, q2, rfl, rfl, rfl, h2, r2⟩ := trodAll_cons r1
  obtain ⟨v3, vs3, d3, ds3, p3, q3, rfl, rfl, rfl, h3, r3⟩ := trodAll_cons r2
  obtain ⟨rfl, rfl, rfl⟩ := trodAll_nil r3
  obtain rfl : args = #[v0, v1, v2, v3] := by cases args; simp_all
  obtain ⟨rfl, rfl⟩ := trodVars_none hV
  obtain ⟨a0, len0, cap0, rfl⟩ := okWide_slice Try.underlying27 (hval 0 27 v0 rfl rfl)
  have k0 := h0
  have lt0 : ∀ x ∈ p0, x.block < W.heap.size := by obtain ⟨m, hm⟩ := k0; exact DataW.trod_lt m _ _ _ hm
  obtain ⟨z0, w0⟩ : ∃ zs : List ShI, ShArg W a0 len0 zs := by
    obtain ⟨fuel, hf⟩ := h0
    exact shares_shape hf
  obtain ⟨a1, rfl, rfl, rfl, w1⟩ := open_int Try.underlying2 (hval 1 2 v1 rfl rfl) h1
  obtain ⟨cs2, rfl, hs2⟩ := okWide_struct Try.underlying29 (hval 2 29 v2 rfl rfl)
  have k2 := h2
  have lt2 : ∀ x ∈ p2, x.block < W.heap.size := by obtain ⟨m, hm⟩ := k2; exact DataW.trod_lt m _ _ _ hm
  obtain ⟨x2, rfl⟩ : ∃ x : StI, cs2 = #[.int .i64 x.k, .int .i64 x.e, .int .i64 x.f, .int .i64 x.s, .int .i64 x.n] := by
    obtain ⟨fuel, hf⟩ := h2
    exact statement_shape _ hf
  obtain ⟨a3, len3, cap3, rfl⟩ := okWide_slice Try.underlying30 (hval 3 30 v3 rfl rfl)
  have k3 := h3
  have lt3 : ∀ x ∈ p3, x.block < W.heap.size := by obtain ⟨m, hm⟩ := k3; exact DataW.trod_lt m _ _ _ hm
  obtain ⟨z3, w3⟩ : ∃ zs : List CrI, CrsArg W a3 len3 zs := by
    obtain ⟨fuel, hf⟩ := h3
    exact certs_shape hf
  clear hA0 hval0
  refine (walk a0 len0 cap0 z0 a1 x2 a3 len3 cap3 z3 W w0 w1 w3).mono fun e W' ⟨he, bel⟩ => ?_
  subst he
  exact ⟨_, rfl, _, _, _, [], _, [], hW', trodAll_mk1 (shut_bool Try.underlying4 _), (trodAll_cons_mk (Below.trod laidOut (by kernel_rfl) (of_decide_eq_true (by kernel_rfl)) k0 bel lt0) (trodAll_cons_mk (shut_int Try.underlying2 w1) (trodAll_cons_mk (Below.trod laidOut (by kernel_rfl) (of_decide_eq_true (by kernel_rfl)) k2 bel lt2) (trodAll_cons_mk (Below.trod laidOut (by kernel_rfl) (of_decide_eq_true (by kernel_rfl)) k3 bel lt3) trodAll_mk0)))), rfl, bel.frame _, fun h => by cases h⟩

theorem over : Rows.fnExactRevokedByRow.holds Try.pinned (OpenSpec.ofChange Rows.fnExactRevokedBySpec) :=
  OpenClaim.holds_of_wide 4 Try.f4 rfl rfl rfl rfl rfl rfl rfl ⟨rfl, rfl, rfl, rfl, rfl⟩ rfl rfl rfl rfl rfl (by kernel_rfl) Try.func4 (by kernel_rfl)
    (of_decide_eq_true (by kernel_rfl)) (by unfold Func.isWrapper; first | (rw [if_pos (by decide +kernel)]; kernel_rfl) | (rw [if_neg (by decide +kernel)]; exact ⟨rfl, rfl⟩))
    (fun os started H enc _ => lifted os started H enc)

end Go.Proofs.Ythogdfnaojijhaa.fnExactRevokedBy
namespace Go.Proofs.Ythogdfnaojijhaa
theorem fnExactRevokedBy_holds : Rows.FnExactRevokedBySaid := fnExactRevokedBy.over
#print axioms fnExactRevokedBy_holds
end Go.Proofs.Ythogdfnaojijhaa
