/-
  PROVED: for every slice of shares, every int64 and every Cert the law laws.FnExactVerifyCert returns true, that is impl.VerifyCert answers as spec.VerifyCert there (up to 1<<20 elements, as the law itself says) and writes nothing into its arguments; the arguments read as they did.
  Conditions: none beside those that the given row itself bears. The frame is the shell written by program, turned for structs and slices of structs; the walk is ours.
-/
import Derived.Test.YtdfhebmecbcegaaRows
import Derived.WalkKit
import Derived.ProofKit
import Derived.OpenShut
import Derived.ShutString
import Derived.ChangeOld
import Derived.Below
import Derived.Test.YtdfhebmecbcegaaCr0
import Derived.Deep.CutBlock
import Derived.Deep.RegionHeld3
namespace Go.Proofs.Ytdfhebmecbcegaa.fnExactVerifyCert
open Go.ChangeShapes Go.WideShapes Go.ChangeAt Go.RowKit
open Go.ChangeMaps (open_string shut_string)
set_option linter.unusedVariables false

theorem own : ownKnob Try.prog.godebug = none := by kernel_rfl
theorem laidOut : laidOutB Try.prog = true := by kernel_rfl

set_option linter.unusedSimpArgs false

abbrev KR0 (W W' : World) : Prop := (∀ b o, b < W.heap.size → W'.cell? ⟨b, o, none⟩ = W.cell? ⟨b, o, none⟩) ∧ Below W.heap.size W W'

set_option maxRecDepth 100000 in
set_option maxHeartbeats 8000000 in
theorem inner (a0 : Option Addr) (len0 cap0 : Nat) (z0 : List ShI) (a1 : Int) (cr2 : CrI) (c : Int) (w : World) (hm0 : len0 ≤ maxLen) (h0 : ShIn w a0 len0 z0) (hm2 : cr2.gn ≤ maxLen) (h2 : IntIn w cr2.ga cr2.gn cr2.zs)
    (HS : Hid (len0 ≤ 1048576 → cr2.gn ≤ 1048576 → ∀ (g0 : Nat) (g2 : Nat) (W : World), ShCp g0 len0 z0 W → IntCp g2 cr2.gn cr2.zs W → Calls Try.prog 21 #[.slice (some ⟨g0, 0, none⟩) len0 len0, .int .i64 a1, .agg #[.int .i64 cr2.k, .int .i64 cr2.e, .int .i64 cr2.f, .int .i64 cr2.s, .int .i64 cr2.n, .slice (some ⟨g2, 0, none⟩) cr2.gn cr2.gn]] W fun e W' => e = .returned (.int .i64 c) ∧ Below W.heap.size W W'))
    (HI : Hid (len0 ≤ 1048576 → cr2.gn ≤ 1048576 → ∀ (g0 : Nat) (g2 : Nat) (W : World), ShCp g0 len0 z0 W → IntCp g2 cr2.gn cr2.zs W → Calls Try.prog 18 #[.slice (some ⟨g0, 0, none⟩) len0 len0, .int .i64 a1, .agg #[.int .i64 cr2.k, .int .i64 cr2.e, .int .i64 cr2.f, .int .i64 cr2.s, .int .i64 cr2.n, .slice (some ⟨g2, 0, none⟩) cr2.gn cr2.gn]] W fun e W' => e = .returned (.int .i64 c) ∧ Below W.heap.size W W')) :
    Calls Try.prog 9 #[.slice a0 len0 cap0, .int .i64 a1, .agg #[.int .i64 cr2.k, .int .i64 cr2.e, .int .i64 cr2.f, .int .i64 cr2.s, .int .i64 cr2.n, .slice cr2.ga cr2.gn cr2.gc]] w fun e w' => e = .returned (.bool true) ∧ Below w.heap.size w w' := by
  have H0 : Hid (ShIn w a0 len0 z0) := h0
  have HZ0 : Hid (z0.length = len0) := h0.1
  clear h0
  have H2 : Hid (IntIn w cr2.ga cr2.gn cr2.zs) := h2
  have HZ2 : Hid (cr2.zs.length = cr2.gn) := h2.1
  clear h2
  obtain ⟨V, hV⟩ : ∃ V, V = (w.alloc (.cells #[.int .i64 cr2.k, .int .i64 cr2.e, .int .i64 cr2.f, .int .i64 cr2.s, .int .i64 cr2.n, .slice cr2.ga cr2.gn cr2.gc] 62)) := ⟨_, rfl⟩
  have B0 : Hid (Below w.heap.size w V) := by rw [hV]; exact (Below.refl _ _).alloc (Nat.le_refl _) _
  have F1 : Hid (Hold (w.heap.size) (w.heap.size + 1) (BoxV (w.heap.size) [.int .i64 cr2.k, .int .i64 cr2.e, .int .i64 cr2.f, .int .i64 cr2.s, .int .i64 cr2.n, .slice cr2.ga cr2.gn cr2.gc]) V) := by rw [hV]; have q := boxV_new w #[.int .i64 cr2.k, .int .i64 cr2.e, .int .i64 cr2.f, .int .i64 cr2.s, .int .i64 cr2.n, .slice cr2.ga cr2.gn cr2.gc] 62; exact q
  have hl2 := F1.out.le
  have hz0 := B0.out.size
  go_enter Try.func9, Try.ntmps9
  go_wp2_with fail
  rw [← hV]
  clear hV
  refine (szShares_c a0 len0 cap0 1048576 _ hm0 (by omega) (by omega)).mono ?_
  rintro e w4 ⟨⟨v3, rfl, hv, hv2⟩, hb⟩
  have B5 : Hid (Below w.heap.size w w4) := B0.out.trans (hb.mono B0.out.size)
  have hz6 := hb.size
  have F7 : Hid (Hold (w.heap.size) (w.heap.size + 1) (BoxV (w.heap.size) [.int .i64 cr2.k, .int .i64 cr2.e, .int .i64 cr2.f, .int .i64 cr2.s, .int .i64 cr2.n, .slice cr2.ga cr2.gn cr2.gc]) w4) := F1.out.below hb
  clear B0 F1
  clear hb
  by_cases hneg : v3 < 0
  · go_wp2
    go_ret
    exact ⟨rfl, B5.out⟩
  have hs0 : len0 ≤ 1048576 := hv2 (by omega)
  have hiv3 : 0 ≤ v3 ∧ v3 ≤ 1048576 := ⟨by omega, by omega⟩
  clear hv2 hneg
  have b20 := F7.out.out 0 _ rfl
  have b21 := F7.out.out 1 _ rfl
  have b22 := F7.out.out 2 _ rfl
  have b23 := F7.out.out 3 _ rfl
  have b24 := F7.out.out 4 _ rfl
  have b25 := F7.out.out 5 _ rfl
  go_wp2_with fail
  refine (szCert_c cr2 v3 _ hm2 (by omega) (by omega)).mono ?_
  rintro e w9 ⟨⟨v8, rfl, hv, hv2⟩, hb⟩
  have B10 : Hid (Below w.heap.size w w9) := B5.out.trans (hb.mono B5.out.size)
  have hz11 := hb.size
  have F12 : Hid (Hold (w.heap.size) (w.heap.size + 1) (BoxV (w.heap.size) [.int .i64 cr2.k, .int .i64 cr2.e, .int .i64 cr2.f, .int .i64 cr2.s, .int .i64 cr2.n, .slice cr2.ga cr2.gn cr2.gc]) w9) := F7.out.below hb
  clear B5 F7
  clear b20 b21 b22 b23 b24 b25
  clear hb
  by_cases hneg : v8 < 0
  · go_wp2
    go_ret
    exact ⟨rfl, B10.out⟩
  have hs2 : cr2.gn ≤ 1048576 := hv2 (by omega)
  have hiv8 : 0 ≤ v8 ∧ v8 ≤ v3 := ⟨by omega, by omega⟩
  clear hv2 hneg
  have HS' := HS.out hs0 hs2
  have HI' := HI.out hs0 hs2
  have HSP : Hid _ := HS'
  have HIM : Hid _ := HI'
  clear HS' HI' HS HI
  have b20 := F12.out.out 0 _ rfl
  have b21 := F12.out.out 1 _ rfl
  have b22 := F12.out.out 2 _ rfl
  have b23 := F12.out.out 3 _ rfl
  have b24 := F12.out.out 4 _ rfl
  have b25 := F12.out.out 5 _ rfl
  have hbl2 : w.heap.size < w9.heap.size := by omega
  go_upto_region 8 with fail
  have HTO0 : Hid (∀ w2, KR0 w9 w2 → Below w.heap.size w w2) := fun w2 q => B10.out.trans (q.2.mono B10.out.size)
  have HTO2 : Hid (∀ w2, KR0 w9 w2 → Below w.heap.size w w2) := fun w2 q => B10.out.trans (q.2.mono B10.out.size)
  go_cut [8] from 22 to 27 (fun s wx => s = .int .i64 c ∧ Below w9.heap.size w9 wx)
  case first =>
    refine wp_region_held_drew (S := fun w' => KR0 w9 w') (by kernel_rfl) (kp_drew _) (fun hHeld => ?_)
    refine wpAnyH_take (i := 0) (v := ?_) rfl (by kernel_rfl) (by kernel_rfl) (by kernel_rfl) (fun _ _ _ h => h) (Or.inl ⟨by kernel_rfl, ?_⟩) (by assumption) ?_
    rotate_left 1
    · intro w hSw; (try dsimp only at hSw); go_simp; try (with_reducible rfl)
    try simp only [Act.put, List.getElem_toArray, List.getElem_cons_succ, List.getElem_cons_zero, List.setIfInBounds_toArray, List.set_cons_zero, List.set_cons_succ]
    refine wpAnyH_take (i := 2) (v := ?_) rfl (by kernel_rfl) (by kernel_rfl) (by kernel_rfl) (fun _ _ _ h => h) (Or.inl ⟨by kernel_rfl, ?_⟩) (by assumption) ?_
    rotate_left 1
    · intro w hSw; (try dsimp only at hSw); go_simp; try (with_reducible rfl)
    try simp only [Act.put, List.getElem_toArray, List.getElem_cons_succ, List.getElem_cons_zero, List.setIfInBounds_toArray, List.set_cons_zero, List.set_cons_succ]
    refine wpAnyH_take (i := 3) (v := ?_) rfl (by kernel_rfl) (by kernel_rfl) (by kernel_rfl) (fun _ _ _ h => h) (Or.inl ⟨by kernel_rfl, ?_⟩) (by assumption) ?_
    rotate_left 1
    · intro w hSw; (try dsimp only at hSw); go_simp; try (with_reducible rfl)
    try simp only [Act.put, List.getElem_toArray, List.getElem_cons_succ, List.getElem_cons_zero, List.setIfInBounds_toArray, List.set_cons_zero, List.set_cons_succ]
    refine wpAnyH_ready (rs := [1]) (by kernel_rfl) (by simp) ?_
    refine AllReadyH.cons rfl (fun K hK => ?_) AllReadyH.nil
    go_simp
    refine (toShares_room a0 len0 cap0 z0 _ hs0 (H0.out.below (HTO0.out _ (by assumption)))).mono ?_
    rintro d y00 ⟨rfl, hat, hlt, hby00, hroom⟩
    have hS := kp_step (by assumption) hby00
    have hzy00 := hby00.size
    have E00 := ShCp.hold ⟨hat, hroom⟩ hlt
    have hSy00 := hS
    refine hK.out _ _ hS (fun hHeld => ?_)
    clear hK K
    try simp only [Act.put, List.getElem_toArray, List.getElem_cons_succ, List.getElem_cons_zero, List.setIfInBounds_toArray, List.set_cons_zero, List.set_cons_succ]
    refine wpAnyH_ready (rs := [4]) (by kernel_rfl) (by simp) ?_
    refine AllReadyH.cons rfl (fun K hK => ?_) AllReadyH.nil
    go_simp
    refine (toCert_c cr2 _ hs2 (H2.out.below (HTO2.out _ (by assumption)))).mono ?_
    rintro d y01 ⟨gn02, rfl, hge, hlt, hcp, hby01⟩
    have hS := kp_step (by assumption) hby01
    have hzy01 := hby01.size
    replace E00 := (by first | exact E00 | exact E00.alloc _ : Hold _ _ _ _).below hby01
    have E02 := IntCp.hold hcp hlt
    have hSy01 := hS
    refine hK.out _ _ hS (fun hHeld => ?_)
    clear hK K
    try simp only [Act.put, List.getElem_toArray, List.getElem_cons_succ, List.getElem_cons_zero, List.setIfInBounds_toArray, List.set_cons_zero, List.set_cons_succ]
    refine wpAnyH_ready (rs := [5]) (by kernel_rfl) (by simp) ?_
    refine AllReadyH.cons rfl (fun K hK => ?_) AllReadyH.nil
    go_simp
    refine (HSP.out _ _ _ (by first | exact E00.out | exact (E00.alloc _).out) (by first | exact E02.out | exact (E02.alloc _).out)).mono ?_
    rintro d y02 ⟨rfl, hby02⟩
    have hS := kp_step (by assumption) hby02
    have hzy02 := hby02.size
    replace E00 := (by first | exact E00 | exact E00.alloc _ : Hold _ _ _ _).below hby02
    replace E02 := (by first | exact E02 | exact E02.alloc _ : Hold _ _ _ _).below hby02
    have hSy02 := hS
    refine hK.out _ _ hS (fun hHeld => ?_)
    clear hK K
    try simp only [Act.put, List.getElem_toArray, List.getElem_cons_succ, List.getElem_cons_zero, List.setIfInBounds_toArray, List.set_cons_zero, List.set_cons_succ]
    refine wpAnyH_ready (rs := [6]) (by kernel_rfl) (by simp) ?_
    refine AllReadyH.cons rfl (fun K hK => ?_) AllReadyH.nil
    go_simp
    refine hK.out _ _ (by assumption) (fun hHeld => ?_)
    clear hK K
    try simp only [Act.put, List.getElem_toArray, List.getElem_cons_succ, List.getElem_cons_zero, List.setIfInBounds_toArray, List.set_cons_zero, List.set_cons_succ]
    refine wpAnyH_done (by kernel_rfl) ?_ _
    go_wp2_with fail
    go_meet
    exact ⟨rfl, hS.2⟩
  case rest =>
    obtain ⟨U13, rfl⟩ : ∃ U, U = wc := ⟨_, rfl⟩
    obtain ⟨rfl, hb⟩ := hcut
    have B14 : Hid (Below w.heap.size w U13) := B10.out.trans (hb.mono B10.out.size)
    have hz15 := hb.size
    have F16 : Hid (Hold (w.heap.size) (w.heap.size + 1) (BoxV (w.heap.size) [.int .i64 cr2.k, .int .i64 cr2.e, .int .i64 cr2.f, .int .i64 cr2.s, .int .i64 cr2.n, .slice cr2.ga cr2.gn cr2.gc]) U13) := F12.out.below hb
    clear B10 F12
    clear hb
    clear b20 b21 b22 b23 b24 b25
    clear hbl2
    clear HTO0
    clear HTO2
    have hNB : w.heap.size ≤ U13.heap.size := B14.out.size
    go_wp2_with fail
    refine (toShares_room a0 len0 cap0 z0 _ hs0 (H0.out.below B14.out)).mono ?_
    rintro e w17 ⟨rfl, hat, hlt, hb, hroom⟩
    have B18 : Hid (Below w.heap.size w w17) := B14.out.trans (hb.mono B14.out.size)
    have hz19 := hb.size
    have F20 : Hid (Hold (w.heap.size) (w.heap.size + 1) (BoxV (w.heap.size) [.int .i64 cr2.k, .int .i64 cr2.e, .int .i64 cr2.f, .int .i64 cr2.s, .int .i64 cr2.n, .slice cr2.ga cr2.gn cr2.gc]) w17) := F16.out.below hb
    clear B14 F16
    obtain ⟨xg0, hxg0⟩ : ∃ g, g = U13.heap.size := ⟨_, rfl⟩
    have hgexg0 : U13.heap.size ≤ xg0 := by omega
    rw [← hxg0] at hat hroom hlt ⊢
    have F21 : Hid (Hold (xg0) (xg0 + 1) (ShCp xg0 len0 z0) w17) := ShCp.hold ⟨hat, hroom⟩ hlt
    have hl22 := F21.out.le
    clear hxg0 hat hroom hlt hb
    have b20 := F20.out.out 0 _ rfl
    have b21 := F20.out.out 1 _ rfl
    have b22 := F20.out.out 2 _ rfl
    have b23 := F20.out.out 3 _ rfl
    have b24 := F20.out.out 4 _ rfl
    have b25 := F20.out.out 5 _ rfl
    go_wp2_with fail
    refine (toCert_c cr2 _ hs2 (H2.out.below B18.out)).mono ?_
    rintro e w23 ⟨xg2, rfl, hge, hlt, hcp, hb⟩
    have B24 : Hid (Below w.heap.size w w23) := B18.out.trans (hb.mono B18.out.size)
    have hz25 := hb.size
    have F26 : Hid (Hold (w.heap.size) (w.heap.size + 1) (BoxV (w.heap.size) [.int .i64 cr2.k, .int .i64 cr2.e, .int .i64 cr2.f, .int .i64 cr2.s, .int .i64 cr2.n, .slice cr2.ga cr2.gn cr2.gc]) w23) := F20.out.below hb
    have F27 : Hid (Hold (xg0) (xg0 + 1) (ShCp xg0 len0 z0) w23) := F21.out.below hb
    clear B18 F20 F21
    have F28 : Hid (Hold (xg2) (xg2 + 1) (IntCp xg2 cr2.gn cr2.zs) w23) := IntCp.hold hcp hlt
    have hl29 := F28.out.le
    have hgexg2 : w17.heap.size ≤ xg2 := hge
    clear hcp hlt hb hge
    clear b20 b21 b22 b23 b24 b25
    go_upto_region 11 with fail
    obtain ⟨w30, hX⟩ : ∃ X, X = w23.alloc (.cells #[.int .i64 cr2.k, .int .i64 cr2.e, .int .i64 cr2.f, .int .i64 cr2.s, .int .i64 cr2.n, .slice (some ⟨xg2, 0, none⟩) cr2.gn cr2.gn] 31) := ⟨_, rfl⟩
    rw [← hX]
    have hb : Below w23.heap.size w23 w30 := by rw [hX]; exact (Below.refl _ _).alloc (Nat.le_refl _) _
    have hbx : Hold w23.heap.size (w23.heap.size + 1) (BoxV w23.heap.size [.int .i64 cr2.k, .int .i64 cr2.e, .int .i64 cr2.f, .int .i64 cr2.s, .int .i64 cr2.n, .slice (some ⟨xg2, 0, none⟩) cr2.gn cr2.gn]) w30 := by rw [hX]; exact boxV_new w23 #[.int .i64 cr2.k, .int .i64 cr2.e, .int .i64 cr2.f, .int .i64 cr2.s, .int .i64 cr2.n, .slice (some ⟨xg2, 0, none⟩) cr2.gn cr2.gn] 31
    clear hX
    have B31 : Hid (Below w.heap.size w w30) := B24.out.trans (hb.mono B24.out.size)
    have hz32 := hb.size
    have F33 : Hid (Hold (w.heap.size) (w.heap.size + 1) (BoxV (w.heap.size) [.int .i64 cr2.k, .int .i64 cr2.e, .int .i64 cr2.f, .int .i64 cr2.s, .int .i64 cr2.n, .slice cr2.ga cr2.gn cr2.gc]) w30) := F26.out.below hb
    have F34 : Hid (Hold (xg0) (xg0 + 1) (ShCp xg0 len0 z0) w30) := F27.out.below hb
    have F35 : Hid (Hold (xg2) (xg2 + 1) (IntCp xg2 cr2.gn cr2.zs) w30) := F28.out.below hb
    clear B24 F26 F27 F28
    have F36 : Hid (Hold (w23.heap.size) (w23.heap.size + 1) (BoxV w23.heap.size [.int .i64 cr2.k, .int .i64 cr2.e, .int .i64 cr2.f, .int .i64 cr2.s, .int .i64 cr2.n, .slice (some ⟨xg2, 0, none⟩) cr2.gn cr2.gn]) w30) := hbx
    have hl37 := F36.out.le
    clear hbx hb
    have xb20 := F36.out.out 0 _ rfl
    have xb21 := F36.out.out 1 _ rfl
    have xb22 := F36.out.out 2 _ rfl
    have xb23 := F36.out.out 3 _ rfl
    have xb24 := F36.out.out 4 _ rfl
    have xb25 := F36.out.out 5 _ rfl
    go_wp2_with fail
    refine (HIM.out _ _ _ F34.out.out F35.out.out).mono ?_
    rintro e w38 ⟨rfl, hb⟩
    have B39 : Hid (Below w.heap.size w w38) := B31.out.trans (hb.mono B31.out.size)
    have hz40 := hb.size
    have F41 : Hid (Hold (w.heap.size) (w.heap.size + 1) (BoxV (w.heap.size) [.int .i64 cr2.k, .int .i64 cr2.e, .int .i64 cr2.f, .int .i64 cr2.s, .int .i64 cr2.n, .slice cr2.ga cr2.gn cr2.gc]) w38) := F33.out.below hb
    have F42 : Hid (Hold (xg0) (xg0 + 1) (ShCp xg0 len0 z0) w38) := F34.out.below hb
    have F43 : Hid (Hold (xg2) (xg2 + 1) (IntCp xg2 cr2.gn cr2.zs) w38) := F35.out.below hb
    have F44 : Hid (Hold (w23.heap.size) (w23.heap.size + 1) (BoxV w23.heap.size [.int .i64 cr2.k, .int .i64 cr2.e, .int .i64 cr2.f, .int .i64 cr2.s, .int .i64 cr2.n, .slice (some ⟨xg2, 0, none⟩) cr2.gn cr2.gn]) w38) := F36.out.below hb
    clear B31 F33 F34 F35 F36
    clear xb20 xb21 xb22 xb23 xb24 xb25
    clear hb
    go_wp2_with fail
    refine (toShares_room a0 len0 cap0 z0 _ hs0 (H0.out.below B39.out)).mono ?_
    rintro e w45 ⟨rfl, hat, hlt, hb, hroom⟩
    have B46 : Hid (Below w.heap.size w w45) := B39.out.trans (hb.mono B39.out.size)
    have hz47 := hb.size
    have F48 : Hid (Hold (w.heap.size) (w.heap.size + 1) (BoxV (w.heap.size) [.int .i64 cr2.k, .int .i64 cr2.e, .int .i64 cr2.f, .int .i64 cr2.s, .int .i64 cr2.n, .slice cr2.ga cr2.gn cr2.gc]) w45) := F41.out.below hb
    have F49 : Hid (Hold (xg0) (xg0 + 1) (ShCp xg0 len0 z0) w45) := F42.out.below hb
    have F50 : Hid (Hold (xg2) (xg2 + 1) (IntCp xg2 cr2.gn cr2.zs) w45) := F43.out.below hb
    have F51 : Hid (Hold (w23.heap.size) (w23.heap.size + 1) (BoxV w23.heap.size [.int .i64 cr2.k, .int .i64 cr2.e, .int .i64 cr2.f, .int .i64 cr2.s, .int .i64 cr2.n, .slice (some ⟨xg2, 0, none⟩) cr2.gn cr2.gn]) w45) := F44.out.below hb
    clear B39 F41 F42 F43 F44
    have F52 : Hid (Hold (w38.heap.size) (w38.heap.size + 1) (ShCp w38.heap.size len0 z0) w45) := ShCp.hold ⟨hat, hroom⟩ hlt
    have hl53 := F52.out.le
    clear hat hroom hlt hb
    go_wp2_with fail
    refine (eqShares_same _ _ len0 _ _ z0 _ hs0 (ShIn.of HZ0.out F49.out.out.1) (ShIn.of HZ0.out F52.out.out.1)).mono ?_
    rintro e w54 ⟨rfl, hb⟩
    clear F52
    have B55 : Hid (Below w.heap.size w w54) := B46.out.trans (hb.mono B46.out.size)
    have hz56 := hb.size
    have F57 : Hid (Hold (w.heap.size) (w.heap.size + 1) (BoxV (w.heap.size) [.int .i64 cr2.k, .int .i64 cr2.e, .int .i64 cr2.f, .int .i64 cr2.s, .int .i64 cr2.n, .slice cr2.ga cr2.gn cr2.gc]) w54) := F48.out.below hb
    have F58 : Hid (Hold (xg0) (xg0 + 1) (ShCp xg0 len0 z0) w54) := F49.out.below hb
    have F59 : Hid (Hold (xg2) (xg2 + 1) (IntCp xg2 cr2.gn cr2.zs) w54) := F50.out.below hb
    have F60 : Hid (Hold (w23.heap.size) (w23.heap.size + 1) (BoxV w23.heap.size [.int .i64 cr2.k, .int .i64 cr2.e, .int .i64 cr2.f, .int .i64 cr2.s, .int .i64 cr2.n, .slice (some ⟨xg2, 0, none⟩) cr2.gn cr2.gn]) w54) := F51.out.below hb
    clear B46 F48 F49 F50 F51
    clear hb
    have b20 := F57.out.out 0 _ rfl
    have b21 := F57.out.out 1 _ rfl
    have b22 := F57.out.out 2 _ rfl
    have b23 := F57.out.out 3 _ rfl
    have b24 := F57.out.out 4 _ rfl
    have b25 := F57.out.out 5 _ rfl
    have xb20 := F60.out.out 0 _ rfl
    have xb21 := F60.out.out 1 _ rfl
    have xb22 := F60.out.out 2 _ rfl
    have xb23 := F60.out.out 3 _ rfl
    have xb24 := F60.out.out 4 _ rfl
    have xb25 := F60.out.out 5 _ rfl
    have hba : w.heap.size < w54.heap.size := by have := F57.out.le; omega
    have hbb : w23.heap.size < w54.heap.size := by have := F60.out.le; omega
    have HTO : Hid (∀ w2, KR0 w54 w2 → Below w.heap.size w w2) := fun w2 q => B55.out.trans (q.2.mono B55.out.size)
    go_upto_region 16 with fail
    refine wp_region_held_drew (S := fun w' => KR0 w54 w') (by kernel_rfl) (kp_drew _) (fun hHeld => ?_)
    refine wpAnyH_take (i := 0) (v := ?_) rfl (by kernel_rfl) (by kernel_rfl) (by kernel_rfl) (fun _ _ _ h => h) (Or.inl ⟨by kernel_rfl, ?_⟩) (by assumption) ?_
    rotate_left 1
    · intro w hSw; (try dsimp only at hSw); go_simp; try (with_reducible rfl)
    try simp only [Act.put, List.getElem_toArray, List.getElem_cons_succ, List.getElem_cons_zero, List.setIfInBounds_toArray, List.set_cons_zero, List.set_cons_succ]
    refine wpAnyH_take (i := 1) (v := ?_) rfl (by kernel_rfl) (by kernel_rfl) (by kernel_rfl) (fun _ _ _ h => h) (Or.inl ⟨by kernel_rfl, ?_⟩) (by assumption) ?_
    rotate_left 1
    · intro w hSw; (try dsimp only at hSw); go_simp; try (with_reducible rfl)
    try simp only [Act.put, List.getElem_toArray, List.getElem_cons_succ, List.getElem_cons_zero, List.setIfInBounds_toArray, List.set_cons_zero, List.set_cons_succ]
    refine wpAnyH_ready (rs := [2]) (by kernel_rfl) (by simp) ?_
    refine AllReadyH.cons rfl (fun K hK => ?_) AllReadyH.nil
    go_simp
    refine (toCert_c cr2 _ hs2 (H2.out.below (HTO.out _ (by assumption)))).mono ?_
    rintro d w61 ⟨gE, rfl, hge, hlt, hcp, hbE⟩
    have hS := kp_step (by assumption) hbE
    have EE := (IntCp.hold hcp hlt).out
    have EC := (F59.out.drew.below hbE).out
    refine hK.out _ _ hS (fun hHeld => ?_)
    clear hK K
    try simp only [Act.put, List.getElem_toArray, List.getElem_cons_succ, List.getElem_cons_zero, List.setIfInBounds_toArray, List.set_cons_zero, List.set_cons_succ]
    refine wpAnyH_ready (rs := [3]) (by kernel_rfl) (by simp) ?_
    refine AllReadyH.cons rfl (fun K hK => ?_) AllReadyH.nil
    go_simp
    refine (eqCert_same cr2 _ _ _ hs2 HZ2.out EC.1 EE.1).mono ?_
    rintro d w62 ⟨rfl, hbQ⟩
    have hS := kp_step (by assumption) hbQ
    have hSQ := hS
    refine hK.out _ _ hS (fun hHeld => ?_)
    clear hK K
    try simp only [Act.put, List.getElem_toArray, List.getElem_cons_succ, List.getElem_cons_zero, List.setIfInBounds_toArray, List.set_cons_zero, List.set_cons_succ]
    refine wpAnyH_take (i := 4) (v := ?_) rfl (by kernel_rfl) (by kernel_rfl) (by kernel_rfl) (fun _ _ _ h => h) (Or.inl ⟨by kernel_rfl, ?_⟩) (by assumption) ?_
    rotate_left 1
    · intro w hSw; (try dsimp only at hSw); go_simp; try (with_reducible rfl)
    try simp only [Act.put, List.getElem_toArray, List.getElem_cons_succ, List.getElem_cons_zero, List.setIfInBounds_toArray, List.set_cons_zero, List.set_cons_succ]
    refine wpAnyH_done (by kernel_rfl) ?_ _
    have hbK := hSQ.2
    clear hS hSQ EE EC hbQ hbE hcp hlt hge b20 b21 b22 b23 b24 b25 xb20 xb21 xb22 xb23 xb24 xb25 hba hbb HTO
    have B63 : Hid (Below w.heap.size w w62) := B55.out.trans (hbK.mono B55.out.size)
    have hz64 := hbK.size
    have F65 : Hid (Hold (w.heap.size) (w.heap.size + 1) (BoxV (w.heap.size) [.int .i64 cr2.k, .int .i64 cr2.e, .int .i64 cr2.f, .int .i64 cr2.s, .int .i64 cr2.n, .slice cr2.ga cr2.gn cr2.gc]) w62) := F57.out.below hbK
    have F66 : Hid (Hold (xg0) (xg0 + 1) (ShCp xg0 len0 z0) w62) := F58.out.below hbK
    have F67 : Hid (Hold (xg2) (xg2 + 1) (IntCp xg2 cr2.gn cr2.zs) w62) := F59.out.below hbK
    have F68 : Hid (Hold (w23.heap.size) (w23.heap.size + 1) (BoxV w23.heap.size [.int .i64 cr2.k, .int .i64 cr2.e, .int .i64 cr2.f, .int .i64 cr2.s, .int .i64 cr2.n, .slice (some ⟨xg2, 0, none⟩) cr2.gn cr2.gn]) w62) := F60.out.below hbK
    clear B55 F57 F58 F59 F60
    clear hbK
    go_wp2
    go_ret
    exact ⟨rfl, B63.out⟩

/-! The walk: the Go text returns true. -/
theorem walk (a0 : Option Addr) (len0 cap0 : Nat) (z0 : List ShI) (a1 : Int) (cr2 : CrI) (w : World) (w0 : ShArg w a0 len0 z0) (w1 : (Lit.int .i64 a1).wf = true) (w2 : IntIn w cr2.ga cr2.gn cr2.zs ∧ cr2.gn ≤ maxLen) :
    Calls Try.prog 9 #[.slice a0 len0 cap0, .int .i64 a1, .agg #[.int .i64 cr2.k, .int .i64 cr2.e, .int .i64 cr2.f, .int .i64 cr2.s, .int .i64 cr2.n, .slice cr2.ga cr2.gn cr2.gc]] w fun e w' => e = .returned (.bool true) ∧ Below w.heap.size w w' := by
  have hmx : ∀ n : Nat, n ≤ 1048576 → n ≤ maxLen := fun n h => by unfold maxLen; omega
  exact inner a0 len0 cap0 z0 a1 cr2 (vfCode a1 z0 cr2.st cr2.zs) w w0.2.1 w0.1 w2.2 w2.1
    (fun h1 h2 g0 g2 W q0 q2 => specVerifyCert_c _ len0 len0 z0 a1 cr2.st _ cr2.gn cr2.gn cr2.zs W h1 (Nat.le_refl _) (hmx _ h1) h2 (ShIn.of w0.1.1 q0.1) (IntIn.of w2.1.1 q2.1))
    (fun h1 h2 g0 g2 W q0 q2 => implVerifyCert_c _ len0 len0 z0 a1 cr2.st _ cr2.gn cr2.gn cr2.zs W h1 (Nat.le_refl _) (hmx _ h1) h2 (ShIn.of w0.1.1 q0.1) (IntIn.of w2.1.1 q2.1))

/-! The row's step. -/
set_option maxRecDepth 100000 in
theorem lifted (os : Os) (started : os.Started) (H : Type) (enc : TypeId × Value → H) :
    ReturnsInHanded {} Try.checked os 9 .any (Rows.fnExactVerifyCertSpec.pre6 enc Try.prog Try.f9 Rows.fnExactVerifyCertRow.domain false) (Rows.fnExactVerifyCertSpec.post enc Try.prog Try.f9 false true false false) := by
  refine returnsInHanded_of_change (C := Try.checked) own started (by kernel_rfl) Try.func9
    (ChangeSpec.witness6 (enc := enc) (C := Try.checked) false ⟨#[], #[.slice none 0 0, .int .i64 0, .agg #[.int .i64 0, .int .i64 0, .int .i64 0, .int .i64 0, .int .i64 0, .slice none 0 0]], []⟩ 8 (by kernel_rfl) (by kernel_rfl) (by kernel_rfl) (by kernel_rfl)) ?_
  intro W base args ds gs before hval0 hW hcnd _
  have hval : ∀ (j : Nat) t v, Try.f9.params[j]? = some t → args[j]? = some v → Value.okWide Try.prog W .any base t v := hval0
  have hW' := hW
  obtain ⟨p, q, hA0, hV, rfl, hfz, hnd⟩ := hW
  have hA : DataW.TrodAll enc Try.prog W 0 (fun _ => true) true Try.f9.params.toList args.toList ds p := hA0
  rw [Try.params9] at hA hval
  obtain ⟨v0, vs0, d0, ds0, p0, q0, hargs, rfl, rfl, h0, r0⟩ := trodAll_cons hA
  obtain ⟨v1, vs1, d1, ds1, p1, q1, rfl, rfl, rfl, h1, r1⟩ := trodAll_cons r0
  obtain ⟨v2, vs2, d2, ds2, p2, q2, rfl, rfl, rfl, h2, r2⟩ := trodAll_cons r1
  obtain ⟨rfl, rfl, rfl⟩ := trodAll_nil r2
  obtain rfl : args = #[v0, v1, v2] := by cases args; simp_all
  obtain ⟨rfl, rfl⟩ := trodVars_none hV
  obtain ⟨a0, len0, cap0, rfl⟩ := okWide_slice Try.underlying47 (hval 0 47 v0 rfl rfl)
  have k0 := h0
  have lt0 : ∀ x ∈ p0, x.block < W.heap.size := by obtain ⟨m, hm⟩ := k0; exact DataW.trod_lt m _ _ _ hm
  obtain ⟨z0, w0⟩ : ∃ zs : List ShI, ShArg W a0 len0 zs := by
    obtain ⟨fuel, hf⟩ := h0
    exact shares_shape hf
  obtain ⟨a1, rfl, rfl, rfl, w1⟩ := open_int Try.underlying2 (hval 1 2 v1 rfl rfl) h1
  obtain ⟨cs2, rfl, hs2⟩ := okWide_struct Try.underlying62 (hval 2 62 v2 rfl rfl)
  have k2 := h2
  have lt2 : ∀ x ∈ p2, x.block < W.heap.size := by obtain ⟨m, hm⟩ := k2; exact DataW.trod_lt m _ _ _ hm
  obtain ⟨cr2, rfl, w2⟩ : ∃ c : CrI, cs2 = #[.int .i64 c.k, .int .i64 c.e, .int .i64 c.f, .int .i64 c.s, .int .i64 c.n, .slice c.ga c.gn c.gc] ∧ (IntIn W c.ga c.gn c.zs ∧ c.gn ≤ maxLen) := by
    obtain ⟨fuel, hf⟩ := h2
    exact cert_shape _ hf
  clear hA0 hval0
  refine (walk a0 len0 cap0 z0 a1 cr2 W w0 w1 w2).mono fun e W' ⟨he, bel⟩ => ?_
  subst he
  exact ⟨_, rfl, _, _, _, [], _, [], hW', trodAll_mk1 (shut_bool Try.underlying4 _), (trodAll_cons_mk (Below.trod laidOut (by kernel_rfl) (of_decide_eq_true (by kernel_rfl)) k0 bel lt0) (trodAll_cons_mk (shut_int Try.underlying2 w1) (trodAll_cons_mk (Below.trod laidOut (by kernel_rfl) (of_decide_eq_true (by kernel_rfl)) k2 bel lt2) trodAll_mk0))), rfl, bel.frame _, fun h => by cases h⟩

theorem over : Rows.fnExactVerifyCertRow.holds Try.pinned (OpenSpec.ofChange Rows.fnExactVerifyCertSpec) :=
  OpenClaim.holds_of_wide 9 Try.f9 rfl rfl rfl rfl rfl rfl rfl ⟨rfl, rfl, rfl, rfl, rfl⟩ rfl rfl rfl rfl rfl (by kernel_rfl) Try.func9 (by kernel_rfl)
    (of_decide_eq_true (by kernel_rfl)) (by unfold Func.isWrapper; first | (rw [if_pos (by decide +kernel)]; kernel_rfl) | (rw [if_neg (by decide +kernel)]; exact ⟨rfl, rfl⟩))
    (fun os started H enc _ => lifted os started H enc)

end Go.Proofs.Ytdfhebmecbcegaa.fnExactVerifyCert
namespace Go.Proofs.Ytdfhebmecbcegaa
theorem fnExactVerifyCert_holds : Rows.FnExactVerifyCertSaid := fnExactVerifyCert.over
#print axioms fnExactVerifyCert_holds
end Go.Proofs.Ytdfhebmecbcegaa
