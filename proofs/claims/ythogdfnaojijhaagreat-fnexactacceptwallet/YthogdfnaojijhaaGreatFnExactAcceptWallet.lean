/-
  PROVED: for every slice of configurations, every slice of shares and every wallet the law laws.FnExactAcceptWallet returns true, that is impl.AcceptWallet answers as spec.AcceptWallet there (up to 1<<20 elements in all, as the law itself says) and writes nothing into its arguments; the arguments read as they did.
  Conditions: none beside those that the given row itself bears. The frame is the shell written by program, turned for slices of structs and for structs; the walk is ours.
-/
import Derived.Test.YthogdfnaojijhaaGreatRows
import Derived.ShutString
import Derived.ChangeOld
import Derived.Test.YthogdfnaojijhaaGreatPa49
import Derived.Test.YthogdfnaojijhaaGreatPa52
namespace Go.Proofs.YthogdfnaojijhaaGreat.fnExactAcceptWallet
open Go.ChangeShapes Go.WideShapes Go.ChangeAt Go.RowKit
open Go.ChangeMaps (open_string shut_string)
set_option linter.unusedVariables false

theorem own : ownKnob Tryz.prog.godebug = none := by kernel_rfl
theorem laidOut : laidOutB Tryz.prog = true := by kernel_rfl

set_option linter.unusedSimpArgs false

abbrev KR0 (W W' : World) : Prop := (∀ b o, b < W.heap.size → W'.cell? ⟨b, o, none⟩ = W.cell? ⟨b, o, none⟩) ∧ Below W.heap.size W W'

set_option maxRecDepth 100000 in
set_option maxHeartbeats 8000000 in
theorem inner (a0 : Option Addr) (len0 cap0 : Nat) (z0 : List qA3) (a1 : Option Addr) (len1 cap1 : Nat) (z1 : List ShI) (wl2 : WlI) (c : Int) (w : World) (hm0 : len0 ≤ maxLen) (hq0 : ∀ (k : Nat) c, z0[k]? = some c → qB7 maxLen c) (h0 : qB1 w a0 len0 z0) (hm1 : len1 ≤ maxLen) (h1 : qD9 w a1 len1 z1) (hm2 : QB9 maxLen wl2) (h2 : QO8 w wl2)
    (HS : Hid (len0 ≤ 1048576 → len1 ≤ 1048576 → QB9 1048576 wl2 → ∀ (g0 h0 : Nat) (g1 : Nat) (g2 : WlP) (W : World), CpB g0 h0 len0 z0 W → QC0 g1 len1 z1 W → CpW g2 wl2 W → Calls Tryz.prog 20 #[.slice (some ⟨g0, 0, none⟩) len0 len0, .slice (some ⟨g1, 0, none⟩) len1 len1, .agg #[.slice (some ⟨g2.l, 0, none⟩) wl2.cn wl2.cn, .int .i64 wl2.k, .int .i64 wl2.e, .int .i64 wl2.f, .int .i64 wl2.s, .int .i64 wl2.n, .slice (some ⟨g2.g, 0, none⟩) wl2.gn wl2.gn, .slice (some ⟨g2.r, 0, none⟩) wl2.rn wl2.rn]] W fun e W' => e = .returned (.int .i64 c) ∧ Below W.heap.size W W'))
    (HI : Hid (len0 ≤ 1048576 → len1 ≤ 1048576 → QB9 1048576 wl2 → ∀ (g0 h0 : Nat) (g1 : Nat) (g2 : WlP) (W : World), CpB g0 h0 len0 z0 W → QC0 g1 len1 z1 W → CpW g2 wl2 W → Calls Tryz.prog 22 #[.slice (some ⟨g0, 0, none⟩) len0 len0, .slice (some ⟨g1, 0, none⟩) len1 len1, .agg #[.slice (some ⟨g2.l, 0, none⟩) wl2.cn wl2.cn, .int .i64 wl2.k, .int .i64 wl2.e, .int .i64 wl2.f, .int .i64 wl2.s, .int .i64 wl2.n, .slice (some ⟨g2.g, 0, none⟩) wl2.gn wl2.gn, .slice (some ⟨g2.r, 0, none⟩) wl2.rn wl2.rn]] W fun e W' => e = .returned (.int .i64 c) ∧ Below W.heap.size W W')) :
    Calls Tryz.prog 4 #[.slice a0 len0 cap0, .slice a1 len1 cap1, .agg #[.slice wl2.ca wl2.cn wl2.cc, .int .i64 wl2.k, .int .i64 wl2.e, .int .i64 wl2.f, .int .i64 wl2.s, .int .i64 wl2.n, .slice wl2.ga wl2.gn wl2.gc, .slice wl2.ra wl2.rn wl2.rc]] w fun e w' => e = .returned (.bool true) ∧ Below w.heap.size w w' := by
  have H0 : Hid (qB1 w a0 len0 z0) := h0
  have HM0 : Hid (∀ (k : Nat) c, z0[k]? = some c → qB7 maxLen c) := hq0
  clear h0 hq0
  have H1 : Hid (qD9 w a1 len1 z1) := h1
  have HZ1 : Hid (z1.length = len1) := h1.1
  clear h1
  have H2 : Hid (QO8 w wl2) := h2
  have HM2 : Hid (QB9 maxLen wl2) := hm2
  have HZ2 : Hid (wl2.zs.length = wl2.gn) := h2.is.1
  clear h2 hm2
  obtain ⟨V, hV⟩ : ∃ V, V = (w.alloc (.cells #[.slice wl2.ca wl2.cn wl2.cc, .int .i64 wl2.k, .int .i64 wl2.e, .int .i64 wl2.f, .int .i64 wl2.s, .int .i64 wl2.n, .slice wl2.ga wl2.gn wl2.gc, .slice wl2.ra wl2.rn wl2.rc] 54)) := ⟨_, rfl⟩
  have B0 : Hid (Below w.heap.size w V) := by rw [hV]; exact (Below.refl _ _).alloc (Nat.le_refl _) _
  have F1 : Hid (qD6 (w.heap.size) (w.heap.size + 1) (qJ1 (w.heap.size) [.slice wl2.ca wl2.cn wl2.cc, .int .i64 wl2.k, .int .i64 wl2.e, .int .i64 wl2.f, .int .i64 wl2.s, .int .i64 wl2.n, .slice wl2.ga wl2.gn wl2.gc, .slice wl2.ra wl2.rn wl2.rc]) V) := by rw [hV]; have q := qD0 w #[.slice wl2.ca wl2.cn wl2.cc, .int .i64 wl2.k, .int .i64 wl2.e, .int .i64 wl2.f, .int .i64 wl2.s, .int .i64 wl2.n, .slice wl2.ga wl2.gn wl2.gc, .slice wl2.ra wl2.rn wl2.rc] 54; exact q
  have hl2 := F1.out.le
  have hz0 := B0.out.size
  go_enter Tryz.func4, Tryz.ntmps4
  go_wp2_with fail
  rw [← hV]
  clear hV
  refine (QP4 a0 len0 cap0 z0 1048576 _ hm0 HM0.out (by omega) (by omega) (H0.out.below B0.out)).mono ?_
  rintro e w4 ⟨⟨v3, rfl, hv, hv2⟩, hb⟩
  have B5 : Hid (Below w.heap.size w w4) := B0.out.trans (hb.mono B0.out.size)
  have hz6 := hb.size
  have F7 : Hid (qD6 (w.heap.size) (w.heap.size + 1) (qJ1 (w.heap.size) [.slice wl2.ca wl2.cn wl2.cc, .int .i64 wl2.k, .int .i64 wl2.e, .int .i64 wl2.f, .int .i64 wl2.s, .int .i64 wl2.n, .slice wl2.ga wl2.gn wl2.gc, .slice wl2.ra wl2.rn wl2.rc]) w4) := F1.out.below hb
  clear B0 F1
  clear hb
  by_cases hneg : v3 < 0
  · go_wp2
    go_ret
    exact ⟨rfl, B5.out⟩
  have hs0 : len0 ≤ 1048576 := by have := (hv2 (by omega)).1; omega
  have HLE0 : Hid (∀ (k : Nat) c, z0[k]? = some c → qB7 1048576 c) := fun k c e => QA6 ((hv2 (by omega)).2 k c e) (by omega)
  have hiv3 : 0 ≤ v3 ∧ v3 ≤ 1048576 := ⟨by omega, by omega⟩
  clear hv hv2 hneg HM0
  go_wp2_with fail
  refine (QY0 a1 len1 cap1 v3 _ hm1 (by omega) (by omega)).mono ?_
  rintro e w9 ⟨⟨v8, rfl, hv, hv2⟩, hb⟩
  have B10 : Hid (Below w.heap.size w w9) := B5.out.trans (hb.mono B5.out.size)
  have hz11 := hb.size
  have F12 : Hid (qD6 (w.heap.size) (w.heap.size + 1) (qJ1 (w.heap.size) [.slice wl2.ca wl2.cn wl2.cc, .int .i64 wl2.k, .int .i64 wl2.e, .int .i64 wl2.f, .int .i64 wl2.s, .int .i64 wl2.n, .slice wl2.ga wl2.gn wl2.gc, .slice wl2.ra wl2.rn wl2.rc]) w9) := F7.out.below hb
  clear B5 F7
  clear hb
  by_cases hneg : v8 < 0
  · go_wp2
    go_ret
    exact ⟨rfl, B10.out⟩
  have hs1 : len1 ≤ 1048576 := hv2 (by omega)
  have hiv8 : 0 ≤ v8 ∧ v8 ≤ v3 := ⟨by omega, by omega⟩
  clear hv2 hneg
  have b20 := F12.out.out 0 _ rfl
  have b21 := F12.out.out 1 _ rfl
  have b22 := F12.out.out 2 _ rfl
  have b23 := F12.out.out 3 _ rfl
  have b24 := F12.out.out 4 _ rfl
  have b25 := F12.out.out 5 _ rfl
  have b26 := F12.out.out 6 _ rfl
  have b27 := F12.out.out 7 _ rfl
  go_wp2_with fail
  refine (QX9 wl2 v8 _ HM2.out (by omega) (by omega) (H2.out.below B10.out)).mono ?_
  rintro e w14 ⟨⟨v13, rfl, hv, hv2⟩, hb⟩
  have B15 : Hid (Below w.heap.size w w14) := B10.out.trans (hb.mono B10.out.size)
  have hz16 := hb.size
  have F17 : Hid (qD6 (w.heap.size) (w.heap.size + 1) (qJ1 (w.heap.size) [.slice wl2.ca wl2.cn wl2.cc, .int .i64 wl2.k, .int .i64 wl2.e, .int .i64 wl2.f, .int .i64 wl2.s, .int .i64 wl2.n, .slice wl2.ga wl2.gn wl2.gc, .slice wl2.ra wl2.rn wl2.rc]) w14) := F12.out.below hb
  clear B10 F12
  clear b20 b21 b22 b23 b24 b25 b26 b27
  clear hb
  by_cases hneg : v13 < 0
  · go_wp2
    go_ret
    exact ⟨rfl, B15.out⟩
  have hs2 : QB9 1048576 wl2 := hv2 (by omega)
  have hiv13 : 0 ≤ v13 ∧ v13 ≤ v8 := ⟨by omega, by omega⟩
  clear hv2 hneg
  have HS' := HS.out hs0 hs1 hs2
  have HI' := HI.out hs0 hs1 hs2
  have HSP : Hid _ := HS'
  have HIM : Hid _ := HI'
  clear HS' HI' HS HI
  have b20 := F17.out.out 0 _ rfl
  have b21 := F17.out.out 1 _ rfl
  have b22 := F17.out.out 2 _ rfl
  have b23 := F17.out.out 3 _ rfl
  have b24 := F17.out.out 4 _ rfl
  have b25 := F17.out.out 5 _ rfl
  have b26 := F17.out.out 6 _ rfl
  have b27 := F17.out.out 7 _ rfl
  have hbl2 : w.heap.size < w14.heap.size := by omega
  go_upto_region 11 with fail
  have HTO0 : Hid (∀ w2, KR0 w14 w2 → Below w.heap.size w w2) := fun w2 q => B15.out.trans (q.2.mono B15.out.size)
  have HTO1 : Hid (∀ w2, KR0 w14 w2 → Below w.heap.size w w2) := fun w2 q => B15.out.trans (q.2.mono B15.out.size)
  have HTO2 : Hid (∀ w2, KR0 w14 w2 → Below w.heap.size w w2) := fun w2 q => B15.out.trans (q.2.mono B15.out.size)
  go_cut [8] from 28 to 34 (fun s wx => s = .int .i64 c ∧ Below w14.heap.size w14 wx)
  case first =>
    refine wp_region_held_drew (S := fun w' => KR0 w14 w') (by kernel_rfl) (qB6 _) (fun hHeld => ?_)
    refine wpAnyH_take (i := 0) (v := ?_) rfl (by kernel_rfl) (by kernel_rfl) (by kernel_rfl) (fun _ _ _ h => h) (Or.inl ⟨by kernel_rfl, ?_⟩) (by assumption) ?_
    rotate_left 1
    · intro w hSw; (try dsimp only at hSw); go_simp; try (with_reducible rfl)
    try simp only [Act.put, List.getElem_toArray, List.getElem_cons_succ, List.getElem_cons_zero, List.setIfInBounds_toArray, List.set_cons_zero, List.set_cons_succ]
    refine wpAnyH_take (i := 2) (v := ?_) rfl (by kernel_rfl) (by kernel_rfl) (by kernel_rfl) (fun _ _ _ h => h) (Or.inl ⟨by kernel_rfl, ?_⟩) (by assumption) ?_
    rotate_left 1
    · intro w hSw; (try dsimp only at hSw); go_simp; try (with_reducible rfl)
    try simp only [Act.put, List.getElem_toArray, List.getElem_cons_succ, List.getElem_cons_zero, List.setIfInBounds_toArray, List.set_cons_zero, List.set_cons_succ]
    refine wpAnyH_take (i := 4) (v := ?_) rfl (by kernel_rfl) (by kernel_rfl) (by kernel_rfl) (fun _ _ _ h => h) (Or.inl ⟨by kernel_rfl, ?_⟩) (by assumption) ?_
    rotate_left 1
    · intro w hSw; (try dsimp only at hSw); go_simp; try (with_reducible rfl)
    try simp only [Act.put, List.getElem_toArray, List.getElem_cons_succ, List.getElem_cons_zero, List.setIfInBounds_toArray, List.set_cons_zero, List.set_cons_succ]
    refine wpAnyH_ready (rs := [1]) (by kernel_rfl) (by simp) ?_
    refine AllReadyH.cons rfl (fun K hK => ?_) AllReadyH.nil
    go_simp
    refine (qS0 a0 len0 cap0 z0 _ hs0 HLE0.out (H0.out.below (HTO0.out _ (by assumption)))).mono ?_
    rintro d y00 ⟨rfl, dsT, hct⟩
    have hby00 := hct.bl
    have hS := qA8 (by assumption) hby00
    have hzy00 := hby00.size
    have E00 := hct.cpB hs0 H0.out HLE0.out
    clear hct
    have hSy00 := hS
    refine hK.out _ _ hS (fun hHeld => ?_)
    clear hK K
    try simp only [Act.put, List.getElem_toArray, List.getElem_cons_succ, List.getElem_cons_zero, List.setIfInBounds_toArray, List.set_cons_zero, List.set_cons_succ]
    refine wpAnyH_ready (rs := [3]) (by kernel_rfl) (by simp) ?_
    refine AllReadyH.cons rfl (fun K hK => ?_) AllReadyH.nil
    go_simp
    refine (qO0 a1 len1 cap1 z1 _ hs1 (H1.out.below (HTO1.out _ (by assumption)))).mono ?_
    rintro d y01 ⟨rfl, hat, hlt, hby01, hroom⟩
    have hS := qA8 (by assumption) hby01
    have hzy01 := hby01.size
    replace E00 := (by first | exact E00 | exact E00.alloc _ : qO8 _ _).below hby01
    have E01 := QC0.cast (g' := y00.heap.size) (QC0.hold ⟨hat, hroom⟩ hlt) (by first | rfl | simp [go_sem] | (simp [go_sem]; done))
    have hSy01 := hS
    refine hK.out _ _ hS (fun hHeld => ?_)
    clear hK K
    try simp only [Act.put, List.getElem_toArray, List.getElem_cons_succ, List.getElem_cons_zero, List.setIfInBounds_toArray, List.set_cons_zero, List.set_cons_succ]
    refine wpAnyH_ready (rs := [5]) (by kernel_rfl) (by simp) ?_
    refine AllReadyH.cons rfl (fun K hK => ?_) AllReadyH.nil
    go_simp
    refine (qV2 wl2 _ hs2 (H2.out.below (HTO2.out _ (by assumption)))).mono ?_
    rintro d y02 ⟨gn02, rfl, hge, hlt, hcp, hby02⟩
    have hS := qA8 (by assumption) hby02
    have hzy02 := hby02.size
    replace E00 := (by first | exact E00 | exact E00.alloc _ : qO8 _ _).below hby02
    replace E01 := (by first | exact E01 | exact E01.alloc _ : qD6 _ _ _ _).below hby02
    have E02 := hcp.hold
    have hSy02 := hS
    refine hK.out _ _ hS (fun hHeld => ?_)
    clear hK K
    try simp only [Act.put, List.getElem_toArray, List.getElem_cons_succ, List.getElem_cons_zero, List.setIfInBounds_toArray, List.set_cons_zero, List.set_cons_succ]
    refine wpAnyH_ready (rs := [6]) (by kernel_rfl) (by simp) ?_
    refine AllReadyH.cons rfl (fun K hK => ?_) AllReadyH.nil
    go_simp
    refine (HSP.out _ _ _ _ _ (by first | exact E00.out | exact (E00.alloc _).out) (by first | exact E01.out | exact (E01.alloc _).out) (by first | exact E02.out | exact (E02.alloc _).out)).mono ?_
    rintro d y03 ⟨rfl, hby03⟩
    have hS := qA8 (by assumption) hby03
    have hzy03 := hby03.size
    replace E00 := (by first | exact E00 | exact E00.alloc _ : qO8 _ _).below hby03
    replace E01 := (by first | exact E01 | exact E01.alloc _ : qD6 _ _ _ _).below hby03
    replace E02 := (by first | exact E02 | exact E02.alloc _ : qD6 _ _ _ _).below hby03
    have hSy03 := hS
    refine hK.out _ _ hS (fun hHeld => ?_)
    clear hK K
    try simp only [Act.put, List.getElem_toArray, List.getElem_cons_succ, List.getElem_cons_zero, List.setIfInBounds_toArray, List.set_cons_zero, List.set_cons_succ]
    refine wpAnyH_ready (rs := [7]) (by kernel_rfl) (by simp) ?_
    refine AllReadyH.cons rfl (fun K hK => ?_) AllReadyH.nil
    go_simp
    refine hK.out _ _ (by assumption) (fun hHeld => ?_)
    clear hK K
    try simp only [Act.put, List.getElem_toArray, List.getElem_cons_succ, List.getElem_cons_zero, List.setIfInBounds_toArray, List.set_cons_zero, List.set_cons_succ]
    refine wpAnyH_done (by kernel_rfl) ?_ _
    go_wp2_with fail
    go_meet
    exact ⟨rfl, hS.2⟩
  case rest =>
    obtain ⟨U18, rfl⟩ : ∃ U, U = wc := ⟨_, rfl⟩
    obtain ⟨rfl, hb⟩ := hcut
    have B19 : Hid (Below w.heap.size w U18) := B15.out.trans (hb.mono B15.out.size)
    have hz20 := hb.size
    have F21 : Hid (qD6 (w.heap.size) (w.heap.size + 1) (qJ1 (w.heap.size) [.slice wl2.ca wl2.cn wl2.cc, .int .i64 wl2.k, .int .i64 wl2.e, .int .i64 wl2.f, .int .i64 wl2.s, .int .i64 wl2.n, .slice wl2.ga wl2.gn wl2.gc, .slice wl2.ra wl2.rn wl2.rc]) U18) := F17.out.below hb
    clear B15 F17
    clear hb
    clear b20 b21 b22 b23 b24 b25 b26 b27
    clear hbl2
    clear HTO0
    clear HTO1
    clear HTO2
    have hNB : w.heap.size ≤ U18.heap.size := B19.out.size
    go_wp2_with fail
    refine (qS0 a0 len0 cap0 z0 _ hs0 HLE0.out (H0.out.below B19.out)).mono ?_
    rintro e w22 ⟨rfl, dsT, hct⟩
    have hb := hct.bl
    have hlt := hct.lt
    have B23 : Hid (Below w.heap.size w w22) := B19.out.trans (hb.mono B19.out.size)
    have hz24 := hb.size
    have F25 : Hid (qD6 (w.heap.size) (w.heap.size + 1) (qJ1 (w.heap.size) [.slice wl2.ca wl2.cn wl2.cc, .int .i64 wl2.k, .int .i64 wl2.e, .int .i64 wl2.f, .int .i64 wl2.s, .int .i64 wl2.n, .slice wl2.ga wl2.gn wl2.gc, .slice wl2.ra wl2.rn wl2.rc]) w22) := F21.out.below hb
    clear B19 F21
    obtain ⟨xg0, hxg0⟩ : ∃ g, g = U18.heap.size := ⟨_, rfl⟩
    obtain ⟨xh0, hxh0⟩ : ∃ g, g = w22.heap.size := ⟨_, rfl⟩
    have hgexg0 : U18.heap.size ≤ xg0 := by omega
    have hgxh0 : xg0 < xh0 ∧ xh0 ≤ w22.heap.size := by omega
    have F26 : Hid (qO8 (CpB (xg0) (xh0) len0 z0) w22) := by rw [hxg0, hxh0]; exact hct.cpB hs0 H0.out HLE0.out
    rw [← hxg0]
    clear hb hlt hct hxg0 hxh0
    go_wp2_with fail
    refine (qO0 a1 len1 cap1 z1 _ hs1 (H1.out.below B23.out)).mono ?_
    rintro e w27 ⟨rfl, hat, hlt, hb, hroom⟩
    have B28 : Hid (Below w.heap.size w w27) := B23.out.trans (hb.mono B23.out.size)
    have hz29 := hb.size
    have F30 : Hid (qD6 (w.heap.size) (w.heap.size + 1) (qJ1 (w.heap.size) [.slice wl2.ca wl2.cn wl2.cc, .int .i64 wl2.k, .int .i64 wl2.e, .int .i64 wl2.f, .int .i64 wl2.s, .int .i64 wl2.n, .slice wl2.ga wl2.gn wl2.gc, .slice wl2.ra wl2.rn wl2.rc]) w27) := F25.out.below hb
    have F31 : Hid (qO8 (CpB (xg0) (xh0) len0 z0) w27) := F26.out.below hb
    clear B23 F25 F26
    obtain ⟨xg1, hxg1⟩ : ∃ g, g = w22.heap.size := ⟨_, rfl⟩
    have hgexg1 : w22.heap.size ≤ xg1 := by omega
    rw [← hxg1] at hat hroom hlt ⊢
    have F32 : Hid (qD6 (xg1) (xg1 + 1) (QC0 xg1 len1 z1) w27) := QC0.hold ⟨hat, hroom⟩ hlt
    have hl33 := F32.out.le
    clear hxg1 hat hroom hlt hb
    have b20 := F30.out.out 0 _ rfl
    have b21 := F30.out.out 1 _ rfl
    have b22 := F30.out.out 2 _ rfl
    have b23 := F30.out.out 3 _ rfl
    have b24 := F30.out.out 4 _ rfl
    have b25 := F30.out.out 5 _ rfl
    have b26 := F30.out.out 6 _ rfl
    have b27 := F30.out.out 7 _ rfl
    go_wp2_with fail
    refine (qV2 wl2 _ hs2 (H2.out.below B28.out)).mono ?_
    rintro e w34 ⟨xg2, rfl, hge, hlt, hcp, hb⟩
    have B35 : Hid (Below w.heap.size w w34) := B28.out.trans (hb.mono B28.out.size)
    have hz36 := hb.size
    have F37 : Hid (qD6 (w.heap.size) (w.heap.size + 1) (qJ1 (w.heap.size) [.slice wl2.ca wl2.cn wl2.cc, .int .i64 wl2.k, .int .i64 wl2.e, .int .i64 wl2.f, .int .i64 wl2.s, .int .i64 wl2.n, .slice wl2.ga wl2.gn wl2.gc, .slice wl2.ra wl2.rn wl2.rc]) w34) := F30.out.below hb
    have F38 : Hid (qO8 (CpB (xg0) (xh0) len0 z0) w34) := F31.out.below hb
    have F39 : Hid (qD6 (xg1) (xg1 + 1) (QC0 xg1 len1 z1) w34) := F32.out.below hb
    clear B28 F30 F31 F32
    have F40 : Hid (qD6 (xg2.l) (xg2.h) (CpW xg2 wl2) w34) := hcp.hold
    have hl41 := F40.out.le
    have hgexg2 : w27.heap.size ≤ xg2.l := hge
    have hgxxg2 : xg2.l < xg2.h := by have := hcp.ml; have := hcp.mg; have := hcp.gr; have := hcp.rh; omega
    clear hcp hlt hb hge
    clear b20 b21 b22 b23 b24 b25 b26 b27
    go_upto_region 15 with fail
    obtain ⟨w42, hX⟩ : ∃ X, X = w34.alloc (.cells #[.slice (some ⟨xg2.l, 0, none⟩) wl2.cn wl2.cn, .int .i64 wl2.k, .int .i64 wl2.e, .int .i64 wl2.f, .int .i64 wl2.s, .int .i64 wl2.n, .slice (some ⟨xg2.g, 0, none⟩) wl2.gn wl2.gn, .slice (some ⟨xg2.r, 0, none⟩) wl2.rn wl2.rn] 34) := ⟨_, rfl⟩
    rw [← hX]
    have hb : Below w34.heap.size w34 w42 := by rw [hX]; exact (Below.refl _ _).alloc (Nat.le_refl _) _
    have hbx : qD6 w34.heap.size (w34.heap.size + 1) (qJ1 w34.heap.size [.slice (some ⟨xg2.l, 0, none⟩) wl2.cn wl2.cn, .int .i64 wl2.k, .int .i64 wl2.e, .int .i64 wl2.f, .int .i64 wl2.s, .int .i64 wl2.n, .slice (some ⟨xg2.g, 0, none⟩) wl2.gn wl2.gn, .slice (some ⟨xg2.r, 0, none⟩) wl2.rn wl2.rn]) w42 := by rw [hX]; exact qD0 w34 #[.slice (some ⟨xg2.l, 0, none⟩) wl2.cn wl2.cn, .int .i64 wl2.k, .int .i64 wl2.e, .int .i64 wl2.f, .int .i64 wl2.s, .int .i64 wl2.n, .slice (some ⟨xg2.g, 0, none⟩) wl2.gn wl2.gn, .slice (some ⟨xg2.r, 0, none⟩) wl2.rn wl2.rn] 34
    clear hX
    have B43 : Hid (Below w.heap.size w w42) := B35.out.trans (hb.mono B35.out.size)
    have hz44 := hb.size
    have F45 : Hid (qD6 (w.heap.size) (w.heap.size + 1) (qJ1 (w.heap.size) [.slice wl2.ca wl2.cn wl2.cc, .int .i64 wl2.k, .int .i64 wl2.e, .int .i64 wl2.f, .int .i64 wl2.s, .int .i64 wl2.n, .slice wl2.ga wl2.gn wl2.gc, .slice wl2.ra wl2.rn wl2.rc]) w42) := F37.out.below hb
    have F46 : Hid (qO8 (CpB (xg0) (xh0) len0 z0) w42) := F38.out.below hb
    have F47 : Hid (qD6 (xg1) (xg1 + 1) (QC0 xg1 len1 z1) w42) := F39.out.below hb
    have F48 : Hid (qD6 (xg2.l) (xg2.h) (CpW xg2 wl2) w42) := F40.out.below hb
    clear B35 F37 F38 F39 F40
    have F49 : Hid (qD6 (w34.heap.size) (w34.heap.size + 1) (qJ1 w34.heap.size [.slice (some ⟨xg2.l, 0, none⟩) wl2.cn wl2.cn, .int .i64 wl2.k, .int .i64 wl2.e, .int .i64 wl2.f, .int .i64 wl2.s, .int .i64 wl2.n, .slice (some ⟨xg2.g, 0, none⟩) wl2.gn wl2.gn, .slice (some ⟨xg2.r, 0, none⟩) wl2.rn wl2.rn]) w42) := hbx
    have hl50 := F49.out.le
    clear hbx hb
    have xb20 := F49.out.out 0 _ rfl
    have xb21 := F49.out.out 1 _ rfl
    have xb22 := F49.out.out 2 _ rfl
    have xb23 := F49.out.out 3 _ rfl
    have xb24 := F49.out.out 4 _ rfl
    have xb25 := F49.out.out 5 _ rfl
    have xb26 := F49.out.out 6 _ rfl
    have xb27 := F49.out.out 7 _ rfl
    go_wp2_with fail
    refine (HIM.out _ _ _ _ _ F46.out.out F47.out.out F48.out.out).mono ?_
    rintro e w51 ⟨rfl, hb⟩
    have B52 : Hid (Below w.heap.size w w51) := B43.out.trans (hb.mono B43.out.size)
    have hz53 := hb.size
    have F54 : Hid (qD6 (w.heap.size) (w.heap.size + 1) (qJ1 (w.heap.size) [.slice wl2.ca wl2.cn wl2.cc, .int .i64 wl2.k, .int .i64 wl2.e, .int .i64 wl2.f, .int .i64 wl2.s, .int .i64 wl2.n, .slice wl2.ga wl2.gn wl2.gc, .slice wl2.ra wl2.rn wl2.rc]) w51) := F45.out.below hb
    have F55 : Hid (qO8 (CpB (xg0) (xh0) len0 z0) w51) := F46.out.below hb
    have F56 : Hid (qD6 (xg1) (xg1 + 1) (QC0 xg1 len1 z1) w51) := F47.out.below hb
    have F57 : Hid (qD6 (xg2.l) (xg2.h) (CpW xg2 wl2) w51) := F48.out.below hb
    have F58 : Hid (qD6 (w34.heap.size) (w34.heap.size + 1) (qJ1 w34.heap.size [.slice (some ⟨xg2.l, 0, none⟩) wl2.cn wl2.cn, .int .i64 wl2.k, .int .i64 wl2.e, .int .i64 wl2.f, .int .i64 wl2.s, .int .i64 wl2.n, .slice (some ⟨xg2.g, 0, none⟩) wl2.gn wl2.gn, .slice (some ⟨xg2.r, 0, none⟩) wl2.rn wl2.rn]) w51) := F49.out.below hb
    clear B43 F45 F46 F47 F48 F49
    clear xb20 xb21 xb22 xb23 xb24 xb25 xb26 xb27
    clear hb
    go_wp2_with fail
    refine (qS0 a0 len0 cap0 z0 _ hs0 HLE0.out (H0.out.below B52.out)).mono ?_
    rintro e w59 ⟨rfl, dsT, hct⟩
    have hb := hct.bl
    have B60 : Hid (Below w.heap.size w w59) := B52.out.trans (hb.mono B52.out.size)
    have hz61 := hb.size
    have F62 : Hid (qD6 (w.heap.size) (w.heap.size + 1) (qJ1 (w.heap.size) [.slice wl2.ca wl2.cn wl2.cc, .int .i64 wl2.k, .int .i64 wl2.e, .int .i64 wl2.f, .int .i64 wl2.s, .int .i64 wl2.n, .slice wl2.ga wl2.gn wl2.gc, .slice wl2.ra wl2.rn wl2.rc]) w59) := F54.out.below hb
    have F63 : Hid (qO8 (CpB (xg0) (xh0) len0 z0) w59) := F55.out.below hb
    have F64 : Hid (qD6 (xg1) (xg1 + 1) (QC0 xg1 len1 z1) w59) := F56.out.below hb
    have F65 : Hid (qD6 (xg2.l) (xg2.h) (CpW xg2 wl2) w59) := F57.out.below hb
    have F66 : Hid (qD6 (w34.heap.size) (w34.heap.size + 1) (qJ1 w34.heap.size [.slice (some ⟨xg2.l, 0, none⟩) wl2.cn wl2.cn, .int .i64 wl2.k, .int .i64 wl2.e, .int .i64 wl2.f, .int .i64 wl2.s, .int .i64 wl2.n, .slice (some ⟨xg2.g, 0, none⟩) wl2.gn wl2.gn, .slice (some ⟨xg2.r, 0, none⟩) wl2.rn wl2.rn]) w59) := F58.out.below hb
    clear B52 F54 F55 F56 F57 F58
    have F67 : Hid (qO8 (CpB (w51.heap.size) (w59.heap.size) len0 z0) w59) := hct.cpB hs0 H0.out HLE0.out
    clear hb hct
    go_wp2_with fail
    refine (eqCpB_c _ _ hs0 F63.out.out F67.out.out).mono ?_
    rintro e w68 ⟨rfl, hb⟩
    clear F67
    have B69 : Hid (Below w.heap.size w w68) := B60.out.trans (hb.mono B60.out.size)
    have hz70 := hb.size
    have F71 : Hid (qD6 (w.heap.size) (w.heap.size + 1) (qJ1 (w.heap.size) [.slice wl2.ca wl2.cn wl2.cc, .int .i64 wl2.k, .int .i64 wl2.e, .int .i64 wl2.f, .int .i64 wl2.s, .int .i64 wl2.n, .slice wl2.ga wl2.gn wl2.gc, .slice wl2.ra wl2.rn wl2.rc]) w68) := F62.out.below hb
    have F72 : Hid (qO8 (CpB (xg0) (xh0) len0 z0) w68) := F63.out.below hb
    have F73 : Hid (qD6 (xg1) (xg1 + 1) (QC0 xg1 len1 z1) w68) := F64.out.below hb
    have F74 : Hid (qD6 (xg2.l) (xg2.h) (CpW xg2 wl2) w68) := F65.out.below hb
    have F75 : Hid (qD6 (w34.heap.size) (w34.heap.size + 1) (qJ1 w34.heap.size [.slice (some ⟨xg2.l, 0, none⟩) wl2.cn wl2.cn, .int .i64 wl2.k, .int .i64 wl2.e, .int .i64 wl2.f, .int .i64 wl2.s, .int .i64 wl2.n, .slice (some ⟨xg2.g, 0, none⟩) wl2.gn wl2.gn, .slice (some ⟨xg2.r, 0, none⟩) wl2.rn wl2.rn]) w68) := F66.out.below hb
    clear B60 F62 F63 F64 F65 F66
    clear hb
    go_wp2_with fail
    refine (qO0 a1 len1 cap1 z1 _ hs1 (H1.out.below B69.out)).mono ?_
    rintro e w76 ⟨rfl, hat, hlt, hb, hroom⟩
    have B77 : Hid (Below w.heap.size w w76) := B69.out.trans (hb.mono B69.out.size)
    have hz78 := hb.size
    have F79 : Hid (qD6 (w.heap.size) (w.heap.size + 1) (qJ1 (w.heap.size) [.slice wl2.ca wl2.cn wl2.cc, .int .i64 wl2.k, .int .i64 wl2.e, .int .i64 wl2.f, .int .i64 wl2.s, .int .i64 wl2.n, .slice wl2.ga wl2.gn wl2.gc, .slice wl2.ra wl2.rn wl2.rc]) w76) := F71.out.below hb
    have F80 : Hid (qO8 (CpB (xg0) (xh0) len0 z0) w76) := F72.out.below hb
    have F81 : Hid (qD6 (xg1) (xg1 + 1) (QC0 xg1 len1 z1) w76) := F73.out.below hb
    have F82 : Hid (qD6 (xg2.l) (xg2.h) (CpW xg2 wl2) w76) := F74.out.below hb
    have F83 : Hid (qD6 (w34.heap.size) (w34.heap.size + 1) (qJ1 w34.heap.size [.slice (some ⟨xg2.l, 0, none⟩) wl2.cn wl2.cn, .int .i64 wl2.k, .int .i64 wl2.e, .int .i64 wl2.f, .int .i64 wl2.s, .int .i64 wl2.n, .slice (some ⟨xg2.g, 0, none⟩) wl2.gn wl2.gn, .slice (some ⟨xg2.r, 0, none⟩) wl2.rn wl2.rn]) w76) := F75.out.below hb
    clear B69 F71 F72 F73 F74 F75
    have F84 : Hid (qD6 (w68.heap.size) (w68.heap.size + 1) (QC0 w68.heap.size len1 z1) w76) := QC0.hold ⟨hat, hroom⟩ hlt
    have hl85 := F84.out.le
    clear hat hroom hlt hb
    go_wp2_with fail
    refine (QH7 _ _ len1 _ _ z1 _ hs1 (qD9.of HZ1.out F81.out.out.1) (qD9.of HZ1.out F84.out.out.1)).mono ?_
    rintro e w86 ⟨rfl, hb⟩
    clear F84
    have B87 : Hid (Below w.heap.size w w86) := B77.out.trans (hb.mono B77.out.size)
    have hz88 := hb.size
    have F89 : Hid (qD6 (w.heap.size) (w.heap.size + 1) (qJ1 (w.heap.size) [.slice wl2.ca wl2.cn wl2.cc, .int .i64 wl2.k, .int .i64 wl2.e, .int .i64 wl2.f, .int .i64 wl2.s, .int .i64 wl2.n, .slice wl2.ga wl2.gn wl2.gc, .slice wl2.ra wl2.rn wl2.rc]) w86) := F79.out.below hb
    have F90 : Hid (qO8 (CpB (xg0) (xh0) len0 z0) w86) := F80.out.below hb
    have F91 : Hid (qD6 (xg1) (xg1 + 1) (QC0 xg1 len1 z1) w86) := F81.out.below hb
    have F92 : Hid (qD6 (xg2.l) (xg2.h) (CpW xg2 wl2) w86) := F82.out.below hb
    have F93 : Hid (qD6 (w34.heap.size) (w34.heap.size + 1) (qJ1 w34.heap.size [.slice (some ⟨xg2.l, 0, none⟩) wl2.cn wl2.cn, .int .i64 wl2.k, .int .i64 wl2.e, .int .i64 wl2.f, .int .i64 wl2.s, .int .i64 wl2.n, .slice (some ⟨xg2.g, 0, none⟩) wl2.gn wl2.gn, .slice (some ⟨xg2.r, 0, none⟩) wl2.rn wl2.rn]) w86) := F83.out.below hb
    clear B77 F79 F80 F81 F82 F83
    clear hb
    have b20 := F89.out.out 0 _ rfl
    have b21 := F89.out.out 1 _ rfl
    have b22 := F89.out.out 2 _ rfl
    have b23 := F89.out.out 3 _ rfl
    have b24 := F89.out.out 4 _ rfl
    have b25 := F89.out.out 5 _ rfl
    have b26 := F89.out.out 6 _ rfl
    have b27 := F89.out.out 7 _ rfl
    have xb20 := F93.out.out 0 _ rfl
    have xb21 := F93.out.out 1 _ rfl
    have xb22 := F93.out.out 2 _ rfl
    have xb23 := F93.out.out 3 _ rfl
    have xb24 := F93.out.out 4 _ rfl
    have xb25 := F93.out.out 5 _ rfl
    have xb26 := F93.out.out 6 _ rfl
    have xb27 := F93.out.out 7 _ rfl
    have hba : w.heap.size < w86.heap.size := by have := F89.out.le; omega
    have hbb : w34.heap.size < w86.heap.size := by have := F93.out.le; omega
    have HTO : Hid (∀ w2, KR0 w86 w2 → Below w.heap.size w w2) := fun w2 q => B87.out.trans (q.2.mono B87.out.size)
    go_upto_region 22 with fail
    refine wp_region_held_drew (S := fun w' => KR0 w86 w') (by kernel_rfl) (qB6 _) (fun hHeld => ?_)
    refine wpAnyH_take (i := 0) (v := ?_) rfl (by kernel_rfl) (by kernel_rfl) (by kernel_rfl) (fun _ _ _ h => h) (Or.inl ⟨by kernel_rfl, ?_⟩) (by assumption) ?_
    rotate_left 1
    · intro w hSw; (try dsimp only at hSw); go_simp; try (with_reducible rfl)
    try simp only [Act.put, List.getElem_toArray, List.getElem_cons_succ, List.getElem_cons_zero, List.setIfInBounds_toArray, List.set_cons_zero, List.set_cons_succ]
    refine wpAnyH_take (i := 1) (v := ?_) rfl (by kernel_rfl) (by kernel_rfl) (by kernel_rfl) (fun _ _ _ h => h) (Or.inl ⟨by kernel_rfl, ?_⟩) (by assumption) ?_
    rotate_left 1
    · intro w hSw; (try dsimp only at hSw); go_simp; try (with_reducible rfl)
    try simp only [Act.put, List.getElem_toArray, List.getElem_cons_succ, List.getElem_cons_zero, List.setIfInBounds_toArray, List.set_cons_zero, List.set_cons_succ]
    refine wpAnyH_ready (rs := [2]) (by kernel_rfl) (by simp) ?_
    refine AllReadyH.cons rfl (fun K hK => ?_) AllReadyH.nil
    go_simp
    refine (qV2 wl2 _ hs2 (H2.out.below (HTO.out _ (by assumption)))).mono ?_
    rintro d w94 ⟨gE, rfl, hge, hlt, hcp, hbE⟩
    have hS := qA8 (by assumption) hbE
    have EE := (hcp.hold).out
    have EC := (F92.out.drew.below hbE).out
    refine hK.out _ _ hS (fun hHeld => ?_)
    clear hK K
    try simp only [Act.put, List.getElem_toArray, List.getElem_cons_succ, List.getElem_cons_zero, List.setIfInBounds_toArray, List.set_cons_zero, List.set_cons_succ]
    refine wpAnyH_ready (rs := [3]) (by kernel_rfl) (by simp) ?_
    refine AllReadyH.cons rfl (fun K hK => ?_) AllReadyH.nil
    go_simp
    refine (eqWallet_c wl2 _ _ _ hs2 HZ2.out EC EE).mono ?_
    rintro d w95 ⟨rfl, hbQ⟩
    have hS := qA8 (by assumption) hbQ
    have hSQ := hS
    refine hK.out _ _ hS (fun hHeld => ?_)
    clear hK K
    try simp only [Act.put, List.getElem_toArray, List.getElem_cons_succ, List.getElem_cons_zero, List.setIfInBounds_toArray, List.set_cons_zero, List.set_cons_succ]
    refine wpAnyH_take (i := 4) (v := ?_) rfl (by kernel_rfl) (by kernel_rfl) (by kernel_rfl) (fun _ _ _ h => h) (Or.inl ⟨by kernel_rfl, ?_⟩) (by assumption) ?_
    rotate_left 1
    · intro w hSw; (try dsimp only at hSw); go_simp; try (with_reducible rfl)
    try simp only [Act.put, List.getElem_toArray, List.getElem_cons_succ, List.getElem_cons_zero, List.setIfInBounds_toArray, List.set_cons_zero, List.set_cons_succ]
    refine wpAnyH_done (by kernel_rfl) ?_ _
    have hbK := hSQ.2
    clear hS hSQ EE EC hbQ hbE hcp hlt hge b20 b21 b22 b23 b24 b25 b26 b27 xb20 xb21 xb22 xb23 xb24 xb25 xb26 xb27 hba hbb HTO
    have B96 : Hid (Below w.heap.size w w95) := B87.out.trans (hbK.mono B87.out.size)
    have hz97 := hbK.size
    have F98 : Hid (qD6 (w.heap.size) (w.heap.size + 1) (qJ1 (w.heap.size) [.slice wl2.ca wl2.cn wl2.cc, .int .i64 wl2.k, .int .i64 wl2.e, .int .i64 wl2.f, .int .i64 wl2.s, .int .i64 wl2.n, .slice wl2.ga wl2.gn wl2.gc, .slice wl2.ra wl2.rn wl2.rc]) w95) := F89.out.below hbK
    have F99 : Hid (qO8 (CpB (xg0) (xh0) len0 z0) w95) := F90.out.below hbK
    have F100 : Hid (qD6 (xg1) (xg1 + 1) (QC0 xg1 len1 z1) w95) := F91.out.below hbK
    have F101 : Hid (qD6 (xg2.l) (xg2.h) (CpW xg2 wl2) w95) := F92.out.below hbK
    have F102 : Hid (qD6 (w34.heap.size) (w34.heap.size + 1) (qJ1 w34.heap.size [.slice (some ⟨xg2.l, 0, none⟩) wl2.cn wl2.cn, .int .i64 wl2.k, .int .i64 wl2.e, .int .i64 wl2.f, .int .i64 wl2.s, .int .i64 wl2.n, .slice (some ⟨xg2.g, 0, none⟩) wl2.gn wl2.gn, .slice (some ⟨xg2.r, 0, none⟩) wl2.rn wl2.rn]) w95) := F93.out.below hbK
    clear B87 F89 F90 F91 F92 F93
    clear hbK
    go_wp2
    go_ret
    exact ⟨rfl, B96.out⟩

/-! The walk: the Go text returns true. -/
theorem walk (a0 : Option Addr) (len0 cap0 : Nat) (z0 : List qA3) (a1 : Option Addr) (len1 cap1 : Nat) (z1 : List ShI) (wl2 : WlI) (w : World) (w0 : QJ6 w a0 len0 z0) (w1 : ShArg w a1 len1 z1) (w2 : QO8 w wl2 ∧ QB9 maxLen wl2) :
    Calls Tryz.prog 4 #[.slice a0 len0 cap0, .slice a1 len1 cap1, .agg #[.slice wl2.ca wl2.cn wl2.cc, .int .i64 wl2.k, .int .i64 wl2.e, .int .i64 wl2.f, .int .i64 wl2.s, .int .i64 wl2.n, .slice wl2.ga wl2.gn wl2.gc, .slice wl2.ra wl2.rn wl2.rc]] w fun e w' => e = .returned (.bool true) ∧ Below w.heap.size w w' := by
  obtain ⟨G, hG⟩ := grants_of
  exact inner a0 len0 cap0 z0 a1 len1 cap1 z1 wl2 (qH8 G z0 z1 wl2) w w0.2.1 w0.2.2 w0.1 w1.2.1 w1.1 w2.2 w2.1
    (fun h0 h1 h2 g0 k0 g1 g2 W q0 q1 q2 => qY4 hG h0 h1 h2 w2.1.is.1 q0 (qD9.of w1.1.1 q1.1) q2)
    (fun h0 h1 h2 g0 k0 g1 g2 W q0 q1 q2 => qZ8 hG h0 h1 h2 w2.1.is.1 q0 (qD9.of w1.1.1 q1.1) q2)

/-! The row's step. -/
set_option maxRecDepth 100000 in
theorem lifted (os : Os) (started : os.Started) (H : Type) (enc : TypeId × Value → H) :
    ReturnsInHanded {} Tryz.checked os 4 .any (Rows.fnExactAcceptWalletSpec.pre6 enc Tryz.prog Tryz.f4 Rows.fnExactAcceptWalletRow.domain false) (Rows.fnExactAcceptWalletSpec.post enc Tryz.prog Tryz.f4 false true false false) := by
  refine returnsInHanded_of_change (C := Tryz.checked) own started (by kernel_rfl) Tryz.func4
    (ChangeSpec.witness6 (enc := enc) (C := Tryz.checked) false ⟨#[], #[.slice none 0 0, .slice none 0 0, .agg #[.slice none 0 0, .int .i64 0, .int .i64 0, .int .i64 0, .int .i64 0, .int .i64 0, .slice none 0 0, .slice none 0 0]], []⟩ 8 (by kernel_rfl) (by kernel_rfl) (by kernel_rfl) (by kernel_rfl)) ?_
  intro W base args ds gs before hval0 hW hcnd _
  have hval : ∀ (j : Nat) t v, Tryz.f4.params[j]? = some t → args[j]? = some v → Value.okWide Tryz.prog W .any base t v := hval0
  have hW' := hW
  obtain ⟨p, q, hA0, hV, rfl, hfz, hnd⟩ := hW
  have hA : DataW.TrodAll enc Tryz.prog W 0 (fun _ => true) true Tryz.f4.params.toList args.toList ds p := hA0
  rw [Tryz.params4] at hA hval
  obtain ⟨v0, vs0, d0, ds0, p0, q0, hargs, rfl, rfl, h0, r0⟩ := trodAll_cons hA
  obtain ⟨v1, vs1, d1, ds1, p1, q1, rfl, rfl, rfl, h1, r1⟩ := trodAll_cons r0
  obtain ⟨v2, vs2, d2, ds2, p2, q2, rfl, rfl, rfl, h2, r2⟩ := trodAll_cons r1
  obtain ⟨rfl, rfl, rfl⟩ := trodAll_nil r2
  obtain rfl : args = #[v0, v1, v2] := by cases args; simp_all
  obtain ⟨rfl, rfl⟩ := trodVars_none hV
  obtain ⟨a0, len0, cap0, rfl⟩ := okWide_slice Tryz.underlying22 (hval 0 22 v0 rfl rfl)
  have k0 := h0
  have lt0 : ∀ x ∈ p0, x.block < W.heap.size := by obtain ⟨m, hm⟩ := k0; exact DataW.trod_lt m _ _ _ hm
  obtain ⟨z0, w0⟩ : ∃ zs : List qA3, QJ6 W a0 len0 zs := by
    obtain ⟨fuel, hf⟩ := h0
    exact QH9 hf
  obtain ⟨a1, len1, cap1, rfl⟩ := okWide_slice Tryz.underlying23 (hval 1 23 v1 rfl rfl)
  have k1 := h1
  have lt1 : ∀ x ∈ p1, x.block < W.heap.size := by obtain ⟨m, hm⟩ := k1; exact DataW.trod_lt m _ _ _ hm
  obtain ⟨z1, w1⟩ : ∃ zs : List ShI, ShArg W a1 len1 zs := by
    obtain ⟨fuel, hf⟩ := h1
    exact QK7 hf
  obtain ⟨cs2, rfl, hs2⟩ := okWide_struct Tryz.underlying54 (hval 2 54 v2 rfl rfl)
  have k2 := h2
  have lt2 : ∀ x ∈ p2, x.block < W.heap.size := by obtain ⟨m, hm⟩ := k2; exact DataW.trod_lt m _ _ _ hm
  obtain ⟨wl2, rfl, w2⟩ : ∃ r : WlI, cs2 = #[.slice r.ca r.cn r.cc, .int .i64 r.k, .int .i64 r.e, .int .i64 r.f, .int .i64 r.s, .int .i64 r.n, .slice r.ga r.gn r.gc, .slice r.ra r.rn r.rc] ∧ (QO8 W r ∧ QB9 maxLen r) := by
    obtain ⟨fuel, hf⟩ := h2
    exact QK0 _ hf
  clear hA0 hval0
  refine (walk a0 len0 cap0 z0 a1 len1 cap1 z1 wl2 W w0 w1 w2).mono fun e W' ⟨he, bel⟩ => ?_
  subst he
  exact ⟨_, rfl, _, _, _, [], _, [], hW', trodAll_mk1 (shut_bool Tryz.underlying4 _), (trodAll_cons_mk (Below.trod laidOut (by kernel_rfl) (of_decide_eq_true (by kernel_rfl)) k0 bel lt0) (trodAll_cons_mk (Below.trod laidOut (by kernel_rfl) (of_decide_eq_true (by kernel_rfl)) k1 bel lt1) (trodAll_cons_mk (Below.trod laidOut (by kernel_rfl) (of_decide_eq_true (by kernel_rfl)) k2 bel lt2) trodAll_mk0))), rfl, bel.frame _, fun h => by cases h⟩

theorem over : Rows.fnExactAcceptWalletRow.holds Tryz.pinned (OpenSpec.ofChange Rows.fnExactAcceptWalletSpec) :=
  OpenClaim.holds_of_wide 4 Tryz.f4 rfl rfl rfl rfl rfl rfl rfl ⟨rfl, rfl, rfl, rfl, rfl⟩ rfl rfl rfl rfl rfl (by kernel_rfl) Tryz.func4 (by kernel_rfl)
    (of_decide_eq_true (by kernel_rfl)) (by unfold Func.isWrapper; first | (rw [if_pos (by decide +kernel)]; kernel_rfl) | (rw [if_neg (by decide +kernel)]; exact ⟨rfl, rfl⟩))
    (fun os started H enc _ => lifted os started H enc)

end Go.Proofs.YthogdfnaojijhaaGreat.fnExactAcceptWallet
namespace Go.Proofs.YthogdfnaojijhaaGreat
theorem fnExactAcceptWallet_holds : Rows.FnExactAcceptWalletSaid := fnExactAcceptWallet.over
#print axioms fnExactAcceptWallet_holds
end Go.Proofs.YthogdfnaojijhaaGreat
