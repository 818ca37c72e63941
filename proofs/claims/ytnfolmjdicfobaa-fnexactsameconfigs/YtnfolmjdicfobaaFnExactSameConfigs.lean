/-
  PROVED: for every two configurations the law laws.FnExactSameConfigs returns true, that is impl.SameConfigs answers as spec.SameConfigs there (up to 1<<20 elements in all, as the law itself says) and writes nothing into its arguments; the arguments read as they did.
  Conditions: none beside those that the given row itself bears. The frame is the shell written by program, turned for configurations; the walk is ours.
-/
import Derived.Test.YtnfolmjdicfobaaRows
import Derived.WalkKit
import Derived.ProofKit
import Derived.OpenShut
import Derived.ShutString
import Derived.ChangeOld
import Derived.Below
import Derived.Test.YtnfolmjdicfobaaSm4
import Derived.Test.YtnfolmjdicfobaaCfA
import Derived.Deep.CutRange
import Derived.Deep.CutBlock
namespace Go.Proofs.Ytnfolmjdicfobaa.fnExactSameConfigs
open Go.ChangeShapes Go.WideShapes Go.ChangeAt Go.RowKit
open Go.ChangeMaps (open_string shut_string)
set_option linter.unusedVariables false

theorem own : ownKnob Try.prog.godebug = none := by kernel_rfl
theorem laidOut : laidOutB Try.prog = true := by kernel_rfl

set_option linter.unusedSimpArgs false

abbrev KC (W W' : World) : Prop := (∀ b o, b < W.heap.size → W'.cell? ⟨b, o, none⟩ = W.cell? ⟨b, o, none⟩) ∧ Below W.heap.size W W'

set_option maxRecDepth 100000 in
set_option maxHeartbeats 8000000 in
theorem inner (c d : ConfI) (v : Bool) (w : World) (hc : ConfLe maxLen c) (hd : ConfLe maxLen d) (h : ConfIn w c) (h' : ConfIn w d)
    (HSP : Hid (∀ (x y : ConfI) (w : World), ConfSame c x → ConfSame d y → ConfLe 1048576 x → ConfLe 1048576 y → ConfIn w x → ConfIn w y → GivesS 20 x y v w))
    (HIM : Hid (∀ (x y : ConfI) (w : World), ConfSame c x → ConfSame d y → ConfLe 1048576 x → ConfLe 1048576 y → ConfIn w x → ConfIn w y → GivesS 21 x y v w)) :
    Calls Try.prog 7 #[.agg #[.int .i64 c.e, .int .i64 c.f, .slice c.ra c.rn c.rc, .slice c.fa c.fn c.fc, .slice c.ca c.cn c.cc], .agg #[.int .i64 d.e, .int .i64 d.f, .slice d.ra d.rn d.rc, .slice d.fa d.fn d.fc, .slice d.ca d.cn d.cc]] w fun e w' => e = .returned (.bool true) ∧ Below w.heap.size w w' := by
  have HIC : Hid (ConfIn w c ∧ ConfIn w d) := ⟨h, h'⟩
  have HLE : Hid (ConfLe maxLen c ∧ ConfLe maxLen d) := ⟨hc, hd⟩
  have hvv : (v != v) = false := by cases v <;> rfl
  clear h h' hc hd
  obtain ⟨V, hV⟩ : ∃ V, V = (w.alloc (.cells #[.int .i64 c.e, .int .i64 c.f, .slice c.ra c.rn c.rc, .slice c.fa c.fn c.fc, .slice c.ca c.cn c.cc] 26)).alloc (.cells #[.int .i64 d.e, .int .i64 d.f, .slice d.ra d.rn d.rc, .slice d.fa d.fn d.fc, .slice d.ca d.cn d.cc] 26) := ⟨_, rfl⟩
  have B0 : Below w.heap.size w V := by rw [hV]; exact ((Below.refl _ _).alloc (Nat.le_refl _) _).alloc (by simp) _
  have K0 : Hid (ConfAt V w.heap.size c ∧ ConfAt V (w.heap.size + 1) d) := by
    rw [hV]
    refine ⟨(ConfAt.new w c _).below ((Below.refl _ _).alloc (Nat.le_refl _) _), ?_⟩
    have := ConfAt.new (w.alloc (.cells #[.int .i64 c.e, .int .i64 c.f, .slice c.ra c.rn c.rc, .slice c.fa c.fn c.fc, .slice c.ca c.cn c.cc] 26)) d 26
    have hz : (w.alloc (.cells #[.int .i64 c.e, .int .i64 c.f, .slice c.ra c.rn c.rc, .slice c.fa c.fn c.fc, .slice c.ca c.cn c.cc] 26)).heap.size = w.heap.size + 1 := by simp
    rw [hz] at this
    exact this
  go_enter Try.func7, Try.ntmps7
  go_wp2_with fail
  rw [← hV]
  clear hV
  refine (szConfig_c c 1048576 V HLE.out.1 (by omega) (by omega) (HIC.out.1.below B0)).mono ?_
  rintro e w1 ⟨⟨r, rfl, hr1, hr2⟩, hb1⟩
  have B1 : Below w.heap.size w w1 := B0.trans (hb1.mono B0.size)
  have K1 : Hid (ConfAt w1 w.heap.size c ∧ ConfAt w1 (w.heap.size + 1) d) := ⟨K0.out.1.below hb1, K0.out.2.below hb1⟩
  clear hb1 B0 K0
  by_cases hr : r < 0
  · clear hr2
    go_wp2
    go_ret
    exact ⟨rfl, B1⟩
  · have HLC : Hid (ConfLe 1048576 c) := hr2 (by omega)
    have hr' : 0 ≤ r := by omega
    obtain ⟨k0, k1, k2, k3, k4⟩ := K1.out.2
    have hg1 := K1.out.2.lt
    clear hr2
    go_wp2_with fail
    refine (szConfig_c d r w1 HLE.out.2 (by omega) (by omega) (HIC.out.2.below B1)).mono ?_
    rintro e w2 ⟨⟨r', rfl, hr1', hr2'⟩, hb2⟩
    have B2 : Below w.heap.size w w2 := B1.trans (hb2.mono B1.size)
    have K2 : Hid (ConfAt w2 w.heap.size c ∧ ConfAt w2 (w.heap.size + 1) d) := ⟨K1.out.1.below hb2, K1.out.2.below hb2⟩
    clear hb2 B1 K1 k0 k1 k2 k3 k4 hg1
    by_cases hrr : r' < 0
    · clear hr2'
      go_wp2
      go_ret
      exact ⟨rfl, B2⟩
    · have HLD : Hid (ConfLe 1048576 d) := by
        have q := hr2' (by omega)
        exact ⟨by have := q.rules; omega, by have := q.forms; omega, fun k x e => by have := q.parts k x e; omega, by have := q.classes; omega⟩
      have hrr' : 0 ≤ r' := by omega
      clear hr2'
      go_upto_region 8 with fail
      obtain ⟨W, hWW⟩ : ∃ W, W = w2 := ⟨_, rfl⟩
      rw [← hWW] at K2 B2 ⊢
      clear hWW
      obtain ⟨k0, k1, k2, k3, k4⟩ := K2.out.1
      obtain ⟨m0, m1, m2, m3, m4⟩ := K2.out.2
      have hg := K2.out.1.lt
      have hh := K2.out.2.lt
      have HTC : Hid (∀ w' : World, KC W w' → Calls Try.prog 10 #[.agg #[.int .i64 c.e, .int .i64 c.f, .slice c.ra c.rn c.rc, .slice c.fa c.fn c.fc, .slice c.ca c.cn c.cc]] w' fun e w'' => ∃ x : ConfI, e = .returned (.agg #[.int .i64 x.e, .int .i64 x.f, .slice x.ra x.rn x.rc, .slice x.fa x.fn x.fc, .slice x.ca x.cn x.cc]) ∧ CopyOf c w' x w'') := fun w' q => toConfig_c c w' HLC.out ((HIC.out.1.below B2).below q.2)
      have HTD : Hid (∀ w' : World, KC W w' → Calls Try.prog 10 #[.agg #[.int .i64 d.e, .int .i64 d.f, .slice d.ra d.rn d.rc, .slice d.fa d.fn d.fc, .slice d.ca d.cn d.cc]] w' fun e w'' => ∃ y : ConfI, e = .returned (.agg #[.int .i64 y.e, .int .i64 y.f, .slice y.ra y.rn y.rc, .slice y.fa y.fn y.fc, .slice y.ca y.cn y.cc]) ∧ CopyOf d w' y w'') := fun w' q => toConfig_c d w' HLD.out ((HIC.out.2.below B2).below q.2)
      go_cut [6] from 20 to 24 (fun s wx => s = .bool v ∧ Below W.heap.size W wx)
      case first =>
        refine wp_region_held_drew (S := fun w' => KC W w') (by kernel_rfl) (kp_drew _) (fun hHeld => ?_)
        refine wpAnyH_take (i := 0) (v := ?_) rfl (by kernel_rfl) (by kernel_rfl) (by kernel_rfl) (fun _ _ _ h => h) (Or.inl ⟨by kernel_rfl, ?_⟩) (by assumption) ?_
        rotate_left 1
        · intro w hSw; (try dsimp only at hSw); go_simp; try (with_reducible rfl)
        try simp only [Act.put, List.getElem_toArray, List.getElem_cons_succ, List.getElem_cons_zero, List.setIfInBounds_toArray, List.set_cons_zero, List.set_cons_succ]
        refine wpAnyH_take (i := 2) (v := ?_) rfl (by kernel_rfl) (by kernel_rfl) (by kernel_rfl) (fun _ _ _ h => h) (Or.inl ⟨by kernel_rfl, ?_⟩) (by assumption) ?_
        rotate_left 1
        · intro w hSw; (try dsimp only at hSw); go_simp; try (with_reducible rfl)
        try simp only [Act.put, List.getElem_toArray, List.getElem_cons_succ, List.getElem_cons_zero, List.setIfInBounds_toArray, List.set_cons_zero, List.set_cons_succ]
        refine wpAnyH_ready (rs := [1]) (by kernel_rfl) (by simp) ?_
        refine AllReadyH.cons rfl (fun K hK => ?_) AllReadyH.nil
        go_simp
        refine (HTC.out _ hHeld).mono ?_
        rintro e wA ⟨x, rfl, hx⟩
        have hS := kp_step hHeld hx.2.2.2
        refine hK.out _ _ hS (fun hHeld => ?_)
        clear hK K
        try simp only [Act.put, List.getElem_toArray, List.getElem_cons_succ, List.getElem_cons_zero, List.setIfInBounds_toArray, List.set_cons_zero, List.set_cons_succ]
        refine wpAnyH_ready (rs := [3]) (by kernel_rfl) (by simp) ?_
        refine AllReadyH.cons rfl (fun K hK => ?_) AllReadyH.nil
        go_simp
        refine (HTD.out _ hHeld).mono ?_
        rintro e wB ⟨y, rfl, hy⟩
        have hS := kp_step hHeld hy.2.2.2
        refine hK.out _ _ hS (fun hHeld => ?_)
        clear hK K
        try simp only [Act.put, List.getElem_toArray, List.getElem_cons_succ, List.getElem_cons_zero, List.setIfInBounds_toArray, List.set_cons_zero, List.set_cons_succ]
        refine wpAnyH_ready (rs := [4]) (by kernel_rfl) (by simp) ?_
        refine AllReadyH.cons rfl (fun K hK => ?_) AllReadyH.nil
        go_simp
        refine (HSP.out x y _ hx.1 hy.1 (hx.1.le HIC.out.1 hx.2.1 HLC.out) (hy.1.le HIC.out.2 hy.2.1 HLD.out) (hx.2.1.below hy.2.2.2) hy.2.1).mono ?_
        rintro e wE ⟨rfl, hbE⟩
        have hS := kp_step hHeld hbE
        refine hK.out _ _ hS (fun hHeld => ?_)
        clear hK K
        try simp only [Act.put, List.getElem_toArray, List.getElem_cons_succ, List.getElem_cons_zero, List.setIfInBounds_toArray, List.set_cons_zero, List.set_cons_succ]
        refine wpAnyH_ready (rs := [5]) (by kernel_rfl) (by simp) ?_
        refine AllReadyH.cons rfl (fun K hK => ?_) AllReadyH.nil
        go_simp
        refine hK.out _ _ (by assumption) (fun hHeld => ?_)
        clear hK K
        try simp only [Act.put, List.getElem_toArray, List.getElem_cons_succ, List.getElem_cons_zero, List.setIfInBounds_toArray, List.set_cons_zero, List.set_cons_succ]
        refine wpAnyH_done (by kernel_rfl) ?_ _
        go_wp2_with fail
        go_meet
        exact ⟨rfl, hHeld.2⟩
      case rest =>
        obtain ⟨rfl, hbW⟩ := hcut
        have B3 : Below w.heap.size w wc := B2.trans (hbW.mono B2.size)
        have K3 : Hid (ConfAt wc w.heap.size c ∧ ConfAt wc (w.heap.size + 1) d) := ⟨K2.out.1.below hbW, K2.out.2.below hbW⟩
        clear K2 B2 hbW HTC HTD k0 k1 k2 k3 k4 m0 m1 m2 m3 m4 hg hh
        obtain ⟨k0, k1, k2, k3, k4⟩ := K3.out.1
        have hg := K3.out.1.lt
        go_wp2_with fail
        refine (toConfig_c c wc HLC.out (HIC.out.1.below B3)).mono ?_
        rintro e w4 ⟨x, rfl, hx1, hx2, hx3, hb4⟩
        have B4 : Below w.heap.size w w4 := B3.trans (hb4.mono B3.size)
        obtain ⟨V4, hV4⟩ : ∃ V4, V4 = w4.alloc (.cells #[.int .i64 x.e, .int .i64 x.f, .slice x.ra x.rn x.rc, .slice x.fa x.fn x.fc, .slice x.ca x.cn x.cc] 32) := ⟨_, rfl⟩
        have bV4 : Below w4.heap.size w4 V4 := by rw [hV4]; exact (Below.refl _ _).alloc (Nat.le_refl _) _
        have K4 : Hid (ConfAt V4 w.heap.size c ∧ ConfAt V4 (w.heap.size + 1) d ∧ ConfAt V4 w4.heap.size x ∧ ConfIn V4 x) := ⟨(K3.out.1.below hb4).below bV4, (K3.out.2.below hb4).below bV4, by rw [hV4]; exact ConfAt.new w4 x _, hx2.below bV4⟩
        have BV4 : Below w.heap.size w V4 := B4.trans (bV4.mono B4.size)
        have HX : Hid (ConfSame c x ∧ ConfLe 1048576 x) := ⟨hx1, hx1.le HIC.out.1 hx2 HLC.out⟩
        clear hx1 hx2 hx3 hb4 bV4 K3 B3 B4 k0 k1 k2 k3 k4 hg
        obtain ⟨m0, m1, m2, m3, m4⟩ := K4.out.2.1
        have hg := K4.out.2.1.lt
        rw [hV4] at m0 m1 m2 m3 m4 hg
        go_wp2_with fail
        rw [← hV4]
        rw [← hV4] at m0 m1 m2 m3 m4 hg
        clear hV4
        refine (toConfig_c d V4 HLD.out (HIC.out.2.below BV4)).mono ?_
        rintro e w5 ⟨y, rfl, hy1, hy2, hy3, hb5⟩
        have B5 : Below w.heap.size w w5 := BV4.trans (hb5.mono BV4.size)
        obtain ⟨V5, hV5⟩ : ∃ V5, V5 = w5.alloc (.cells #[.int .i64 y.e, .int .i64 y.f, .slice y.ra y.rn y.rc, .slice y.fa y.fn y.fc, .slice y.ca y.cn y.cc] 32) := ⟨_, rfl⟩
        have bV5 : Below w5.heap.size w5 V5 := by rw [hV5]; exact (Below.refl _ _).alloc (Nat.le_refl _) _
        have K5 : Hid (ConfAt V5 w.heap.size c ∧ ConfAt V5 (w.heap.size + 1) d ∧ ConfAt V5 w4.heap.size x ∧ ConfIn V5 x ∧ ConfAt V5 w5.heap.size y ∧ ConfIn V5 y) := ⟨(K4.out.1.below hb5).below bV5, (K4.out.2.1.below hb5).below bV5, (K4.out.2.2.1.below hb5).below bV5, (K4.out.2.2.2.below hb5).below bV5, by rw [hV5]; exact ConfAt.new w5 y _, hy2.below bV5⟩
        have BV5 : Below w.heap.size w V5 := B5.trans (bV5.mono B5.size)
        have HY : Hid (ConfSame d y ∧ ConfLe 1048576 y) := ⟨hy1, hy1.le HIC.out.2 hy2 HLD.out⟩
        clear hy1 hy2 hy3 hb5 bV5 K4 BV4 B5 m0 m1 m2 m3 m4 hg
        obtain ⟨k0, k1, k2, k3, k4⟩ := K5.out.2.2.1
        have hg := K5.out.2.2.1.lt
        rw [hV5] at k0 k1 k2 k3 k4 hg
        go_wp2_with fail
        rw [← hV5]
        clear hV5 k0 k1 k2 k3 k4 hg
        refine (HIM.out x y V5 HX.out.1 HY.out.1 HX.out.2 HY.out.2 K5.out.2.2.2.1 K5.out.2.2.2.2.2).mono ?_
        rintro e w6 ⟨rfl, hb6⟩
        obtain ⟨W, hWW⟩ : ∃ W, W = w6 := ⟨_, rfl⟩
        rw [← hWW] at hb6 ⊢
        clear hWW
        have BW : Below w.heap.size w W := BV5.trans (hb6.mono BV5.size)
        have K6 : Hid (ConfAt W w.heap.size c ∧ ConfAt W (w.heap.size + 1) d ∧ ConfAt W w4.heap.size x ∧ ConfIn W x ∧ ConfAt W w5.heap.size y ∧ ConfIn W y) := ⟨K5.out.1.below hb6, K5.out.2.1.below hb6, K5.out.2.2.1.below hb6, K5.out.2.2.2.1.below hb6, K5.out.2.2.2.2.1.below hb6, K5.out.2.2.2.2.2.below hb6⟩
        clear K5 hb6 BV5
        go_upto_region 14 with fail
        obtain ⟨k0, k1, k2, k3, k4⟩ := K6.out.1
        obtain ⟨m0, m1, m2, m3, m4⟩ := K6.out.2.2.1
        have hg := K6.out.1.lt
        have hh := K6.out.2.2.1.lt
        have HTC : Hid (∀ w' : World, KC W w' → Calls Try.prog 10 #[.agg #[.int .i64 c.e, .int .i64 c.f, .slice c.ra c.rn c.rc, .slice c.fa c.fn c.fc, .slice c.ca c.cn c.cc]] w' fun e w'' => ∃ x : ConfI, e = .returned (.agg #[.int .i64 x.e, .int .i64 x.f, .slice x.ra x.rn x.rc, .slice x.fa x.fn x.fc, .slice x.ca x.cn x.cc]) ∧ CopyOf c w' x w'') := fun w' q => toConfig_c c w' HLC.out ((HIC.out.1.below BW).below q.2)
        have HQC : Hid (∀ (w' w'' : World) (z : ConfI), KC W w'' → CopyOf c w' z w'' → Calls Try.prog 12 #[.agg #[.int .i64 x.e, .int .i64 x.f, .slice x.ra x.rn x.rc, .slice x.fa x.fn x.fc, .slice x.ca x.cn x.cc], .agg #[.int .i64 z.e, .int .i64 z.f, .slice z.ra z.rn z.rc, .slice z.fa z.fn z.fc, .slice z.ca z.cn z.cc]] w'' fun e w3 => e = .returned (.bool true) ∧ Below w''.heap.size w'' w3) := fun w' w'' z q r => eqConfig_same x z w'' HX.out.2 (HX.out.1.trans r.1) (K6.out.2.2.2.1.below q.2) r.2.1
        refine wp_region_held_drew (S := fun w' => KC W w') (by kernel_rfl) (kp_drew _) (fun hHeld => ?_)
        refine wpAnyH_take (i := 0) (v := ?_) rfl (by kernel_rfl) (by kernel_rfl) (by kernel_rfl) (fun _ _ _ h => h) (Or.inl ⟨by kernel_rfl, ?_⟩) (by assumption) ?_
        rotate_left 1
        · intro w hSw; (try dsimp only at hSw); go_simp; try (with_reducible rfl)
        try simp only [Act.put, List.getElem_toArray, List.getElem_cons_succ, List.getElem_cons_zero, List.setIfInBounds_toArray, List.set_cons_zero, List.set_cons_succ]
        refine wpAnyH_take (i := 1) (v := ?_) rfl (by kernel_rfl) (by kernel_rfl) (by kernel_rfl) (fun _ _ _ h => h) (Or.inl ⟨by kernel_rfl, ?_⟩) (by assumption) ?_
        rotate_left 1
        · intro w hSw; (try dsimp only at hSw); go_simp; try (with_reducible rfl)
        try simp only [Act.put, List.getElem_toArray, List.getElem_cons_succ, List.getElem_cons_zero, List.setIfInBounds_toArray, List.set_cons_zero, List.set_cons_succ]
        refine wpAnyH_ready (rs := [2]) (by kernel_rfl) (by simp) ?_
        refine AllReadyH.cons rfl (fun K hK => ?_) AllReadyH.nil
        go_simp
        refine (HTC.out _ hHeld).mono ?_
        rintro e wA ⟨z, rfl, hz⟩
        have hS := kp_step hHeld hz.2.2.2
        refine hK.out _ _ hS (fun hHeld => ?_)
        clear hK K
        try simp only [Act.put, List.getElem_toArray, List.getElem_cons_succ, List.getElem_cons_zero, List.setIfInBounds_toArray, List.set_cons_zero, List.set_cons_succ]
        refine wpAnyH_ready (rs := [3]) (by kernel_rfl) (by simp) ?_
        refine AllReadyH.cons rfl (fun K hK => ?_) AllReadyH.nil
        go_simp
        refine (HQC.out _ _ z hHeld hz).mono ?_
        rintro e wE ⟨rfl, hbE⟩
        have hS := kp_step hHeld hbE
        refine hK.out _ _ hS (fun hHeld => ?_)
        clear hK K
        try simp only [Act.put, List.getElem_toArray, List.getElem_cons_succ, List.getElem_cons_zero, List.setIfInBounds_toArray, List.set_cons_zero, List.set_cons_succ]
        refine wpAnyH_take (i := 4) (v := ?_) rfl (by kernel_rfl) (by kernel_rfl) (by kernel_rfl) (fun _ _ _ h => h) (Or.inl ⟨by kernel_rfl, ?_⟩) (by assumption) ?_
        rotate_left 1
        · intro w hSw; (try dsimp only at hSw); go_simp; try (with_reducible rfl)
        try simp only [Act.put, List.getElem_toArray, List.getElem_cons_succ, List.getElem_cons_zero, List.setIfInBounds_toArray, List.set_cons_zero, List.set_cons_succ]
        refine wpAnyH_done (by kernel_rfl) ?_ _
        obtain ⟨U, hUU⟩ : ∃ U, U = wE := ⟨_, rfl⟩
        rw [← hUU] at hHeld ⊢
        have BU : Below w.heap.size w U := BW.trans (hHeld.2.mono BW.size)
        have hbU := hHeld.2
        have K7 : Hid (ConfAt U (w.heap.size + 1) d ∧ ConfAt U w5.heap.size y ∧ ConfIn U y) := ⟨K6.out.2.1.below hbU, K6.out.2.2.2.2.1.below hbU, K6.out.2.2.2.2.2.below hbU⟩
        clear hUU hHeld hbU hbE hS hz HTC HQC K6 k0 k1 k2 k3 k4 m0 m1 m2 m3 m4 hg hh
        go_upto_region 16 with fail
        obtain ⟨k0, k1, k2, k3, k4⟩ := K7.out.1
        obtain ⟨m0, m1, m2, m3, m4⟩ := K7.out.2.1
        have hg := K7.out.1.lt
        have hh := K7.out.2.1.lt
        have HTD : Hid (∀ w' : World, KC U w' → Calls Try.prog 10 #[.agg #[.int .i64 d.e, .int .i64 d.f, .slice d.ra d.rn d.rc, .slice d.fa d.fn d.fc, .slice d.ca d.cn d.cc]] w' fun e w'' => ∃ x : ConfI, e = .returned (.agg #[.int .i64 x.e, .int .i64 x.f, .slice x.ra x.rn x.rc, .slice x.fa x.fn x.fc, .slice x.ca x.cn x.cc]) ∧ CopyOf d w' x w'') := fun w' q => toConfig_c d w' HLD.out ((HIC.out.2.below BU).below q.2)
        have HQD : Hid (∀ (w' w'' : World) (z : ConfI), KC U w'' → CopyOf d w' z w'' → Calls Try.prog 12 #[.agg #[.int .i64 y.e, .int .i64 y.f, .slice y.ra y.rn y.rc, .slice y.fa y.fn y.fc, .slice y.ca y.cn y.cc], .agg #[.int .i64 z.e, .int .i64 z.f, .slice z.ra z.rn z.rc, .slice z.fa z.fn z.fc, .slice z.ca z.cn z.cc]] w'' fun e w3 => e = .returned (.bool true) ∧ Below w''.heap.size w'' w3) := fun w' w'' z q r => eqConfig_same y z w'' HY.out.2 (HY.out.1.trans r.1) (K7.out.2.2.below q.2) r.2.1
        refine wp_region_held_drew (S := fun w' => KC U w') (by kernel_rfl) (kp_drew _) (fun hHeld => ?_)
        refine wpAnyH_take (i := 0) (v := ?_) rfl (by kernel_rfl) (by kernel_rfl) (by kernel_rfl) (fun _ _ _ h => h) (Or.inl ⟨by kernel_rfl, ?_⟩) (by assumption) ?_
        rotate_left 1
        · intro w hSw; (try dsimp only at hSw); go_simp; try (with_reducible rfl)
        try simp only [Act.put, List.getElem_toArray, List.getElem_cons_succ, List.getElem_cons_zero, List.setIfInBounds_toArray, List.set_cons_zero, List.set_cons_succ]
        refine wpAnyH_take (i := 1) (v := ?_) rfl (by kernel_rfl) (by kernel_rfl) (by kernel_rfl) (fun _ _ _ h => h) (Or.inl ⟨by kernel_rfl, ?_⟩) (by assumption) ?_
        rotate_left 1
        · intro w hSw; (try dsimp only at hSw); go_simp; try (with_reducible rfl)
        try simp only [Act.put, List.getElem_toArray, List.getElem_cons_succ, List.getElem_cons_zero, List.setIfInBounds_toArray, List.set_cons_zero, List.set_cons_succ]
        refine wpAnyH_ready (rs := [2]) (by kernel_rfl) (by simp) ?_
        refine AllReadyH.cons rfl (fun K hK => ?_) AllReadyH.nil
        go_simp
        refine (HTD.out _ hHeld).mono ?_
        rintro e wA ⟨z, rfl, hz⟩
        have hS := kp_step hHeld hz.2.2.2
        refine hK.out _ _ hS (fun hHeld => ?_)
        clear hK K
        try simp only [Act.put, List.getElem_toArray, List.getElem_cons_succ, List.getElem_cons_zero, List.setIfInBounds_toArray, List.set_cons_zero, List.set_cons_succ]
        refine wpAnyH_ready (rs := [3]) (by kernel_rfl) (by simp) ?_
        refine AllReadyH.cons rfl (fun K hK => ?_) AllReadyH.nil
        go_simp
        refine (HQD.out _ _ z hHeld hz).mono ?_
        rintro e wE ⟨rfl, hbE⟩
        have hS := kp_step hHeld hbE
        refine hK.out _ _ hS (fun hHeld => ?_)
        clear hK K
        try simp only [Act.put, List.getElem_toArray, List.getElem_cons_succ, List.getElem_cons_zero, List.setIfInBounds_toArray, List.set_cons_zero, List.set_cons_succ]
        refine wpAnyH_take (i := 4) (v := ?_) rfl (by kernel_rfl) (by kernel_rfl) (by kernel_rfl) (fun _ _ _ h => h) (Or.inl ⟨by kernel_rfl, ?_⟩) (by assumption) ?_
        rotate_left 1
        · intro w hSw; (try dsimp only at hSw); go_simp; try (with_reducible rfl)
        try simp only [Act.put, List.getElem_toArray, List.getElem_cons_succ, List.getElem_cons_zero, List.setIfInBounds_toArray, List.set_cons_zero, List.set_cons_succ]
        refine wpAnyH_done (by kernel_rfl) ?_ _
        go_wp2
        go_ret
        exact ⟨rfl, BU.trans (hHeld.2.mono BU.size)⟩

/-! The walk: the Go text returns true. -/
theorem walk (c0 : ConfI) (c1 : ConfI) (w : World) (w0 : ConfIn w c0 ∧ ConfLe maxLen c0) (w1 : ConfIn w c1 ∧ ConfLe maxLen c1) :
    Calls Try.prog 7 #[.agg #[.int .i64 c0.e, .int .i64 c0.f, .slice c0.ra c0.rn c0.rc, .slice c0.fa c0.fn c0.fc, .slice c0.ca c0.cn c0.cc], .agg #[.int .i64 c1.e, .int .i64 c1.f, .slice c1.ra c1.rn c1.rc, .slice c1.fa c1.fn c1.fc, .slice c1.ca c1.cn c1.cc]] w fun e w' => e = .returned (.bool true) ∧ Below w.heap.size w w' := by
  refine inner c0 c1 (smB c0 c1) w w0.2 w1.2 w0.1 w1.1 (fun x y w hx hy lx ly ix iy => ?_) (fun x y w hx hy lx ly ix iy => ?_)
  · have := specSame_c x y w lx ly ix iy
    unfold smB at this ⊢
    rw [hx.e, hx.f, hx.zs, hx.ps, hx.cs, hy.e, hy.f, hy.zs, hy.ps, hy.cs] at this
    exact this
  · have := implSame_c x y w lx ly ix iy
    unfold smB at this ⊢
    rw [hx.e, hx.f, hx.zs, hx.ps, hx.cs, hy.e, hy.f, hy.zs, hy.ps, hy.cs] at this
    exact this

/-! The row's step. -/
set_option maxRecDepth 100000 in
theorem lifted (os : Os) (started : os.Started) (H : Type) (enc : TypeId × Value → H) :
    ReturnsInHanded {} Try.checked os 7 .any (Rows.fnExactSameConfigsSpec.pre6 enc Try.prog Try.f7 Rows.fnExactSameConfigsRow.domain false) (Rows.fnExactSameConfigsSpec.post enc Try.prog Try.f7 false true false false) := by
  refine returnsInHanded_of_change (C := Try.checked) own started (by kernel_rfl) Try.func7
    (ChangeSpec.witness6 (enc := enc) (C := Try.checked) false ⟨#[], #[.agg #[.int .i64 0, .int .i64 0, .slice none 0 0, .slice none 0 0, .slice none 0 0], .agg #[.int .i64 0, .int .i64 0, .slice none 0 0, .slice none 0 0, .slice none 0 0]], []⟩ 8 (by kernel_rfl) (by kernel_rfl) (by kernel_rfl) (by kernel_rfl)) ?_
  intro W base args ds gs before hval0 hW hcnd _
  have hval : ∀ (j : Nat) t v, Try.f7.params[j]? = some t → args[j]? = some v → Value.okWide Try.prog W .any base t v := hval0
  have hW' := hW
  obtain ⟨p, q, hA0, hV, rfl, hfz, hnd⟩ := hW
  have hA : DataW.TrodAll enc Try.prog W 0 (fun _ => true) true Try.f7.params.toList args.toList ds p := hA0
  rw [Try.params7] at hA hval
  obtain ⟨v0, vs0, d0, ds0, p0, q0, hargs, rfl, rfl, h0, r0⟩ := trodAll_cons hA
  obtain ⟨v1, vs1, d1, ds1, p1, q1, rfl, rfl, rfl, h1, r1⟩ := trodAll_cons r0
  obtain ⟨rfl, rfl, rfl⟩ := trodAll_nil r1
  obtain rfl : args = #[v0, v1] := by cases args; simp_all
  obtain ⟨rfl, rfl⟩ := trodVars_none hV
  obtain ⟨cs0, rfl, hs0⟩ := okWide_struct Try.underlying26 (hval 0 26 v0 rfl rfl)
  have k0 := h0
  have lt0 : ∀ x ∈ p0, x.block < W.heap.size := by obtain ⟨m, hm⟩ := k0; exact DataW.trod_lt m _ _ _ hm
  obtain ⟨c0, rfl, w0⟩ : ∃ c : ConfI, cs0 = #[.int .i64 c.e, .int .i64 c.f, .slice c.ra c.rn c.rc, .slice c.fa c.fn c.fc, .slice c.ca c.cn c.cc] ∧ (ConfIn W c ∧ ConfLe maxLen c) := by
    obtain ⟨fuel, hf⟩ := h0
    exact conf_shape _ hf
  obtain ⟨cs1, rfl, hs1⟩ := okWide_struct Try.underlying26 (hval 1 26 v1 rfl rfl)
  have k1 := h1
  have lt1 : ∀ x ∈ p1, x.block < W.heap.size := by obtain ⟨m, hm⟩ := k1; exact DataW.trod_lt m _ _ _ hm
  obtain ⟨c1, rfl, w1⟩ : ∃ c : ConfI, cs1 = #[.int .i64 c.e, .int .i64 c.f, .slice c.ra c.rn c.rc, .slice c.fa c.fn c.fc, .slice c.ca c.cn c.cc] ∧ (ConfIn W c ∧ ConfLe maxLen c) := by
    obtain ⟨fuel, hf⟩ := h1
    exact conf_shape _ hf
  clear hA0 hval0
  refine (walk c0 c1 W w0 w1).mono fun e W' ⟨he, bel⟩ => ?_
  subst he
  exact ⟨_, rfl, _, _, _, [], _, [], hW', trodAll_mk1 (shut_bool Try.underlying4 _), (trodAll_cons_mk (Below.trod laidOut (by kernel_rfl) (of_decide_eq_true (by kernel_rfl)) k0 bel lt0) (trodAll_cons_mk (Below.trod laidOut (by kernel_rfl) (of_decide_eq_true (by kernel_rfl)) k1 bel lt1) trodAll_mk0)), rfl, bel.frame _, fun h => by cases h⟩

theorem over : Rows.fnExactSameConfigsRow.holds Try.pinned (OpenSpec.ofChange Rows.fnExactSameConfigsSpec) :=
  OpenClaim.holds_of_wide 7 Try.f7 rfl rfl rfl rfl rfl rfl rfl ⟨rfl, rfl, rfl, rfl, rfl⟩ rfl rfl rfl rfl rfl (by kernel_rfl) Try.func7 (by kernel_rfl)
    (of_decide_eq_true (by kernel_rfl)) (by unfold Func.isWrapper; first | (rw [if_pos (by decide +kernel)]; kernel_rfl) | (rw [if_neg (by decide +kernel)]; exact ⟨rfl, rfl⟩))
    (fun os started H enc _ => lifted os started H enc)

end Go.Proofs.Ytnfolmjdicfobaa.fnExactSameConfigs
namespace Go.Proofs.Ytnfolmjdicfobaa
theorem fnExactSameConfigs_holds : Rows.FnExactSameConfigsSaid := fnExactSameConfigs.over
#print axioms fnExactSameConfigs_holds
end Go.Proofs.Ytnfolmjdicfobaa
