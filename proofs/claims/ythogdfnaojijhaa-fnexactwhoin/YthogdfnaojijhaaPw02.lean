/-
  WALLETS AS ARGUMENTS: copied.
  Conditions: each fact bears its own.
  WALLETS AS ARGUMENTS: compared, marked; their shape.
  Conditions: each fact bears its own.
  PLAIN WORDS: what was said, looked for by its kind and epoch or as a whole.
  CONTRACT: impl.revokeOf: what goes against a statement.
  Conditions: none.
-/
import Derived.Test.YthogdfnaojijhaaPw01
import Derived.Test.YthogdfnaojijhaaSt1
import Derived.Test.YthogdfnaojijhaaSt2
namespace Go.Proofs.Ythogdfnaojijhaa
open Go.RowKit Go.ChangeShapes Go.WideShapes
set_option linter.unusedVariables false
set_option linter.unusedSimpArgs false

theorem BoxW.kept {b : Nat} {vs : List Value} {W W' : World} {l r : Nat} (h : BoxW b vs W) (hb : b < W.heap.size) (c : Chg l r W W') (d : b + 1 ≤ l ∨ r ≤ b) : BoxW b vs W' := ((h.hold hb).chg c d).out

set_option maxRecDepth 20000 in
set_option maxHeartbeats 4000000 in
theorem toWallet_c (x : WlI) (w : World) (hle : WlLe 1048576 x) (h : WlIn w x) :
    Calls Try.prog 20 #[.agg #[.slice x.ca x.cn x.cc, .int .i64 x.k, .int .i64 x.e, .int .i64 x.f, .int .i64 x.s, .int .i64 x.n, .slice x.ga x.gn x.gc, .slice x.ra x.rn x.rc]] w fun e w' => ∃ p : WlP, e = .returned (.agg #[.slice (some ⟨p.l, 0, none⟩) x.cn x.cn, .int .i64 x.k, .int .i64 x.e, .int .i64 x.f, .int .i64 x.s, .int .i64 x.n, .slice (some ⟨p.g, 0, none⟩) x.gn x.gn, .slice (some ⟨p.r, 0, none⟩) x.rn x.rn]) ∧ w.heap.size ≤ p.l ∧ CpW p x w' ∧ Below w.heap.size w w' := by
  obtain ⟨V, hV⟩ : ∃ V, V = ((w.alloc (.cells #[.slice x.ca x.cn x.cc, .int .i64 x.k, .int .i64 x.e, .int .i64 x.f, .int .i64 x.s, .int .i64 x.n, .slice x.ga x.gn x.gc, .slice x.ra x.rn x.rc] 47)).alloc (.cells #[.slice none 0 0, .int .i64 0, .int .i64 0, .int .i64 0, .int .i64 0, .int .i64 0, .slice none 0 0, .slice none 0 0] 55)).alloc (.cells #[.slice none 0 0, .int .i64 0, .int .i64 0, .int .i64 0, .int .i64 0, .int .i64 0, .slice none 0 0, .slice none 0 0] 55) := ⟨_, rfl⟩
  have zV : V.heap.size = w.heap.size + 1 + 1 + 1 := by rw [hV]; simp
  have BV : Hid (Below w.heap.size w V) := by show Below _ _ _; rw [hV]; exact (((Below.refl _ _).alloc (Nat.le_refl _) _).alloc (by simp) _).alloc (by simp; omega) _
  have X0 : Hid (Hold w.heap.size (w.heap.size + 1) (BoxV w.heap.size [.slice x.ca x.cn x.cc, .int .i64 x.k, .int .i64 x.e, .int .i64 x.f, .int .i64 x.s, .int .i64 x.n, .slice x.ga x.gn x.gc, .slice x.ra x.rn x.rc]) V) := by show Hold _ _ _ _; rw [hV]; exact ((boxV_new w _ _).alloc _).alloc _
  have Y0 : Hid (BoxW (w.heap.size + 1) [.slice none 0 0, .int .i64 0, .int .i64 0, .int .i64 0, .int .i64 0, .int .i64 0, .slice none 0 0, .slice none 0 0] V) := by
    show BoxW _ _ _
    have q := boxW_new (w.alloc (.cells #[.slice x.ca x.cn x.cc, .int .i64 x.k, .int .i64 x.e, .int .i64 x.f, .int .i64 x.s, .int .i64 x.n, .slice x.ga x.gn x.gc, .slice x.ra x.rn x.rc] 47)) #[.slice none 0 0, .int .i64 0, .int .i64 0, .int .i64 0, .int .i64 0, .int .i64 0, .slice none 0 0, .slice none 0 0] 55
    rw [World.size_alloc] at q
    rw [hV]
    exact q.below (by simp) ((Below.refl _ _).alloc (Nat.le_refl _) _)
  have O0 : Hid (BoxW (w.heap.size + 1 + 1) [.slice none 0 0, .int .i64 0, .int .i64 0, .int .i64 0, .int .i64 0, .int .i64 0, .slice none 0 0, .slice none 0 0] V) := by
    show BoxW _ _ _
    have q := boxW_new ((w.alloc (.cells #[.slice x.ca x.cn x.cc, .int .i64 x.k, .int .i64 x.e, .int .i64 x.f, .int .i64 x.s, .int .i64 x.n, .slice x.ga x.gn x.gc, .slice x.ra x.rn x.rc] 47)).alloc (.cells #[.slice none 0 0, .int .i64 0, .int .i64 0, .int .i64 0, .int .i64 0, .int .i64 0, .slice none 0 0, .slice none 0 0] 55)) #[.slice none 0 0, .int .i64 0, .int .i64 0, .int .i64 0, .int .i64 0, .int .i64 0, .slice none 0 0, .slice none 0 0] 55
    simp only [World.size_alloc] at q
    rw [hV]
    exact q
  have HW := hidW h
  have HI := hidW (h.below BV.out)
  have HL := hidW hle
  clear h hle
  go_enter Try.func20, Try.ntmps20
  go_wp2_with fail
  rw [← hV]
  clear hV
  refine (toCerts_c x.ca x.cn x.cc x.cz V HL.out.cn HL.out.cl HI.out.ch).mono ?_
  rintro e w1 ⟨rfl, ds1, hct⟩
  have hb := hct.bl
  have HR1 : Hid (Hold V.heap.size w1.heap.size (CpR V.heap.size w1.heap.size x.cn x.cz) w1) := hct.cpH HI.out.ch HL.out.cl
  have hlt1 := hct.lt
  have B1 := hidW (BV.out.trans (hb.mono BV.out.size))
  have X1 := hidW (X0.out.below hb)
  have Y1 := hidW (Y0.out.below (by omega) hb)
  have O1 := hidW (O0.out.below (by omega) hb)
  have I1 := hidW (HI.out.below hb)
  obtain ⟨l, hl⟩ : ∃ l, l = V.heap.size := ⟨_, rfl⟩
  rw [← hl] at HR1 hlt1 ⊢
  have hl0 : w.heap.size + 1 + 1 + 1 ≤ l ∧ l ≤ w.heap.size + 1 + 1 + 1 := by omega
  clear hb hct BV X0 Y0 O0 HI hl zV
  obtain ⟨T1, hT1⟩ : ∃ T, T = w1.setCell ⟨w.heap.size + 1 + 1, 0, none⟩ (.slice (some ⟨l, 0, none⟩) x.cn x.cn) := ⟨_, rfl⟩
  have sT1 : T1.heap.size ≤ w1.heap.size ∧ w1.heap.size ≤ T1.heap.size := by rw [hT1]; simp
  have C1 : Chg (w.heap.size + 1 + 1) (w.heap.size + 1 + 1 + 1) w1 T1 := by rw [hT1]; exact chg_set _ _ _ _
  have o0 := O1.out.1 0 _ rfl
  have f0 := O1.out.2 0
  have B2 := hidW (below_chg B1.out C1 (by omega) B1.out.size)
  have X2 := hidW (X1.out.chg C1 (by omega))
  have Y2 := hidW (Y1.out.kept (by omega) C1 (by omega))
  have O2 : Hid (BoxW (w.heap.size + 1 + 1) [.slice (some ⟨l, 0, none⟩) x.cn x.cn, .int .i64 0, .int .i64 0, .int .i64 0, .int .i64 0, .int .i64 0, .slice none 0 0, .slice none 0 0] T1) := by show BoxW _ _ _; rw [hT1]; exact O1.out.put 0 (by simp) _
  have I2 := hidW (HW.out.below B2.out)
  have HR2 := hidW (HR1.out.chg C1 (by omega))
  have c1 := X2.out.out 1 _ rfl
  have c2 := X2.out.out 2 _ rfl
  have c3 := X2.out.out 3 _ rfl
  have c4 := X2.out.out 4 _ rfl
  have c5 := X2.out.out 5 _ rfl
  have c6 := X2.out.out 6 _ rfl
  have hz1 := X1.out.le
  have hlo : w.heap.size + 1 + 1 < w1.heap.size := by omega
  have hlx : w.heap.size < T1.heap.size := by omega
  clear C1 X1 Y1 O1 B1 I1 HR1
  go_upto_region 3 with fail
  rw [← hT1]
  clear hT1 o0 f0
  go_wp2_with fail
  refine (toCert_c x.c T1 HL.out.gn I2.out.is).mono ?_
  rintro e w2 ⟨g, rfl, hge, hglt, hcp, hb2⟩
  have HG2 := hidW (IntCp.hold hcp hglt)
  have B3 := hidW (B2.out.trans (hb2.mono B2.out.size))
  have X3 := hidW (X2.out.below hb2)
  have Y3 := hidW (Y2.out.below (by omega) hb2)
  have O3 := hidW (O2.out.below (by omega) hb2)
  have HR3 := hidW (HR2.out.below hb2)
  have hz2 := hb2.size
  clear hcp hb2 B2 X2 Y2 O2 HR2 I2 c1 c2 c3 c4 c5 c6
  obtain ⟨T2, hT2⟩ : ∃ T, T = (((((w2.setCell ⟨w.heap.size + 1 + 1, 1, none⟩ (.int .i64 x.k)).setCell ⟨w.heap.size + 1 + 1, 2, none⟩ (.int .i64 x.e)).setCell ⟨w.heap.size + 1 + 1, 3, none⟩ (.int .i64 x.f)).setCell ⟨w.heap.size + 1 + 1, 4, none⟩ (.int .i64 x.s)).setCell ⟨w.heap.size + 1 + 1, 5, none⟩ (.int .i64 x.n)).setCell ⟨w.heap.size + 1 + 1, 6, none⟩ (.slice (some ⟨g, 0, none⟩) x.gn x.gn) := ⟨_, rfl⟩
  have sT2 : T2.heap.size ≤ w2.heap.size ∧ w2.heap.size ≤ T2.heap.size := by rw [hT2]; simp
  have C2 : Chg (w.heap.size + 1 + 1) (w.heap.size + 1 + 1 + 1) w2 T2 := by rw [hT2]; exact (((((chg_set _ _ _ _).trans (chg_set _ _ _ _)).trans (chg_set _ _ _ _)).trans (chg_set _ _ _ _)).trans (chg_set _ _ _ _)).trans (chg_set _ _ _ _)
  have o1 := O3.out.1 1 _ rfl
  have o2 := O3.out.1 2 _ rfl
  have o3 := O3.out.1 3 _ rfl
  have o4 := O3.out.1 4 _ rfl
  have o5 := O3.out.1 5 _ rfl
  have o6 := O3.out.1 6 _ rfl
  have f1 := O3.out.2 1
  have f2 := O3.out.2 2
  have f3 := O3.out.2 3
  have f4 := O3.out.2 4
  have f5 := O3.out.2 5
  have f6 := O3.out.2 6
  have B4 := hidW (below_chg B3.out C2 (by omega) B3.out.size)
  have X4 := hidW (X3.out.chg C2 (by omega))
  have Y4 := hidW (Y3.out.kept (by omega) C2 (by omega))
  have O4 : Hid (BoxW (w.heap.size + 1 + 1) [.slice (some ⟨l, 0, none⟩) x.cn x.cn, .int .i64 x.k, .int .i64 x.e, .int .i64 x.f, .int .i64 x.s, .int .i64 x.n, .slice (some ⟨g, 0, none⟩) x.gn x.gn, .slice none 0 0] T2) := by
    show BoxW _ _ _
    rw [hT2]
    exact (((((O3.out.put 1 (by simp) _).put 2 (by simp) _).put 3 (by simp) _).put 4 (by simp) _).put 5 (by simp) _).put 6 (by simp) _
  have I4 := hidW (HW.out.below B4.out)
  have HR4 := hidW (HR3.out.chg C2 (by omega))
  have HG4 := hidW (HG2.out.chg C2 (by omega))
  have c7 := X4.out.out 7 _ rfl
  have hlo : w.heap.size + 1 + 1 < w2.heap.size := by omega
  have hlx : w.heap.size < T2.heap.size := by omega
  clear C2 X3 Y3 O3 B3 HR3 HG2
  go_upto_region 4 with fail
  rw [← hT2]
  clear hT2 o1 o2 o3 o4 o5 o6 f1 f2 f3 f4 f5 f6
  go_wp2_with fail
  refine (toCerts_c x.ra x.rn x.rc x.rz T2 HL.out.rn HL.out.rl I4.out.rv).mono ?_
  rintro e w3 ⟨rfl, ds3, hct⟩
  have hb := hct.bl
  have HS5 : Hid (Hold T2.heap.size w3.heap.size (CpR T2.heap.size w3.heap.size x.rn x.rz) w3) := hct.cpH I4.out.rv HL.out.rl
  have hlt3 := hct.lt
  have B5 := hidW (B4.out.trans (hb.mono B4.out.size))
  have Y5 := hidW (Y4.out.below (by omega) hb)
  have O5 := hidW (O4.out.below (by omega) hb)
  have HR5 := hidW (HR4.out.below hb)
  have HG5 := hidW (HG4.out.below hb)
  obtain ⟨r, hr⟩ : ∃ r, r = T2.heap.size := ⟨_, rfl⟩
  rw [← hr] at HS5 hlt3 ⊢
  have hz3 := hb.size
  have hr0 : T2.heap.size ≤ r ∧ r ≤ T2.heap.size := by omega
  clear hr
  clear hb hct X4 Y4 O4 B4 HR4 HG4 I4 c7
  obtain ⟨T3, hT3⟩ : ∃ T, T = w3.setCell ⟨w.heap.size + 1 + 1, 7, none⟩ (.slice (some ⟨r, 0, none⟩) x.rn x.rn) := ⟨_, rfl⟩
  have sT3 : T3.heap.size ≤ w3.heap.size ∧ w3.heap.size ≤ T3.heap.size := by rw [hT3]; simp
  have C3 : Chg (w.heap.size + 1 + 1) (w.heap.size + 1 + 1 + 1) w3 T3 := by rw [hT3]; exact chg_set _ _ _ _
  have o7 := O5.out.1 7 _ rfl
  have f7 := O5.out.2 7
  have B6 := hidW (below_chg B5.out C3 (by omega) B5.out.size)
  have Y6 := hidW (Y5.out.kept (by omega) C3 (by omega))
  have O6 : Hid (BoxW (w.heap.size + 1 + 1) [.slice (some ⟨l, 0, none⟩) x.cn x.cn, .int .i64 x.k, .int .i64 x.e, .int .i64 x.f, .int .i64 x.s, .int .i64 x.n, .slice (some ⟨g, 0, none⟩) x.gn x.gn, .slice (some ⟨r, 0, none⟩) x.rn x.rn] T3) := by show BoxW _ _ _; rw [hT3]; exact O5.out.put 7 (by simp) _
  have HR6 := hidW (HR5.out.chg C3 (by omega))
  have HG6 := hidW (HG5.out.chg C3 (by omega))
  have HS6 := hidW (HS5.out.chg C3 (by omega))
  have hlo : w.heap.size + 1 + 1 < w3.heap.size := by omega
  clear C3 Y5 O5 B5 HR5 HG5 HS5
  go_upto_region 5 with fail
  rw [← hT3]
  clear hT3 o7 f7
  have t0 := O6.out.1 0 _ rfl
  have t1 := O6.out.1 1 _ rfl
  have t2 := O6.out.1 2 _ rfl
  have t3 := O6.out.1 3 _ rfl
  have t4 := O6.out.1 4 _ rfl
  have t5 := O6.out.1 5 _ rfl
  have t6 := O6.out.1 6 _ rfl
  have t7 := O6.out.1 7 _ rfl
  have y0 := Y6.out.1 0 _ rfl
  have y1 := Y6.out.1 1 _ rfl
  have y2 := Y6.out.1 2 _ rfl
  have y3 := Y6.out.1 3 _ rfl
  have y4 := Y6.out.1 4 _ rfl
  have y5 := Y6.out.1 5 _ rfl
  have y6 := Y6.out.1 6 _ rfl
  have y7 := Y6.out.1 7 _ rfl
  have g0 := Y6.out.2 0
  have g1 := Y6.out.2 1
  have g2 := Y6.out.2 2
  have g3 := Y6.out.2 3
  have g4 := Y6.out.2 4
  have g5 := Y6.out.2 5
  have g6 := Y6.out.2 6
  have g7 := Y6.out.2 7
  have hl1 : w.heap.size + 1 < T3.heap.size := by omega
  have hl2 : w.heap.size + 1 + 1 < T3.heap.size := by omega
  have HK : Hid (∀ U : World, Chg (w.heap.size + 1) (w.heap.size + 1 + 1) T3 U → CpW ⟨l, g, r, w1.heap.size, w3.heap.size⟩ x U ∧ Below w.heap.size w U) := fun U hU =>
    ⟨⟨(HR6.out.chg hU (by omega)).out, (HG6.out.chg hU (by omega)).out, (HS6.out.chg hU (by omega)).out, hlt1, by show w1.heap.size ≤ g; omega, by show g < r; omega, hlt3, by have := hU.size; show w3.heap.size ≤ _; omega⟩, below_chg B6.out hU (by omega) B6.out.size⟩
  have hll : w.heap.size ≤ l := by omega
  clear Y6 O6 HR6 HG6 HS6 B6
  go_wp2
  refine bodyPost_ret (v := .agg #[.slice (some ⟨l, 0, none⟩) x.cn x.cn, .int .i64 x.k, .int .i64 x.e, .int .i64 x.f, .int .i64 x.s, .int .i64 x.n, .slice (some ⟨g, 0, none⟩) x.gn x.gn, .slice (some ⟨r, 0, none⟩) x.rn x.rn]) (by simp [results, Try.results20, go_sem, y0, y1, y2, y3, y4, y5, y6, y7, hl1]) rfl ⟨⟨l, g, r, w1.heap.size, w3.heap.size⟩, rfl, hll, HK.out _ ?_⟩
  exact (((((((chg_set _ _ _ _).trans (chg_set _ _ _ _)).trans (chg_set _ _ _ _)).trans (chg_set _ _ _ _)).trans (chg_set _ _ _ _)).trans (chg_set _ _ _ _)).trans (chg_set _ _ _ _)).trans (chg_set _ _ _ _)

end Go.Proofs.Ythogdfnaojijhaa

namespace Go.Proofs.Ythogdfnaojijhaa
open Go.RowKit Go.ChangeShapes Go.WideShapes
set_option linter.unusedVariables false
set_option linter.unusedSimpArgs false

theorem toWallet_h (x : WlI) (w : World) (hle : WlLe 1048576 x) (h : WlIn w x) :
    Calls Try.prog 20 #[.agg #[.slice x.ca x.cn x.cc, .int .i64 x.k, .int .i64 x.e, .int .i64 x.f, .int .i64 x.s, .int .i64 x.n, .slice x.ga x.gn x.gc, .slice x.ra x.rn x.rc]] w fun e w' => ∃ p : WlP, e = .returned (.agg #[.slice (some ⟨p.l, 0, none⟩) x.cn x.cn, .int .i64 x.k, .int .i64 x.e, .int .i64 x.f, .int .i64 x.s, .int .i64 x.n, .slice (some ⟨p.g, 0, none⟩) x.gn x.gn, .slice (some ⟨p.r, 0, none⟩) x.rn x.rn]) ∧ w.heap.size ≤ p.l ∧ p.l < w'.heap.size ∧ CpW p x w' ∧ Below w.heap.size w w' :=
  (toWallet_c x w hle h).mono (fun e w' ⟨p, h1, h2, h3, h4⟩ => ⟨p, h1, h2, by have := h3.ml; have := h3.mg; have := h3.gr; have := h3.rh; have := h3.hx; omega, h3, h4⟩)

set_option maxRecDepth 20000 in
set_option maxHeartbeats 2000000 in
theorem eqWallet_c (x : WlI) (p q : WlP) (w : World) (hle : WlLe 1048576 x) (hz : x.zs.length = x.gn) (h : CpW p x w) (h' : CpW q x w) :
    Calls Try.prog 23 #[.agg #[.slice (some ⟨p.l, 0, none⟩) x.cn x.cn, .int .i64 x.k, .int .i64 x.e, .int .i64 x.f, .int .i64 x.s, .int .i64 x.n, .slice (some ⟨p.g, 0, none⟩) x.gn x.gn, .slice (some ⟨p.r, 0, none⟩) x.rn x.rn], .agg #[.slice (some ⟨q.l, 0, none⟩) x.cn x.cn, .int .i64 x.k, .int .i64 x.e, .int .i64 x.f, .int .i64 x.s, .int .i64 x.n, .slice (some ⟨q.g, 0, none⟩) x.gn x.gn, .slice (some ⟨q.r, 0, none⟩) x.rn x.rn]] w fun e w' => e = .returned (.bool true) ∧ Below w.heap.size w w' := by
  obtain ⟨V, hV⟩ : ∃ V, V = (w.alloc (.cells #[.slice (some ⟨p.l, 0, none⟩) x.cn x.cn, .int .i64 x.k, .int .i64 x.e, .int .i64 x.f, .int .i64 x.s, .int .i64 x.n, .slice (some ⟨p.g, 0, none⟩) x.gn x.gn, .slice (some ⟨p.r, 0, none⟩) x.rn x.rn] 55)).alloc (.cells #[.slice (some ⟨q.l, 0, none⟩) x.cn x.cn, .int .i64 x.k, .int .i64 x.e, .int .i64 x.f, .int .i64 x.s, .int .i64 x.n, .slice (some ⟨q.g, 0, none⟩) x.gn x.gn, .slice (some ⟨q.r, 0, none⟩) x.rn x.rn] 55) := ⟨_, rfl⟩
  have BV : Hid (Below w.heap.size w V) := by show Below _ _ _; rw [hV]; exact ((Below.refl _ _).alloc (Nat.le_refl _) _).alloc (by simp) _
  have X0 : Hid (Hold w.heap.size (w.heap.size + 1) (BoxV w.heap.size [.slice (some ⟨p.l, 0, none⟩) x.cn x.cn, .int .i64 x.k, .int .i64 x.e, .int .i64 x.f, .int .i64 x.s, .int .i64 x.n, .slice (some ⟨p.g, 0, none⟩) x.gn x.gn, .slice (some ⟨p.r, 0, none⟩) x.rn x.rn]) V) := by show Hold _ _ _ _; rw [hV]; exact (boxV_new w _ _).alloc _
  have Y0 : Hid (Hold (w.heap.size + 1) (w.heap.size + 1 + 1) (BoxV (w.heap.size + 1) [.slice (some ⟨q.l, 0, none⟩) x.cn x.cn, .int .i64 x.k, .int .i64 x.e, .int .i64 x.f, .int .i64 x.s, .int .i64 x.n, .slice (some ⟨q.g, 0, none⟩) x.gn x.gn, .slice (some ⟨q.r, 0, none⟩) x.rn x.rn]) V) := by
    show Hold _ _ _ _
    have z := boxV_new (w.alloc (.cells #[.slice (some ⟨p.l, 0, none⟩) x.cn x.cn, .int .i64 x.k, .int .i64 x.e, .int .i64 x.f, .int .i64 x.s, .int .i64 x.n, .slice (some ⟨p.g, 0, none⟩) x.gn x.gn, .slice (some ⟨p.r, 0, none⟩) x.rn x.rn] 55)) #[.slice (some ⟨q.l, 0, none⟩) x.cn x.cn, .int .i64 x.k, .int .i64 x.e, .int .i64 x.f, .int .i64 x.s, .int .i64 x.n, .slice (some ⟨q.g, 0, none⟩) x.gn x.gn, .slice (some ⟨q.r, 0, none⟩) x.rn x.rn] 55
    simp only [World.size_alloc] at z
    rw [hV]
    exact z
  have P0 := hidW (h.hold.below BV.out)
  have Q0 := hidW (h'.hold.below BV.out)
  have HL := hidW hle
  have HZ := hidW hz
  clear h h' hle hz
  go_enter Try.func23, Try.ntmps23
  go_wp2_with fail
  rw [← hV]
  clear hV
  refine (eqCpR_c x.cn x.cn HL.out.cn P0.out.out.ch Q0.out.out.ch).mono ?_
  rintro e w1 ⟨rfl, hb1⟩
  have B1 := hidW (BV.out.trans (hb1.mono BV.out.size))
  have X1 := hidW (X0.out.below hb1)
  have Y1 := hidW (Y0.out.below hb1)
  have P1 := hidW (P0.out.below hb1)
  have Q1 := hidW (Q0.out.below hb1)
  have c1 := X1.out.out 1 _ rfl
  have c2 := X1.out.out 2 _ rfl
  have c3 := X1.out.out 3 _ rfl
  have c4 := X1.out.out 4 _ rfl
  have c5 := X1.out.out 5 _ rfl
  have c6 := X1.out.out 6 _ rfl
  have d1 := Y1.out.out 1 _ rfl
  have d2 := Y1.out.out 2 _ rfl
  have d3 := Y1.out.out 3 _ rfl
  have d4 := Y1.out.out 4 _ rfl
  have d5 := Y1.out.out 5 _ rfl
  have d6 := Y1.out.out 6 _ rfl
  have hl1 : w.heap.size < w1.heap.size := by have := X1.out.le; omega
  have hl2 : w.heap.size + 1 < w1.heap.size := by have := Y1.out.le; omega
  clear hb1 X0 Y0 P0 Q0
  go_wp2_with fail
  refine (eqCert_same x.c p.g q.g w1 HL.out.gn HZ.out P1.out.out.is.1 Q1.out.out.is.1).mono ?_
  rintro e w2 ⟨rfl, hb2⟩
  have B2 := hidW (B1.out.trans (hb2.mono B1.out.size))
  have X2 := hidW (X1.out.below hb2)
  have Y2 := hidW (Y1.out.below hb2)
  have P2 := hidW (P1.out.below hb2)
  have Q2 := hidW (Q1.out.below hb2)
  clear c1 c2 c3 c4 c5 c6 d1 d2 d3 d4 d5 d6 hl1 hl2
  have c7 := X2.out.out 7 _ rfl
  have d7 := Y2.out.out 7 _ rfl
  have hl1 : w.heap.size < w2.heap.size := by have := X2.out.le; omega
  have hl2 : w.heap.size + 1 < w2.heap.size := by have := Y2.out.le; omega
  clear hb2 X1 Y1 P1 Q1 B1
  go_wp2_with fail
  refine (eqCpR_c x.rn x.rn HL.out.rn P2.out.out.rv Q2.out.out.rv).mono ?_
  rintro e w3 ⟨rfl, hb3⟩
  go_wp2
  go_ret
  exact ⟨rfl, B2.out.trans (hb3.mono B2.out.size)⟩

set_option maxHeartbeats 1000000 in
theorem markCertK_c (c : CrI) (g : Nat) (k0 : Int) (w : World) (hn : c.gn ≤ 1048576) (hz : c.zs.length = c.gn) (h0 : 0 ≤ k0) (h1 : k0 ≤ 9000000000000000000) (h : IntCp g c.gn c.zs w) (hg : g < w.heap.size) :
    Calls Try.prog 49 #[.agg #[.int .i64 c.k, .int .i64 c.e, .int .i64 c.f, .int .i64 c.s, .int .i64 c.n, .slice (some ⟨g, 0, none⟩) c.gn c.gn], .int .i64 k0] w fun e w' => e = .returned (.int .i64 (k0 + (c.gn : Int))) ∧ Chg g (g + 1) w w' := by
  obtain ⟨V, hV⟩ : ∃ V, V = w.alloc (.cells #[.int .i64 c.k, .int .i64 c.e, .int .i64 c.f, .int .i64 c.s, .int .i64 c.n, .slice (some ⟨g, 0, none⟩) c.gn c.gn] 53) := ⟨_, rfl⟩
  have BV : Below w.heap.size w V := by rw [hV]; exact (Below.refl _ _).alloc (Nat.le_refl _) _
  have RV : Hid (IntRow V g c.gn) := by
    have q := ((IntCp.hold h hg).below BV).out
    exact ⟨fun j hj => ⟨_, q.1 j _ (List.getElem?_eq_getElem (by rw [hz]; exact hj))⟩, q.2.2⟩
  have GV : Hid (Chg g (g + 1) w V) := Chg.calls BV
  clear h BV
  go_enter Try.func49, Try.ntmps49
  go_wp2_with fail
  rw [← hV]
  clear hV
  refine (markIntsK_c g (g + 1) g c.gn c.gn k0 V hn h0 h1 (by omega) RV.out).mono ?_
  rintro e w1 ⟨rfl, hm, hc⟩
  have G1 := hidW (GV.out.trans hc)
  clear hm hc
  go_wp2
  go_ret
  exact ⟨rfl, G1.out⟩

theorem Chg.wide {l h l' h' : Nat} {A B : World} (c : Chg l h A B) (h1 : l' ≤ l) (h2 : h ≤ h') : Chg l' h' A B :=
  ⟨fun b h3 h4 => c.below b (Nat.le_trans h3 h1) h4, c.size, fun b h3 h4 => c.block b h3 (by omega)⟩

set_option maxRecDepth 20000 in
set_option maxHeartbeats 2000000 in
theorem markWallet_c (x : WlI) (p : WlP) (k0 : Int) (w : World) (hle : WlLe 1048576 x) (hz : x.zs.length = x.gn) (h0 : 0 ≤ k0) (h1 : k0 ≤ 1000000000000000000) (h : CpW p x w) :
    Calls Try.prog 24 #[.agg #[.slice (some ⟨p.l, 0, none⟩) x.cn x.cn, .int .i64 x.k, .int .i64 x.e, .int .i64 x.f, .int .i64 x.s, .int .i64 x.n, .slice (some ⟨p.g, 0, none⟩) x.gn x.gn, .slice (some ⟨p.r, 0, none⟩) x.rn x.rn], .int .i64 k0] w fun e w' => ∃ k : Int, e = .returned (.int .i64 k) ∧ (k0 ≤ k ∧ k ≤ k0 + 10000000000000) ∧ Chg p.l p.h w w' := by
  obtain ⟨V, hV⟩ : ∃ V, V = w.alloc (.cells #[.slice (some ⟨p.l, 0, none⟩) x.cn x.cn, .int .i64 x.k, .int .i64 x.e, .int .i64 x.f, .int .i64 x.s, .int .i64 x.n, .slice (some ⟨p.g, 0, none⟩) x.gn x.gn, .slice (some ⟨p.r, 0, none⟩) x.rn x.rn] 55) := ⟨_, rfl⟩
  have BV : Below w.heap.size w V := by rw [hV]; exact (Below.refl _ _).alloc (Nat.le_refl _) _
  have X0 : Hid (Hold w.heap.size (w.heap.size + 1) (BoxV w.heap.size [.slice (some ⟨p.l, 0, none⟩) x.cn x.cn, .int .i64 x.k, .int .i64 x.e, .int .i64 x.f, .int .i64 x.s, .int .i64 x.n, .slice (some ⟨p.g, 0, none⟩) x.gn x.gn, .slice (some ⟨p.r, 0, none⟩) x.rn x.rn]) V) := by show Hold _ _ _ _; rw [hV]; exact boxV_new w _ _
  have hp := h.hold.below BV
  have HC := hidW (CpR.hold hp.out.ch)
  have HG := hidW (IntCp.hold hp.out.is (by have := hp.out.gr; have := hp.out.rh; have := hp.out.hx; omega))
  have HR := hidW (CpR.hold hp.out.rv)
  have G0 : Hid (Chg p.l p.h w V) := Chg.calls BV
  have o1 := hp.out.ml
  have o2 := hp.out.mg
  have o3 := hp.out.gr
  have o4 := hp.out.rh
  have o5 : p.h ≤ w.heap.size := h.hx
  have HL := hidW hle
  have HZ := hidW hz
  have n1 := hle.cn
  have n2 := hle.gn
  have n3 := hle.rn
  clear h hle hz hp BV
  go_enter Try.func24, Try.ntmps24
  go_wp2_with fail
  rw [← hV]
  clear hV
  refine (markCpR_c x.cn k0 HL.out.cn h0 (by omega) HC.out.out).mono ?_
  rintro e w1 ⟨k1, rfl, ⟨hk1, hk1'⟩, hc1⟩
  have X1 := hidW (X0.out.chg hc1 (by omega))
  have HG1 := hidW (HG.out.chg hc1 (by omega))
  have HR1 := hidW (HR.out.chg hc1 (by omega))
  have G1 := hidW (G0.out.trans (hc1.wide (Nat.le_refl _) (show p.m ≤ p.h by omega)))
  have c1 := X1.out.out 1 _ rfl
  have c2 := X1.out.out 2 _ rfl
  have c3 := X1.out.out 3 _ rfl
  have c4 := X1.out.out 4 _ rfl
  have c5 := X1.out.out 5 _ rfl
  have c6 := X1.out.out 6 _ rfl
  have hl1 : w.heap.size < w1.heap.size := by have := X1.out.le; omega
  have hg1 := HG1.out.le
  clear hc1 X0 HG HR G0
  go_wp2_with fail
  refine (markCertK_c x.c p.g k1 w1 HL.out.gn HZ.out (by omega) (by omega) HG1.out.out (by omega)).mono ?_
  rintro e w2 ⟨rfl, hc2⟩
  have X2 := hidW (X1.out.chg hc2 (by omega))
  have HR2 := hidW (HR1.out.chg hc2 (by omega))
  have G2 := hidW (G1.out.trans (hc2.wide (show p.l ≤ p.g by omega) (show p.g + 1 ≤ p.h by omega)))
  clear hc2 X1 HG1 HR1 G1 c1 c2 c3 c4 c5 c6 hl1 hg1
  have c7 := X2.out.out 7 _ rfl
  have hl1 : w.heap.size < w2.heap.size := by have := X2.out.le; omega
  go_wp2_with fail
  refine (markCpR_c x.rn _ HL.out.rn (by omega) (by omega) HR2.out.out).mono ?_
  rintro e w3 ⟨k3, rfl, ⟨hk3, hk3'⟩, hc3⟩
  have G3 := hidW (G2.out.trans (hc3.wide (show p.l ≤ p.r by omega) (Nat.le_refl _)))
  clear hc3 X2 HR2 G2 c7 hl1
  go_wp2
  go_ret
  exact ⟨_, rfl, ⟨by omega, by omega⟩, G3.out⟩

theorem Try.cells47 : Try.prog.cellsOf 47 = 8 := by kernel_rfl

theorem Try.cellsR30 : Try.prog.cellsOf 30 = 1 := by kernel_rfl

theorem certsR_val {H : Type} {enc : TypeId × Value → H} {w : World} {base : Nat} {spare : Nat → Bool} {held : Bool} {fuel : Nat} {cs : List Value} {x : DataW H × List MemPlace} (h : DataW.trod enc Try.prog w base spare held fuel 30 cs = some x) :
    ∃ a n c, cs = [.slice a n c] := by
  rcases Go.Deep.open_slice Try.underlying30 h with ⟨hcs, _⟩ | ⟨a, l, c, m, n, D, Pl, hcs, _⟩
  · exact ⟨_, _, _, hcs⟩
  · exact ⟨_, _, _, hcs⟩

theorem list8W {α : Type} {l : List α} (h : l.length = 8) : ∃ a b c d e f g i, l = [a, b, c, d, e, f, g, i] := by
  match l, h with
  | [a, b, c, d, e, f, g, i], _ => exact ⟨a, b, c, d, e, f, g, i, rfl⟩

theorem list3W {α : Type} {l : List α} (h : l.length = 3) : ∃ a b c, l = [a, b, c] := by
  match l, h with
  | [a, b, c], _ => exact ⟨a, b, c, rfl⟩

theorem wallet_list {H : Type} {enc : TypeId × Value → H} {w : World} {base : Nat} {spare : Nat → Bool} {held : Bool} {fuel : Nat} {cs : List Value} {x : DataW H × List MemPlace} (h : DataW.trod enc Try.prog w base spare held fuel 47 cs = some x) :
    ∃ r : WlI, cs = [.slice r.ca r.cn r.cc, .int .i64 r.k, .int .i64 r.e, .int .i64 r.f, .int .i64 r.s, .int .i64 r.n, .slice r.ga r.gn r.gc, .slice r.ra r.rn r.rc] ∧ WlIn w r ∧ WlLe maxLen r := by
  obtain ⟨xs, n, _, _, hl, hlen, hf⟩ := DataW.trod_struct Try.underlying47 h
  rw [Try.cells47] at hl
  obtain ⟨c0, c1, c2, c3, c4, c5, c6, c7, rfl⟩ := list8W hl
  obtain ⟨y0, y1, y2, rfl⟩ := list3W hlen
  have g0 := hf 0 _ rfl
  have g1 := hf 1 _ rfl
  have g2 := hf 2 _ rfl
  simp [Try.cellsR30, Try.cells45] at g0 g1 g2
  obtain ⟨ca, cn, cc, q0⟩ := certsR_val g0
  obtain ⟨r, q1, i1, i2⟩ := cert_list g1
  obtain ⟨ra, rn, rc, q2⟩ := certsR_val g2
  simp at q0 q1 q2
  obtain ⟨rfl, rfl, rfl, rfl, rfl, rfl⟩ := q1
  subst q0 q2
  obtain ⟨cz, h1, h2, h3⟩ := certs_shape g0
  obtain ⟨rz, k1, k2, k3⟩ := certs_shape g2
  exact ⟨⟨ca, cn, cc, cz, r.k, r.e, r.f, r.s, r.n, r.ga, r.gn, r.gc, r.zs, ra, rn, rc, rz⟩, rfl, ⟨h1, i1, k1⟩, ⟨h2, h3, i2, k2, k3⟩⟩

theorem wallet_shape {H : Type} {enc : TypeId × Value → H} {w : World} {base : Nat} {spare : Nat → Bool} {held : Bool} {fuel : Nat} (cs : Array Value) {x : DataW H × List MemPlace} (h : DataW.trod enc Try.prog w base spare held fuel 47 cs.toList = some x) :
    ∃ r : WlI, cs = #[.slice r.ca r.cn r.cc, .int .i64 r.k, .int .i64 r.e, .int .i64 r.f, .int .i64 r.s, .int .i64 r.n, .slice r.ga r.gn r.gc, .slice r.ra r.rn r.rc] ∧ (WlIn w r ∧ WlLe maxLen r) := by
  obtain ⟨r, e, h1, h2⟩ := wallet_list h
  exact ⟨r, by cases cs; simp_all, h1, h2⟩

end Go.Proofs.Ythogdfnaojijhaa

namespace Go.Proofs.Ythogdfnaojijhaa
set_option linter.unusedVariables false

def kindB (said : List StI) (k e : Int) : Bool := said.any (fun x => decide (x.k = k) && decide (x.e = e))
def kindAt (said : List StI) (k e : Int) : Option StI := said.find? (fun x => decide (x.k = k) && decide (x.e = e))
def sealB (said : List StI) (e : Int) : Bool := kindB said 3 e || kindB said 4 e
def backI (x : StI) : StI := ⟨2, x.e, x.f, x.s, 0⟩
def saidB (said : List StI) (x : StI) : Bool := said.any (fun y => sameSt y x)

theorem saidB_iff {said : List StI} {x : StI} : saidB said x = true ↔ x ∈ said := by
  unfold saidB sameSt
  rw [List.any_eq_true]
  constructor
  · rintro ⟨y, hy, h⟩
    have : y = x := of_decide_eq_true h
    subst this; exact hy
  · intro h
    exact ⟨x, h, decide_eq_true rfl⟩

theorem kindAt_drop {said : List StI} {j : Nat} {x : StI} (h : said[j]? = some x) (k e : Int) : kindAt (said.drop j) k e = if x.k = k ∧ x.e = e then some x else kindAt (said.drop (j + 1)) k e := by
  have hl : j < said.length := by
    by_cases q : j < said.length
    · exact q
    · rw [List.getElem?_eq_none (by omega)] at h; cases h
  rw [List.getElem?_eq_getElem hl] at h
  rw [List.drop_eq_getElem_cons hl, Option.some.inj h]
  unfold kindAt
  rw [List.find?_cons]
  by_cases q : x.k = k ∧ x.e = e
  · rw [if_pos q]; simp [q.1, q.2]
  · rw [if_neg q]
    have : (decide (x.k = k) && decide (x.e = e)) = false := by
      rw [Bool.and_eq_false_iff]
      by_cases q1 : x.k = k
      · exact .inr (decide_eq_false (fun q2 => q ⟨q1, q2⟩))
      · exact .inl (decide_eq_false q1)
    rw [this]

theorem kindB_at (said : List StI) (k e : Int) : kindB said k e = (kindAt said k e).isSome := by
  unfold kindB kindAt
  induction said with
  | nil => rfl
  | cons x r ih =>
    rw [List.any_cons, List.find?_cons]
    cases (decide (x.k = k) && decide (x.e = e))
    · simpa using ih
    · simp

theorem saidB_drop {said : List StI} {j : Nat} {x : StI} (h : said[j]? = some x) (y : StI) : saidB (said.drop j) y = (sameSt x y || saidB (said.drop (j + 1)) y) := by
  have hl : j < said.length := by
    by_cases q : j < said.length
    · exact q
    · rw [List.getElem?_eq_none (by omega)] at h; cases h
  rw [List.getElem?_eq_getElem hl] at h
  rw [List.drop_eq_getElem_cons hl, Option.some.inj h]
  unfold saidB
  rw [List.any_cons]

end Go.Proofs.Ythogdfnaojijhaa

namespace Go.Proofs.Ythogdfnaojijhaa
open Go.RowKit
set_option linter.unusedVariables false
set_option linter.unusedSimpArgs false

set_option maxHeartbeats 400000 in
theorem revokeOf_c (x : StI) (w : World) : Calls Try.prog 38 #[.agg #[.int .i64 x.k, .int .i64 x.e, .int .i64 x.f, .int .i64 x.s, .int .i64 x.n]] w fun e w' => e = .returned (.agg #[.int .i64 2, .int .i64 x.e, .int .i64 x.f, .int .i64 x.s, .int .i64 0]) ∧ Below w.heap.size w w' := by
  go_enter Try.func38, Try.ntmps38
  go_wp2
  refine bodyPost_ret (v := .agg #[.int .i64 2, .int .i64 x.e, .int .i64 x.f, .int .i64 x.s, .int .i64 0]) (by simp [results, Try.results38, go_sem]) rfl ⟨rfl, ((Below.refl _ _).alloc (Nat.le_refl _) _).alloc (by simp) _⟩

end Go.Proofs.Ythogdfnaojijhaa
