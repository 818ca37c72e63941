/-
  CONTRACTS: impl.takingCode, impl.withNeeds.
  Conditions: each contract bears its own.
-/
import Derived.Test.YtabbjcngilocnaaDoorTk7
import Derived.Test.YtabbjcngilocnaaDoorEr0
import Derived.BigQuiet
namespace Go.Proofs.YtabbjcngilocnaaDoor
open Go.RowKit
set_option linter.unusedVariables false
set_option linter.unusedSimpArgs false

/-- The variable that errors.As reads. -/
def HandleE (w : World) : Prop := w.cell? ⟨1, 0, none⟩ = some (.iface 138 (.agg #[.pointer (some ⟨11, 54, none⟩)]))

theorem HandleE.below {w w' : World} (h : HandleE w) (hb : Below w.heap.size w w') : HandleE w' :=
  (hb.cell (p := ⟨1, 0, none⟩) (World.block_lt_of_cell? w _ h)).trans h

def needV (y x : LkI) : Value := .iface 87 (.agg #[.int .i64 y.e, .int .i64 y.c, .int .i64 y.p, .int .i64 y.f, .iface 85 (.agg #[.int .i64 x.e, .int .i64 x.c, .int .i64 x.p, .int .i64 x.f])])

set_option maxHeartbeats 2000000 in
theorem taking_nil (w : World) : Calls Tryd.prog 23 #[.nilIface] w fun e w' => e = .returned (.int .i64 0) ∧ Below w.heap.size w w' := by
  go_enter Tryd.func23, Tryd.ntmps23
  go_wp2
  go_ret
  exact ⟨rfl, (Below.refl _ _).alloc (Nat.le_refl _) _⟩

set_option maxHeartbeats 2000000 in
theorem taking_need (y x : LkI) (w : World) (hg : HandleE w) : Calls Tryd.prog 23 #[needV y x] w fun e w' => e = .returned (.int .i64 6) ∧ Below w.heap.size w w' := by
  have HB : Hid (Below w.heap.size w (w.alloc (.cells #[.int .i64 0, .int .i64 0, .int .i64 0, .int .i64 0] 85))) := (Below.refl _ _).alloc (Nat.le_refl _) _
  have HG : Hid (HandleE (w.alloc (.cells #[.int .i64 0, .int .i64 0, .int .i64 0, .int .i64 0] 85))) := hg.below HB.out
  have HC : Hid ((∀ j, j < 4 → ((w.alloc (.cells #[.int .i64 0, .int .i64 0, .int .i64 0, .int .i64 0] 85)).cell? ⟨w.heap.size, 0 + j, none⟩).isSome = true) ∧ ∀ j, j < 4 → (w.alloc (.cells #[.int .i64 0, .int .i64 0, .int .i64 0, .int .i64 0] 85)).frozen? ⟨w.heap.size, 0 + j, none⟩ = false) := by
    refine ⟨fun j hj => ?_, fun j hj => by simp [go_sem]⟩
    rw [World.cell?_alloc_at _ _ _ _ rfl]
    simp
    omega
  clear hg
  unfold needV
  go_enter Tryd.func23, Tryd.ntmps23
  go_upto_region 2 with fail
  generalize w.alloc (.cells #[.int .i64 0, .int .i64 0, .int .i64 0, .int .i64 0] 85) = w1 at HB HG HC ⊢
  go_wp2_with fail
  refine (as_need y x w.heap.size _ HG.out HC.out.1 HC.out.2).mono ?_
  rintro e w2 ⟨rfl, hb⟩
  have HB2 : Hid (Below w.heap.size w w2) := HB.out.trans hb
  clear hb
  go_wp2
  go_ret
  exact ⟨rfl, HB2.out⟩

set_option maxHeartbeats 2000000 in
theorem taking_many (q : Addr) (w : World) (hg : HandleE w) : Calls Tryd.prog 23 #[.iface 194 (.pointer (some q))] w fun e w' => e = .returned (.int .i64 2) ∧ Below w.heap.size w w' := by
  have HB : Hid (Below w.heap.size w (w.alloc (.cells #[.int .i64 0, .int .i64 0, .int .i64 0, .int .i64 0] 85))) := (Below.refl _ _).alloc (Nat.le_refl _) _
  have HG : Hid (HandleE (w.alloc (.cells #[.int .i64 0, .int .i64 0, .int .i64 0, .int .i64 0] 85))) := hg.below HB.out
  clear hg
  go_enter Tryd.func23, Tryd.ntmps23
  go_upto_region 2 with fail
  generalize w.alloc (.cells #[.int .i64 0, .int .i64 0, .int .i64 0, .int .i64 0] 85) = w1 at HB HG ⊢
  go_wp2_with fail
  refine (as_other q w.heap.size _ HG.out).mono ?_
  rintro e w2 ⟨rfl, hb⟩
  have HB2 : Hid (Below w.heap.size w w2) := HB.out.trans (hb.mono HB.out.size)
  clear hb
  go_wp2
  go_ret
  exact ⟨rfl, HB2.out⟩

theorem newsLk_any {w : World} {ad : Addr} {n : Nat} {gs : List LkI} (h : LkIn w (some ad) n gs) : ∀ j u, (flatLk gs)[j]? = some u → w.cell? (ad.add j) = some u := by
  by_cases q : 0 < n
  · obtain ⟨b, off, e, _⟩ := h.2 q
    cases e
    exact newsLk_in h
  · have hg : gs = [] := List.eq_nil_of_length_eq_zero (by have := h.1; omega)
    subst hg
    intro j u hj
    simp [flatLk] at hj

set_option maxRecDepth 100000 in
set_option maxHeartbeats 4000000 in
theorem cloneLk_any (a0 : Option Addr) (n cap : Nat) (gs : List LkI) (w : World) (hn : n ≤ 1000) (h : LkIn w a0 n gs) :
    Calls Tryd.prog 45 #[.slice a0 n cap] w (ClnR gs w) := by
  have q24 : ∀ (w : World) (a : Option Addr) (n c n' c' : Nat), (binOp .eql 24 (.slice a n c) (.slice none n' c')).run Tryd.prog w = .ok (.bool a.isNone) w := fun w a n c n' c' => Lib.run_eql_slice_nil w _ _ a n c n' c' Tryd.underlying24
  cases a0 with
  | none =>
    have hn0 : n = 0 := by
      by_cases q : 0 < n
      · obtain ⟨_, _, e, _⟩ := h.2 q; cases e
      · omega
    have hg : gs = [] := List.eq_nil_of_length_eq_zero (by have := h.1; omega)
    subst hn0 hg
    clear h
    go_enter Tryd.func45, Tryd.ntmps45
    go_wp2
    go_ret
    exact ⟨none, 0, rfl, World.ownsRow_nil _ _ _ _, Below.refl _ _⟩
  | some ad =>
    obtain ⟨i0, hi0, hz0, hz1, hz2⟩ := info_parts Tryd.info36
    have HN : Hid (∀ j u, (flatLk gs)[j]? = some u → w.cell? (ad.add j) = some u) := newsLk_any h
    have hcell : Hid (∀ j u, (flatLk gs)[j]? = some u → (w.alloc (.cells #[] 36)).cell? (ad.add j) = some u) := fun j u hj => by
      have h1 := HN.out j u hj
      have h2 := World.block_lt_of_cell? w _ h1
      exact ((Below.refl w.heap.size w).alloc (Nat.le_refl _) (.cells #[] 36)).cell h2 |>.trans h1
    have HL : Hid (gs.length = n) := h.1
    clear h
    go_enter Tryd.func45, Tryd.ntmps45
    go_wp2_with (at_builtin; refine wpList_append_own _ rfl _ _ 24 rfl w.heap.size 36 i0 (.agg #[.int .i64 0, .int .i64 0, .int .i64 0, .int .i64 0]) 4 32 Tryd.underlying24 hi0 hz0 hz1 hz2 rfl (by decide) _ 0 [] rfl (World.ownsRow_made w #[] 0 (Nat.le_refl _) (Nat.zero_le _) (by simp)) ad n cap (flatLk gs) rfl (by rw [flatLk_len, HL.out]) hcell.out (flatLk_one _) (by unfold maxLen; omega) (by omega) (by simp) ?_)
    intro v' w' hO hG hV
    have hO' : OwnLk w' w.heap.size v' gs := by
      unfold OwnLk
      rw [HL.out]
      simpa using hO
    obtain ⟨a', cap', e'⟩ := hO'.slice
    subst e'
    go_wp2
    go_ret
    refine ⟨a', cap', rfl, hO', ?_⟩
    exact ownLk_grown (es := []) (World.ownsRow_made w #[] 0 (Nat.le_refl _) (Nat.zero_le _) (by simp)) ((Below.refl _ _).alloc (Nat.le_refl _) _) hG (by simp)

/-- What withNeeds gives. -/
def WithR (gs ys : List LkI) (w : World) (e : Ending) (w' : World) : Prop := Below w.heap.size w w' ∧
  ((∃ y x, e = .returned (.tuple #[.slice none 0 0, needV y x]) ∧ tkCode gs ys = 6 ∧ tkL gs ys = []) ∨
   (∃ q : Addr, e = .returned (.tuple #[.slice none 0 0, .iface 194 (.pointer (some q))]) ∧ tkCode gs ys = 2 ∧ tkL gs ys = []) ∨
   ∃ (a' : Option Addr) (cap' : Nat), e = .returned (.tuple #[.slice a' (tkL gs ys).length cap', .nilIface]) ∧ tkCode gs ys = 0 ∧ OwnLk w' w.heap.size (.slice a' (tkL gs ys).length cap') (tkL gs ys))

set_option maxRecDepth 20000 in
set_option maxHeartbeats 4000000 in
theorem withNeeds_c (a0 : Option Addr) (n cap : Nat) (b : Option Addr) (m cap2 : Nat) (gs ys : List LkI) (w : World) (hn : n ≤ 200) (hm : m ≤ 100) (h : LkIn w a0 n gs) (hy : LkIn w b m ys) (hs : SL gs) (ho : ∀ x ∈ gs, okL x = true) (hys : SL ys) (hyo : ∀ x ∈ ys, okL x = true) (hE : ErrAt 0 w) :
    Calls Tryd.prog 22 #[.slice a0 n cap, .slice b m cap2] w (WithR gs ys w) := by
  have HG : Hid (LkIn w a0 n gs) := h
  have HY : Hid (LkIn w b m ys) := hy
  have HYS : Hid (SL ys) := hys
  have HYO : Hid (∀ x ∈ ys, okL x = true) := hyo
  have HZ : Hid (gs.length = n) := h.1
  have HM : Hid (ys.length = m) := hy.1
  have HE : Hid (ErrAt 0 w) := hE
  have HS0 : Hid (TkS gs ys 0 gs) := TkS.zero ys hs ho
  have hm' : (m : Int) ≤ 100 := by omega
  clear h hy hs ho hys hyo hE
  go_enter Tryd.func22, Tryd.ntmps22
  go_wp2_with fail
  refine (cloneLk_any a0 n cap gs _ (by omega) HG.out).mono ?_
  rintro e w7 ⟨a7, cap7, rfl, ho7, hb7⟩
  have T7 : Hid (OwnLk w7 w.heap.size (.slice a7 gs.length cap7) gs ∧ Below w.heap.size w w7) := ⟨ho7, hb7⟩
  clear ho7 hb7
  go_wp2_with fail
  go_loopw [6, 15] (fun s i wr => ∃ (k : Nat) (all : List LkI) (a : Option Addr) (cp : Nat), k ≤ m ∧ s = .slice a all.length cp ∧ i = .int .i64 (k : Int) ∧ Hid (TkS gs ys k all ∧ OwnLk wr w.heap.size (.slice a all.length cp) all ∧ Below w.heap.size w wr)) (fun _ i _ => m - (intOf i).toNat)
  case atStart => exact ⟨0, gs, a7, cap7, Nat.zero_le _, rfl, rfl, HS0.out, T7.out⟩
  case round =>
    obtain ⟨k, all, a, cp, hk, rfl, rfl, HK⟩ := hrel
    have hlen : all.length ≤ 300 := by have := HK.out.1.len; have := HZ.out; omega
    by_cases hlt : k < m
    · have hlt' : (k : Int) < (m : Int) := by omega
      obtain ⟨b1, o1, y, e1, hy, hr, hb1⟩ := HY.out.at hlt
      subst e1
      obtain ⟨c0, c1, c2, c3⟩ := hr.below HK.out.2.2 hb1
      have HYK : Hid (ys[k]? = some y) := hy
      have A1 : Below wr.heap.size wr (wr.alloc (.cells #[.int .i64 y.e, .int .i64 y.c, .int .i64 y.p, .int .i64 y.f] 36)) := (Below.refl _ _).alloc (Nat.le_refl _) _
      have T1 : Hid (OwnLk (wr.alloc (.cells #[.int .i64 y.e, .int .i64 y.c, .int .i64 y.p, .int .i64 y.f] 36)) w.heap.size (.slice a all.length cp) all ∧ Below w.heap.size w (wr.alloc (.cells #[.int .i64 y.e, .int .i64 y.c, .int .i64 y.p, .int .i64 y.f] 36))) := ⟨HK.out.2.1.below A1, HK.out.2.2.trans (A1.mono HK.out.2.2.size)⟩
      have Y1 : Hid (LkAt (wr.alloc (.cells #[.int .i64 y.e, .int .i64 y.c, .int .i64 y.p, .int .i64 y.f] 36)) wr.heap.size 0 y) := by simp [Hid, LkAt]
      have hzb : wr.heap.size < (wr.alloc (.cells #[.int .i64 y.e, .int .i64 y.c, .int .i64 y.p, .int .i64 y.f] 36)).heap.size := by simp
      clear hy hr A1
      go_upto_region 5 with fail
      clear c0 c1 c2 c3
      generalize wr.alloc (.cells #[.int .i64 y.e, .int .i64 y.c, .int .i64 y.p, .int .i64 y.f] 36) = w1 at T1 Y1 hzb ⊢
      obtain ⟨y0, y1, y2, y3⟩ := Y1.out
      simp only [Nat.zero_add] at y0 y1 y2 y3
      go_wp2_with fail
      refine (search_c a all.length cp all y _ (T1.out.1.view.isIn rfl) HK.out.1.sl (by omega)).mono ?_
      rintro e w2 ⟨i, fb, rfl, hcut, hfb, hb2⟩
      have T2 : Hid (OwnLk w2 w.heap.size (.slice a all.length cp) all ∧ Below w.heap.size w w2) := ⟨T1.out.1.below hb2, T1.out.2.trans (hb2.mono T1.out.2.size)⟩
      have Y2 : Hid (LkAt w2 wr.heap.size 0 y) := Y1.out.below hb2 hzb
      have hzb2 : wr.heap.size < w2.heap.size := by have := hb2.size; omega
      have HCU : Hid (CutAt all y i) := hcut
      have hcase := found_formS HK.out.1.sl HK.out.1.ok hcut hfb
      have HSM : Hid (formL all y.e y.c y.p = formL gs y.e y.c y.p) := HK.out.1.same k y (Nat.le_refl _) HYK.out
      have hin : i ≤ all.length := by
        have := cutN_of hcut
        rw [← this]
        unfold cutN
        exact (List.takeWhile_sublist _).length_le
      clear hb2 T1 Y1 hzb y0 y1 y2 y3 hcut hfb
      obtain ⟨y0, y1, y2, y3⟩ := Y2.out
      simp only [Nat.zero_add] at y0 y1 y2 y3
      rcases hcase with ⟨rfl, hf⟩ | ⟨rfl, x, hx, hf, hf0⟩
      · have HN : Hid (TkS gs ys (k + 1) (putL all y)) := HK.out.1.put HYS.out HYK.out (HYO.out y (List.mem_of_getElem? HYK.out)) (HSM.out.symm.trans hf)
        have HPL : Hid (all.take i ++ y :: all.drop i = putL all y) := by
          show _ = _
          rw [putL, cutN_of HCU.out]
        have A2 : Below w2.heap.size w2 (w2.alloc (.cells #[.int .i64 y.e, .int .i64 y.c, .int .i64 y.p, .int .i64 y.f] 36)) := (Below.refl _ _).alloc (Nat.le_refl _) _
        have T3 : Hid (OwnLk (w2.alloc (.cells #[.int .i64 y.e, .int .i64 y.c, .int .i64 y.p, .int .i64 y.f] 36)) w.heap.size (.slice a all.length cp) all ∧ Below w.heap.size w (w2.alloc (.cells #[.int .i64 y.e, .int .i64 y.c, .int .i64 y.p, .int .i64 y.f] 36))) := ⟨T2.out.1.below A2, T2.out.2.trans (A2.mono T2.out.2.size)⟩
        have Y3 : Hid (LkAt (w2.alloc (.cells #[.int .i64 y.e, .int .i64 y.c, .int .i64 y.p, .int .i64 y.f] 36)) w2.heap.size 0 y) := by simp [Hid, LkAt]
        have S3 : Hid ((w2.alloc (.cells #[.int .i64 y.e, .int .i64 y.c, .int .i64 y.p, .int .i64 y.f] 36)).shape? w2.heap.size = some (36, 4)) := by
          show World.shape? _ _ = _
          unfold World.shape?
          rw [heap_alloc_new]
          rfl
        have F3 : Hid (∀ j, (w2.alloc (.cells #[.int .i64 y.e, .int .i64 y.c, .int .i64 y.p, .int .i64 y.f] 36)).frozen? ⟨w2.heap.size, j, none⟩ = false) := fun j => World.frozen?_alloc_at _ _ _ j rfl
        have N3 : Hid (a ≠ some ⟨w2.heap.size, 0, none⟩) := fun e => by
          have := (ownLk_row T2.out.1 w2.heap.size (by rw [e]; rfl)).2
          omega
        clear hf A2
        go_wp2_with fail
        generalize w2.alloc (.cells #[.int .i64 y.e, .int .i64 y.c, .int .i64 y.p, .int .i64 y.f] 36) = w3 at T3 Y3 S3 F3 ⊢
        refine (insertLk_c w.heap.size a all.length cp i w2.heap.size all y _ rfl hin (by omega) T3.out.2.size T3.out.1 Y3.out _ S3.out F3.out N3.out).mono ?_
        rintro e w4 ⟨g', cp', rfl, ho4, hg4⟩
        rw [HPL.out] at ho4 ⊢
        have HP : Hid (OwnLk w4 w.heap.size (.slice (some ⟨g', 0, none⟩) (putL all y).length cp') (putL all y) ∧ Below w.heap.size w w4) := ⟨ho4, ownLk_grown T3.out.1 T3.out.2 hg4 T3.out.2.size⟩
        clear ho4 hg4
        go_wp2_with fail
        exact ⟨⟨k + 1, putL all y, some ⟨g', 0, none⟩, cp', by omega, rfl, by go_num, HN.out, HP.out⟩, by simp [intOf]; omega⟩
      · have hil : i < all.length := by
          by_cases q : i < all.length
          · exact q
          · rw [List.getElem?_eq_none (by omega)] at hx; cases hx
        obtain ⟨g, e1, hxat⟩ := T2.out.1.view i x hx
        subst e1
        obtain ⟨x0, x1, x2, x3⟩ := hxat
        have hlt2 : (i : Int) < (all.length : Int) := by omega
        have hfg : Hid (formL gs y.e y.c y.p = x.f) := HSM.out.symm.trans hf
        have hf0' : Hid (x.f ≠ 0) := hf0
        clear hf hf0 hx
        by_cases f1 : x.f = y.f
        · have b2' : (x.f != y.f) = false := by simp [f1]
          have HN : Hid (TkS gs ys (k + 1) all) := HK.out.1.stay HYK.out (by rw [hfg.out]; exact hf0'.out) (by rw [hfg.out]; exact f1)
          clear f1
          go_wp2_with fail
          go_quiet (fail)
          go_wp2_with fail
          exact ⟨⟨k + 1, all, some ⟨g, 0, none⟩, cp, by omega, rfl, by go_num, HN.out, T2.out.1.below (below_drewN (Below.refl _ _) _), below_drewN T2.out.2 _⟩, by simp [intOf]; omega⟩
        · have b2' : (x.f != y.f) = true := by simpa using f1
          have HN : Hid (tkCode gs ys = 6 ∧ tkL gs ys = []) := by
            have h1 : takeTo gs ys (k + 1) = none := by
              rw [takeTo_next HK.out.1.tk HYK.out, takeOne, if_neg (by rw [hfg.out]; exact hf0'.out), if_neg (by rw [hfg.out]; exact f1)]
            exact tk_taken h1 (by rw [HM.out]; omega)
          clear f1
          go_wp2_with fail
          go_quiet (fail)
          go_wp2_with fail
          go_quiet (fail)
          go_wp2_with fail
          refine bodyPost_ret (v := .tuple #[.slice none 0 0, needV y x]) (by simp [results, Tryd.results22, go_sem, needV]) rfl ⟨?_, .inl ⟨y, x, rfl, HN.out.1, HN.out.2⟩⟩
          first | exact below_drewN (below_drewN T2.out.2 _) _ | exact below_drewN T2.out.2 _
    · have hkm : k = m := by omega
      subst hkm
      have htk : takeTo gs ys ys.length = some all := by rw [HM.out]; exact HK.out.1.tk
      obtain ⟨q, hq⟩ := HE.out
      have hq1 := (HK.out.2.2.cell (p := ⟨0, 0, none⟩) (World.block_lt_of_cell? w _ hq)).trans hq
      clear hq
      by_cases h200 : 200 < all.length
      · have hl2 : (200 : Int) < (all.length : Int) := by omega
        have HN : Hid (tkCode gs ys = 2 ∧ tkL gs ys = []) := tk_many htk h200
        clear htk
        go_wp2_with fail
        go_quiet (fail)
        go_wp2_with fail
        refine bodyPost_ret (v := .tuple #[.slice none 0 0, .iface 194 (.pointer (some q))]) (by simp [results, Tryd.results22, go_sem]) rfl ⟨?_, .inr (.inl ⟨q, rfl, HN.out.1, HN.out.2⟩)⟩
        exact below_drewN HK.out.2.2 _
      · have hl2 : (all.length : Int) ≤ 200 := by omega
        have HN : Hid (tkCode gs ys = 0 ∧ tkL gs ys = all) := tk_fine htk h200
        clear htk
        go_wp2_with fail
        refine bodyPost_ret (v := .tuple #[.slice a all.length cp, .nilIface]) (by simp [results, Tryd.results22, go_sem]) rfl ⟨HK.out.2.2, .inr (.inr ⟨a, cp, ?_, HN.out.1, ?_⟩)⟩
        · rw [HN.out.2]
        · rw [HN.out.2]; exact HK.out.2.1

end Go.Proofs.YtabbjcngilocnaaDoor
