/-
  CONTRACTS: spec.TakeLocks where the locks are nil; both programs at a row of one's own.
  Conditions: each contract bears its own.
-/
import Derived.Test.YtabbjcngilocnaaDoorTn0
import Derived.Test.YtabbjcngilocnaaDoorTk9
namespace Go.Proofs.YtabbjcngilocnaaDoor
open Go.RowKit
set_option linter.unusedVariables false
set_option linter.unusedSimpArgs false

set_option maxRecDepth 20000 in
set_option maxHeartbeats 2000000 in
theorem specTake_nil (b : Option Addr) (m cap2 : Nat) (zs : List Int) (e f s : Int) (w : World) (hy : IntIn w b m zs) :
    GivesL 8 #[.slice none 0 0, .slice b m cap2, .int .i64 e, .int .i64 f, .int .i64 s] (takeCode ([] : List LkI) zs e f s) (takeL ([] : List LkI) zs e f s) w := by
  have h : LkIn w none 0 ([] : List LkI) := ⟨rfl, fun h => by omega⟩
  have hc : lkCode ([] : List LkI) = 0 := by decide
  obtain ⟨W, hW⟩ : ∃ W, W = w.alloc (.cells #[.int .i64 0, .slice none 0 0] 29) := ⟨_, rfl⟩
  have HW : Hid (W = w.alloc (.cells #[.int .i64 0, .slice none 0 0] 29)) := hW
  have hzW : W.heap.size = w.heap.size + 1 := by rw [hW]; simp
  have B0 : Hid (Below w.heap.size w W) := by rw [hW]; exact (Below.refl _ _).alloc (Nat.le_refl _) _
  have D0 : Hid (W.cell? ⟨w.heap.size, 0, none⟩ = some (.int .i64 0) ∧ W.cell? ⟨w.heap.size, 1, none⟩ = some (.slice none 0 0) ∧ W.frozen? ⟨w.heap.size, 0, none⟩ = false ∧ W.frozen? ⟨w.heap.size, 1, none⟩ = false) := by rw [hW]; exact ⟨by go_cell, by go_cell, by simp [go_sem], by simp [go_sem]⟩
  have HG : Hid (LkIn W none 0 []) := h.below B0.out
  have HI : Hid (IntIn W b m zs) := hy.below B0.out
  have hok := lk_ok hc
  have hCT : takeCode ([] : List LkI) zs e f s = if needCode zs e f s = 0 then tkCode ([] : List LkI) (needTo zs e f s zs.length) else needCode zs e f s := by unfold takeCode; rw [if_pos hc]
  have hLT : takeL ([] : List LkI) zs e f s = if needCode zs e f s = 0 then tkL ([] : List LkI) (needTo zs e f s zs.length) else [] := by
    unfold takeL
    by_cases q : needCode zs e f s = 0
    · rw [if_pos ⟨hc, q⟩, if_pos q]
    · rw [if_neg (fun r => q r.2), if_neg q]
  have HC : Hid (lkCode ([] : List LkI) = 0) := hc
  have hzm : zs.length = m := hy.1
  clear h hy hW
  by_cases hd : needCode zs e f s = 0
  · rw [hCT, hLT, if_pos hd, if_pos hd]
    obtain ⟨n0, n1, n2, n3⟩ := need_ok hd
    obtain ⟨u1, u2⟩ := need_okL hd
    have HD : Hid (needCode zs e f s = 0) := hd
    have HN : Hid (∀ w2 : World, IntIn w2 b m zs → Calls Tryd.prog 27 #[.slice b m cap2, .int .i64 e, .int .i64 f, .int .i64 s] w2 fun r w' => ∃ g c, r = .returned (.slice (some ⟨g, 0, none⟩) (needTo zs e f s m).length c) ∧ OwnLk w' w2.heap.size (.slice (some ⟨g, 0, none⟩) (needTo zs e f s m).length c) (needTo zs e f s m) ∧ Below w2.heap.size w2 w') := fun w2 q => l5Needs_c b m cap2 zs e f s w2 q (cl_ok n0).2 (by rw [← hzm]; exact (cl_ok n0).1) ((inR_iff _ _ _).1 n2).1 ((inR_iff _ _ _).1 n2).2 ((inR_iff _ _ _).1 n3).1 ((inR_iff _ _ _).1 n3).2
    have hm4 : m ≤ 4 := by rw [← hzm]; exact (cl_ok n0).1
    rw [hzm] at u1 u2 ⊢
    have hlen : (needTo zs e f s m).length ≤ 100 := by have := needTo_len zs e f s m; omega
    generalize needTo zs e f s m = ys at HN u1 u2 hlen ⊢
    have HT : Hid (∀ (g cc : Nat) (w2 : World), LkIn w2 none 0 [] → LkIn w2 (some ⟨g, 0, none⟩) ys.length ys → GivesL 26 #[.slice none 0 0, .slice (some ⟨g, 0, none⟩) ys.length cc] (tkCode ([] : List LkI) ys) (tkL ([] : List LkI) ys) w2) := fun g cc w2 q1 q3 => l5Take_nil _ ys.length cc ys w2 hlen q3 u1 u2
    obtain ⟨c, hc'⟩ : ∃ c, tkCode ([] : List LkI) ys = c := ⟨_, rfl⟩
    obtain ⟨L, hL'⟩ : ∃ L, tkL ([] : List LkI) ys = L := ⟨_, rfl⟩
    rw [hc', hL'] at HT ⊢
    clear hCT hLT hok hd n0 n1 n2 n3 u1 u2 hc hc' hL'
    unfold GivesL
    go_enter Tryd.func8, Tryd.ntmps8
    go_wp2_with fail
    rw [← HW.out]
    refine (l5Fault_c _ 0 0 ([] : List LkI) _ HG.out).mono ?_
    rintro r w1 ⟨rfl, hb1⟩
    rw [HC.out]
    have I1 : Hid (IntIn w1 b m zs) := HI.out.below hb1
    have hz1 := hb1.size
    go_wp2_with fail
    refine (l5Asked_c b m cap2 zs e f s _ I1.out).mono ?_
    rintro r w' ⟨rfl, rfl⟩
    rw [HD.out]
    go_wp2_with fail
    refine (HN.out _ I1.out).mono ?_
    rintro r w2 ⟨g, cc, rfl, ho2, hb2⟩
    have hz2 := hb2.size
    have b12 : Below W.heap.size W w2 := hb1.trans (hb2.mono hz1)
    have Y2 : Hid (LkIn w2 (some ⟨g, 0, none⟩) ys.length ys) := ho2.view.isIn rfl
    have G2 : Hid (LkIn w2 none 0 []) := HG.out.below b12
    clear ho2
    go_wp2_with fail
    refine (HT.out g cc _ G2.out Y2.out).mono ?_
    rintro r w3 ⟨a3, cap3, rfl, ho3, hb3⟩
    have b03 : Below W.heap.size W w3 := b12.trans (hb3.mono (by omega))
    have B3 : Hid (Below w.heap.size w w3) := B0.out.trans (b03.mono (by omega))
    have hlw : w.heap.size < W.heap.size := by omega
    have d0 := (b03.cell (p := ⟨w.heap.size, 0, none⟩) hlw).trans D0.out.1
    have d1 := (b03.cell (p := ⟨w.heap.size, 1, none⟩) hlw).trans D0.out.2.1
    have g0 := (b03.frozen (p := ⟨w.heap.size, 0, none⟩) hlw).trans D0.out.2.2.1
    have g1 := (b03.frozen (p := ⟨w.heap.size, 1, none⟩) hlw).trans D0.out.2.2.2
    have HO : Hid (OwnLk w3 w2.heap.size (.slice a3 L.length cap3) L) := ho3
    clear hb1 hb2 b12 hb3 b03 ho3
    go_wp2_with fail
    refine bodyPost_ret (v := .agg #[.int .i64 c, .slice a3 L.length cap3]) (by simp [results, Tryd.results8, go_sem, d0, d1]) rfl ⟨a3, cap3, rfl, ?_, ?_⟩
    · have k1 := grown_box2L w3 w.heap.size (.int .i64 c) (.slice a3 L.length cap3)
      refine ownLk_lower (B := w2.heap.size) (World.ownsRow.kept (row := some w.heap.size) HO.out k1 ?_) (by omega)
      cases hq : (Value.slice a3 L.length cap3).ownBlock with
      | none => exact .inl rfl
      | some q => exact .inr (fun e => by have := (ownLk_row HO.out q hq).1; cases e; omega)
    · exact (B3.out.setCell (Nat.le_refl _) _).setCell (Nat.le_refl _) _
  · rw [hCT, hLT, if_neg hd, if_neg hd]
    obtain ⟨c, hc'⟩ : ∃ c, needCode zs e f s = c := ⟨_, rfl⟩
    have HD : Hid (needCode zs e f s = c) := hc'
    have hcb : (c != 0) = true := by rw [hc'] at hd; simpa using hd
    rw [hc']
    clear hCT hLT hok hd hc' hc
    unfold GivesL
    go_enter Tryd.func8, Tryd.ntmps8
    go_wp2_with fail
    rw [← HW.out]
    refine (l5Fault_c _ 0 0 ([] : List LkI) _ HG.out).mono ?_
    rintro r w1 ⟨rfl, hb1⟩
    rw [HC.out]
    have I1 : Hid (IntIn w1 b m zs) := HI.out.below hb1
    go_wp2_with fail
    refine (l5Asked_c b m cap2 zs e f s _ I1.out).mono ?_
    rintro r w' ⟨rfl, rfl⟩
    rw [HD.out]
    have hlw : w.heap.size < W.heap.size := by omega
    have d0 := (hb1.cell (p := ⟨w.heap.size, 0, none⟩) hlw).trans D0.out.1
    have d1 := (hb1.cell (p := ⟨w.heap.size, 1, none⟩) hlw).trans D0.out.2.1
    have g0 := (hb1.frozen (p := ⟨w.heap.size, 0, none⟩) hlw).trans D0.out.2.2.1
    have g1 := (hb1.frozen (p := ⟨w.heap.size, 1, none⟩) hlw).trans D0.out.2.2.2
    have B1 : Hid (Below w.heap.size w w1) := B0.out.trans (hb1.mono (by omega))
    clear hb1
    go_wp2_with fail
    refine bodyPost_ret (v := .agg #[.int .i64 c, .slice none 0 0]) (by simp [results, Tryd.results8, go_sem, d0, d1]) rfl ⟨none, 0, rfl, World.ownsRow_nil _ _ _ _, ?_⟩
    exact (B1.out.setCell (Nat.le_refl _) _).setCell (Nat.le_refl _) _

theorem specTake_own (B : Nat) (a : Option Addr) (cap : Nat) (b : Option Addr) (m cap2 : Nat) (gs : List LkI) (zs : List Int) (e f s : Int) (w : World) (ho : OwnLk w B (.slice a gs.length cap) gs) (hy : IntIn w b m zs) :
    GivesL 8 #[.slice a gs.length cap, .slice b m cap2, .int .i64 e, .int .i64 f, .int .i64 s] (takeCode gs zs e f s) (takeL gs zs e f s) w := by
  by_cases hc : lkCode gs = 0
  · rcases ho.form with ⟨e, e2⟩ | ⟨g, c2, e, _, hg, _⟩
    · subst e2
      cases e
      exact specTake_nil b m cap2 zs _ f s w hy
    · cases e
      exact specTake_ok g 0 gs.length cap b m cap2 gs zs _ f s w (ho.view.isIn rfl) hg hy hc
  · have h1 : takeCode gs zs e f s = lkCode gs := by unfold takeCode; rw [if_neg hc]
    have h2 : takeL gs zs e f s = [] := by unfold takeL; rw [if_neg (fun q => hc q.1)]
    rw [h1, h2]
    exact specTake_bad a gs.length cap b m cap2 gs zs e f s _ w (ho.view.isIn rfl) rfl hc

theorem implTake_own (B : Nat) (a : Option Addr) (cap : Nat) (b : Option Addr) (m cap2 : Nat) (gs : List LkI) (zs : List Int) (e f s : Int) (w : World) (ho : OwnLk w B (.slice a gs.length cap) gs) (hy : IntIn w b m zs) (hE : ErrAt 0 w) (hH : HandleE w) :
    GivesL 7 #[.slice a gs.length cap, .slice b m cap2, .int .i64 e, .int .i64 f, .int .i64 s] (takeCode gs zs e f s) (takeL gs zs e f s) w := by
  by_cases hc : lkCode gs = 0
  · exact implTake_ok a gs.length cap b m cap2 gs zs e f s w (ho.view.isIn rfl) hy hc hE hH
  · have h1 : takeCode gs zs e f s = lkCode gs := by unfold takeCode; rw [if_neg hc]
    have h2 : takeL gs zs e f s = [] := by unfold takeL; rw [if_neg (fun q => hc q.1)]
    rw [h1, h2]
    exact implTake_bad a gs.length cap b m cap2 gs e f s _ w (ho.view.isIn rfl) rfl hc

end Go.Proofs.YtabbjcngilocnaaDoor
