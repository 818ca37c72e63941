/-
  CONTRACT: impl.PartText; laws.eqTextResult of two that are alike.
  Conditions: each contract bears its own.
-/
import Derived.Test.YtnmidppiakdanaaDoorPx0
namespace Go.Proofs.YtnmidppiakdanaaDoor
open Go.RowKit
set_option linter.unusedVariables false
set_option linter.unusedSimpArgs false

theorem Tryd.info9 : (Tryd.prog.info? 9).map (fun i => (i.zero, i.size, i.bytes)) = some (some (.string ⟨#[]⟩), 1, 16) := by kernel_rfl

def GivesT (f : Nat) (a : Option Addr) (n cap : Nat) (c : Int) (t : ByteArray) (w : World) : Prop := Calls Tryd.prog f #[.slice a n cap] w fun e w' => e = .returned (.agg #[.int .i64 c, .string t]) ∧ Below w.heap.size w w'

def OwnT (w : World) (B : Nat) (v : Value) (ts : List ByteArray) : Prop := w.ownsRow B 9 1 v ts.length (ts.map Value.string)

theorem OwnT.below {w w' : World} {B : Nat} {v : Value} {ts : List ByteArray} (h : OwnT w B v ts) (hb : Below w.heap.size w w') : OwnT w' B v ts :=
  World.ownsRow.kept (row := none) h ⟨hb.os, hb.tape, hb.output, hb.size, fun k hk _ => hb.block k hk⟩ (by rcases h.2 with ⟨e, _⟩ | ⟨g, cap, cur, e, _⟩; exact .inl (by rw [e]; rfl); exact .inr (by rw [e]; simp [Value.ownBlock]))

theorem OwnT.shape {w : World} {B : Nat} {v : Value} {ts : List ByteArray} (h : OwnT w B v ts) : ∃ a cap, v = .slice a ts.length cap ∧ TxIn w a ts := by
  rcases id h.2 with ⟨e, _⟩ | ⟨g, cap, cur, e, _⟩
  · have hl : ts.length = 0 := by
      obtain ⟨a, cap, e2⟩ := owns_slice h
      rw [e] at e2
      cases ts with
      | nil => rfl
      | cons x xs => simp at e2
    obtain rfl : ts = [] := List.length_eq_zero_iff.1 hl
    exact ⟨none, 0, e, fun i t q => by simp at q⟩
  · refine ⟨_, cap, e, fun i t q => ⟨g, rfl, ?_⟩⟩
    have hi : i < ts.length := by
      by_cases q2 : i < ts.length
      · exact q2
      · rw [List.getElem?_eq_none (by omega)] at q; cases q
    unfold OwnT at h
    rw [e] at h
    rw [h.cellAt i (by omega), List.getElem?_map, q]
    rfl

set_option maxHeartbeats 400000 in
theorem eqText_same (a : Int) (b : ByteArray) (w : World) :
    Calls Tryd.prog 8 #[.agg #[.int .i64 a, .string b], .agg #[.int .i64 a, .string b]] w fun e w' => e = .returned (.bool true) ∧ Below w.heap.size w w' := by
  go_enter Tryd.func8, Tryd.ntmps8
  go_wp2
  go_ret
  exact ⟨rfl, ((Below.refl _ _).alloc (Nat.le_refl _) _).alloc (by simp) _⟩

set_option maxRecDepth 100000 in
set_option maxHeartbeats 2000000 in
theorem implPT_bad (a : Option Addr) (n cap : Nat) (zs : List PartI) (c : Int) (w : World) (hm : n ≤ maxLen) (h : PartsIn w a n zs) (hc : ptCode zs = c) (h0 : c ≠ 0) :
    GivesT 7 a n cap c noTx w := by
  have HM : Hid (∀ w2 : World, Below w.heap.size w w2 → Calls Tryd.prog 13 #[.slice a n cap] w2 fun e w' => e = .returned (.int .i64 c) ∧ Below w2.heap.size w2 w') := fun w2 q => by rw [← hc]; exact implPartsFault_c a n cap zs w2 hm (h.below q)
  have hcb : (c != 0) = true := by simpa using h0
  clear h hc h0
  unfold GivesT
  go_enter Tryd.func7, Tryd.ntmps7
  go_wp2_with fail
  refine (HM.out _ ((Below.refl _ _).alloc (Nat.le_refl _) _)).mono ?_
  rintro e w1 ⟨rfl, hb1⟩
  have d0 : w1.cell? ⟨w.heap.size, 0, none⟩ = some (.int .i64 0) := (hb1.cell (p := ⟨w.heap.size, 0, none⟩) (by simp)).trans (by simp)
  have d1 : w1.cell? ⟨w.heap.size, 1, none⟩ = some (.string ⟨#[]⟩) := (hb1.cell (p := ⟨w.heap.size, 1, none⟩) (by simp)).trans (by simp)
  have g0 : w1.frozen? ⟨w.heap.size, 0, none⟩ = false := (hb1.frozen (p := ⟨w.heap.size, 0, none⟩) (by simp)).trans (by simp [go_sem])
  have g1 : w1.frozen? ⟨w.heap.size, 1, none⟩ = false := (hb1.frozen (p := ⟨w.heap.size, 1, none⟩) (by simp)).trans (by simp [go_sem])
  have hw : w.heap.size < w1.heap.size := by have := hb1.size; simp at this; omega
  have hbx : Below w.heap.size w w1 := below_new hb1
  clear hb1
  go_wp2
  refine bodyPost_ret (v := .agg #[.int .i64 c, .string ⟨#[]⟩]) (by simp [results, Tryd.results7, go_sem, d0, d1, hw]) rfl ⟨rfl, ?_⟩
  exact (hbx.setCell (Nat.le_refl _) _).setCell (Nat.le_refl _) _

set_option maxRecDepth 100000 in
set_option maxHeartbeats 4000000 in
theorem implPT_ok (a : Option Addr) (n cap : Nat) (zs : List PartI) (T : ByteArray) (w : World) (h : PartsIn w a n zs) (hc : ptCode zs = 0) (hT : textAt zs (n - 1) = T) (c : Int) (t0 : ByteArray) (HCT : Hid ((200 < T.size → c = 2 ∧ t0 = noTx) ∧ (¬ 200 < T.size → c = 0 ∧ t0 = T))) :
    GivesT 7 a n cap c t0 w := by
  obtain ⟨hz1, hz8, hall⟩ := pt_all hc
  rw [h.1] at hz1 hz8
  have HM : Hid (∀ w2 : World, Below w.heap.size w w2 → Calls Tryd.prog 13 #[.slice a n cap] w2 fun e w' => e = .returned (.int .i64 0) ∧ Below w2.heap.size w2 w') := fun w2 q => by rw [← hc]; exact implPartsFault_c a n cap zs w2 (by unfold maxLen; omega) (h.below q)
  have HA : Hid (∀ k x, zs[k]? = some x → ptOne k x = 0) := hall
  have HP : Hid (PartsIn w a n zs) := h
  have hTs : T.size ≤ 2043 := by rw [← hT]; exact textAt_small (by omega)
  have HTT : Hid (textAt zs (n - 1) = T) := hT
  obtain ⟨i0, hi, hz0, hz1', hz2⟩ := info_parts Tryd.info9
  have hn8 : (n : Int) ≤ 8 := by omega
  clear h hc hT hall
  unfold GivesT
  go_enter Tryd.func7, Tryd.ntmps7
  go_wp2_with fail
  refine (HM.out _ ((Below.refl _ _).alloc (Nat.le_refl _) _)).mono ?_
  rintro e W ⟨rfl, hb1⟩
  have d0 : W.cell? ⟨w.heap.size, 0, none⟩ = some (.int .i64 0) := (hb1.cell (p := ⟨w.heap.size, 0, none⟩) (by simp)).trans (by simp)
  have d1 : W.cell? ⟨w.heap.size, 1, none⟩ = some (.string ⟨#[]⟩) := (hb1.cell (p := ⟨w.heap.size, 1, none⟩) (by simp)).trans (by simp)
  have g0 : W.frozen? ⟨w.heap.size, 0, none⟩ = false := (hb1.frozen (p := ⟨w.heap.size, 0, none⟩) (by simp)).trans (by simp [go_sem])
  have g1 : W.frozen? ⟨w.heap.size, 1, none⟩ = false := (hb1.frozen (p := ⟨w.heap.size, 1, none⟩) (by simp)).trans (by simp [go_sem])
  have hwW : w.heap.size < W.heap.size := by have := hb1.size; simp at this; omega
  have hbx : Below w.heap.size w W := below_new hb1
  have HBW : Hid (((W.cell? ⟨w.heap.size, 0, none⟩ = some (.int .i64 0) ∧ W.cell? ⟨w.heap.size, 1, none⟩ = some (.string ⟨#[]⟩)) ∧ W.frozen? ⟨w.heap.size, 0, none⟩ = false ∧ W.frozen? ⟨w.heap.size, 1, none⟩ = false) ∧ Below w.heap.size w W) := ⟨⟨⟨d0, d1⟩, g0, g1⟩, hbx⟩
  clear hb1 d0 d1 g0 g1 hbx
  go_wp2_with fail
  go_loopw [4, 16] (fun v i wr => ∃ k : Nat, k ≤ n ∧ i = .int .i64 (k : Int) ∧ Hid (OwnT wr W.heap.size v (textsTo zs k) ∧ Below W.heap.size W wr)) (fun _ i _ => n - (intOf i).toNat)
  case atStart => exact ⟨0, by omega, rfl, World.ownsRow_nil _ _ _ _, Below.refl _ _⟩
  case round =>
    obtain ⟨k, hk, rfl, HK⟩ := hrel
    have hkl : (textsTo zs k).length = k := textsTo_len zs k (by rw [HP.out.1]; exact hk)
    by_cases hlt : k < n
    · have hlt' : (k : Int) < (n : Int) := by omega
      obtain ⟨b, off, x, rfl, hs, hx⟩ := HP.out.at hlt
      have hnx : Below w.heap.size w wr := HBW.out.2.trans (HK.out.2.mono HBW.out.2.size)
      obtain ⟨q0, q1, q2, q3, q4⟩ := hx.below hnx
      have HS : Hid (zs[k]? = some x) := hs
      have HO : Hid (ptOne k x = 0) := HA.out k x hs
      have HNX : Hid (textsTo zs (k + 1) = textsTo zs k ++ [textOne (textsTo zs k) x]) := textsTo_next hs
      obtain ⟨va, vc, hve, htx⟩ := HK.out.1.shape
      rw [hkl] at hve
      subst hve
      have HTX : Hid (TxIn wr va (textsTo zs k)) := htx
      clear htx hs hx hnx
      go_wp2_with fail
      refine (partText_c zs k x va vc _ HS.out (by omega) HO.out (fun i t e => ?_)).mono ?_
      · obtain ⟨b', e1, e2⟩ := HTX.out i t e
        exact ⟨b', e1, ((Below.refl _ _).alloc (Nat.le_refl _) _ : Below wr.heap.size wr (wr.alloc _)).cell (p := ⟨b', i, none⟩) (World.block_lt_of_cell? wr ⟨b', i, none⟩ e2) |>.trans e2⟩
      rintro e V ⟨rfl, hb2⟩
      obtain ⟨t, ht⟩ : ∃ t, textOne (textsTo zs k) x = t := ⟨_, rfl⟩
      rw [ht]
      have HNX' : Hid (textsTo zs (k + 1) = textsTo zs k ++ [t]) := by rw [← ht]; exact HNX.out
      have HV : Hid (OwnT V W.heap.size (.slice va k vc) (textsTo zs k) ∧ Below W.heap.size W V) := ⟨HK.out.1.below (below_new hb2), HK.out.2.trans ((below_new hb2).mono HK.out.2.size)⟩
      clear hb2 HTX HK q0 q1 q2 q3 q4 ht HNX
      go_wp2_with (first
        | (at_builtin; refine wpList_append_own _ rfl _ _ 42 rfl W.heap.size 9 i0 (.string ⟨#[]⟩) 1 16 Tryd.underlying42 hi hz0 hz1' hz2 rfl (by decide) _ _ _ rfl (HV.out.1.alloc _) ⟨V.heap.size, 0, none⟩ 1 1 [.string t] rfl rfl ?c1 ?c2 ?c3 ?c4 ?c5 ?_)
        | fail)
      case c1 =>
        intro j u hj
        match j, hj with
        | 0, hj => simp at hj; subst hj; simp [Addr.add]
      case c2 => intro u hu; simp at hu; subst hu; rfl
      case c3 => rw [hkl]; unfold maxLen; omega
      case c4 => rw [hkl]; omega
      case c5 => have := HV.out.2.size; simp; omega
      intro v' w9 hown' hgrow hnil
      have HN : Hid (OwnT w9 W.heap.size v' (textsTo zs (k + 1)) ∧ Below W.heap.size W w9) := by
        rw [HNX'.out]
        refine ⟨by unfold OwnT; simpa [hkl] using hown', (HV.out.2.alloc HV.out.2.size _).grown hgrow (by have := HV.out.2.size; simp; omega) (fun j hj => (HV.out.1.lt j hj).1)⟩
      clear hnil hown' hgrow
      go_wp2_with fail
      exact ⟨⟨k + 1, by omega, by go_num, HN⟩, by simp [intOf]; omega⟩
    · have hke : k = n := by omega
      subst hke
      obtain ⟨⟨⟨e0, e1⟩, f0, f1⟩, hbW⟩ := HBW.out
      have hbr := HK.out.2
      have d0 := (hbr.cell (p := ⟨w.heap.size, 0, none⟩) hwW).trans e0
      have d1 := (hbr.cell (p := ⟨w.heap.size, 1, none⟩) hwW).trans e1
      have g0 := (hbr.frozen (p := ⟨w.heap.size, 0, none⟩) hwW).trans f0
      have g1 := (hbr.frozen (p := ⟨w.heap.size, 1, none⟩) hwW).trans f1
      have hw : w.heap.size < wr.heap.size := Nat.lt_of_lt_of_le hwW hbr.size
      have HB : Hid (Below w.heap.size w wr) := hbW.trans (hbr.mono hbW.size)
      obtain ⟨va, vc, hve, htx⟩ := HK.out.1.shape
      rw [hkl] at hve
      subst hve
      obtain ⟨vb, rfl, cl⟩ := htx (k - 1) _ (textAt_ahead (show k - 1 < k by omega) (by rw [HP.out.1]; exact Nat.le_refl _))
      rw [HTT.out] at cl
      have hkm : ((k : Int) - 1) = ((k - 1 : Nat) : Int) := by omega
      have hk1 : (((k - 1 : Nat) : Nat) : Int) < (k : Int) := by omega
      obtain ⟨k1, hk1e⟩ : ∃ k1, k1 = k - 1 := ⟨_, rfl⟩
      rw [← hk1e] at cl hkm hk1
      clear hbr hbW e0 e1 f0 f1 htx hk1e
      by_cases hbig : 200 < T.size
      · have hbig' : (200 : Int) < (T.size : Int) := by omega
        have E : Hid (c = 2 ∧ t0 = noTx) := HCT.out.1 hbig
        clear hbig
        go_wp2_with fail
        refine bodyPost_ret (v := .agg #[.int .i64 2, .string ⟨#[]⟩]) (by simp [results, Tryd.results7, go_sem, d0, d1, hw]) rfl ⟨by rw [E.out.1, E.out.2]; rfl, ?_⟩
        exact (HB.out.setCell (Nat.le_refl _) _).setCell (Nat.le_refl _) _
      · have hbig' : ¬ ((200 : Int) < (T.size : Int)) := by omega
        have E : Hid (c = 0 ∧ t0 = T) := HCT.out.2 hbig
        clear hbig
        go_wp2_with fail
        refine bodyPost_ret (v := .agg #[.int .i64 0, .string T]) (by simp [results, Tryd.results7, go_sem, d0, d1, hw]) rfl ⟨by rw [E.out.1, E.out.2], ?_⟩
        exact (HB.out.setCell (Nat.le_refl _) _).setCell (Nat.le_refl _) _

end Go.Proofs.YtnmidppiakdanaaDoor
