/-
  CONTRACT: slices.Compact over roles that do not fall: the library's two loops are walked.
  Conditions: each contract bears its own.
-/
import Derived.Test.YtajdgbdpmmdlfaaRol7
namespace Go.Proofs.Ytajdgbdpmmdlfaa
open Go.RowKit
set_option linter.unusedVariables false
set_option linter.unusedSimpArgs false
attribute [local go_sem ↓] role_eql role_neql

set_option maxRecDepth 20000 in
set_option maxHeartbeats 2000000 in
theorem compact_n (g cap B n : Nat) (xs : List RoI) (w : World) (hnx : n = xs.length) (h : Owns2 w B (.slice (some ⟨g, 0, none⟩) n cap) xs) (hn : n ≤ 1000) (hf : Falls xs) :
    Calls Try.prog 37 #[.slice (some ⟨g, 0, none⟩) n cap] w fun e w' =>
      ∃ m : Nat, e = .returned (.slice (some ⟨g, 0, none⟩) m cap) ∧ m = (keepTo xs n).length ∧ Owns2 w' B (.slice (some ⟨g, 0, none⟩) m cap) (keepTo xs n) ∧ Below B w w' := by
  have HO : Hid (Owns2 w B (.slice (some ⟨g, 0, none⟩) n cap) xs) := h
  have HZ : Hid (n = xs.length) := hnx
  have HFA : Hid (Falls xs) := hf
  obtain ⟨hBg, hgl, hnc⟩ : B ≤ g ∧ g < w.heap.size ∧ n ≤ cap := by
    rcases h.shape with ⟨h1, _⟩ | ⟨g', cap', h1, h2, h3, h4, _⟩
    · simp at h1
    · simp at h1; omega
  have V0 : Hid (RolesV w (some ⟨g, 0, none⟩) xs) := h.read
  clear h hnx hf
  have hn' : (n : Int) ≤ 1000 := by omega
  have hnc' : (n : Int) ≤ (cap : Int) := by omega
  by_cases h2 : n < 2
  · have h2' : (n : Int) < 2 := by omega
    have HK : Hid (keepTo xs n = xs) := by
      show keepTo xs n = xs
      have := keep_all (xs := xs) (p := n) (by rw [← HZ.out]; exact Nat.le_refl _) (fun j y hj hj0 => by omega)
      rw [this, List.take_of_length_le (by rw [← HZ.out]; exact Nat.le_refl _)]
    go_enter Try.func37, Try.ntmps37
    go_wp2
    go_ret
    exact ⟨n, rfl, by rw [HK.out]; exact HZ.out, by rw [HK.out]; exact HO.out, Below.refl _ _⟩
  · have h2' : ¬ ((n : Int) < 2) := by omega
    go_enter Try.func37, Try.ntmps37
    go_wp2
    go_loopw [3] (fun i wr => ∃ k : Nat, k + 1 ≤ n ∧ i = .int .i64 ((k : Int) + 1) ∧ (∀ j y, j < k + 1 → j ≠ 0 → xs[j]? = some y → xs[j - 1]? ≠ some y) ∧ ∃ m, wr = w.drewN m) (fun i _ => n - (intOf i).toNat)
    case atStart => exact ⟨0, by omega, rfl, fun j y hj hj0 => by omega, 0, rfl⟩
    case round =>
      obtain ⟨k, hk, rfl, hall, m, rfl⟩ := hrel
      have HA : Hid (∀ j y, j < k + 1 → j ≠ 0 → xs[j]? = some y → xs[j - 1]? ≠ some y) := hall
      clear hall
      by_cases hlt : k + 1 < n
      · have hlt' : (k : Int) + 1 < (n : Int) := by omega
        obtain ⟨p, hp⟩ : ∃ p, xs[k + 1]? = some p := ⟨_, List.getElem?_eq_getElem (by rw [← HZ.out]; exact hlt)⟩
        obtain ⟨q, hq⟩ : ∃ q, xs[k]? = some q := ⟨_, List.getElem?_eq_getElem (by rw [← HZ.out]; omega)⟩
        obtain ⟨_, e1, c0, c1⟩ := V0.out (k + 1) p hp
        cases e1
        obtain ⟨_, e1, d0, d1⟩ := V0.out k q hq
        cases e1
        have HP : Hid (xs[k + 1]? = some p) := hp
        have HQ : Hid (xs[k]? = some q) := hq
        clear hp hq
        cases hsame : sameR p q
        · have HN : Hid (∀ j y, j < k + 1 + 1 → j ≠ 0 → xs[j]? = some y → xs[j - 1]? ≠ some y) := by
            intro j y hj hj0 hy
            by_cases e : j = k + 1
            · subst e
              rw [HP.out] at hy
              cases hy
              rw [show k + 1 - 1 = k by omega, HQ.out]
              intro e2
              cases e2
              rw [(sameR_iff _ _).2 rfl] at hsame
              cases hsame
            · exact HA.out j y (by omega) hj0 hy
          go_wp2
          go_quiet (fail)
          go_wp2
          refine ⟨⟨k + 1, by omega, by go_num, HN.out, _, rfl⟩, by simp [intOf]; omega⟩
        · have HE : Hid (p = q) := (sameR_iff _ _).1 hsame
          have HK0 : Hid (keepTo xs (k + 1 + 1) = xs.take (k + 1)) := by
            have e1 := keep_miss HP.out (by omega) (by rw [show k + 1 - 1 = k by omega, HQ.out, HE.out])
            rw [e1]
            exact keep_all (by have := HZ.out; omega) HA.out
          have hck : ¬ cap = k + 1 := by omega
          have hlc : (k : Int) + 1 ≤ (cap : Int) := by omega
          have hln : (k : Int) + 1 ≤ (n : Int) := by omega
          go_wp2
          go_quiet (fail)
          go_wp2
          go_loopw [3, 5] (fun s3 s5 wr => ∃ (kk i : Nat) (es : List RoI), s3 = .int .i64 (kk : Int) ∧ s5 = .int .i64 ((i : Int) + 1) ∧ i + 1 ≤ n - (k + 1) ∧ n = es.length ∧ kk ≤ k + 1 + i ∧ es.take kk = keepTo xs (k + 1 + i + 1) ∧ kk = (keepTo xs (k + 1 + i + 1)).length ∧ (∀ j, k + 1 + i ≤ j → es[j]? = xs[j]?) ∧ Owns2 wr B (.slice (some ⟨g, 0, none⟩) n cap) es ∧ w.grownBy wr (some g)) (fun _ s5 _ => n - (intOf s5).toNat)
          case atStart => exact ⟨k + 1, 0, xs, by go_num, rfl, by omega, HZ.out, by omega, HK0.out.symm, by rw [HK0.out, List.length_take, ← HZ.out]; omega, fun j _ => rfl, HO.out, ⟨rfl, rfl, rfl, Nat.le_refl _, fun _ _ _ => rfl⟩⟩
          case round =>
            obtain ⟨kk, i, es, rfl, rfl, hi1, hes, hkk, htk, hkl, hsm, hown, hgr⟩ := hrel
            have HES : Hid (n = es.length) := hes
            have HTK : Hid (es.take kk = keepTo xs (k + 1 + i + 1)) := htk
            have HKL : Hid (kk = (keepTo xs (k + 1 + i + 1)).length) := hkl
            have HSM : Hid (∀ j, k + 1 + i ≤ j → es[j]? = xs[j]?) := hsm
            have HOW : Hid (Owns2 wr B (.slice (some ⟨g, 0, none⟩) n cap) es ∧ w.grownBy wr (some g)) := ⟨hown, hgr⟩
            clear hes htk hkl hsm hown hgr c0 c1 d0 d1
            by_cases hlt2 : i + 1 < n - (k + 1)
            · have hlt2' : (i : Int) + 1 < ((n - (k + 1) : Nat) : Int) := by omega
              obtain ⟨p2, hp2⟩ : ∃ p, xs[k + 1 + (i + 1)]? = some p := ⟨_, List.getElem?_eq_getElem (by rw [← HZ.out]; omega)⟩
              obtain ⟨q2, hq2⟩ : ∃ q, xs[k + 1 + i]? = some q := ⟨_, List.getElem?_eq_getElem (by rw [← HZ.out]; omega)⟩
              obtain ⟨_, e1, c0, c1⟩ := HOW.out.1.read (k + 1 + (i + 1)) p2 (by rw [HSM.out _ (by omega)]; exact hp2)
              cases e1
              obtain ⟨_, e1, d0, d1⟩ := HOW.out.1.read (k + 1 + i) q2 (by rw [HSM.out _ (by omega)]; exact hq2)
              cases e1
              rw [show (k + 1 + (i + 1)) * 2 = (k + 1) * 2 + (i + 1) * 2 by omega] at c0 c1
              rw [show (k + 1 + i) * 2 = (k + 1) * 2 + i * 2 by omega] at d0 d1
              have HP2 : Hid (xs[k + 1 + i + 1]? = some p2) := hp2
              have HQ2 : Hid (xs[k + 1 + i + 1 - 1]? = some q2) := hq2
              clear hp2 hq2
              cases hs2 : sameR p2 q2
              · have HKN : Hid (keepTo xs (k + 1 + i + 1 + 1) = keepTo xs (k + 1 + i + 1) ++ [p2]) := keep_hit HP2.out (.inr (fun e => by rw [HQ2.out] at e; cases e; rw [(sameR_iff _ _).2 rfl] at hs2; cases hs2))
                obtain ⟨⟨v0, z0⟩, f0⟩ := HOW.out.1.cell HES.out (kk * 2) (by omega)
                obtain ⟨⟨v1, z1⟩, f1⟩ := HOW.out.1.cell HES.out (kk * 2 + 1) (by omega)
                have R : Hid (Owns2 ((wr.setCell ⟨g, kk * 2, none⟩ (.int .i64 p2.1)).setCell ⟨g, kk * 2 + 1, none⟩ (.int .i64 p2.2)) B (.slice (some ⟨g, 0, none⟩) n cap) (es.set kk p2) ∧ w.grownBy ((wr.setCell ⟨g, kk * 2, none⟩ (.int .i64 p2.1)).setCell ⟨g, kk * 2 + 1, none⟩ (.int .i64 p2.2)) (some g)) := by
                  have hst := HOW.out.1.put HES.out kk p2
                  exact ⟨hst.1, grown_tr HOW.out.2 hst.2⟩
                have hkn2 : (kk : Int) < (n : Int) := by omega
                go_wp2
                go_quiet (fail)
                go_wp2
                have hkl2 : kk < es.length := by rw [← HES.out]; omega
                refine ⟨⟨kk + 1, i + 1, es.set kk p2, by go_num, by go_num, by omega, by rw [List.length_set]; exact HES.out, by omega, ?_, ?_, fun j hj => ?_, R.out.1, ⟨R.out.2.os, R.out.2.tape, R.out.2.output, R.out.2.size, R.out.2.block⟩⟩, by simp [intOf]; omega⟩
                · rw [show k + 1 + (i + 1) + 1 = k + 1 + i + 1 + 1 by omega, HKN.out, ← HTK.out, List.take_succ_eq_append_getElem (by rw [List.length_set]; exact hkl2), List.take_set_of_le (Nat.le_refl _), List.getElem_set_self]
                · rw [show k + 1 + (i + 1) + 1 = k + 1 + i + 1 + 1 by omega, HKN.out, List.length_append, ← HKL.out]; rfl
                · rw [List.getElem?_set_ne (by omega)]; exact HSM.out j (by omega)
              · have HKN : Hid (keepTo xs (k + 1 + i + 1 + 1) = keepTo xs (k + 1 + i + 1)) := keep_miss HP2.out (by omega) (by rw [HQ2.out, (sameR_iff _ _).1 hs2])
                go_wp2
                go_quiet (fail)
                go_wp2
                refine ⟨⟨kk, i + 1, es, rfl, by go_num, by omega, HES.out, by omega, ?_, ?_, fun j hj => HSM.out j (by omega), ?_, ?_⟩, by simp [intOf]; omega⟩
                · rw [show k + 1 + (i + 1) + 1 = k + 1 + i + 1 + 1 by omega, HKN.out]; exact HTK.out
                · rw [show k + 1 + (i + 1) + 1 = k + 1 + i + 1 + 1 by omega, HKN.out]; exact HKL.out
                · exact HOW.out.1
                · exact ⟨HOW.out.2.os, HOW.out.2.tape, HOW.out.2.output, HOW.out.2.size, HOW.out.2.block⟩
            · have hlt2' : ¬ ((i : Int) + 1 < ((n - (k + 1) : Nat) : Int)) := by omega
              have hkn2 : kk < n := by omega
              have hcl := run_clear2 wr g (kk * 2) (n - kk) (cap - kk) (by omega) (fun j hj => by obtain ⟨⟨v, e⟩, _⟩ := HOW.out.1.cell HES.out (kk * 2 + j) (by omega); rw [e]; rfl) (fun j hj => (HOW.out.1.cell HES.out (kk * 2 + j) (by omega)).2)
              have hck2 : ¬ cap = kk := by omega
              have hkc2 : (kk : Int) ≤ (cap : Int) := by omega
              have hkc3 : (kk : Int) ≤ (n : Int) := by omega
              have RF : Hid (kk = (keepTo xs n).length ∧ Owns2 (wr.setCells g (kk * 2) (zc (n - kk))) B (.slice (some ⟨g, 0, none⟩) kk cap) (keepTo xs n) ∧ Below B w (wr.setCells g (kk * 2) (zc (n - kk)))) := by
                have e1 : k + 1 + i + 1 = n := by omega
                have h1 : wr.ownsRow B 25 2 (.slice (some ⟨g, 0, none⟩) n cap) n (flat2 es) := by
                  have := HOW.out.1
                  unfold Owns2 at this
                  rw [← HES.out] at this
                  exact this
                have h3 := owns_setCells (zc (n - kk)) wr B g n cap (flat2 es) (kk * 2) h1
                have h4 := owns_cut h3.1 (show kk ≤ n by omega)
                have hT := HTK.out
                have hL := HKL.out
                rw [e1] at hT hL
                refine ⟨hL, ?_, (Below.refl B w).grown (grown_tr HOW.out.2 h3.2) (by omega) (fun q e => by cases e; exact hBg)⟩
                show World.ownsRow _ _ _ _ _ _ _
                rw [← hL, ← hT, flat2_take]
                rw [setL_take _ _ _ _ (Nat.le_refl _)] at h4
                exact h4
              go_wp2
              go_ret
              exact ⟨kk, rfl, RF.out⟩
      · have hkn : k + 1 = n := by omega
        have HK : Hid (keepTo xs n = xs) := by
          show keepTo xs n = xs
          have := keep_all (xs := xs) (p := n) (by rw [← HZ.out]; exact Nat.le_refl _) (fun j y hj hj0 => HA.out j y (by omega) hj0)
          rw [this, List.take_of_length_le (by rw [← HZ.out]; exact Nat.le_refl _)]
        have hlt' : ¬ ((k : Int) + 1 < (n : Int)) := by omega
        clear hkn
        go_wp2
        go_ret
        exact ⟨n, rfl, by rw [HK.out]; exact HZ.out, by rw [HK.out]; exact HO.out, bdN (Below.refl _ _) _⟩

theorem compacts_c : Compacts := by
  intro g cap B xs w h hx hs
  refine (compact_n g cap B xs.length xs w rfl h hx hs).mono ?_
  rintro e w' ⟨m, rfl, rfl, ho, hb⟩
  obtain ⟨h1, h2⟩ := keep_facts (show Falls xs from hs) xs.length (Nat.le_refl _)
  exact ⟨keepTo xs xs.length, rfl, h1, fun x => by rw [h2 x, List.take_of_length_le (Nat.le_refl _)], ho, hb⟩

end Go.Proofs.Ytajdgbdpmmdlfaa
