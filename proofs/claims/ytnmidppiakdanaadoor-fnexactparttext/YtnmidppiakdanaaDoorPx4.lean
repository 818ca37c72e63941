/-
  CONTRACTS: spec.l4Text; PartText of both programs together.
  Conditions: each contract bears its own.
-/
import Derived.Test.YtnmidppiakdanaaDoorPx2
import Derived.Test.YtnmidppiakdanaaDoorPx3
namespace Go.Proofs.YtnmidppiakdanaaDoor
open Go.RowKit
set_option linter.unusedVariables false
set_option linter.unusedSimpArgs false

theorem l4Text_c (a : Option Addr) (n cap : Nat) (zs : List PartI) (hc : ptCode zs = 0) : ∀ (m p : Nat), p < m → p < n → ∀ w : World, PartsIn w a n zs →
    Calls Tryd.prog 11 #[.slice a n cap, .int .i64 (p : Int)] w fun e w' => e = .returned (.string (textAt zs p)) ∧ Below w.heap.size w w'
  | 0, p, h, _, _, _ => by omega
  | m + 1, p, hpm, hpn, w, hP => by
    obtain ⟨hz1, hz8, hall⟩ := pt_all hc
    rw [hP.1] at hz1 hz8
    obtain ⟨b, off, x, rfl, hs, hx⟩ := hP.at hpn
    have hx0 := hall p x hs
    rw [textAt_is hs]
    have IH : ∀ j : Nat, j < p → Hid (∀ w2, Below w.heap.size w w2 → Calls Tryd.prog 11 #[.slice (some ⟨b, off, none⟩) n cap, .int .i64 (j : Int)] w2 fun e w' => e = .returned (.string (textAt zs j)) ∧ Below w2.heap.size w2 w') := fun j hj w2 hb =>
      l4Text_c (some ⟨b, off, none⟩) n cap zs hc m j (by omega) (by omega) w2 (hP.below hb)
    have hlen := hP.1
    obtain ⟨kk, ro, rn, l, r⟩ := x
    unfold ptOne at hx0
    simp only at hx0
    split at hx0
    · cases hx0
    · split at hx0
      · rename_i e1
        subst e1
        have hb : roleB ro rn = true := by
          cases q : roleB ro rn
          · rw [if_pos q] at hx0; cases hx0
          · rfl
        exact l4Text_role b off n cap p ro rn l r w hpn hz8 hx hb
      · rename_i e1
        split at hx0
        · cases hx0
        · split at hx0
          · cases hx0
          · split at hx0
            · cases hx0
            · obtain ⟨l', rfl⟩ := Int.eq_ofNat_of_zero_le (show 0 ≤ l by omega)
              obtain ⟨r', rfl⟩ := Int.eq_ofNat_of_zero_le (show 0 ≤ r by omega)
              have hl := textAt_ahead (zs := zs) (show l' < p by omega) (by omega)
              have hr := textAt_ahead (zs := zs) (show r' < p by omega) (by omega)
              have hs1 := textAt_small (zs := zs) (show l' < 8 by omega)
              have hs2 := textAt_small (zs := zs) (show r' < 8 by omega)
              obtain ⟨tx, htx⟩ : ∃ tx : Int → ByteArray, ∀ q : Nat, tx (q : Int) = textAt zs q := ⟨fun q => textAt zs q.toNat, fun q => by simp⟩
              have ho : textOne (textsTo zs p) ⟨kk, ro, rn, (l' : Int), (r' : Int)⟩ = wrapT (sepT kk) (tx (l' : Int)) (tx (r' : Int)) := by
                rw [htx, htx]
                unfold textOne
                simp only
                rw [if_neg e1, Int.toNat_natCast, Int.toNat_natCast, hl, hr]; rfl
              rw [ho]
              have HH : Hid (∀ (q : Int) (w2 : World), (q = (l' : Int) ∨ q = (r' : Int)) → Below w.heap.size w w2 → Calls Tryd.prog 11 #[.slice (some ⟨b, off, none⟩) n cap, .int .i64 q] w2 fun e w' => e = .returned (.string (tx q)) ∧ Below w2.heap.size w2 w') := by
                rintro q w2 (rfl | rfl) hb
                · rw [htx]; exact (IH l' (by omega)).out w2 hb
                · rw [htx]; exact (IH r' (by omega)).out w2 hb
              have hk2 : kk = 2 ∨ kk = 3 := by omega
              rcases hk2 with rfl | rfl
              · rw [show sepT 2 = ⟨#[32, 43, 32]⟩ by unfold sepT; simp]
                exact l4Text_two b off n cap p ro rn (l' : Int) (r' : Int) tx w hpn hz8 hx (by rw [htx]; exact hs1) (by rw [htx]; exact hs2) HH
              · rw [show sepT 3 = ⟨#[32, 42, 32]⟩ by unfold sepT; simp]
                exact l4Text_three b off n cap p ro rn (l' : Int) (r' : Int) tx w hpn hz8 hx (by rw [htx]; exact hs1) (by rw [htx]; exact hs2) HH

theorem last_text (a : Option Addr) (n cap : Nat) (zs : List PartI) (w : World) (h : PartsIn w a n zs) (hc : ptCode zs = 0) : ∀ w2 : World, PartsIn w2 a n zs → Calls Tryd.prog 11 #[.slice a n cap, .int .i64 ((n : Int) - 1)] w2 fun e w' => e = .returned (.string (textAt zs (n - 1))) ∧ Below w2.heap.size w2 w' := fun w2 q => by
  obtain ⟨hz1, hz8, hall⟩ := pt_all hc
  rw [h.1] at hz1 hz8
  rw [show (n : Int) - 1 = ((n - 1 : Nat) : Int) by omega]
  exact l4Text_c a n cap zs hc n (n - 1) (by omega) (by omega) w2 q

/-- Both programs tell the same code and text of the same parts. -/
theorem partText_both (n : Nat) (zs : List PartI) (hm : n ≤ maxLen) : ∃ (c : Int) (t : ByteArray), (∀ (a : Option Addr) (cap : Nat) (w : World), PartsIn w a n zs → GivesT 5 a n cap c t w) ∧ (∀ (a : Option Addr) (cap : Nat) (w : World), PartsIn w a n zs → GivesT 7 a n cap c t w) := by
  by_cases hc : ptCode zs = 0
  · by_cases hb : 200 < (textAt zs (n - 1)).size
    · have HCT : Hid ((200 < (textAt zs (n - 1)).size → (2 : Int) = 2 ∧ noTx = noTx) ∧ (¬ 200 < (textAt zs (n - 1)).size → (2 : Int) = 0 ∧ noTx = textAt zs (n - 1))) := ⟨fun _ => ⟨rfl, rfl⟩, fun q => absurd hb q⟩
      exact ⟨2, noTx, fun a cap w h => specPT_ok a n cap zs _ w h hc rfl (last_text a n cap zs w h hc) 2 noTx HCT, fun a cap w h => implPT_ok a n cap zs _ w h hc rfl 2 noTx HCT⟩
    · have HCT : Hid ((200 < (textAt zs (n - 1)).size → (0 : Int) = 2 ∧ textAt zs (n - 1) = noTx) ∧ (¬ 200 < (textAt zs (n - 1)).size → (0 : Int) = 0 ∧ textAt zs (n - 1) = textAt zs (n - 1))) := ⟨fun q => absurd q hb, fun _ => ⟨rfl, rfl⟩⟩
      exact ⟨0, textAt zs (n - 1), fun a cap w h => specPT_ok a n cap zs _ w h hc rfl (last_text a n cap zs w h hc) 0 _ HCT, fun a cap w h => implPT_ok a n cap zs _ w h hc rfl 0 _ HCT⟩
  · exact ⟨ptCode zs, noTx, fun a cap w h => specPT_bad a n cap zs _ w hm h rfl hc, fun a cap w h => implPT_bad a n cap zs _ w hm h rfl hc⟩

end Go.Proofs.YtnmidppiakdanaaDoor
