/- Contracts. -/
import Derived.Test.YtfkajnenniapaaaGreatPs16
namespace Go.Proofs.YtfkajnenniapaaaGreat
set_option maxRecDepth 100000
set_option maxHeartbeats 8000000
open Go.RowKit
set_option linter.unusedVariables false
set_option linter.unusedSimpArgs false

theorem confLe_mono {m m' : Nat} {c : ConfI} (h : ConfLe m c) (hm : m ≤ m') : ConfLe m' c := by
 obtain ⟨a1, a2, a3, a4⟩ := h
 exact ⟨by omega, by omega, fun k x e => Nat.le_trans (a3 k x e) hm, by omega⟩
theorem szConfigs_c (a : Option Addr) (n cap : Nat) (fs : List ConfI) (l : Int) (w : World) (hn : n ≤ maxLen) (hle : ∀ (k : Nat) c, fs[k]? = some c → ConfLe maxLen c) (h0 : 0 ≤ l) (h1 : l ≤ 1048576) (h : ConfsIn w a n fs) :
  Calls Tryz.prog 6 #[.slice a n cap, .int .i64 l] w fun e w' => (∃ r : Int, e = .returned (.int .i64 r) ∧ r ≤ l ∧ (0 ≤ r → (n : Int) ≤ l ∧ (∀ (k : Nat) c, fs[k]? = some c → ConfLe l.toNat c))) ∧ Below w.heap.size w w' := by
 have H : Hid (ConfsIn w a n fs) := h
 have HZ : Hid (fs.length = n) := h.len
 have HLE : Hid (∀ (k : Nat) c, fs[k]? = some c → ConfLe maxLen c) := hle
 have hn' : (n : Int) ≤ 9223372036854775807 := by unfold maxLen at hn; omega
 clear h hle hn
 by_cases hlt : (n : Int) ≤ l
 ·go_enter Tryz.func6, Tryz.ntmps6
  go_wp2
  go_loopw [1, 5] (fun q i wr => ∃ (k : Nat) (r : Int), k ≤ n ∧ i = .int .i64 (k : Int) ∧ q = .int .i64 r ∧ 0 ≤ r ∧ r ≤ l ∧ (∀ j x, j < k → fs[j]? = some x → ConfLe l.toNat x) ∧ Below w.heap.size w wr)
   (fun _ i _ => n - (intOf i).toNat)
  case atStart => exact ⟨0, _, Nat.zero_le _, rfl, rfl, by omega, by omega, fun j x hj => by omega, Below.refl _ _⟩
  case round =>
   obtain ⟨k, r, hk, rfl, rfl, hr0, hr1, hok, hnx⟩ := hrel
   have HOK : Hid (∀ j x, j < k → fs[j]? = some x → ConfLe l.toNat x) := hok
   clear hok
   by_cases hkn : k < n
   ·obtain ⟨b, off, x, rfl, hs, hr, hci⟩ := H.out.at hkn
    have HS : Hid (fs[k]? = some x) := hs
    have hx : ConfLe maxLen x := HLE.out k x hs
    have HCI : Hid (ConfIn wr x) := ((H.out.below (hnx.mono (Nat.le_refl _))).each k x hs)
    have hb : b < w.heap.size := hr.lt
    obtain ⟨c0, c1, c2, c3, c4⟩ := hr.below hnx
    clear hs hr hci
    have hkn' : (k : Int) < (n : Int) := by omega
    go_wp2_with fail
    refine (szConfig_c x r _ hx hr0 (by omega) HCI.out).mono ?_
    rintro e w1 ⟨⟨r', rfl, hr'1, hr'2⟩, hb1⟩
    have hb01 : Below w.heap.size w w1 := hnx.trans (hb1.mono hnx.size)
    by_cases hneg : r' < 0
    ·clear c0 c1 c2 c3 c4
     go_wp2
     go_ret
     exact ⟨⟨_, rfl, by omega, fun q => by omega⟩, hb01⟩
    ·have HN : Hid (∀ j y, j < k + 1 → fs[j]? = some y → ConfLe l.toNat y) := fun j y hj hy => by
      by_cases e : j = k
      ·subst e
       rw [HS.out] at hy
       cases hy
       exact confLe_mono (hr'2 (by omega)) (by omega)
      ·exact HOK.out j y (by omega) hy
     have hge : 0 ≤ r' := by omega
     clear c0 c1 c2 c3 c4 hr'2
     go_wp2
     exact ⟨⟨k + 1, r', by omega, by go_num, rfl, hge, by omega, HN.out, hb01⟩, by simp [intOf]; omega⟩
   ·have hkn' : k = n := by omega
    subst hkn'
    have HQ : Hid (∀ (k : Nat) c, fs[k]? = some c → ConfLe l.toNat c) := fun j x hj => by
     have : j < k := by
      by_cases q : j < k
      ·exact q
      ·rw [List.getElem?_eq_none (by rw [HZ.out]; omega)] at hj; cases hj
     exact HOK.out j x this hj
    go_wp2
    go_ret
    exact ⟨⟨r, rfl, hr1, fun _ => ⟨hlt, HQ.out⟩⟩, hnx⟩
 ·have hlt' : l < (n : Int) := by omega
  go_enter Tryz.func6, Tryz.ntmps6
  go_wp2
  go_ret
  exact ⟨⟨_, rfl, by omega, fun q => by omega⟩, by go_grown⟩

end Go.Proofs.YtfkajnenniapaaaGreat
