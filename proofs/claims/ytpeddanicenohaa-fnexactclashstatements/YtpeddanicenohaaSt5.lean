/-
  CONTRACTS: ClashStatements of both programs.
  Conditions: each contract bears its own.
-/
import Derived.Test.YtpeddanicenohaaSt4
import Derived.Test.YtpeddanicenohaaCl1
import Derived.Deep.QuietTactic
namespace Go.Proofs.Ytpeddanicenohaa
open Go.RowKit
set_option linter.unusedVariables false
set_option linter.unusedSimpArgs false

/-- Two sets have a principal in common. -/
def interB (s t : Int) : Bool := bits .and .i64 s t != 0

/-- Statements without a fault clash. -/
def csB (zs : List Int) (a b : StI) : Bool := if a.k = b.k ∧ a.e = b.e then (if a.k = 1 then (clashV zs a.f b.f && interB a.s b.s) else if 3 ≤ a.k then !(sameSt a b) else false) else false

def csV (zs : List Int) (a b : StI) : Bool := if clCode zs = 0 ∧ stCode a = 0 ∧ stCode b = 0 then csB zs a b else false

/-- A statement without a fault, by its kind. -/
theorem st_kinds {x : StI} (h : stCode x = 0) : (x.k = 1 ∨ x.k = 2) ∧ (1 ≤ x.f ∧ x.f ≤ 4) ∧ (1 ≤ x.s ∧ x.s ≤ 255) ∧ x.n = 0 ∨ (x.k = 3 ∨ x.k = 4) ∧ x.f = 0 ∧ x.s = 0 := by
  cases hk : inR x.k 1 4
  · unfold stCode at h; rw [if_pos hk] at h; cases h
  · have hk' := (inR_iff _ _ _).1 hk
    by_cases h3 : 3 ≤ x.k
    · rw [st_next hk h3] at h
      split at h
      · rename_i q
        exact .inr ⟨by omega, q⟩
      · cases h
    · rw [st_form hk (by omega)] at h
      split at h
      · rename_i q
        split at h
        · cases h
        · split at h
          · cases h
          · rename_i q2
            split at h
            · cases h
            · rename_i q3
              have e2 := (inR_iff x.f 1 4).1 (by simpa using q2)
              have e3 := (inR_iff x.s 1 255).1 (by simpa using q3)
              exact .inl ⟨by omega, e2, e3, q⟩
      · cases h

theorem st_same {a b : StI} (ha : stCode a = 0) (hb : stCode b = 0) (hk : a.k = b.k) (he : a.e = b.e) (h3 : 3 ≤ a.k) : (!(sameSt a b)) = (a.n != b.n) := by
  rcases st_kinds ha with ⟨q, _⟩ | ⟨_, f1, s1⟩
  · omega
  rcases st_kinds hb with ⟨q, _⟩ | ⟨_, f2, s2⟩
  · omega
  obtain ⟨ak, ae, af, as0, an⟩ := a
  obtain ⟨bk, be, bf, bs, bn⟩ := b
  simp only at hk he f1 s1 f2 s2
  subst hk he f1 s1 f2 s2
  rw [sameSt_mk]
  simp [bne]

theorem clash_both {zs : List Int} {a b : Int} (h0 : clCode zs = 0) (ha : 1 ≤ a ∧ a ≤ 4) (hb : 1 ≤ b ∧ b ≤ 4) : clashV zs a b = clashB zs a b := by
  have e1 := (inR_iff a 1 4).2 ha
  have e2 := (inR_iff b 1 4).2 hb
  simp [clashV, h0, e1, e2]

set_option maxRecDepth 20000 in
set_option maxHeartbeats 4000000 in
theorem l7Clash_c (aa : Option Addr) (n cap : Nat) (zs : List Int) (a b : StI) (p q : Nat) (w : World) (h : IntIn w aa n zs) (hp : StAt w p 0 a) (hq : StAt w q 0 b) (hc : clCode zs = 0) (ha : stCode a = 0) (hb : stCode b = 0) :
    Calls Try.prog 26 #[.slice aa n cap, .pointer (some ⟨p, 0, none⟩), .pointer (some ⟨q, 0, none⟩)] w fun e w' => e = .returned (.bool (csB zs a b)) ∧ Below w.heap.size w w' := by
  have HI : Hid (IntIn w aa n zs) := h
  have HK : Hid (∀ x ∈ zs, inR x 0 15 = true) := (cl_ok hc).2
  have hn : n ≤ 4 := by rw [← h.1]; exact (cl_ok hc).1
  have ka := st_kinds ha
  have kb := st_kinds hb
  obtain ⟨a0, a1, a2, a3, a4⟩ := hp
  obtain ⟨b0, b1, b2, b3, b4⟩ := hq
  simp only [Nat.zero_add] at a0 a1 a2 a3 a4 b0 b1 b2 b3 b4
  unfold csB
  clear h
  by_cases he : a.e = b.e
  · have heb : (a.e != b.e) = false := by simp [he]
    by_cases hk : a.k = b.k
    · have hkb : (a.k != b.k) = false := by simp [hk]
      rw [if_pos ⟨hk, he⟩]
      by_cases h3 : 3 ≤ a.k
      · rw [if_neg (by omega), if_pos h3, st_same ha hb hk he h3]
        clear ha hb hk he ka kb hc
        go_enter Try.func26, Try.ntmps26
        go_wp2_with fail
        go_quiet (fail)
        go_wp2_with fail
        go_quiet (fail)
        go_wp2_with fail
        go_ret
        exact ⟨rfl, below_drewN (below_drewN (Below.refl _ _) _) _⟩
      · by_cases h1 : a.k = 1
        · rw [if_pos h1]
          have fa : 1 ≤ a.f ∧ a.f ≤ 4 := by omega
          have fb : 1 ≤ b.f ∧ b.f ≤ 4 := by omega
          rw [clash_both hc fa fb]
          obtain ⟨t, ht⟩ : ∃ t, clashB zs a.f b.f = t := ⟨_, rfl⟩
          have HT : Hid (∀ w2 : World, IntIn w2 aa n zs → Calls Try.prog 37 #[.slice aa n cap, .int .i64 a.f, .int .i64 b.f] w2 fun e w' => e = .returned (.bool t) ∧ w' = w2) := fun w2 hi => (l5Clash_c aa n cap zs a.f b.f w2 hi HK.out hn fa.1 fa.2 fb.1 fb.2).mono fun e w' hh => ⟨by rw [hh.1, ht], hh.2.symm⟩
          rw [ht]
          have h1b : (a.k == 1) = true := by simp [h1]
          have h3b : decide (3 ≤ a.k) = false := by simp; omega
          clear ha hb hk he ka kb hc fa fb ht h1
          cases t
          · go_enter Try.func26, Try.ntmps26
            go_wp2_with fail
            go_quiet (fail)
            go_wp2_with fail
            have HI2 : Hid (∀ m, Calls Try.prog 37 #[.slice aa n cap, .int .i64 a.f, .int .i64 b.f] (w.drewN (nq + m)) fun e w'' => e = .returned (.bool false) ∧ ∃ n, w'' = w.drewN (nq + n)) := fun m => (HT.out (w.drewN (nq + m)) ⟨HI.out.1, HI.out.2⟩).mono (fun e w'' hh => ⟨hh.1, _, hh.2⟩)
            go_quiet ((go_at_call 37; exact HI2.out _))
            go_wp2_with fail
            go_ret
            exact ⟨rfl, below_drewN (below_drewN (Below.refl _ _) _) _⟩
          · go_enter Try.func26, Try.ntmps26
            go_wp2_with fail
            go_quiet (fail)
            go_wp2_with fail
            have HI2 : Hid (∀ m, Calls Try.prog 37 #[.slice aa n cap, .int .i64 a.f, .int .i64 b.f] (w.drewN (nq + m)) fun e w'' => e = .returned (.bool true) ∧ ∃ n, w'' = w.drewN (nq + n)) := fun m => (HT.out (w.drewN (nq + m)) ⟨HI.out.1, HI.out.2⟩).mono (fun e w'' hh => ⟨hh.1, _, hh.2⟩)
            go_quiet ((go_at_call 37; exact HI2.out _))
            go_wp2_with fail
            go_ret
            exact ⟨rfl, below_drewN (below_drewN (Below.refl _ _) _) _⟩
        · rw [if_neg h1, if_neg h3]
          have h1b : (a.k == 1) = false := by simp [h1]
          have h3b : decide (3 ≤ a.k) = false := by simp; omega
          clear ha hb hk he ka kb hc h1
          go_enter Try.func26, Try.ntmps26
          go_wp2_with fail
          go_quiet (fail)
          go_wp2_with fail
          go_quiet (fail)
          go_wp2_with fail
          go_ret
          exact ⟨rfl, below_drewN (below_drewN (Below.refl _ _) _) _⟩
    · have hkb : (a.k != b.k) = true := by simp [hk]
      rw [if_neg (fun q => hk q.1)]
      clear ha hb hk he ka kb hc
      go_enter Try.func26, Try.ntmps26
      go_wp2_with fail
      go_quiet (fail)
      go_wp2_with fail
      go_ret
      exact ⟨rfl, below_drewN (Below.refl _ _) _⟩
  · have heb : (a.e != b.e) = true := by simp [he]
    rw [if_neg (fun q => he q.2)]
    clear ha hb he ka kb hc
    go_enter Try.func26, Try.ntmps26
    go_wp2_with fail
    go_quiet (fail)
    go_wp2_with fail
    go_ret
    exact ⟨rfl, below_drewN (Below.refl _ _) _⟩

end Go.Proofs.Ytpeddanicenohaa
