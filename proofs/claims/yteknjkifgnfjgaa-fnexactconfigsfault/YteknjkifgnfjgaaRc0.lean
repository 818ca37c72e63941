/-
  CONTRACTS: configurations in a row; what chapter 8 calls their fault (both programs).
  Conditions: each contract bears its own.
-/
import Derived.Test.YteknjkifgnfjgaaCfP
import Derived.Test.YteknjkifgnfjgaaCf3
namespace Go.Proofs.Yteknjkifgnfjgaa
open Go.RowKit
set_option linter.unusedVariables false
set_option linter.unusedSimpArgs false

/-- Configurations in a row. -/
structure ConfsIn (w : World) (a : Option Addr) (n : Nat) (cs : List ConfI) : Prop where
  len : cs.length = n
  row : 0 < n → ∃ b off, a = some ⟨b, off, none⟩ ∧ ∀ k c, cs[k]? = some c → ConfAtO w b (off + k * 5) c
  each : ∀ (k : Nat) c, cs[k]? = some c → ConfIn w c

theorem ConfsIn.below {w w' : World} {a : Option Addr} {n : Nat} {cs : List ConfI} (h : ConfsIn w a n cs) (hb : Below w.heap.size w w') : ConfsIn w' a n cs :=
  ⟨h.len, fun hp => by
    obtain ⟨b, off, e, hr⟩ := h.row hp
    exact ⟨b, off, e, fun k c q => (hr k c q).below hb⟩, fun k c q => (h.each k c q).below hb⟩

theorem ConfsIn.at {w : World} {a : Option Addr} {n : Nat} {cs : List ConfI} (h : ConfsIn w a n cs) {k : Nat} (hk : k < n) : ∃ b off c, a = some ⟨b, off, none⟩ ∧ cs[k]? = some c ∧ ConfAtO w b (off + k * 5) c ∧ ConfIn w c := by
  obtain ⟨b, off, e, hr⟩ := h.row (by omega)
  have hx := List.getElem?_eq_getElem (l := cs) (i := k) (by rw [h.len]; exact hk)
  exact ⟨b, off, _, e, hx, hr k _ hx, h.each k _ hx⟩

/-- Their lists are at most so long, and have room. -/
structure ConfsLe (m : Nat) (cs : List ConfI) : Prop where
  le : ∀ (k : Nat) c, cs[k]? = some c → ConfLe m c
  rc : ∀ (k : Nat) c, cs[k]? = some c → c.rn ≤ c.rc ∧ c.rc ≤ maxLen

def codeC (c : ConfI) : Int := cfCode c.e c.f c.zs (partsL c.fs) c.cs

/-- The code of the first k of them. -/
def cfsTo (cs : List ConfI) : Nat → Int
  | 0 => 0
  | k + 1 => if cfsTo cs k = 0 then (match cs[k]? with
    | none => 0
    | some c => if codeC c = 0 then (if c.f = (cs[0]?.getD default).f then 0 else 1) else codeC c) else cfsTo cs k

def cfsCode (cs : List ConfI) : Int := if cs.length < 1 ∨ 8 < cs.length then 2 else cfsTo cs cs.length

theorem cfsTo_stay (cs : List ConfI) (k m : Nat) (d : Int) (hd : d ≠ 0) (h : cfsTo cs k = d) (hm : k ≤ m) : cfsTo cs m = d := by
  induction m with
  | zero => obtain rfl : k = 0 := by omega
            exact h
  | succ m ih =>
    by_cases e : k = m + 1
    · subst e; exact h
    · have := ih (by omega)
      rw [cfsTo, this, if_neg hd]

theorem cfsTo_next {cs : List ConfI} {k : Nat} {c : ConfI} (hc : cs[k]? = some c) (h0 : cfsTo cs k = 0) : cfsTo cs (k + 1) = if codeC c = 0 then (if c.f = (cs[0]?.getD default).f then 0 else 1) else codeC c := by
  rw [cfsTo, h0, if_pos rfl, hc]

/-- Configurations without fault. -/
theorem cfs_ok {cs : List ConfI} (h : cfsCode cs = 0) : 1 ≤ cs.length ∧ cs.length ≤ 8 ∧ ∀ (k : Nat) c, cs[k]? = some c → codeC c = 0 ∧ c.f = (cs[0]?.getD default).f := by
  unfold cfsCode at h
  by_cases hl : cs.length < 1 ∨ 8 < cs.length
  · rw [if_pos hl] at h; omega
  · rw [if_neg hl] at h
    refine ⟨by omega, by omega, fun k c hc => ?_⟩
    have hk : k < cs.length := by
      by_cases q : k < cs.length
      · exact q
      · rw [List.getElem?_eq_none (by omega)] at hc; cases hc
    have h0 : cfsTo cs k = 0 := by
      by_cases q : cfsTo cs k = 0
      · exact q
      · have := cfsTo_stay cs k cs.length _ q rfl (by omega); rw [this] at h; exact absurd h q
    have h1 : cfsTo cs (k + 1) = 0 := by
      by_cases q : cfsTo cs (k + 1) = 0
      · exact q
      · have := cfsTo_stay cs (k + 1) cs.length _ q rfl (by omega); rw [this] at h; exact absurd h q
    rw [cfsTo_next hc h0] at h1
    by_cases q : codeC c = 0
    · rw [if_pos q] at h1
      by_cases r : c.f = (cs[0]?.getD default).f
      · exact ⟨q, r⟩
      · rw [if_neg r] at h1; omega
    · rw [if_neg q] at h1; exact absurd h1 q

set_option maxRecDepth 20000 in
set_option maxHeartbeats 2000000 in
theorem l8Configs_c (a : Option Addr) (n cap : Nat) (cs : List ConfI) (w : World) (hn : n ≤ 1048576) (hle : ConfsLe 1048576 cs) (h : ConfsIn w a n cs) :
    Calls Try.prog 21 #[.slice a n cap] w fun e w' => e = .returned (.int .i64 (cfsCode cs)) ∧ Below w.heap.size w w' := by
  have H : Hid (ConfsIn w a n cs) := h
  have HLE : Hid (ConfsLe 1048576 cs) := hle
  have HZ : Hid (cs.length = n) := h.len
  have hn' : (n : Int) ≤ 1048576 := by omega
  clear h hle
  by_cases h1 : n < 1
  · have HC : Hid (cfsCode cs = 2) := by show cfsCode cs = 2; unfold cfsCode; rw [if_pos (.inl (by rw [HZ.out]; exact h1))]
    have hn0 : n = 0 := by omega
    subst hn0
    rw [HC.out]
    go_enter Try.func21, Try.ntmps21
    go_wp2
    go_ret
    exact ⟨rfl, Below.refl _ _⟩
  · by_cases h8 : 8 < n
    · have HC : Hid (cfsCode cs = 2) := by show cfsCode cs = 2; unfold cfsCode; rw [if_pos (.inr (by rw [HZ.out]; exact h8))]
      have h1' : ¬ ((n : Int) < 1) := by omega
      have h8' : (8 : Int) < (n : Int) := by omega
      rw [HC.out]
      go_enter Try.func21, Try.ntmps21
      go_wp2
      go_ret
      exact ⟨rfl, Below.refl _ _⟩
    · have h1' : ¬ ((n : Int) < 1) := by omega
      have h8' : ¬ ((8 : Int) < (n : Int)) := by omega
      have HC : Hid (cfsCode cs = cfsTo cs n) := by show cfsCode cs = _; unfold cfsCode; rw [if_neg (by rw [HZ.out]; omega), HZ.out]
      obtain ⟨b0, off0, c0, rfl, hc0, hat0, _⟩ := H.out.at (show 0 < n by omega)
      have HC0 : Hid ((cs[0]?.getD default).f = c0.f) := by show (cs[0]?.getD default).f = _; rw [hc0]; rfl
      have HAT0 : Hid (ConfAtO w b0 off0 c0) := by have := hat0; rw [Nat.zero_mul, Nat.add_zero] at this; exact this
      clear hc0 hat0
      rw [HC.out]
      go_enter Try.func21, Try.ntmps21
      go_wp2
      go_loopw [3] (fun i wr => ∃ k : Nat, k ≤ n ∧ i = .int .i64 (k : Int) ∧ cfsTo cs k = 0 ∧ Below w.heap.size w wr) (fun i _ => n - (intOf i).toNat)
      case atStart => exact ⟨0, Nat.zero_le _, rfl, rfl, Below.refl _ _⟩
      case round =>
        obtain ⟨k, hk, rfl, hz, hnx⟩ := hrel
        have HK0 : Hid (cfsTo cs k = 0) := hz
        clear hz
        by_cases hlt : k < n
        · obtain ⟨b, off, c, e, hc, hat, hin⟩ := H.out.at hlt
          cases e
          have HS : Hid (cs[k]? = some c) := hc
          have hlt' : (k : Int) < (n : Int) := by omega
          have HA : Hid (ConfAtO wr b0 (off0 + k * 5) c ∧ ConfIn wr c ∧ ConfLe 1048576 c) := ⟨hat.below hnx, hin.below hnx, HLE.out.le k c hc⟩
          have HN : Hid (cfsTo cs (k + 1) = if codeC c = 0 then (if c.f = c0.f then 0 else 1) else codeC c) := by show cfsTo cs (k + 1) = _; rw [cfsTo_next hc HK0.out, HC0.out]
          clear hc hat hin
          obtain ⟨q, hq⟩ : ∃ q, codeC c = q := ⟨_, rfl⟩
          rw [hq] at HN
          have HQ : Hid (Calls Try.prog 30 #[.pointer (some ⟨b0, off0 + k * 5, none⟩)] wr fun e w' => e = .returned (.int .i64 q) ∧ Below wr.heap.size wr w') := by rw [← hq]; exact l6Fault_o b0 (off0 + k * 5) c wr HA.out.2.2 HA.out.1 HA.out.2.1
          clear hq
          go_wp2_with fail
          refine HQ.out.mono ?_
          rintro e w1 ⟨rfl, hb1⟩
          have B1 : Below w.heap.size w w1 := hnx.trans (hb1.mono hnx.size)
          by_cases q0 : q = 0
          · have qb : (q != 0) = false := by simp [q0]
            rw [if_pos q0] at HN
            have hA1 := HA.out.1.below hb1
            have hl1 := hA1.lt
            obtain ⟨x0, x1, _⟩ := hA1
            have hB1 := HAT0.out.below B1
            obtain ⟨y0, y1, _⟩ := hB1
            by_cases hf : c.f = c0.f
            · have fb : (c.f != c0.f) = false := by simp [hf]
              rw [if_pos hf] at HN
              clear q0 hf
              go_wp2
              go_quiet (fail)
              go_wp2
              exact ⟨⟨k + 1, by omega, by go_num, HN.out, below_drewN B1 _⟩, by simp [intOf]; omega⟩
            · have fb : (c.f != c0.f) = true := by simp [hf]
              rw [if_neg hf] at HN
              have HE : Hid (cfsTo cs n = 1) := cfsTo_stay cs (k + 1) n 1 (by omega) HN.out (by omega)
              clear q0 hf
              go_wp2
              go_quiet (fail)
              go_wp2
              go_ret
              exact ⟨by rw [HE.out]; rfl, below_drewN B1 _⟩
          · have qb : (q != 0) = true := by simp [q0]
            rw [if_neg q0] at HN
            have HE : Hid (cfsTo cs n = q) := cfsTo_stay cs (k + 1) n q q0 HN.out (by omega)
            clear q0
            go_wp2
            go_ret
            exact ⟨by rw [HE.out]; rfl, B1⟩
        · have hkn : k = n := by omega
          have hlt' : ¬ ((k : Int) < (n : Int)) := by omega
          have HE : Hid (cfsTo cs n = 0) := by rw [← hkn]; exact HK0.out
          clear hkn
          go_wp2
          go_ret
          exact ⟨by rw [HE.out]; rfl, hnx⟩

end Go.Proofs.Yteknjkifgnfjgaa
