/-
  CONTRACT: spec.l2Bent: some rules, at most 17.
  Conditions: each contract bears its own.
  PLAIN FACTS on the set of a list of principals: no Go text is walked here.
  Conditions: each fact bears its own.
  PLAIN WORDS on grants: sets of principals joined and met, rising lists of grants, a set given to a role, one step of the rules. No Go text is walked here.
  Conditions: each fact bears its own.
  PLAIN WORDS on what follows from rules: whom a rule gives its head, one step, the steps from none on, and what has all that follows and nothing else. No Go text is walked here.
  Conditions: each fact bears its own.
-/
import Derived.Test.YtnfolmjdicfobaaGreatDoorPl05
import Derived.Test.YtnfolmjdicfobaaGreatDoorPl02
namespace Go.Proofs.YtnfolmjdicfobaaGreatDoor
open Go.RowKit
set_option linter.unusedVariables false
set_option linter.unusedSimpArgs false

def zeroRule : RuleI := ⟨0, 0, 0, 0, 0, 0, 0, 0⟩

theorem made17 : (madeCells (Value.cells (.agg #[.int .i64 0, .int .i64 0, .int .i64 0, .int .i64 0, .int .i64 0, .int .i64 0, .int .i64 0, .int .i64 0])) (17 * 8)).toList = flatR (List.replicate 17 zeroRule) := by kernel_rfl

theorem LP.draw {w wr wr' : World} {B : Nat} {a : Option Addr} {len cap k0 kk k' : Nat} {ys : List Int} {g n c : Nat} {zs : List RuleI} (h : LP w wr B a len cap k0 kk ys g n c zs) (hB : B < w.heap.size) (hs : SrcAt wr' B a len cap k' ys) (hg : wr.grownBy wr' (some B)) : LP w wr' B a len cap k0 k' ys g n c zs :=
  ⟨h.ow.grown hg (by have := h.gw; omega), h.ln, h.ds.draw hs hg, h.gw, Nat.lt_of_lt_of_le h.gl hg.size⟩

set_option maxRecDepth 100000 in
set_option maxHeartbeats 2000000 in
theorem bentP_c (w : World) (B : Nat) (a : Option Addr) (len cap k0 : Nat) (ys : List Int) (h : SrcAt w B a len cap k0 ys) (hl : len ≤ 1048576) (hk0 : k0 ≤ 500) :
    Calls Tryz.prog 66 #[.pointer (some ⟨B, 0, none⟩)] w fun e w' => ∃ (g n c kk : Nat) (zs : List RuleI), e = .returned (.slice (some ⟨g, 0, none⟩) n c) ∧ n ≤ 17 ∧ kk ≤ k0 + 89 ∧ LP w w' B a len cap k0 kk ys g n c zs := by
  have hB := h.lt
  have HCode : Hid (∀ b off, a = some ⟨b, off, none⟩ → len = 0 ∨ b < w.heap.size) := h.code_lt
  have HS : Hid (SrcAt w B a len cap k0 ys) := h
  obtain ⟨i0, hi, hz0, hz1, hz2⟩ := info_parts Tryz.info81
  have hun : Tryz.prog.underlying 24 = some (.slice 81) := by kernel_rfl
  clear h
  go_enter Tryz.func66, Tryz.ntmps66
  go_wp2_with fail
  refine (policy_c w B a len cap k0 ys HS.out hl hk0).mono ?_
  rintro e w1 ⟨g, n, c, kk, zs, rfl, hn, hkk, hL⟩
  have HL : Hid (LP w w1 B a len cap k0 kk ys g n c zs) := hL
  clear hL HS
  go_wp2_with fail
  refine (next_c _ B a len cap kk ys 14 HL.out.ds.src hl (by omega) (by omega) (by omega)).mono ?_
  rintro e w2 ⟨v, v0, v1, rfl, hS2, hG2⟩
  have HL2 : Hid (LP w w2 B a len cap k0 (kk + 1) ys g n c zs) := HL.out.draw hB hS2 hG2
  have hn' : (n : Int) ≤ 11 := by omega
  have hz2' : w.heap.size ≤ w2.heap.size := Nat.le_of_lt (Nat.lt_of_le_of_lt HL2.out.gw HL2.out.gl)
  clear hS2 hG2 HL
  by_cases e0 : v = 0
  · subst e0
    go_wp2_with fail
    refine (bentRule_c _ B a len cap (kk + 1) ys HL2.out.ds.src hl (by omega)).mono ?_
    rintro e w3 ⟨x, k3, hk3, rfl, hS3, hG3⟩
    have HLC : Hid (LP w w3 B a len cap k0 k3 ys g n c zs) := HL2.out.draw hB hS3 hG3
    have hzc : w.heap.size ≤ w3.heap.size := Nat.le_of_lt (Nat.lt_of_le_of_lt HLC.out.gw HLC.out.gl)
    clear hS3 hG3 HL2
    go_wp2_with (first
      | (at_builtin; refine wpList_append_own _ rfl _ _ 24 rfl w.heap.size 81 i0 (.agg #[.int .i64 0, .int .i64 0, .int .i64 0, .int .i64 0, .int .i64 0, .int .i64 0, .int .i64 0, .int .i64 0]) 8 64 hun hi hz0 hz1 hz2 rfl (by decide) _ n (flatR zs) rfl (?c0) ⟨w3.heap.size, 0, none⟩ 1 1 (row8 x) rfl rfl (cell_new8 w3 x _) (flatR_cells [x]) ?c3 ?c4 ?c5 ?_)
      | fail)
    case c0 => have h0 : w3.ownsRow w.heap.size 81 8 (.slice (some ⟨g, 0, none⟩) n c) n (flatR zs) := by have := HLC.out.ow; unfold Own8 at this; rw [HLC.out.ln] at this; exact this
               exact h0.alloc _
    case c3 => unfold maxLen; omega
    case c4 => omega
    case c5 => simp; omega
    intro v' w9 hown' hgrow hnil
    have HN : Hid (∃ g' c', v' = .slice (some ⟨g', 0, none⟩) (n + 1) c' ∧ LP w w9 B a len cap k0 k3 ys g' (n + 1) c' (zs ++ [x])) := LP.next HLC.out HCode.out hB hown' hgrow hnil
    clear hown' hgrow hnil HLC
    obtain ⟨g', c', rfl, hl9⟩ := HN.out
    have HL9 : Hid (LP w w9 B a len cap k0 k3 ys g' (n + 1) c' (zs ++ [x])) := hl9
    clear hl9 HN
    go_wp2_with fail
    go_ret
    exact ⟨g', n + 1, c', k3, zs ++ [x], rfl, by omega, by omega, HL9.out⟩
  · have b0 : (v == 0) = false := by simpa using e0
    by_cases e1 : v = 1
    · subst e1
      obtain ⟨wm, hmk, hownm, hgrm⟩ := run_make_full (P := Tryz.prog) (w := w2) w.heap.size 24 81 i0 (.agg #[.int .i64 0, .int .i64 0, .int .i64 0, .int .i64 0, .int .i64 0, .int .i64 0, .int .i64 0, .int .i64 0]) 8 hun hi hz0 hz1 .i64 .i64 17 (by rw [hz2]; omega) (by unfold maxLen; omega) hz2'
      have HN : Hid (LP w wm B a len cap k0 (kk + 1) ys w2.heap.size 17 17 (List.replicate 17 zeroRule)) := by
        rw [made17] at hownm
        exact ⟨hownm, rfl, ⟨HL2.out.ds.src.kept hgrm (by simp) (fun _ _ _ => .inr (by simp)), grown_trans HL2.out.ds.gr (grown_none hgrm _)⟩, hz2', (hownm.lt w2.heap.size (by simp [Value.ownBlock])).2⟩
      have hmk' : (Instr.makeSlice 24 (.int .i64 17) (.int .i64 17)).run Tryz.prog w2 = .ok (.slice (some ⟨w2.heap.size, 0, none⟩) 17 17) wm := hmk
      clear hownm hgrm HL2 e0 hmk
      go_wp2_with fail
      go_ret
      exact ⟨_, 17, 17, kk + 1, _, rfl, by omega, by omega, HN.out⟩
    · have b1 : (v == 1) = false := by simpa using e1
      by_cases e2 : v = 2
      · subst e2
        clear b0 b1 e0 e1
        by_cases hn0 : 0 < n
        · have hn0' : (0 : Int) < (n : Int) := by omega
          obtain ⟨b, off, x, hbo, hx, hr⟩ := (HL2.out.ow.read HL2.out.ln).at hn0
          cases hbo
          obtain ⟨y0, y1, y2, y3, y4, y5, y6, y7⟩ := hr
          simp only [Nat.zero_mul, Nat.add_zero, Nat.zero_add] at y0 y1 y2 y3 y4 y5 y6 y7
          clear hx
          go_wp2_with (first
            | (at_builtin; refine wpList_append_own _ rfl _ _ 24 rfl w.heap.size 81 i0 (.agg #[.int .i64 0, .int .i64 0, .int .i64 0, .int .i64 0, .int .i64 0, .int .i64 0, .int .i64 0, .int .i64 0]) 8 64 hun hi hz0 hz1 hz2 rfl (by decide) _ n (flatR zs) rfl (?c0) ⟨w2.heap.size, 0, none⟩ 1 1 (row8 x) rfl rfl (cell_new8 w2 x _) (flatR_cells [x]) ?c3 ?c4 ?c5 ?_)
            | fail)
          case c0 => have h0 : w2.ownsRow w.heap.size 81 8 (.slice (some ⟨g, 0, none⟩) n c) n (flatR zs) := by have := HL2.out.ow; unfold Own8 at this; rw [HL2.out.ln] at this; exact this
                     exact h0.alloc _
          case c3 => unfold maxLen; omega
          case c4 => omega
          case c5 => simp; omega
          intro v' w9 hown' hgrow hnil
          have HN : Hid (∃ g' c', v' = .slice (some ⟨g', 0, none⟩) (n + 1) c' ∧ LP w w9 B a len cap k0 (kk + 1) ys g' (n + 1) c' (zs ++ [x])) := LP.next HL2.out HCode.out hB hown' hgrow hnil
          clear hown' hgrow hnil y0 y1 y2 y3 y4 y5 y6 y7
          obtain ⟨g', c', rfl, hl9⟩ := HN.out
          have HL9 : Hid (LP w w9 B a len cap k0 (kk + 1) ys g' (n + 1) c' (zs ++ [x])) := hl9
          clear hl9 HN
          go_wp2_with fail
          go_ret
          exact ⟨g', n + 1, c', kk + 1, zs ++ [x], rfl, by omega, by omega, HL9.out⟩
        · have hn0' : ¬ ((0 : Int) < (n : Int)) := by omega
          go_wp2_with fail
          go_ret
          exact ⟨g, n, c, kk + 1, zs, rfl, by omega, by omega, HL2.out⟩
      · have b2 : (v == 2) = false := by simpa using e2
        clear e0 e1 e2
        go_wp2_with fail
        go_ret
        exact ⟨g, n, c, kk + 1, zs, rfl, by omega, by omega, HL2.out⟩

end Go.Proofs.YtnfolmjdicfobaaGreatDoor

namespace Go.Proofs.YtnfolmjdicfobaaGreatDoor
open Go.RowKit

/-- The set of one principal. -/
def bitI (p : Int) : Int := ((2 ^ (p - 1).toNat : Nat) : Int)

/-- The set of the first k of a list. -/
def orTo (ys : List Int) : Nat → Int
  | 0 => 0
  | k + 1 => bits .or .i64 (orTo ys k) (bitI (ys[k]?.getD 0))

/-- The first k are principals. -/
def okTo (ys : List Int) (k : Nat) : Prop := ∀ j, j < k → 1 ≤ ys[j]?.getD 0 ∧ ys[j]?.getD 0 ≤ 8

theorem or_dec : ∀ n : Fin 256, ∀ k : Fin 8, bits .or .u8 ((n.val : Nat) : Int) ((2 ^ k.val : Nat) : Int) = bits .or .i64 ((n.val : Nat) : Int) ((2 ^ k.val : Nat) : Int) ∧ 0 ≤ bits .or .i64 ((n.val : Nat) : Int) ((2 ^ k.val : Nat) : Int) ∧ bits .or .i64 ((n.val : Nat) : Int) ((2 ^ k.val : Nat) : Int) ≤ 255 := by
  decide +kernel

theorem or_u8 (m p : Int) (h0 : 0 ≤ m) (h1 : m ≤ 255) (p0 : 1 ≤ p) (p1 : p ≤ 8) :
    bits .or .u8 m (bitI p) = bits .or .i64 m (bitI p) ∧ 0 ≤ bits .or .i64 m (bitI p) ∧ bits .or .i64 m (bitI p) ≤ 255 := by
  obtain ⟨n, rfl⟩ := Int.eq_ofNat_of_zero_le h0
  exact or_dec ⟨n, by omega⟩ ⟨(p - 1).toNat, by omega⟩

theorem orTo_bd (ys : List Int) (k : Nat) (h : okTo ys k) : 0 ≤ orTo ys k ∧ orTo ys k ≤ 255 := by
  induction k with
  | zero => simp [orTo]
  | succ k ih =>
    have i := ih (fun j hj => h j (by omega))
    have y := h k (by omega)
    exact (or_u8 _ _ i.1 i.2 y.1 y.2).2

theorem okTo_or_first (ys : List Int) (n : Nat) : okTo ys n ∨ ∃ j, j < n ∧ okTo ys j ∧ ¬ (1 ≤ ys[j]?.getD 0 ∧ ys[j]?.getD 0 ≤ 8) := by
  induction n with
  | zero => exact .inl (fun j hj => by omega)
  | succ n ih =>
    rcases ih with h | ⟨j, hj, h⟩
    · by_cases hb : 1 ≤ ys[n]?.getD 0 ∧ ys[n]?.getD 0 ≤ 8
      · refine .inl (fun j hj => ?_)
        by_cases e : j = n
        · subst e; exact hb
        · exact h j (by omega)
      · exact .inr ⟨n, by omega, h, hb⟩
    · exact .inr ⟨j, by omega, h⟩

end Go.Proofs.YtnfolmjdicfobaaGreatDoor

namespace Go.Proofs.YtnfolmjdicfobaaGreatDoor
open Go.RowKit

/-! sets -/

theorem or_nat (a b : Nat) (ha : a < 256) (hb : b < 256) : bits .or .i64 (a : Int) (b : Int) = ((a ||| b : Nat) : Int) := by
  have hx : a ||| b < 2 ^ 8 := Nat.or_lt_two_pow (by omega) (by omega)
  have ea : (BitVec.ofInt 64 (a : Int)).toNat = a := by rw [BitVec.ofInt_natCast, BitVec.toNat_ofNat]; exact Nat.mod_eq_of_lt (by omega)
  have eb : (BitVec.ofInt 64 (b : Int)).toNat = b := by rw [BitVec.ofInt_natCast, BitVec.toNat_ofNat]; exact Nat.mod_eq_of_lt (by omega)
  show IntKind.i64.wrap ((BitVec.ofInt 64 (a : Int) ||| BitVec.ofInt 64 (b : Int)).toNat : Int) = _
  rw [BitVec.toNat_or, ea, eb, IntKind.wrap_i64]
  omega

theorem and_nat (a b : Nat) (ha : a < 256) (hb : b < 256) : bits .and .i64 (a : Int) (b : Int) = ((a &&& b : Nat) : Int) := by
  have hx : a &&& b < 2 ^ 8 := Nat.and_lt_two_pow _ (by omega)
  have ea : (BitVec.ofInt 64 (a : Int)).toNat = a := by rw [BitVec.ofInt_natCast, BitVec.toNat_ofNat]; exact Nat.mod_eq_of_lt (by omega)
  have eb : (BitVec.ofInt 64 (b : Int)).toNat = b := by rw [BitVec.ofInt_natCast, BitVec.toNat_ofNat]; exact Nat.mod_eq_of_lt (by omega)
  show IntKind.i64.wrap ((BitVec.ofInt 64 (a : Int) &&& BitVec.ofInt 64 (b : Int)).toNat : Int) = _
  rw [BitVec.toNat_and, ea, eb, IntKind.wrap_i64]
  omega

/-- A set: 0 to 255. -/
def setB (s : Int) : Prop := 0 ≤ s ∧ s ≤ 255
abbrev orI (a b : Int) : Int := bits .or .i64 a b
abbrev andI (a b : Int) : Int := bits .and .i64 a b

theorem or_set {a b : Int} (ha : setB a) (hb : setB b) : setB (orI a b) := by
  obtain ⟨A, rfl⟩ := Int.eq_ofNat_of_zero_le ha.1
  obtain ⟨B, rfl⟩ := Int.eq_ofNat_of_zero_le hb.1
  have h1 := ha.2
  have h2 := hb.2
  have hx : A ||| B < 2 ^ 8 := Nat.or_lt_two_pow (by omega) (by omega)
  rw [orI, or_nat A B (by omega) (by omega)]
  exact ⟨by omega, by omega⟩

theorem and_set {a b : Int} (ha : setB a) (hb : setB b) : setB (andI a b) := by
  obtain ⟨A, rfl⟩ := Int.eq_ofNat_of_zero_le ha.1
  obtain ⟨B, rfl⟩ := Int.eq_ofNat_of_zero_le hb.1
  have h1 := ha.2
  have h2 := hb.2
  have hx : A &&& B < 2 ^ 8 := Nat.and_lt_two_pow _ (by omega)
  rw [andI, and_nat A B (by omega) (by omega)]
  exact ⟨by omega, by omega⟩

theorem hasI_or {a b : Int} (ha : setB a) (hb : setB b) (p : Int) : hasI (orI a b) p = (hasI a p || hasI b p) := by
  obtain ⟨A, rfl⟩ := Int.eq_ofNat_of_zero_le ha.1
  obtain ⟨B, rfl⟩ := Int.eq_ofNat_of_zero_le hb.1
  have h1 := ha.2
  have h2 := hb.2
  rw [orI, or_nat A B (by omega) (by omega)]
  simp [hasI]

theorem hasI_and {a b : Int} (ha : setB a) (hb : setB b) (p : Int) : hasI (andI a b) p = (hasI a p && hasI b p) := by
  obtain ⟨A, rfl⟩ := Int.eq_ofNat_of_zero_le ha.1
  obtain ⟨B, rfl⟩ := Int.eq_ofNat_of_zero_le hb.1
  have h1 := ha.2
  have h2 := hb.2
  rw [andI, and_nat A B (by omega) (by omega)]
  simp [hasI]

theorem hasI_zero (p : Int) : hasI 0 p = false := by simp [hasI]

theorem set_ext {a b : Int} (ha : setB a) (hb : setB b) (h : ∀ p, 1 ≤ p → p ≤ 8 → hasI a p = hasI b p) : a = b := by
  obtain ⟨A, rfl⟩ := Int.eq_ofNat_of_zero_le ha.1
  obtain ⟨B, rfl⟩ := Int.eq_ofNat_of_zero_le hb.1
  have h1 := ha.2
  have h2 := hb.2
  have e : A = B := by
    apply Nat.eq_of_testBit_eq
    intro i
    by_cases q : i < 8
    · have := h ((i : Int) + 1) (by omega) (by omega)
      simpa [hasI] using this
    · have hi : 256 ≤ 2 ^ i := by
        have : 2 ^ 8 ≤ 2 ^ i := Nat.pow_le_pow_right (by omega) (by omega)
        omega
      rw [Nat.testBit_lt_two_pow (by omega), Nat.testBit_lt_two_pow (by omega)]
  rw [e]

theorem hasI_high {a : Int} (ha : setB a) {p : Int} (h : hasI a p = true) : p ≤ 8 := by
  by_cases q : p ≤ 8
  · exact q
  · obtain ⟨A, rfl⟩ := Int.eq_ofNat_of_zero_le ha.1
    have h1 := ha.2
    have hi : 256 ≤ 2 ^ (p - 1).toNat := by
      have : 2 ^ 8 ≤ 2 ^ (p - 1).toNat := Nat.pow_le_pow_right (by omega) (by omega)
      omega
    rw [hasI, Nat.testBit_lt_two_pow (by rw [Int.toNat_natCast]; omega)] at h
    cases h

theorem or_le {a b : Int} (ha : setB a) (hb : setB b) : a ≤ orI a b := by
  obtain ⟨A, rfl⟩ := Int.eq_ofNat_of_zero_le ha.1
  obtain ⟨B, rfl⟩ := Int.eq_ofNat_of_zero_le hb.1
  have h1 := ha.2
  have h2 := hb.2
  rw [orI, or_nat A B (by omega) (by omega)]
  have : A ≤ A ||| B := Nat.left_le_or
  omega

theorem or_pos {a b : Int} (ha : setB a) (hb : setB b) (h : 1 ≤ b) : 1 ≤ orI a b := by
  obtain ⟨A, rfl⟩ := Int.eq_ofNat_of_zero_le ha.1
  obtain ⟨B, rfl⟩ := Int.eq_ofNat_of_zero_le hb.1
  have h1 := ha.2
  have h2 := hb.2
  rw [orI, or_nat A B (by omega) (by omega)]
  have : B ≤ A ||| B := Nat.right_le_or
  omega

theorem bit_set {p : Int} (h0 : 1 ≤ p) (h1 : p ≤ 8) : setB (bitI p) := by
  have hi : 2 ^ (p - 1).toNat ≤ 2 ^ 7 := Nat.pow_le_pow_right (by omega) (by omega)
  unfold bitI setB
  generalize 2 ^ (p - 1).toNat = n at *
  omega

theorem hasI_bit {p q : Int} (h0 : 1 ≤ p) (k0 : 1 ≤ q) : hasI (bitI p) q = decide (q = p) := by
  unfold bitI hasI
  rw [Int.toNat_natCast, Nat.testBit_two_pow]
  by_cases e : q = p
  · subst e; simp
  · rw [decide_eq_false e, decide_eq_false]
    omega

/-! grants -/

abbrev GrI := RoI × Int

/-- The set of a role. -/
def ofG : List GrI → RoI → Int
  | [], _ => 0
  | x :: xs, r => if x.1 = r then x.2 else ofG xs r

/-- A set given to a role, in a rising list. -/
def insG : List GrI → RoI → Int → List GrI
  | [], r, s => [(r, s)]
  | x :: xs, r, s => if x.1 = r then (r, orI x.2 s) :: xs else if ltR r x.1 = true then (r, s) :: x :: xs else x :: insG xs r s

/-- Grants without a fault. -/
structure SG (gs : List GrI) : Prop where
  up : gs.Pairwise (fun a b => ltR a.1 b.1 = true)
  ro : ∀ x ∈ gs, roleB x.1.1 x.1.2 = true
  st : ∀ x ∈ gs, 1 ≤ x.2 ∧ x.2 ≤ 255

theorem sg_nil : SG [] := ⟨List.Pairwise.nil, fun _ h => by simp at h, fun _ h => by simp at h⟩

theorem SG.tail {x : GrI} {xs : List GrI} (h : SG (x :: xs)) : SG xs := ⟨(List.pairwise_cons.1 h.up).2, fun y hy => h.ro y (by simp [hy]), fun y hy => h.st y (by simp [hy])⟩

theorem ofG_set {gs : List GrI} (h : SG gs) (r : RoI) : setB (ofG gs r) := by
  induction gs with
  | nil => exact ⟨by simp [ofG], by simp [ofG]⟩
  | cons x xs ih =>
    unfold ofG
    split
    · have := h.st x (by simp)
      exact ⟨by omega, by omega⟩
    · exact ih h.tail

theorem ofG_none {gs : List GrI} {r : RoI} (h : ∀ x ∈ gs, x.1 ≠ r) : ofG gs r = 0 := by
  induction gs with
  | nil => rfl
  | cons x xs ih =>
    unfold ofG
    rw [if_neg (h x (by simp))]
    exact ih (fun y hy => h y (by simp [hy]))

theorem ofG_mem {gs : List GrI} (h : SG gs) {x : GrI} (hx : x ∈ gs) : ofG gs x.1 = x.2 := by
  induction gs with
  | nil => cases hx
  | cons y ys ih =>
    unfold ofG
    rcases List.mem_cons.1 hx with rfl | hx'
    · simp
    · have := (List.pairwise_cons.1 h.up).1 x hx'
      rw [if_neg (fun e => by rw [e, ltR_irrefl] at this; cases this)]
      exact ih h.tail hx'

theorem ofG_some {gs : List GrI} {r : RoI} (h : ofG gs r ≠ 0) : (r, ofG gs r) ∈ gs := by
  induction gs with
  | nil => exact absurd rfl h
  | cons y ys ih =>
    unfold ofG at h ⊢
    split
    · rename_i e
      rw [← e]
      simp
    · rename_i e
      rw [if_neg e] at h
      exact List.mem_cons_of_mem _ (ih h)

theorem sg_ext {a b : List GrI} (ha : SG a) (hb : SG b) (h : ∀ r, ofG a r = ofG b r) : a = b := by
  have key : ∀ {c : List GrI}, SG c → ∀ r, r ∈ c.map Prod.fst ↔ ofG c r ≠ 0 := by
    intro c hc r
    constructor
    · intro hr
      obtain ⟨x, hx, rfl⟩ := List.mem_map.1 hr
      rw [ofG_mem hc hx]
      have := hc.st x hx
      omega
    · intro hr
      exact List.mem_map.2 ⟨_, ofG_some hr, rfl⟩
  have e : a.map Prod.fst = b.map Prod.fst := by
    refine ss_unique _ _ (List.pairwise_map.2 ha.up) (List.pairwise_map.2 hb.up) (fun r => ?_)
    rw [key ha r, key hb r, h r]
  have back : ∀ {c : List GrI}, SG c → c = (c.map Prod.fst).map (fun r => (r, ofG c r)) := by
    intro c hc
    rw [List.map_map]
    conv => lhs; rw [← List.map_id c]
    refine List.map_congr_left (fun x hx => ?_)
    simp [ofG_mem hc hx]
  rw [back ha, back hb, e]
  exact List.map_congr_left (fun r _ => by rw [h r])

theorem insG_lo {gs : List GrI} {r : RoI} {s : Int} {q : RoI} (hq : ltR q r = true) (h : ∀ x ∈ gs, ltR q x.1 = true) : ∀ x ∈ insG gs r s, ltR q x.1 = true := by
  induction gs with
  | nil =>
    intro x hx
    simp [insG] at hx
    rw [hx]; exact hq
  | cons y ys ih =>
    intro x hx
    unfold insG at hx
    split at hx
    · rcases List.mem_cons.1 hx with rfl | hx'
      · exact hq
      · exact h x (by simp [hx'])
    · split at hx
      · rcases List.mem_cons.1 hx with rfl | hx'
        · exact hq
        · exact h x hx'
      · rcases List.mem_cons.1 hx with rfl | hx'
        · exact h x (by simp)
        · exact ih (fun z hz => h z (by simp [hz])) x hx'

theorem sg_ins {gs : List GrI} (h : SG gs) {r : RoI} {s : Int} (hr : roleB r.1 r.2 = true) (hs : 1 ≤ s ∧ s ≤ 255) : SG (insG gs r s) := by
  induction gs with
  | nil => exact ⟨by simp [insG], fun x hx => by simp [insG] at hx; rw [hx]; exact hr, fun x hx => by simp [insG] at hx; rw [hx]; exact hs⟩
  | cons y ys ih =>
    have hp := List.pairwise_cons.1 h.up
    have hy := h.st y (by simp)
    unfold insG
    split
    · rename_i e
      refine ⟨List.pairwise_cons.2 ⟨fun x hx => by rw [← e]; exact hp.1 x hx, hp.2⟩, fun x hx => ?_, fun x hx => ?_⟩
      · rcases List.mem_cons.1 hx with rfl | hx'
        · exact hr
        · exact h.ro x (by simp [hx'])
      · rcases List.mem_cons.1 hx with rfl | hx'
        · exact ⟨or_pos ⟨by omega, by omega⟩ ⟨by omega, by omega⟩ hs.1, (or_set (a := y.2) (b := s) ⟨by omega, by omega⟩ ⟨by omega, by omega⟩).2⟩
        · exact h.st x (by simp [hx'])
    · split
      · rename_i e q
        refine ⟨List.pairwise_cons.2 ⟨fun x hx => ?_, h.up⟩, fun x hx => ?_, fun x hx => ?_⟩
        · rcases List.mem_cons.1 hx with rfl | hx'
          · exact q
          · exact ltR_trans q (hp.1 x hx')
        · rcases List.mem_cons.1 hx with rfl | hx'
          · exact hr
          · exact h.ro x hx'
        · rcases List.mem_cons.1 hx with rfl | hx'
          · exact hs
          · exact h.st x hx'
      · rename_i e q
        have i := ih h.tail
        have q2 : ltR y.1 r = true := ltR_total (by simpa using q) (fun e2 => e e2.symm)
        refine ⟨List.pairwise_cons.2 ⟨insG_lo q2 hp.1, i.up⟩, fun x hx => ?_, fun x hx => ?_⟩
        · rcases List.mem_cons.1 hx with rfl | hx'
          · exact h.ro x (by simp)
          · exact i.ro x hx'
        · rcases List.mem_cons.1 hx with rfl | hx'
          · exact h.st x (by simp)
          · exact i.st x hx'

theorem zero_or {s : Int} (hs : setB s) : orI 0 s = s := by
  obtain ⟨B, rfl⟩ := Int.eq_ofNat_of_zero_le hs.1
  have h2 := hs.2
  have := or_nat 0 B (by omega) (by omega)
  simpa using this

theorem ofG_ins {gs : List GrI} (h : SG gs) {r : RoI} {s : Int} (hs : 1 ≤ s ∧ s ≤ 255) (r' : RoI) : ofG (insG gs r s) r' = if r' = r then orI (ofG gs r) s else ofG gs r' := by
  induction gs with
  | nil =>
    simp only [insG, ofG]
    by_cases e : r' = r
    · subst e; simp [zero_or ⟨by omega, hs.2⟩]
    · rw [if_neg (fun e2 => e e2.symm), if_neg e]
  | cons y ys ih =>
    have hp := List.pairwise_cons.1 h.up
    unfold insG
    by_cases e : y.1 = r
    · rw [if_pos e]
      unfold ofG
      by_cases e2 : r' = r
      · subst e2; simp [e]
      · rw [if_neg (fun q => e2 q.symm), if_neg e2, if_neg (fun q => e2 (by rw [← q, e]))]
    · rw [if_neg e]
      by_cases q : ltR r y.1 = true
      · rw [if_pos q]
        by_cases e2 : r' = r
        · subst e2
          have n : ofG (y :: ys) r' = 0 := by
            refine ofG_none (fun x hx e3 => ?_)
            have : ltR r' x.1 = true := by
              rcases List.mem_cons.1 hx with rfl | hx'
              · exact q
              · exact ltR_trans q (hp.1 x hx')
            rw [e3, ltR_irrefl] at this
            cases this
          rw [n, if_pos rfl, zero_or ⟨by omega, hs.2⟩]
          simp [ofG]
        · rw [if_neg e2]
          show ofG ((r, s) :: y :: ys) r' = _
          rw [ofG, if_neg (fun q => e2 q.symm)]
      · rw [if_neg q, ofG, ih h.tail]
        by_cases e2 : r' = r
        · subst e2
          simp [e, ofG]
        · simp [e2, ofG]

/-! how many there may be -/

theorem rising_len : ∀ (l : List Int) (a b : Int), l.Pairwise (· < ·) → (∀ x ∈ l, a ≤ x ∧ x < b) → (l.length : Int) ≤ max 0 (b - a)
  | [], a, b, _, _ => by simp; omega
  | x :: xs, a, b, h, k => by
    have hp := List.pairwise_cons.1 h
    have hx := k x (by simp)
    have := rising_len xs (x + 1) b hp.2 (fun y hy => ⟨by have := hp.1 y hy; omega, (k y (by simp [hy])).2⟩)
    simp only [List.length_cons]
    omega

theorem sg_len {gs : List GrI} (h : SG gs) : gs.length ≤ 40 := by
  have hb : ∀ x ∈ gs, 1 ≤ x.1.1 ∧ x.1.1 ≤ 8 ∧ 1 ≤ x.1.2 ∧ x.1.2 ≤ 5 := by
    intro x hx
    have := h.ro x hx
    simp [roleB, prinB, nameB] at this
    omega
  have := rising_len (gs.map (fun x => x.1.1 * 5 + x.1.2)) 6 46 (List.pairwise_map.2 (h.up.imp_of_mem (fun {a b} ha hb' q => ?_))) (fun y hy => ?_)
  · simp at this; omega
  · have h1 := hb a ha
    have h2 := hb b hb'
    simp [ltR] at q
    omega
  · obtain ⟨x, hx, rfl⟩ := List.mem_map.1 hy
    have := hb x hx
    omega

/-! the sum of the sets: it rises -/

def sumG (gs : List GrI) : Int := (gs.map Prod.snd).sum

theorem sum_ins {gs : List GrI} (h : SG gs) {r : RoI} {s : Int} (hs : 1 ≤ s ∧ s ≤ 255) : sumG gs ≤ sumG (insG gs r s) ∧ (sumG gs = sumG (insG gs r s) → insG gs r s = gs) := by
  induction gs with
  | nil => simp [sumG, insG]; omega
  | cons y ys ih =>
    have hy := h.st y (by simp)
    have i := ih h.tail
    unfold insG
    by_cases e : y.1 = r
    · rw [if_pos e]
      have := or_le (a := y.2) (b := s) ⟨by omega, by omega⟩ ⟨by omega, by omega⟩
      simp only [sumG, List.map_cons, List.sum_cons]
      refine ⟨by omega, fun q => ?_⟩
      have : orI y.2 s = y.2 := by omega
      rw [this, ← e]
    · rw [if_neg e]
      by_cases q : ltR r y.1 = true
      · rw [if_pos q]
        simp only [sumG, List.map_cons, List.sum_cons]
        exact ⟨by omega, fun q => by omega⟩
      · rw [if_neg q]
        simp only [sumG, List.map_cons, List.sum_cons] at i ⊢
        refine ⟨by omega, fun q => ?_⟩
        rw [i.2 (by omega)]

theorem sum_bd {gs : List GrI} (h : ∀ x ∈ gs, 1 ≤ x.2 ∧ x.2 ≤ 255) : 0 ≤ sumG gs ∧ sumG gs ≤ 255 * gs.length := by
  induction gs with
  | nil => simp [sumG]
  | cons y ys ih =>
    have hy := h y (by simp)
    have i := ih (fun x hx => h x (by simp [hx]))
    simp only [sumG, List.map_cons, List.sum_cons, List.length_cons] at i ⊢
    omega

theorem sum_le {gs : List GrI} (h : SG gs) : 0 ≤ sumG gs ∧ sumG gs ≤ 10200 := by
  have := sum_bd h.st
  have := sg_len h
  omega

/-! the loop that gives a set to a role -/

def addStep (r : RoI) (s : Int) (o : List GrI × Bool) (x : GrI) : List GrI × Bool :=
  if x.1 = r then (o.1 ++ [(x.1, orI x.2 s)], true)
  else if o.2 = false ∧ ltR r x.1 = true then (o.1 ++ [(r, s), x], true)
  else (o.1 ++ [x], o.2)

def addTo (gs : List GrI) (r : RoI) (s : Int) (k : Nat) : List GrI × Bool := (gs.take k).foldl (addStep r s) ([], false)

theorem addTo_zero (gs : List GrI) (r : RoI) (s : Int) : addTo gs r s 0 = ([], false) := by simp [addTo]

theorem addTo_succ {gs : List GrI} {k : Nat} {x : GrI} (h : gs[k]? = some x) (r : RoI) (s : Int) : addTo gs r s (k + 1) = addStep r s (addTo gs r s k) x := by
  have hk : k < gs.length := by
    by_cases q : k < gs.length
    · exact q
    · rw [List.getElem?_eq_none (by omega)] at h; cases h
  have e : gs[k] = x := by rw [List.getElem?_eq_getElem hk] at h; exact Option.some.inj h
  rw [addTo, List.take_succ_eq_append_getElem hk, List.foldl_append, e]
  rfl

def addEnd (r : RoI) (s : Int) (o : List GrI × Bool) : List GrI := if o.2 = true then o.1 else o.1 ++ [(r, s)]

theorem add_done (r : RoI) (s : Int) : ∀ (gs o : List GrI), (∀ x ∈ gs, x.1 ≠ r) → gs.foldl (addStep r s) (o, true) = (o ++ gs, true)
  | [], o, _ => by simp
  | x :: xs, o, h => by
    rw [List.foldl_cons]
    have : addStep r s (o, true) x = (o ++ [x], true) := by simp [addStep, h x (by simp)]
    rw [this, add_done r s xs _ (fun y hy => h y (by simp [hy]))]
    simp

theorem add_fold (r : RoI) (s : Int) : ∀ (gs o : List GrI), SG gs → addEnd r s (gs.foldl (addStep r s) (o, false)) = o ++ insG gs r s
  | [], o, _ => by simp [addEnd, insG]
  | x :: xs, o, h => by
    have hp := List.pairwise_cons.1 h.up
    rw [List.foldl_cons]
    by_cases e : x.1 = r
    · have : addStep r s (o, false) x = (o ++ [(r, orI x.2 s)], true) := by simp [addStep, e]
      rw [this, add_done r s xs _ (fun y hy q => by have := hp.1 y hy; rw [q, e, ltR_irrefl] at this; cases this)]
      simp [addEnd, insG, e]
    · by_cases q : ltR r x.1 = true
      · have : addStep r s (o, false) x = (o ++ [(r, s), x], true) := by simp [addStep, e, q]
        rw [this, add_done r s xs _ (fun y hy q2 => by have := ltR_trans q (hp.1 y hy); rw [q2, ltR_irrefl] at this; cases this)]
        simp [addEnd, insG, e, q]
      · have : addStep r s (o, false) x = (o ++ [x], false) := by simp [addStep, e, q]
        rw [this, add_fold r s xs _ h.tail]
        simp [insG, e, q]

theorem addTo_all {gs : List GrI} (h : SG gs) (r : RoI) (s : Int) : addEnd r s (addTo gs r s gs.length) = insG gs r s := by
  rw [addTo, List.take_length, add_fold r s gs [] h]
  simp

end Go.Proofs.YtnfolmjdicfobaaGreatDoor

namespace Go.Proofs.YtnfolmjdicfobaaGreatDoor
open Go.RowKit

/-- The sets of roles of one name, joined, over owners. -/
def linkTo (f : RoI → Int) (n : Int) (ys : List Int) (k : Nat) : Int := (ys.take k).foldl (fun o y => orI o (f (y, n))) 0

theorem linkTo_zero (f : RoI → Int) (n : Int) (ys : List Int) : linkTo f n ys 0 = 0 := by simp [linkTo]

theorem linkTo_succ {ys : List Int} {k : Nat} {y : Int} (h : ys[k]? = some y) (f : RoI → Int) (n : Int) : linkTo f n ys (k + 1) = orI (linkTo f n ys k) (f (y, n)) := by
  have hk : k < ys.length := by
    by_cases q : k < ys.length
    · exact q
    · rw [List.getElem?_eq_none (by omega)] at h; cases h
  have e : ys[k] = y := by rw [List.getElem?_eq_getElem hk] at h; exact Option.some.inj h
  rw [linkTo, List.take_succ_eq_append_getElem hk, List.foldl_append, e]
  rfl

theorem link_fold {f : RoI → Int} (hf : ∀ r, setB (f r)) (n : Int) : ∀ (ys : List Int) (o : Int), setB o → setB (ys.foldl (fun o y => orI o (f (y, n))) o) ∧ ∀ p, hasI (ys.foldl (fun o y => orI o (f (y, n))) o) p = (hasI o p || ys.any (fun y => hasI (f (y, n)) p))
  | [], o, ho => ⟨ho, fun p => by simp⟩
  | y :: ys, o, ho => by
    have := link_fold hf n ys (orI o (f (y, n))) (or_set ho (hf _))
    refine ⟨this.1, fun p => ?_⟩
    rw [List.foldl_cons, this.2 p, hasI_or ho (hf _), List.any_cons, Bool.or_assoc]

theorem linkTo_set {f : RoI → Int} (hf : ∀ r, setB (f r)) (n : Int) (ys : List Int) (k : Nat) : setB (linkTo f n ys k) := (link_fold hf n (ys.take k) 0 ⟨by omega, by omega⟩).1

theorem mem_listTo {s x : Int} : ∀ {k : Nat}, x ∈ listTo s k ↔ 1 ≤ x ∧ x ≤ (k : Int) ∧ hasI s x = true
  | 0 => by simp [listTo]; omega
  | k + 1 => by
    unfold listTo
    split
    · rename_i h
      rw [List.mem_append, List.mem_singleton, mem_listTo (k := k)]
      constructor
      · rintro (q | rfl)
        · exact ⟨q.1, by omega, q.2.2⟩
        · exact ⟨by omega, by omega, h⟩
      · rintro ⟨q1, q2, q3⟩
        by_cases e : x = (k : Int) + 1
        · exact .inr e
        · exact .inl ⟨q1, by omega, q3⟩
    · rename_i h
      rw [mem_listTo (k := k)]
      constructor
      · rintro ⟨q1, q2, q3⟩
        exact ⟨q1, by omega, q3⟩
      · rintro ⟨q1, q2, q3⟩
        by_cases e : x = (k : Int) + 1
        · subst e; exact absurd q3 h
        · exact ⟨q1, by omega, q3⟩

theorem listTo_len (s : Int) : ∀ k, (listTo s k).length ≤ k
  | 0 => by simp [listTo]
  | k + 1 => by
    have := listTo_len s k
    unfold listTo
    split
    · simp; omega
    · omega

/-- Whom a rule gives its head, by the sets of roles. -/
def byF (f : RoI → Int) (r : RuleI) : Int :=
  if r.k = 1 then bitI r.w
  else if r.k = 2 then f (r.oo, r.on)
  else if r.k = 4 then andI (f (r.oo, r.on)) (f (r.to, r.tn))
  else linkTo f r.tn (listTo (f (r.oo, r.on)) 8) (listTo (f (r.oo, r.on)) 8).length

/-- A rule gives its head to p, where m says who has which role. -/
def GivesTo (m : RoI → Int → Prop) (r : RuleI) (p : Int) : Prop :=
  if r.k = 1 then p = r.w
  else if r.k = 2 then m (r.oo, r.on) p
  else if r.k = 4 then m (r.oo, r.on) p ∧ m (r.to, r.tn) p
  else ∃ q, 1 ≤ q ∧ q ≤ 8 ∧ m (r.oo, r.on) q ∧ m (q, r.tn) p

/-- What the plain theory needs of a rule. -/
def okR (r : RuleI) : Prop := roleB r.ho r.hn = true ∧ (r.k = 1 → 1 ≤ r.w ∧ r.w ≤ 8)

theorem byF_set {f : RoI → Int} (hf : ∀ r, setB (f r)) {r : RuleI} (hr : okR r) : setB (byF f r) := by
  unfold byF
  split
  · rename_i e
    exact bit_set (hr.2 e).1 (hr.2 e).2
  · split
    · exact hf _
    · split
      · exact and_set (hf _) (hf _)
      · exact linkTo_set hf _ _ _

theorem byF_has {f : RoI → Int} (hf : ∀ r, setB (f r)) {r : RuleI} (hr : okR r) {p : Int} (hp : 1 ≤ p) : hasI (byF f r) p = true ↔ GivesTo (fun r p => hasI (f r) p = true) r p := by
  unfold byF GivesTo
  split
  · rename_i e
    rw [hasI_bit (hr.2 e).1 hp]
    simp
  · split
    · exact Iff.rfl
    · split
      · rw [hasI_and (hf _) (hf _)]
        simp
      · rw [linkTo, List.take_length, (link_fold hf r.tn _ 0 ⟨by omega, by omega⟩).2 p, hasI_zero, Bool.false_or, List.any_eq_true]
        constructor
        · rintro ⟨q, hq, h⟩
          have := mem_listTo.1 hq
          exact ⟨q, this.1, this.2.1, this.2.2, h⟩
        · rintro ⟨q, h1, h2, h3, h4⟩
          exact ⟨q, mem_listTo.2 ⟨h1, h2, h3⟩, h4⟩

theorem gives_mono {m m' : RoI → Int → Prop} (h : ∀ r p, 1 ≤ p → m r p → m' r p) {r : RuleI} {p : Int} (hp : 1 ≤ p) (g : GivesTo m r p) : GivesTo m' r p := by
  unfold GivesTo at g ⊢
  split
  · rename_i e; rw [if_pos e] at g; exact g
  · rename_i e
    rw [if_neg e] at g
    split
    · rename_i e; rw [if_pos e] at g; exact h _ _ hp g
    · rename_i e
      rw [if_neg e] at g
      split
      · rename_i e; rw [if_pos e] at g; exact ⟨h _ _ hp g.1, h _ _ hp g.2⟩
      · rename_i e
        rw [if_neg e] at g
        obtain ⟨q, h1, h2, h3, h4⟩ := g
        exact ⟨q, h1, h2, h _ _ h1 h3, h _ _ hp h4⟩

/-- A set given to a role, where there is one. -/
def addG (gs : List GrI) (r : RoI) (s : Int) : List GrI := if s = 0 then gs else insG gs r s

theorem sg_add {gs : List GrI} (h : SG gs) {r : RoI} {s : Int} (hr : roleB r.1 r.2 = true) (hs : setB s) : SG (addG gs r s) := by
  unfold addG
  split
  · exact h
  · have := hs.1
    exact sg_ins h hr ⟨by omega, hs.2⟩

theorem has_add {gs : List GrI} (h : SG gs) {r : RoI} {s : Int} (hs : setB s) (r' : RoI) (p : Int) : hasI (ofG (addG gs r s) r') p = true ↔ hasI (ofG gs r') p = true ∨ (r = r' ∧ hasI s p = true) := by
  unfold addG
  split
  · rename_i e
    subst e
    simp [hasI_zero]
  · have := hs.1
    rw [ofG_ins h ⟨by omega, hs.2⟩]
    split
    · rename_i e
      subst e
      rw [hasI_or (ofG_set h _) hs]
      simp
    · rename_i e
      constructor
      · exact fun q => .inl q
      · rintro (q | q)
        · exact q
        · exact absurd q.1.symm e

theorem sum_add {gs : List GrI} (h : SG gs) {r : RoI} {s : Int} (hs : setB s) : sumG gs ≤ sumG (addG gs r s) ∧ (sumG gs = sumG (addG gs r s) → addG gs r s = gs) := by
  unfold addG
  split
  · exact ⟨by omega, fun _ => rfl⟩
  · have := hs.1
    exact sum_ins h ⟨by omega, hs.2⟩

/-- One step over the first k rules: out of gs. -/
def stepTo (zs : List RuleI) (gs : List GrI) (k : Nat) : List GrI := (zs.take k).foldl (fun o z => addG o (z.ho, z.hn) (byF (ofG gs) z)) gs

def stepG (zs : List RuleI) (gs : List GrI) : List GrI := stepTo zs gs zs.length

theorem stepTo_zero (zs : List RuleI) (gs : List GrI) : stepTo zs gs 0 = gs := by simp [stepTo]

theorem stepTo_succ {zs : List RuleI} {k : Nat} {z : RuleI} (h : zs[k]? = some z) (gs : List GrI) : stepTo zs gs (k + 1) = addG (stepTo zs gs k) (z.ho, z.hn) (byF (ofG gs) z) := by
  have hk : k < zs.length := by
    by_cases q : k < zs.length
    · exact q
    · rw [List.getElem?_eq_none (by omega)] at h; cases h
  have e : zs[k] = z := by rw [List.getElem?_eq_getElem hk] at h; exact Option.some.inj h
  rw [stepTo, List.take_succ_eq_append_getElem hk, List.foldl_append, e]
  rfl

theorem step_fold {gs : List GrI} (hg : SG gs) : ∀ (zs : List RuleI) (o : List GrI), (∀ z ∈ zs, okR z) → SG o →
    SG (zs.foldl (fun o z => addG o (z.ho, z.hn) (byF (ofG gs) z)) o) ∧
    (∀ r p, hasI (ofG (zs.foldl (fun o z => addG o (z.ho, z.hn) (byF (ofG gs) z)) o) r) p = true ↔ hasI (ofG o r) p = true ∨ ∃ z ∈ zs, (z.ho, z.hn) = r ∧ hasI (byF (ofG gs) z) p = true) ∧
    sumG o ≤ sumG (zs.foldl (fun o z => addG o (z.ho, z.hn) (byF (ofG gs) z)) o) ∧
    (sumG o = sumG (zs.foldl (fun o z => addG o (z.ho, z.hn) (byF (ofG gs) z)) o) → zs.foldl (fun o z => addG o (z.ho, z.hn) (byF (ofG gs) z)) o = o)
  | [], o, _, ho => ⟨ho, fun r p => by simp, by simp, by simp⟩
  | z :: zs, o, hz, ho => by
    have hs := byF_set (ofG_set hg) (hz z (by simp))
    have h1 := sg_add ho (r := (z.ho, z.hn)) (hz z (by simp)).1 hs
    have h2 := sum_add ho (r := (z.ho, z.hn)) hs
    obtain ⟨i1, i2, i3, i4⟩ := step_fold hg zs _ (fun y hy => hz y (by simp [hy])) h1
    rw [List.foldl_cons]
    refine ⟨i1, fun r p => ?_, by omega, fun q => ?_⟩
    · rw [i2 r p, has_add ho hs]
      constructor
      · rintro ((q | q) | ⟨y, hy, q⟩)
        · exact .inl q
        · exact .inr ⟨z, by simp, q⟩
        · exact .inr ⟨y, by simp [hy], q⟩
      · rintro (q | ⟨y, hy, q⟩)
        · exact .inl (.inl q)
        · rcases List.mem_cons.1 hy with rfl | hy'
          · exact .inl (.inr q)
          · exact .inr ⟨y, hy', q⟩
    · have q1 : sumG o = sumG (addG o (z.ho, z.hn) (byF (ofG gs) z)) := by omega
      have e := h2.2 q1
      rw [i4 (by omega), e]

theorem sg_step {zs : List RuleI} {gs : List GrI} (hz : ∀ z ∈ zs, okR z) (hg : SG gs) : SG (stepG zs gs) := by
  unfold stepG stepTo
  rw [List.take_length]
  exact (step_fold hg zs gs hz hg).1

theorem sg_stepTo {zs : List RuleI} {gs : List GrI} (hz : ∀ z ∈ zs, okR z) (hg : SG gs) (k : Nat) : SG (stepTo zs gs k) :=
  (step_fold hg (zs.take k) gs (fun z h => hz z (List.mem_of_mem_take h)) hg).1

theorem has_step {zs : List RuleI} {gs : List GrI} (hz : ∀ z ∈ zs, okR z) (hg : SG gs) (r : RoI) (p : Int) : hasI (ofG (stepG zs gs) r) p = true ↔ hasI (ofG gs r) p = true ∨ ∃ z ∈ zs, (z.ho, z.hn) = r ∧ hasI (byF (ofG gs) z) p = true := by
  unfold stepG stepTo
  rw [List.take_length]
  exact (step_fold hg zs gs hz hg).2.1 r p

theorem sum_step {zs : List RuleI} {gs : List GrI} (hz : ∀ z ∈ zs, okR z) (hg : SG gs) : sumG gs ≤ sumG (stepG zs gs) ∧ (sumG gs = sumG (stepG zs gs) → stepG zs gs = gs) := by
  unfold stepG stepTo
  rw [List.take_length]
  exact (step_fold hg zs gs hz hg).2.2

/-- The steps from none on. -/
def itG (zs : List RuleI) : Nat → List GrI
  | 0 => []
  | n + 1 => stepG zs (itG zs n)

theorem sg_it {zs : List RuleI} (hz : ∀ z ∈ zs, okR z) : ∀ n, SG (itG zs n)
  | 0 => sg_nil
  | n + 1 => sg_step hz (sg_it hz n)

/-- p has the role r behind n steps. -/
def InN (zs : List RuleI) (n : Nat) (r : RoI) (p : Int) : Prop := hasI (ofG (itG zs n) r) p = true

theorem inN_succ {zs : List RuleI} (hz : ∀ z ∈ zs, okR z) (n : Nat) (r : RoI) {p : Int} (hp : 1 ≤ p) : InN zs (n + 1) r p ↔ InN zs n r p ∨ ∃ z ∈ zs, (z.ho, z.hn) = r ∧ GivesTo (InN zs n) z p := by
  unfold InN
  rw [itG, has_step hz (sg_it hz n)]
  refine or_congr_right (exists_congr (fun z => and_congr_right (fun h => and_congr_right (fun _ => ?_))))
  exact byF_has (ofG_set (sg_it hz n)) (hz z h) hp

theorem inN_mono {zs : List RuleI} (hz : ∀ z ∈ zs, okR z) {n k : Nat} (h : n ≤ k) {r : RoI} {p : Int} (hp : 1 ≤ p) (g : InN zs n r p) : InN zs k r p := by
  induction h with
  | refl => exact g
  | step _ ih => exact (inN_succ hz _ r hp).2 (.inl ih)

/-- Who has which role: some step gives it. -/
def Has (zs : List RuleI) (r : RoI) (p : Int) : Prop := ∃ n, InN zs n r p

/-- What has all that the rules give, has all that follows. -/
theorem has_least {zs : List RuleI} (hz : ∀ z ∈ zs, okR z) {m : RoI → Int → Prop} (h : ∀ z ∈ zs, ∀ p, 1 ≤ p → GivesTo m z p → m (z.ho, z.hn) p) {r : RoI} {p : Int} (hp : 1 ≤ p) (g : Has zs r p) : m r p := by
  obtain ⟨n, g⟩ := g
  induction n generalizing r p with
  | zero => simp [InN, itG, ofG, hasI_zero] at g
  | succ n ih =>
    rcases (inN_succ hz n r hp).1 g with q | ⟨z, h1, h2, h3⟩
    · exact ih hp q
    · rw [← h2]
      exact h z h1 p hp (gives_mono (fun r p hp q => ih hp q) hp h3)

theorem gives_has {zs : List RuleI} (hz : ∀ z ∈ zs, okR z) {z : RuleI} (h : z ∈ zs) {p : Int} (hp : 1 ≤ p) (g : GivesTo (Has zs) z p) : Has zs (z.ho, z.hn) p := by
  have key : ∃ n, GivesTo (InN zs n) z p := by
    unfold GivesTo at g ⊢
    by_cases e1 : z.k = 1
    · simp only [if_pos e1] at g ⊢; exact ⟨0, g⟩
    · simp only [if_neg e1] at g ⊢
      by_cases e2 : z.k = 2
      · simp only [if_pos e2] at g ⊢; exact g
      · simp only [if_neg e2] at g ⊢
        by_cases e4 : z.k = 4
        · simp only [if_pos e4] at g ⊢
          obtain ⟨⟨a, ha⟩, b, hb⟩ := g
          exact ⟨a + b, inN_mono hz (by omega) hp ha, inN_mono hz (by omega) hp hb⟩
        · simp only [if_neg e4] at g ⊢
          obtain ⟨q, h1, h2, ⟨a, ha⟩, b, hb⟩ := g
          exact ⟨a + b, q, h1, h2, inN_mono hz (by omega) h1 ha, inN_mono hz (by omega) hp hb⟩
  obtain ⟨n, g⟩ := key
  exact ⟨n + 1, (inN_succ hz n _ hp).2 (.inr ⟨z, h, rfl, g⟩)⟩

/-- The grants: all that follows, and nothing else. -/
structure AllG (zs : List RuleI) (gs : List GrI) : Prop where
  sg : SG gs
  al : ∀ r p, 1 ≤ p → p ≤ 8 → (hasI (ofG gs r) p = true ↔ Has zs r p)

theorem allG_unique {zs : List RuleI} {a b : List GrI} (ha : AllG zs a) (hb : AllG zs b) : a = b := by
  refine sg_ext ha.sg hb.sg (fun r => set_ext (ofG_set ha.sg r) (ofG_set hb.sg r) (fun p h0 h1 => ?_))
  rw [Bool.eq_iff_iff, ha.al r p h0 h1, hb.al r p h0 h1]

/-- Grants out of which each has what follows, and that a step does not turn. -/
theorem allG_of {zs : List RuleI} (hz : ∀ z ∈ zs, okR z) {gs : List GrI} (hg : SG gs) (hs : ∀ r p, 1 ≤ p → hasI (ofG gs r) p = true → Has zs r p) (hc : ∀ z ∈ zs, ∀ p, 1 ≤ p → hasI (byF (ofG gs) z) p = true → hasI (ofG gs (z.ho, z.hn)) p = true) : AllG zs gs := by
  refine ⟨hg, fun r p h0 _ => ⟨hs r p h0, fun g => ?_⟩⟩
  refine has_least (m := fun r p => hasI (ofG gs r) p = true) hz (fun z h p hp q => ?_) h0 g
  exact hc z h p hp ((byF_has (ofG_set hg) (hz z h) hp).2 q)

theorem allG_it {zs : List RuleI} (hz : ∀ z ∈ zs, okR z) {n : Nat} (h : stepG zs (itG zs n) = itG zs n) : AllG zs (itG zs n) := by
  refine allG_of hz (sg_it hz n) (fun r p _ q => ⟨n, q⟩) (fun z hzz p _ q => ?_)
  have := (has_step hz (sg_it hz n) (z.ho, z.hn) p).2 (.inr ⟨z, hzz, rfl, q⟩)
  rw [h] at this
  exact this

/-- While the steps turn something, the sum rises. -/
theorem it_sum {zs : List RuleI} (hz : ∀ z ∈ zs, okR z) : ∀ (n : Nat), (∀ k, k < n → stepG zs (itG zs k) ≠ itG zs k) → (n : Int) ≤ sumG (itG zs n)
  | 0, _ => by simp [itG, sumG]
  | n + 1, h => by
    have i := it_sum hz n (fun k hk => h k (by omega))
    have s := sum_step hz (sg_it hz n)
    have : sumG (itG zs n) ≠ sumG (itG zs (n + 1)) := fun e => h n (by omega) (s.2 e)
    have := s.1
    simp only [itG] at *
    omega

theorem it_bd {zs : List RuleI} (hz : ∀ z ∈ zs, okR z) {n : Nat} (h : ∀ k, k < n → stepG zs (itG zs k) ≠ itG zs k) : n ≤ 10200 := by
  have := it_sum hz n h
  have := (sum_le (sg_it hz n)).2
  omega

theorem it_ends {zs : List RuleI} (hz : ∀ z ∈ zs, okR z) : ∃ n, n ≤ 10200 ∧ stepG zs (itG zs n) = itG zs n := by
  refine Classical.byContradiction (fun hno => ?_)
  have := it_bd (zs := zs) hz (n := 10201) (fun k hk e => hno ⟨k, by omega, e⟩)
  omega

end Go.Proofs.YtnfolmjdicfobaaGreatDoor
