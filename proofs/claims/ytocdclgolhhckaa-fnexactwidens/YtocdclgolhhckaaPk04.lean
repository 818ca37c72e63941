/-
  CONTRACTS on lists of rules: '==' of two rules; slices.Index and slices.Contains over rules.
  Conditions: each contract bears its own.
  CONTRACTS of small functions of the model of chapter 1 (spec.l1Has, spec.l1List) and of impl's, for sets of 0 to 255.
  Conditions: each contract bears its own.
  CONTRACTS: spec.l3Of, the set of a role.
  Conditions: each contract bears its own.
-/
import Derived.Test.YtocdclgolhhckaaPk03
import Derived.Test.YtocdclgolhhckaaPk01
import Derived.WalkSmall
import Derived.BigQuiet
import Derived.Deep.QuietTactic
import Derived.Test.YtocdclgolhhckaaChecked
import Derived.Test.YtocdclgolhhckaaPk02
import Derived.WalkKit
import Derived.ProofKit
import Derived.Outline
namespace Go.Proofs.Ytocdclgolhhckaa
open Go.RowKit
set_option linter.unusedVariables false
set_option linter.unusedSimpArgs false

def sameB (r s : RuleI) : Bool := decide (r = s)
theorem sameB_mk (a0 a1 a2 a3 a4 a5 a6 a7 b0 b1 b2 b3 b4 b5 b6 b7 : Int) : sameB ⟨a0, a1, a2, a3, a4, a5, a6, a7⟩ ⟨b0, b1, b2, b3, b4, b5, b6, b7⟩ = (a0 == b0 && (a1 == b1 && a2 == b2) && a3 == b3 && (a4 == b4 && a5 == b5) && (a6 == b6 && a7 == b7)) := by
  unfold sameB
  rw [Bool.eq_iff_iff]
  simp only [decide_eq_true_eq, RuleI.mk.injEq, Bool.and_eq_true, beq_iff_eq]
  constructor
  · rintro ⟨h0, h1, h2, h3, h4, h5, h6, h7⟩; exact ⟨⟨⟨⟨h0, h1, h2⟩, h3⟩, h4, h5⟩, h6, h7⟩
  · rintro ⟨⟨⟨⟨h0, h1, h2⟩, h3⟩, h4, h5⟩, h6, h7⟩; exact ⟨h0, h1, h2, h3, h4, h5, h6, h7⟩

set_option maxHeartbeats 1000000 in
theorem rule_eql (r s : RuleI) (w : World) : (binOp .eql 80 (.agg #[.int .i64 r.k, .int .i64 r.ho, .int .i64 r.hn, .int .i64 r.w, .int .i64 r.oo, .int .i64 r.on, .int .i64 r.to, .int .i64 r.tn]) (.agg #[.int .i64 s.k, .int .i64 s.ho, .int .i64 s.hn, .int .i64 s.w, .int .i64 s.oo, .int .i64 s.on, .int .i64 s.to, .int .i64 s.tn])).run Try.prog w = .ok (.bool (sameB r s)) w := by
  obtain ⟨a0, a1, a2, a3, a4, a5, a6, a7⟩ := r
  obtain ⟨b0, b1, b2, b3, b4, b5, b6, b7⟩ := s
  simp only
  rw [sameB_mk]
  cases e0 : (a0 == b0)
  · simp [go_sem, e0]
  cases e1 : (a1 == b1)
  · simp [go_sem, e0, e1]
  cases e2 : (a2 == b2)
  · simp [go_sem, e0, e1, e2]
  cases e3 : (a3 == b3)
  · simp [go_sem, e0, e1, e2, e3]
  cases e4 : (a4 == b4)
  · simp [go_sem, e0, e1, e2, e3, e4]
  cases e5 : (a5 == b5)
  · simp [go_sem, e0, e1, e2, e3, e4, e5]
  cases e6 : (a6 == b6)
  · simp [go_sem, e0, e1, e2, e3, e4, e5, e6]
  cases e7 : (a7 == b7)
  · simp [go_sem, e0, e1, e2, e3, e4, e5, e6, e7]
  · simp [go_sem, e0, e1, e2, e3, e4, e5, e6, e7]

end Go.Proofs.Ytocdclgolhhckaa

namespace Go.Proofs.Ytocdclgolhhckaa
open Go.RowKit
set_option linter.unusedVariables false

set_option maxHeartbeats 400000 in
theorem l1Has_c (s p : Int) (h0 : 0 ≤ s) (h1 : s ≤ 255) (p0 : 1 ≤ p) (p1 : p ≤ 8) (w : World) :
    Calls Try.prog 75 #[.int .i64 s, .int .i64 p] w fun e w' => e = .returned (.bool (hasI s p)) ∧ w = w' := by
  have hp : p = 1 ∨ p = 2 ∨ p = 3 ∨ p = 4 ∨ p = 5 ∨ p = 6 ∨ p = 7 ∨ p = 8 := by omega
  rcases hp with rfl | rfl | rfl | rfl | rfl | rfl | rfl | rfl
  · have e1 := and_i64 s 1 h0 h1 (by omega) (by omega)
    simp at e1
    go_enter Try.func75, Try.ntmps75
    go_wp2
    go_ret
    exact ⟨rfl, rfl⟩
  · have e1 := and_i64 s 2 h0 h1 (by omega) (by omega)
    simp at e1
    go_enter Try.func75, Try.ntmps75
    go_wp2
    go_ret
    exact ⟨rfl, rfl⟩
  · have e1 := and_i64 s 3 h0 h1 (by omega) (by omega)
    simp at e1
    go_enter Try.func75, Try.ntmps75
    go_wp2
    go_ret
    exact ⟨rfl, rfl⟩
  · have e1 := and_i64 s 4 h0 h1 (by omega) (by omega)
    simp at e1
    go_enter Try.func75, Try.ntmps75
    go_wp2
    go_ret
    exact ⟨rfl, rfl⟩
  · have e1 := and_i64 s 5 h0 h1 (by omega) (by omega)
    simp at e1
    go_enter Try.func75, Try.ntmps75
    go_wp2
    go_ret
    exact ⟨rfl, rfl⟩
  · have e1 := and_i64 s 6 h0 h1 (by omega) (by omega)
    simp at e1
    go_enter Try.func75, Try.ntmps75
    go_wp2
    go_ret
    exact ⟨rfl, rfl⟩
  · have e1 := and_i64 s 7 h0 h1 (by omega) (by omega)
    simp at e1
    go_enter Try.func75, Try.ntmps75
    go_wp2
    go_ret
    exact ⟨rfl, rfl⟩
  · have e1 := and_i64 s 8 h0 h1 (by omega) (by omega)
    simp at e1
    go_enter Try.func75, Try.ntmps75
    go_wp2
    go_ret
    exact ⟨rfl, rfl⟩

theorem Try.info2 : (Try.prog.info? 2).map (fun i => (i.zero, i.size, i.bytes)) = some (some (.int .i64 0), 1, 8) := by kernel_rfl

theorem listTo_le (s : Int) (k : Nat) : (listTo s k).length ≤ k := by
  induction k with
  | zero => simp [listTo]
  | succ k ih =>
    simp only [listTo]
    split
    · simp; omega
    · omega

theorem listTo_hit (s : Int) (k : Nat) (h : hasI s ((k : Int) + 1) = true) : listTo s (k + 1) = listTo s k ++ [(k : Int) + 1] := by simp [listTo, h]
theorem listTo_miss (s : Int) (k : Nat) (h : hasI s ((k : Int) + 1) = false) : listTo s (k + 1) = listTo s k := by simp [listTo, h]

/-- An append of one more principal, behind the law of append. -/
theorem list_keep {B k : Nat} {s : Int} {w wr w1 : World} {u v' : Value} {o : Obj} (hB : B ≤ wr.heap.size) (hh : hasI s ((k : Int) + 1) = true)
    (hown : wr.ownsRow B 2 1 u (listTo s k).length ((listTo s k).map (Value.int .i64))) (hnx : Below B w wr)
    (hown' : w1.ownsRow B 2 1 v' ((listTo s k).length + 1) ((listTo s k).map (Value.int .i64) ++ [.int .i64 ((k : Int) + 1)])) (hgrow : (wr.alloc o).grownBy w1 u.ownBlock) :
    w1.ownsRow B 2 1 v' (listTo s (k + 1)).length ((listTo s (k + 1)).map (Value.int .i64)) ∧ Below B w w1 := by
  refine ⟨by rw [listTo_hit s k hh]; simpa using hown', (hnx.alloc (by omega) o).grown hgrow (by simp; omega) (fun j hj => by have := (hown.lt j hj).1; omega)⟩

theorem bcell {W w1 : World} (hb : Below W.heap.size W w1) : (∀ b o, b < W.heap.size → w1.cell? ⟨b, o, none⟩ = W.cell? ⟨b, o, none⟩) ∧ (∀ b o, b < W.heap.size → w1.frozen? ⟨b, o, none⟩ = W.frozen? ⟨b, o, none⟩) :=
  ⟨fun b o h => hb.cell (p := ⟨b, o, none⟩) h, fun b o h => hb.frozen (p := ⟨b, o, none⟩) h⟩

theorem owns_slice {w : World} {b : Nat} {t : TypeId} {v : Value} {n : Nat} {xs : List Value} (h : w.ownsRow b t 1 v n xs) : ∃ a cap, v = .slice a n cap := by
  rcases h.2 with ⟨h', h0⟩ | ⟨g, cap, cur, h', _⟩
  · exact ⟨none, 0, by rw [h0]; exact h'⟩
  · exact ⟨_, cap, h'⟩

theorem owns_shape {w : World} {b : Nat} {t : TypeId} {v : Value} {n : Nat} {xs : List Value} (h : w.ownsRow b t 1 v n xs) (hv : v ≠ .slice none 0 0) : ∃ g cap, v = .slice (some ⟨g, 0, none⟩) n cap := by
  rcases h.2 with ⟨h', _⟩ | ⟨g, cap, cur, h', _⟩
  · exact absurd h' hv
  · exact ⟨g, cap, h'⟩

set_option maxHeartbeats 400000 in
theorem l1List_c (s : Int) (h0 : 0 ≤ s) (h1 : s ≤ 255) (w : World) :
    Calls Try.prog 91 #[.int .i64 s] w fun e w' => ∃ g cap, e = .returned (.slice (some ⟨g, 0, none⟩) (listTo s 8).length cap) ∧
      w'.ownsRow w.heap.size 2 1 (.slice (some ⟨g, 0, none⟩) (listTo s 8).length cap) (listTo s 8).length ((listTo s 8).map (Value.int .i64)) ∧ Below w.heap.size w w' := by
  obtain ⟨i0, hi, hz0, hz1, hz2⟩ := info_parts Try.info2
  go_enter Try.func91, Try.ntmps91
  go_wp2
  go_loopw [3, 4] (fun v p wr => ∃ k : Nat, k ≤ 8 ∧ p = .int .i64 ((k : Int) + 1) ∧ wr.ownsRow w.heap.size 2 1 v (listTo s k).length ((listTo s k).map (Value.int .i64)) ∧ Below w.heap.size w wr ∧ v ≠ .slice none 0 0)
    (fun _ p _ => 9 - (intOf p).toNat)
  case atStart => exact ⟨0, Nat.zero_le _, rfl, World.ownsRow_lit w #[] 0 (Nat.le_refl _) (Nat.zero_le _) rfl, (Below.refl _ _).alloc (Nat.le_refl _) _, by simp⟩
  case round =>
    obtain ⟨k, hk, rfl, hown, hnx, hnn⟩ := hrel
    have hkl := listTo_le s k
    by_cases hlt : k < 8
    · have hlt' : (k : Int) + 1 ≤ 8 := by omega
      cases hh : hasI s ((k : Int) + 1) with
      | true =>
        have HH : Hid (hasI s ((k : Int) + 1) = true) := hh
        clear hh
        go_wp2_with (first
          | (at_builtin; refine wpList_append_own _ rfl _ _ 53 rfl w.heap.size 2 i0 (.int .i64 0) 1 8 Try.underlying53 hi hz0 hz1 hz2 rfl (by decide) _ _ _ rfl (hown.alloc _) ⟨wr.heap.size, 0, none⟩ 1 1 [.int .i64 ((k : Int) + 1)] rfl rfl ?c1 ?c2 ?c3 ?c4 ?c5 ?_)
          | (go_at_call 75; refine (l1Has_c s _ h0 h1 (by omega) (by omega) _).mono ?_; rintro e w' ⟨rfl, rfl⟩; rw [HH.out]))
        case c1 =>
          intro j u hj
          match j, hj with
          | 0, hj => simp at hj; subst hj; simp [Addr.add]
        case c2 => intro u hu; simp at hu; subst hu; rfl
        case c3 => unfold maxLen; omega
        case c4 => omega
        case c5 => have := hnx.size; simp; omega
        · intro v' w1 hown' hgrow hnil
          have hnn' : v' ≠ .slice none 0 0 := hnil
          clear hnil
          have R := list_keep (by have := hnx.size; omega) HH.out hown hnx hown' hgrow
          clear hown' hgrow hown
          go_wp2
          go_roundw
          case rel => exact ⟨k + 1, by omega, by go_num, R.1, R.2, hnn'⟩
          case measure => simp [intOf]; omega
      | false =>
        have HH : Hid (hasI s ((k : Int) + 1) = false) := hh
        clear hh
        go_wp2_with (go_at_call 75; refine (l1Has_c s _ h0 h1 (by omega) (by omega) _).mono ?_; rintro e w' ⟨rfl, rfl⟩; rw [HH.out])
        go_roundw
        case rel => exact ⟨k + 1, by omega, by go_num, by rw [listTo_miss s k HH.out]; exact hown, hnx, hnn⟩
        case measure => simp [intOf]; omega
    · have hk8 : k = 8 := by omega
      subst hk8
      obtain ⟨g, cap, hv⟩ := owns_shape hown hnn
      rw [hv] at hown ⊢
      clear hv hnn
      go_wp2
      go_ret
      exact ⟨g, cap, rfl, hown, hnx⟩

end Go.Proofs.Ytocdclgolhhckaa

namespace Go.Proofs.Ytocdclgolhhckaa
open Go.RowKit
set_option linter.unusedVariables false
set_option linter.unusedSimpArgs false

/-- A grant in memory. -/
def GrAt (w : World) (b o : Nat) (x : GrI) : Prop := w.cell? ⟨b, o, none⟩ = some (.int .i64 x.1.1) ∧ w.cell? ⟨b, o + 1, none⟩ = some (.int .i64 x.1.2) ∧ w.cell? ⟨b, o + 2, none⟩ = some (.int .i64 x.2)

theorem GrAt.below {w w' : World} {B b o : Nat} {x : GrI} (h : GrAt w b o x) (hb : Below B w w') (hB : b < B) : GrAt w' b o x :=
  ⟨(hb.cell (p := ⟨b, o, none⟩) hB).trans h.1, (hb.cell (p := ⟨b, o + 1, none⟩) hB).trans h.2.1, (hb.cell (p := ⟨b, o + 2, none⟩) hB).trans h.2.2⟩

/-- Grants in memory. -/
def GrIn (w : World) (a : Option Addr) (n : Nat) (gs : List GrI) : Prop := gs.length = n ∧ (0 < n → ∃ b off, a = some ⟨b, off, none⟩ ∧ ∀ k x, gs[k]? = some x → GrAt w b (off + k * 3) x)

theorem GrIn.below {w w' : World} {a : Option Addr} {n : Nat} {gs : List GrI} (h : GrIn w a n gs) (hb : Below w.heap.size w w') : GrIn w' a n gs := by
  refine ⟨h.1, fun hn => ?_⟩
  obtain ⟨b, off, e, k⟩ := h.2 hn
  exact ⟨b, off, e, fun j x hx => (k j x hx).below hb (World.block_lt_of_cell? w ⟨b, off + j * 3, none⟩ (k j x hx).1)⟩

theorem GrIn.at {w : World} {a : Option Addr} {n : Nat} {gs : List GrI} (h : GrIn w a n gs) {k : Nat} (hk : k < n) : ∃ b off x, a = some ⟨b, off, none⟩ ∧ gs[k]? = some x ∧ GrAt w b (off + k * 3) x ∧ b < w.heap.size := by
  obtain ⟨b, off, e, q⟩ := h.2 (by omega)
  have hx := List.getElem?_eq_getElem (l := gs) (i := k) (by rw [h.1]; exact hk)
  exact ⟨b, off, _, e, hx, q k _ hx, World.block_lt_of_cell? w ⟨b, off + k * 3, none⟩ (q k _ hx).1⟩

theorem ofG_drop {gs : List GrI} {k : Nat} {x : GrI} (h : gs[k]? = some x) (r : RoI) : ofG (gs.drop k) r = if x.1 = r then x.2 else ofG (gs.drop (k + 1)) r := by
  have hk : k < gs.length := by
    by_cases q : k < gs.length
    · exact q
    · rw [List.getElem?_eq_none (by omega)] at h; cases h
  have e : gs[k] = x := by rw [List.getElem?_eq_getElem hk] at h; exact Option.some.inj h
  rw [List.drop_eq_getElem_cons hk, e]
  rfl

def eqRo (p q : RoI) : Bool := p.1 == q.1 && p.2 == q.2
theorem eqRo_iff (p q : RoI) : eqRo p q = true ↔ p = q := by
  obtain ⟨a, b⟩ := p
  obtain ⟨c, d⟩ := q
  simp [eqRo]

set_option maxHeartbeats 400000 in
theorem ro_eql (p q : RoI) (w : World) : (binOp .eql 31 (.agg #[.int .i64 p.1, .int .i64 p.2]) (.agg #[.int .i64 q.1, .int .i64 q.2])).run Try.prog w = .ok (.bool (eqRo p q)) w := by
  obtain ⟨a0, a1⟩ := p
  obtain ⟨b0, b1⟩ := q
  simp only [eqRo]
  cases e0 : (a0 == b0)
  · simp [go_sem, e0]
  cases e1 : (a1 == b1)
  · simp [go_sem, e0, e1]
  · simp [go_sem, e0, e1]

attribute [local go_sem ↓] ro_eql

set_option maxHeartbeats 1000000 in
theorem l3Of_c (a : Option Addr) (n c : Nat) (gs : List GrI) (r : RoI) (w : World) (hg : GrIn w a n gs) (hn : n ≤ 1048576) :
    Calls Try.prog 55 #[.slice a n c, .agg #[.int .i64 r.1, .int .i64 r.2]] w fun e w' => e = .returned (.int .i64 (ofG gs r)) ∧ Below w.heap.size w w' := by
  have W0 : Hid (GrIn (w.alloc (.cells #[.int .i64 r.1, .int .i64 r.2] 31)) a n gs) := hg.below ((Below.refl _ _).alloc (Nat.le_refl _) _)
  have R0 : Hid ((w.alloc (.cells #[.int .i64 r.1, .int .i64 r.2] 31)).cell? ⟨w.heap.size, 0, none⟩ = some (.int .i64 r.1) ∧ (w.alloc (.cells #[.int .i64 r.1, .int .i64 r.2] 31)).cell? ⟨w.heap.size, 1, none⟩ = some (.int .i64 r.2)) := ⟨by simp, by simp⟩
  clear hg
  have hn' : (n : Int) ≤ 1048576 := by omega
  go_enter Try.func55, Try.ntmps55
  go_wp2
  go_loopw [5] (fun i wr => ∃ k : Nat, k ≤ n ∧ i = .int .i64 (k : Int) ∧ ofG gs r = ofG (gs.drop k) r ∧ ∃ m, wr = (w.alloc (.cells #[.int .i64 r.1, .int .i64 r.2] 31)).drewN m) (fun i _ => n - (intOf i).toNat)
  case atStart => exact ⟨0, Nat.zero_le _, rfl, rfl, 0, rfl⟩
  case round =>
    obtain ⟨k, hk, rfl, hof, m, rfl⟩ := hrel
    have HF : Hid (ofG gs r = ofG (gs.drop k) r) := hof
    clear hof
    by_cases hlt : k < n
    · obtain ⟨b, off, x, e, hx, ⟨c0, c1, c2⟩, hbl⟩ := W0.out.at hlt
      obtain ⟨r0, r1⟩ := R0.out
      subst e
      have HX : Hid (gs[k]? = some x) := hx
      clear hx
      have hlt' : (k : Int) < (n : Int) := by omega
      cases he : eqRo x.1 r
      · have HE : Hid (ofG gs r = ofG (gs.drop (k + 1)) r) := by
          show ofG gs r = _
          rw [HF.out, ofG_drop HX.out, if_neg (fun q => by rw [(eqRo_iff _ _).2 q] at he; cases he)]
        go_wp2
        go_quiet (fail)
        go_wp2
        exact ⟨⟨k + 1, by omega, by go_num, HE.out, _, rfl⟩, by simp [intOf]; omega⟩
      · have HE : Hid (ofG gs r = x.2) := by
          show ofG gs r = _
          rw [HF.out, ofG_drop HX.out, if_pos ((eqRo_iff _ _).1 he)]
        go_wp2
        go_quiet (fail)
        go_wp2
        go_ret
        exact ⟨by rw [HE.out]; rfl, bdN ((Below.refl _ _).alloc (Nat.le_refl _) _) _⟩
    · have hkn : k = n := by omega
      subst hkn
      go_wp2
      go_ret
      have : ofG gs r = 0 := by rw [HF.out, List.drop_eq_nil_of_le (by rw [W0.out.1]; exact Nat.le_refl _)]; rfl
      exact ⟨by rw [this]; rfl, bdN ((Below.refl _ _).alloc (Nat.le_refl _) _) _⟩

end Go.Proofs.Ytocdclgolhhckaa
