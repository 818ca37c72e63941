/-
  CONTRACTS: spec.l2Roles, spec.RolesIn.
  Conditions: each contract bears its own.
  CONTRACTS: slices.Index and slices.Contains over rules.
  Conditions: each contract bears its own.
  CONTRACTS on rules in impl: bodyFault, kinds 1 to 3.
  Conditions: each contract bears its own.
  CONTRACTS on rules in impl: bodyFault, kind 4.
  Conditions: each contract bears its own.
-/
import Derived.Test.YtdooocjjohdpjaaPg05
import Derived.Test.YtdooocjjohdpjaaPg04
import Derived.Test.YtdooocjjohdpjaaPg02
import Derived.Test.YtdooocjjohdpjaaPg11
namespace Go.Proofs.Ytdooocjjohdpjaa
open Go.RowKit
set_option linter.unusedVariables false
set_option linter.unusedSimpArgs false

/-- The same members. -/
def SameM (ys : List RoI) (xs : List RoI) : Prop := ∀ x, x ∈ ys ↔ x ∈ xs

theorem SameM.put {ys zs xs : List RoI} {r : RoI} (h : SameM zs xs) (k : ∀ x, x ∈ ys ↔ x = r ∨ x ∈ zs) : SameM ys (xs ++ [r]) := fun x => by
  rw [k x, h x, List.mem_append]
  simp
  constructor
  · rintro (h | h)
    · exact .inr h
    · exact .inl h
  · rintro (h | h)
    · exact .inr h
    · exact .inl h

/-- What stands while the roles are gathered. -/
structure PutS (w wr : World) (v : Value) (xs : List RoI) : Prop where
  ex : ∃ (g m cap : Nat) (ys : List RoI), v = .slice (some ⟨g, 0, none⟩) m cap ∧ m = ys.length ∧ m ≤ xs.length ∧ Owns2 wr w.heap.size (.slice (some ⟨g, 0, none⟩) m cap) ys ∧ SS ys ∧ SameM ys xs
  bel : Below w.heap.size w wr

set_option maxHeartbeats 400000 in
theorem put_s (w wr : World) (v : Value) (xs : List RoI) (r : RoI) (h : PutS w wr v xs) (hx : xs.length ≤ 900) :
    Calls Try.prog 126 #[v, .agg #[.int .i64 r.1, .int .i64 r.2]] wr fun e w' => ∃ v', e = .returned v' ∧ PutS w w' v' (xs ++ [r]) ∧ Below wr.heap.size wr w' := by
  obtain ⟨⟨g, m, cap, ys, rfl, hm, hmx, hown, hss, hsm⟩, hb⟩ := h
  refine (l2Put_c w.heap.size _ m cap ys r wr hm (by omega) hown hss hb.size (by simp)).mono ?_
  rintro e w' ⟨g', m', cap', ys', rfl, h1, h2, h3, h4, h5, h6⟩
  exact ⟨_, rfl, ⟨⟨g', m', cap', ys', rfl, h1, by simp; omega, h3, h4, hsm.put h5⟩, hb.trans (h6.mono hb.size)⟩, h6⟩

set_option maxRecDepth 20000 in
set_option maxHeartbeats 2000000 in
theorem l2Roles_c (a : Option Addr) (n cap : Nat) (zs : List RuleI) (w : World) (hn : n ≤ 16) (h : RulesIn w a n zs) :
    Calls Try.prog 74 #[.slice a n cap] w fun e w' => ∃ v, e = .returned v ∧ PutS w w' v (rawTo zs n) := by
  have H : Hid (RulesIn w a n zs) := h
  have hz : Hid (zs.length = n) := h.1
  clear h
  have hn' : (n : Int) ≤ 16 := by omega
  go_enter Try.func74, Try.ntmps74
  go_wp2
  go_loopw [3, 4] (fun s i wr => ∃ (k : Nat) (v : Value), k ≤ n ∧ i = .int .i64 (k : Int) ∧ v = s ∧ PutS w wr v (rawTo zs k)) (fun _ i _ => n - (intOf i).toNat)
  case atStart => exact ⟨0, _, Nat.zero_le _, rfl, rfl, ⟨w.heap.size, 0, 0, [], rfl, rfl, Nat.zero_le _, World.ownsRow_lit w #[] 0 (Nat.le_refl _) (Nat.zero_le _) rfl, List.Pairwise.nil, fun x => by simp [rawTo]⟩, (Below.refl _ _).alloc (Nat.le_refl _) _⟩
  case round =>
    obtain ⟨k, v, hk, rfl, rfl, hp⟩ := hrel
    have HP : Hid (PutS w wr v (rawTo zs k)) := hp
    have hlen := rawTo_len zs k
    clear hp
    by_cases hlt : k < n
    · obtain ⟨b, off, r, rfl, hs, hr⟩ := H.out.at hlt
      have HN : Hid (rawTo zs (k + 1) = rawTo zs k ++ rawR r) := rawTo_succ hs
      have HR : Hid (RuleAt w b (off + k * 8) r) := hr
      clear hs hr
      have hlt' : (k : Int) < (n : Int) := by omega
      obtain ⟨h0, h1, h2, h3, h4, h5, h6, h7⟩ := HR.out.below HP.out.bel
      by_cases k1 : r.k = 1
      · have b1 : (r.k != 1) = false := by simp [k1]
        have b4 : (r.k == 4) = false := by simp [k1]
        have HE : Hid (rawR r = [(r.ho, r.hn)]) := by show rawR r = _; simp [rawR, bodyR, k1]
        clear k1
        go_wp2_with fail
        refine (put_s w wr v _ (r.ho, r.hn) HP.out (by omega)).mono ?_
        rintro e w1 ⟨v1, rfl, hp1, hb1⟩
        have HP1 : Hid (PutS w w1 v1 (rawTo zs k ++ [(r.ho, r.hn)])) := hp1
        clear hp1 hb1 h0 h1 h2 h3 h4 h5 h6 h7
        obtain ⟨h0, h1, h2, h3, h4, h5, h6, h7⟩ := HR.out.below HP1.out.bel
        go_wp2
        refine ⟨⟨k + 1, _, by omega, by go_num, rfl, ?_⟩, by simp [intOf]; omega⟩
        rw [HN.out, HE.out]
        exact HP1.out
      · have b1 : (r.k != 1) = true := by simp [k1]
        by_cases k4 : r.k = 4
        · have b4 : (r.k == 4) = true := by simp [k4]
          have HE : Hid (rawR r = [(r.ho, r.hn), (r.oo, r.on), (r.to, r.tn)]) := by show rawR r = _; simp [rawR, bodyR, k4]
          clear k1 k4
          go_wp2_with fail
          refine (put_s w wr v _ (r.ho, r.hn) HP.out (by omega)).mono ?_
          rintro e w1 ⟨v1, rfl, hp1, hb1⟩
          have HP1 : Hid (PutS w w1 v1 (rawTo zs k ++ [(r.ho, r.hn)])) := hp1
          clear hp1 hb1 h0 h1 h2 h3 h4 h5 h6 h7
          obtain ⟨h0, h1, h2, h3, h4, h5, h6, h7⟩ := HR.out.below HP1.out.bel
          go_wp2_with fail
          refine (put_s w w1 v1 _ (r.oo, r.on) HP1.out (by simp; omega)).mono ?_
          rintro e w2 ⟨v2, rfl, hp2, hb2⟩
          have HP2 : Hid (PutS w w2 v2 (rawTo zs k ++ [(r.ho, r.hn)] ++ [(r.oo, r.on)])) := hp2
          clear hp2 hb2 h0 h1 h2 h3 h4 h5 h6 h7
          obtain ⟨h0, h1, h2, h3, h4, h5, h6, h7⟩ := HR.out.below HP2.out.bel
          go_wp2_with fail
          refine (put_s w w2 v2 _ (r.to, r.tn) HP2.out (by simp; omega)).mono ?_
          rintro e w3 ⟨v3, rfl, hp3, hb3⟩
          have HP3 : Hid (PutS w w3 v3 (rawTo zs k ++ [(r.ho, r.hn)] ++ [(r.oo, r.on)] ++ [(r.to, r.tn)])) := hp3
          clear hp3 hb3 h0 h1 h2 h3 h4 h5 h6 h7
          go_wp2
          refine ⟨⟨k + 1, _, by omega, by go_num, rfl, ?_⟩, by simp [intOf]; omega⟩
          rw [HN.out, HE.out]
          simpa using HP3.out
        · have b4 : (r.k == 4) = false := by simp [k4]
          have HE : Hid (rawR r = [(r.ho, r.hn), (r.oo, r.on)]) := by show rawR r = _; simp [rawR, bodyR, k4, k1]
          clear k1 k4
          go_wp2_with fail
          refine (put_s w wr v _ (r.ho, r.hn) HP.out (by omega)).mono ?_
          rintro e w1 ⟨v1, rfl, hp1, hb1⟩
          have HP1 : Hid (PutS w w1 v1 (rawTo zs k ++ [(r.ho, r.hn)])) := hp1
          clear hp1 hb1 h0 h1 h2 h3 h4 h5 h6 h7
          obtain ⟨h0, h1, h2, h3, h4, h5, h6, h7⟩ := HR.out.below HP1.out.bel
          go_wp2_with fail
          refine (put_s w w1 v1 _ (r.oo, r.on) HP1.out (by simp; omega)).mono ?_
          rintro e w2 ⟨v2, rfl, hp2, hb2⟩
          have HP2 : Hid (PutS w w2 v2 (rawTo zs k ++ [(r.ho, r.hn)] ++ [(r.oo, r.on)])) := hp2
          clear hp2 hb2 h0 h1 h2 h3 h4 h5 h6 h7
          obtain ⟨h0, h1, h2, h3, h4, h5, h6, h7⟩ := HR.out.below HP2.out.bel
          go_wp2
          refine ⟨⟨k + 1, _, by omega, by go_num, rfl, ?_⟩, by simp [intOf]; omega⟩
          rw [HN.out, HE.out]
          simpa using HP2.out
    · have hkn : k = n := by omega
      subst hkn
      go_wp2
      go_ret
      exact ⟨_, rfl, HP.out⟩

/-- What a call of RolesIn gives: a code, or the roles, strictly rising, in memory of their own. -/
def GivesR (f : Nat) (a : Option Addr) (n cap : Nat) (c : Int) (ys : List RoI) (w : World) : Prop := Calls Try.prog f #[.slice a n cap] w fun e w' => ∃ (a' : Option Addr) (cap' : Nat), e = .returned (.agg #[.int .i64 c, .slice a' ys.length cap']) ∧ Owns2 w' w.heap.size (.slice a' ys.length cap') ys ∧ Below w.heap.size w w'

set_option maxHeartbeats 1000000 in
theorem specRolesIn_bad (a : Option Addr) (n cap : Nat) (zs : List RuleI) (c : Int) (w : World) (hn : n ≤ 1048576) (h : RulesIn w a n zs) (hc : polCode zs = c) (h0 : c ≠ 0) : GivesR 26 a n cap c [] w := by
  have H : Hid (RulesIn (w.alloc (.cells #[.int .i64 0, .slice none 0 0] 47)) a n zs) := h.below ((Below.refl _ _).alloc (Nat.le_refl _) _)
  have HC : Hid (polCode zs = c) := hc
  clear h hc
  have hcn : (c != 0) = true := by simpa using h0
  unfold GivesR
  go_enter Try.func26, Try.ntmps26
  go_wp2_with fail
  refine (l2Fault_c a n cap zs _ hn H.out).mono ?_
  rintro e w1 ⟨rfl, hb1⟩
  rw [HC.out]
  have hBx : Below w.heap.size w w1 := below_new hb1
  have hw : w.heap.size < w1.heap.size := by have := hb1.size; simp only [World.size_alloc] at this; omega
  have c0 : w1.cell? ⟨w.heap.size, 0, none⟩ = some (.int .i64 0) := (hb1.cell (p := ⟨w.heap.size, 0, none⟩) (by simp)).trans (by simp)
  have c1 : w1.cell? ⟨w.heap.size, 1, none⟩ = some (.slice none 0 0) := (hb1.cell (p := ⟨w.heap.size, 1, none⟩) (by simp)).trans (by simp)
  have f0 : w1.frozen? ⟨w.heap.size, 0, none⟩ = false := (hb1.frozen (p := ⟨w.heap.size, 0, none⟩) (by simp)).trans (by simp [go_sem])
  have f1 : w1.frozen? ⟨w.heap.size, 1, none⟩ = false := (hb1.frozen (p := ⟨w.heap.size, 1, none⟩) (by simp)).trans (by simp [go_sem])
  clear hb1
  go_wp2
  refine bodyPost_ret (v := .agg #[.int .i64 c, .slice none 0 0]) (by simp [results, Try.results26, go_sem, c0, c1, hw]) rfl ⟨none, 0, rfl, World.ownsRow_nil _ _ _ _, ?_⟩
  exact hBx |>.setCell (Nat.le_refl _) _ |>.setCell (Nat.le_refl _) _

set_option maxHeartbeats 1000000 in
theorem specRolesIn_ok (a : Option Addr) (n cap : Nat) (zs : List RuleI) (w : World) (h : RulesIn w a n zs) (hc : polCode zs = 0) :
    Calls Try.prog 26 #[.slice a n cap] w fun e w' => ∃ (ys : List RoI) (a' : Option Addr) (cap' : Nat), SS ys ∧ SameM ys (rawTo zs n) ∧ e = .returned (.agg #[.int .i64 0, .slice a' ys.length cap']) ∧ Owns2 w' w.heap.size (.slice a' ys.length cap') ys ∧ Below w.heap.size w w' := by
  have hn : n ≤ 16 := by
    have := h.1
    unfold polCode at hc
    split at hc
    · simp at hc
    · omega
  have H : Hid (RulesIn (w.alloc (.cells #[.int .i64 0, .slice none 0 0] 47)) a n zs) := h.below ((Below.refl _ _).alloc (Nat.le_refl _) _)
  have HC : Hid (polCode zs = 0) := hc
  clear h hc
  go_enter Try.func26, Try.ntmps26
  go_wp2_with fail
  refine (l2Fault_c a n cap zs _ (by omega) H.out).mono ?_
  rintro e w1 ⟨rfl, hb1⟩
  rw [HC.out]
  have HX : Hid (RulesIn w1 a n zs) := H.out.below hb1
  have B1 : Hid (Below (w.alloc (.cells #[.int .i64 0, .slice none 0 0] 47)).heap.size (w.alloc (.cells #[.int .i64 0, .slice none 0 0] 47)) w1) := hb1
  clear hb1
  go_wp2_with fail
  refine (l2Roles_c a n cap zs w1 hn HX.out).mono ?_
  rintro e w2 ⟨v, rfl, hp⟩
  obtain ⟨⟨g, m, cap', ys, rfl, h1, h2, h3, h4, h5⟩, hb2⟩ := hp
  have hz1 := B1.out.size
  have hz2 := hb2.size
  simp only [World.size_alloc] at hz1
  have B2 : Below (w.alloc (.cells #[.int .i64 0, .slice none 0 0] 47)).heap.size (w.alloc (.cells #[.int .i64 0, .slice none 0 0] 47)) w2 := B1.out.trans (hb2.mono (by simp; omega))
  have hBx : Below w.heap.size w w2 := below_new B2
  have hw : w.heap.size < w2.heap.size := by omega
  have c0 : w2.cell? ⟨w.heap.size, 0, none⟩ = some (.int .i64 0) := (B2.cell (p := ⟨w.heap.size, 0, none⟩) (by simp)).trans (by simp)
  have c1 : w2.cell? ⟨w.heap.size, 1, none⟩ = some (.slice none 0 0) := (B2.cell (p := ⟨w.heap.size, 1, none⟩) (by simp)).trans (by simp)
  have f0 : w2.frozen? ⟨w.heap.size, 0, none⟩ = false := (B2.frozen (p := ⟨w.heap.size, 0, none⟩) (by simp)).trans (by simp [go_sem])
  have f1 : w2.frozen? ⟨w.heap.size, 1, none⟩ = false := (B2.frozen (p := ⟨w.heap.size, 1, none⟩) (by simp)).trans (by simp [go_sem])
  have HF : Hid (m = ys.length ∧ Owns2 w2 w1.heap.size (.slice (some ⟨g, 0, none⟩) m cap') ys ∧ SS ys ∧ SameM ys (rawTo zs n)) := ⟨h1, h3, h4, h5⟩
  clear B2 hb2 h1 h2 h3 h4 h5 B1
  go_wp2
  obtain ⟨h1, h3, h4, h5⟩ := HF.out
  subst h1
  refine bodyPost_ret (v := .agg #[.int .i64 0, .slice (some ⟨g, 0, none⟩) ys.length cap']) (by simp [results, Try.results26, go_sem, c0, c1, hw]) rfl ⟨ys, some ⟨g, 0, none⟩, cap', h4, h5, rfl, ?_, ?_⟩
  · have h6 : Owns2 w2 (w.heap.size + 1) (.slice (some ⟨g, 0, none⟩) ys.length cap') ys := owns_lower h3 (by omega)
    have h7 := ownsRow_setCell_below (ownsRow_setCell_below h6 (a := ⟨w.heap.size, 0, none⟩) (by simp) (.int .i64 0)) (a := ⟨w.heap.size, 1, none⟩) (by simp) (.slice (some ⟨g, 0, none⟩) ys.length cap')
    exact owns_lower h7 (by omega)
  · exact hBx |>.setCell (Nat.le_refl _) _ |>.setCell (Nat.le_refl _) _

end Go.Proofs.Ytdooocjjohdpjaa

namespace Go.Proofs.Ytdooocjjohdpjaa
open Go.RowKit
set_option linter.unusedVariables false
set_option linter.unusedSimpArgs false
attribute [local go_sem ↓] rule_eql

set_option maxHeartbeats 1000000 in
theorem slIndex_c (a : Option Addr) (n cap : Nat) (zs : List RuleI) (r : RuleI) (w : World) (hn : n ≤ 1048576) (h : RulesIn w a n zs) :
    Calls Try.prog 123 #[.slice a n cap, .agg #[.int .i64 r.k, .int .i64 r.ho, .int .i64 r.hn, .int .i64 r.w, .int .i64 r.oo, .int .i64 r.on, .int .i64 r.to, .int .i64 r.tn]] w fun e w' => (∃ i : Int, e = .returned (.int .i64 i) ∧ ((0 ≤ i ∧ r ∈ zs) ∨ (i = -1 ∧ ¬ r ∈ zs))) ∧ Below w.heap.size w w' := by
  have H : Hid (RulesIn w a n zs) := h
  have hz : Hid (zs.length = n) := h.1
  clear h
  have hn' : (n : Int) ≤ 1048576 := by omega
  have HB : Hid (RuleAt (w.alloc (.cells #[.int .i64 r.k, .int .i64 r.ho, .int .i64 r.hn, .int .i64 r.w, .int .i64 r.oo, .int .i64 r.on, .int .i64 r.to, .int .i64 r.tn] 100)) w.heap.size 0 r) := RuleAt.new w r _
  go_enter Try.func123, Try.ntmps123
  go_wp2
  go_loopw [8] (fun i wr => ∃ k : Nat, k ≤ n ∧ i = .int .i64 (k : Int) ∧ ¬ r ∈ zs.take k ∧ ∃ m, wr = (w.alloc (.cells #[.int .i64 r.k, .int .i64 r.ho, .int .i64 r.hn, .int .i64 r.w, .int .i64 r.oo, .int .i64 r.on, .int .i64 r.to, .int .i64 r.tn] 100)).drewN m) (fun i _ => n - (intOf i).toNat)
  case atStart => exact ⟨0, Nat.zero_le _, rfl, by simp, 0, rfl⟩
  case round =>
    obtain ⟨k, hk, rfl, hm, m, rfl⟩ := hrel
    have HM : Hid (¬ r ∈ zs.take k) := hm
    clear hm
    by_cases hlt : k < n
    · obtain ⟨b, off, s, rfl, hs, hr⟩ := H.out.at hlt
      have HS : Hid (zs[k]? = some s) := hs
      clear hs
      have hb : b < w.heap.size := World.block_lt_of_cell? w ⟨b, off + k * 8, none⟩ hr.1
      obtain ⟨h0, h1, h2, h3, h4, h5, h6, h7⟩ := hr
      obtain ⟨b0, b1, b2, b3, b4, b5, b6, b7⟩ := HB.out
      simp only [Nat.zero_add] at b0 b1 b2 b3 b4 b5 b6 b7
      have hlt' : (k : Int) < (n : Int) := by omega
      cases hsame : sameB r s
      · have HF : Hid (sameB r s = false) := hsame
        have HN : Hid (¬ r ∈ zs.take (k + 1)) := by
          show ¬ r ∈ zs.take (k + 1)
          rw [mem_take_iff]
          rintro ⟨j, hj, hjs⟩
          by_cases e : j = k
          · subst e
            rw [HS.out] at hjs
            simp [sameB] at hsame
            exact hsame (Option.some.inj hjs).symm
          · exact HM.out ((mem_take_iff _ _ _).2 ⟨j, by omega, hjs⟩)
        clear hsame
        have hsame : sameB r s = false := HF.out
        go_wp2
        go_quiet (fail)
        go_wp2
        exact ⟨⟨k + 1, by omega, by go_num, HN.out, _, rfl⟩, by simp [intOf]; omega⟩
      · have HI : Hid (r ∈ zs) := by
          show r ∈ zs
          simp [sameB] at hsame
          subst hsame
          exact List.mem_of_getElem? HS.out
        go_wp2
        go_quiet (fail)
        go_wp2
        go_ret
        exact ⟨⟨_, rfl, Or.inl ⟨by omega, HI.out⟩⟩, by first | exact bdN ((Below.refl _ _).alloc (Nat.le_refl _) _) _ | exact bdN (bdN ((Below.refl _ _).alloc (Nat.le_refl _) _) _) _⟩
    · have hkn : k = n := by omega
      subst hkn
      have HN : Hid (¬ r ∈ zs) := by
        have := HM.out
        rw [List.take_of_length_le (by rw [hz.out]; exact Nat.le_refl _)] at this
        exact this
      go_wp2
      go_ret
      exact ⟨⟨_, rfl, Or.inr ⟨rfl, HN.out⟩⟩, bdN (by go_grown) _⟩

set_option maxHeartbeats 400000 in
theorem slContains_c (a : Option Addr) (n cap : Nat) (zs : List RuleI) (r : RuleI) (w : World) (hn : n ≤ 1048576) (h : RulesIn w a n zs) :
    Calls Try.prog 70 #[.slice a n cap, .agg #[.int .i64 r.k, .int .i64 r.ho, .int .i64 r.hn, .int .i64 r.w, .int .i64 r.oo, .int .i64 r.on, .int .i64 r.to, .int .i64 r.tn]] w fun e w' => e = .returned (.bool (decide (r ∈ zs))) ∧ Below w.heap.size w w' := by
  have H : Hid (RulesIn (w.alloc (.cells #[.int .i64 r.k, .int .i64 r.ho, .int .i64 r.hn, .int .i64 r.w, .int .i64 r.oo, .int .i64 r.on, .int .i64 r.to, .int .i64 r.tn] 100)) a n zs) := h.below ((Below.refl _ _).alloc (Nat.le_refl _) _)
  clear h
  have HB : Hid (RuleAt (w.alloc (.cells #[.int .i64 r.k, .int .i64 r.ho, .int .i64 r.hn, .int .i64 r.w, .int .i64 r.oo, .int .i64 r.on, .int .i64 r.to, .int .i64 r.tn] 100)) w.heap.size 0 r) := RuleAt.new w r _
  obtain ⟨b0, b1, b2, b3, b4, b5, b6, b7⟩ := HB.out
  simp only [Nat.zero_add] at b0 b1 b2 b3 b4 b5 b6 b7
  go_enter Try.func70, Try.ntmps70
  go_wp2_with fail
  refine (slIndex_c a n cap zs r _ hn H.out).mono ?_
  rintro e w1 ⟨⟨i, rfl, hi⟩, hb1⟩
  have HX : Hid (decide (0 ≤ i) = decide (r ∈ zs)) := by
    show decide (0 ≤ i) = decide (r ∈ zs)
    rcases hi with ⟨h1, h2⟩ | ⟨rfl, h2⟩
    · simp [h1, h2]
    · simp [h2]
  clear hi b0 b1 b2 b3 b4 b5 b6 b7
  go_wp2
  go_ret
  exact ⟨by rw [HX.out]; rfl, below_new hb1⟩

end Go.Proofs.Ytdooocjjohdpjaa

namespace Go.Proofs.Ytdooocjjohdpjaa
open Go.RowKit
set_option linter.unusedVariables false
set_option linter.unusedSimpArgs false
attribute [local go_sem] ta11 ta12 ta13 ta14 ta21 ta22 ta23 ta24 ta31 ta32 ta33 ta34 ta41 ta42 ta43 ta44

set_option maxHeartbeats 400000 in
theorem bodyFault_1 (p : Int) (w : World) :
    Calls Try.prog 122 #[.iface 161 (.agg #[.int .i64 p])] w fun e w' =>
      e = .returned (.int .i64 (if prinB p = true then 0 else 3)) ∧ Below w.heap.size w w' := by
  cases hp : prinB p
  all_goals
    go_enter Try.func122, Try.ntmps122
    go_wp2
    refine wp_loop_rounds 1 ?_
    rw [rounds_succ]
    go_wp2_with (first | (go_at_call 117; refine (isPrin_c _ _).mono ?_; rintro e w1 ⟨rfl, rfl⟩; rw [hp]) | go_in)
    go_ret
    exact ⟨rfl, by go_grown⟩

set_option maxHeartbeats 400000 in
theorem bodyFault_2 (o n : Int) (w : World) :
    Calls Try.prog 122 #[.iface 163 (.agg #[.int .i64 o, .int .i64 n])] w fun e w' =>
      e = .returned (.int .i64 (if roleB o n = true then 0 else 3)) ∧ Below w.heap.size w w' := by
  cases hr : roleB o n
  · have hc : roleCode o n = 3 := by simp [roleCode, hr]
    go_enter Try.func122, Try.ntmps122
    go_wp2
    refine wp_loop_rounds 2 ?_
    rw [rounds_succ]
    go_wp2_with (first | (go_at_call 63; refine (implRoleFault_c _ _ _).mono ?_; rintro e w1 ⟨rfl, hb1⟩; rw [hc]) | go_in)
    go_ret
    exact ⟨rfl, below_new3 hb1⟩
  · have hc : roleCode o n = 0 := by simp [roleCode, hr]
    go_enter Try.func122, Try.ntmps122
    go_wp2
    refine wp_loop_rounds 2 ?_
    rw [rounds_succ]
    go_wp2_with (first | (go_at_call 63; refine (implRoleFault_c _ _ _).mono ?_; rintro e w1 ⟨rfl, hb1⟩; rw [hc]) | go_in)
    rw [rounds_succ]
    go_wp2
    go_ret
    exact ⟨rfl, below_new3 hb1⟩

set_option maxHeartbeats 400000 in
theorem bodyFault_3 (o n m : Int) (w : World) :
    Calls Try.prog 122 #[.iface 165 (.agg #[.int .i64 o, .int .i64 n, .int .i64 m])] w fun e w' =>
      e = .returned (.int .i64 (if (roleB o n && nameB m) = true then 0 else 3)) ∧ Below w.heap.size w w' := by
  cases hr : roleB o n
  · have hc : roleCode o n = 3 := by simp [roleCode, hr]
    go_enter Try.func122, Try.ntmps122
    go_wp2
    refine wp_loop_rounds 2 ?_
    rw [rounds_succ]
    go_wp2_with (first | (go_at_call 63; refine (implRoleFault_c _ _ _).mono ?_; rintro e w1 ⟨rfl, hb1⟩; rw [hc]) | go_in)
    go_ret
    exact ⟨rfl, below_new3 hb1⟩
  · have hc : roleCode o n = 0 := by simp [roleCode, hr]
    cases hp : nameB m
    all_goals
      go_enter Try.func122, Try.ntmps122
      go_wp2
      refine wp_loop_rounds 2 ?_
      rw [rounds_succ]
      go_wp2_with (first | (go_at_call 63; refine (implRoleFault_c _ _ _).mono ?_; rintro e w1 ⟨rfl, hb1⟩; rw [hc]) | go_in)
      rw [rounds_succ]
      go_wp2_with (first | (go_at_call 118; refine (isName_c _ _).mono ?_; rintro e w2 ⟨rfl, rfl⟩; rw [hp]) | go_in)
      go_ret
      exact ⟨rfl, (below_new3 hb1).alloc (below_new3 hb1).size _⟩

end Go.Proofs.Ytdooocjjohdpjaa

namespace Go.Proofs.Ytdooocjjohdpjaa
open Go.RowKit
set_option linter.unusedVariables false
set_option linter.unusedSimpArgs false
attribute [local go_sem] ta11 ta12 ta13 ta14 ta21 ta22 ta23 ta24 ta31 ta32 ta33 ta34 ta41 ta42 ta43 ta44

set_option maxHeartbeats 400000 in
theorem bodyFault_4 (o n p m : Int) (w : World) :
    Calls Try.prog 122 #[.iface 167 (.agg #[.int .i64 o, .int .i64 n, .int .i64 p, .int .i64 m])] w fun e w' =>
      e = .returned (.int .i64 (if (roleB o n && roleB p m) = true then 0 else 3)) ∧ Below w.heap.size w w' := by
  cases hr : roleB o n
  · have hc : roleCode o n = 3 := by simp [roleCode, hr]
    go_enter Try.func122, Try.ntmps122
    go_wp2
    refine wp_loop_rounds 3 ?_
    rw [rounds_succ]
    go_wp2_with (first | (go_at_call 63; refine (implRoleFault_c _ _ _).mono ?_; rintro e w1 ⟨rfl, hb1⟩; rw [hc]) | go_in)
    go_ret
    exact ⟨rfl, below_new3 hb1⟩
  · have hc : roleCode o n = 0 := by simp [roleCode, hr]
    cases hp : roleB p m
    all_goals
      have hd : roleCode p m = if roleB p m = true then 0 else 3 := rfl
      simp only [hp, if_true, Bool.false_eq_true, if_false] at hd
      go_enter Try.func122, Try.ntmps122
      go_wp2
      refine wp_loop_rounds 3 ?_
      rw [rounds_succ]
      go_wp2_with (first | (go_at_call 63; refine (implRoleFault_c _ _ _).mono ?_; rintro e w1 ⟨rfl, hb1⟩; rw [hc]) | go_in)
      rw [rounds_succ]
      have hz1 := hb1.size
      simp only [World.size_alloc] at hz1
      have hlt : w.heap.size + 1 < w1.heap.size := by omega
      have q0 : w1.cell? ⟨w.heap.size + 1, 2, none⟩ = some (.int .i64 p) := by rw [(bcell2 hb1).1 (w.heap.size + 1) 2 (by simp)]; go_cell
      have q1 : w1.cell? ⟨w.heap.size + 1, 3, none⟩ = some (.int .i64 m) := by rw [(bcell2 hb1).1 (w.heap.size + 1) 3 (by simp)]; go_cell
      go_wp2_with (first | (go_at_call 63; refine (implRoleFault_c _ _ _).mono ?_; rintro e w2 ⟨rfl, hb2⟩; rw [hd]) | go_in)
      first
        | (go_ret; exact ⟨rfl, (below_new3 hb1).trans ((below_new hb2).mono (by omega))⟩)
        | (rw [rounds_succ]; go_wp2; go_ret; exact ⟨rfl, (below_new3 hb1).trans ((below_new hb2).mono (by omega))⟩)

end Go.Proofs.Ytdooocjjohdpjaa
