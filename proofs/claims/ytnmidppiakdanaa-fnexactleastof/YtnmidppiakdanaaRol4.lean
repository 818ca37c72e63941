/-
  CONTRACT: impl.RolesIn, what it gathers.
  Conditions: each contract bears its own.
-/
import Derived.Test.YtnmidppiakdanaaRol3
import Derived.Test.YtnmidppiakdanaaPol5
import Derived.Laws.AppendOwnNone
namespace Go.Proofs.Ytnmidppiakdanaa
open Go.RowKit
set_option linter.unusedVariables false
set_option linter.unusedSimpArgs false

theorem polTo_zero {zs : List RuleI} {n : Nat} (h : polTo zs n = 0) : ∀ j r, j < n → zs[j]? = some r → ruleCode r = 0 := by
  induction n with
  | zero => intro j r hj; omega
  | succ n ih =>
    intro j r hj hr
    have h0 : polTo zs n = 0 := by
      by_cases q : polTo zs n = 0
      · exact q
      · have := polTo_stay zs n (n + 1) _ q rfl (by omega); rw [this] at h; exact absurd h q
    by_cases e : j = n
    · subst e
      by_cases q : ruleCode r = 0
      · exact q
      · have := polTo_bad zs j r hr h0 q; rw [this] at h; exact absurd h q
    · exact ih h0 j r (by omega) hr

theorem kinds_of {zs : List RuleI} {n : Nat} (h : polTo zs n = 0) {j : Nat} {r : RuleI} (hj : j < n) (hr : zs[j]? = some r) : r.k = 1 ∨ r.k = 2 ∨ r.k = 3 ∨ r.k = 4 := by
  have h0 := polTo_zero h j r hj hr
  unfold ruleCode at h0
  split at h0
  · simp at h0
  · rename_i q
    simp at q
    omega

/-- What a body's roles answers: a new slice that holds them. -/
def GivesNew (f : Nat) (v : Value) (xs : List RoI) : Prop := ∀ w : World, Calls Try.prog f #[v] w fun e w' => ∃ g : Nat, e = .returned (.slice (some ⟨g, 0, none⟩) xs.length xs.length) ∧ (∀ j u, (flat2 xs)[j]? = some u → w'.cell? ((⟨g, 0, none⟩ : Addr).add j) = some u) ∧ Below w.heap.size w w'

set_option maxHeartbeats 400000 in
theorem roles_1 (x : Int) (w : World) : Calls Try.prog 189 #[.agg #[.int .i64 x]] w fun e w' => e = .returned (.slice none 0 0) ∧ Below w.heap.size w w' := by
  go_enter Try.func189, Try.ntmps189
  go_wp2
  go_ret
  exact ⟨rfl, by go_grown⟩

theorem news_1 {w' : World} {g : Nat} {o n : Int} (h0 : w'.cell? ⟨g, 0, none⟩ = some (.int .i64 o)) (h1 : w'.cell? ⟨g, 1, none⟩ = some (.int .i64 n)) : ∀ j u, (flat2 [(o, n)])[j]? = some u → w'.cell? ((⟨g, 0, none⟩ : Addr).add j) = some u := by
  intro j u hj
  rw [Go.WideShapes.add_plain, Nat.zero_add]
  match j, hj with
  | 0, hj => simp [flat2] at hj; subst hj; exact h0
  | 1, hj => simp [flat2] at hj; subst hj; exact h1

theorem news_2 {w' : World} {g : Nat} {o n p m : Int} (h0 : w'.cell? ⟨g, 0, none⟩ = some (.int .i64 o)) (h1 : w'.cell? ⟨g, 1, none⟩ = some (.int .i64 n)) (h2 : w'.cell? ⟨g, 2, none⟩ = some (.int .i64 p)) (h3 : w'.cell? ⟨g, 3, none⟩ = some (.int .i64 m)) : ∀ j u, (flat2 [(o, n), (p, m)])[j]? = some u → w'.cell? ((⟨g, 0, none⟩ : Addr).add j) = some u := by
  intro j u hj
  rw [Go.WideShapes.add_plain, Nat.zero_add]
  match j, hj with
  | 0, hj => simp [flat2] at hj; subst hj; exact h0
  | 1, hj => simp [flat2] at hj; subst hj; exact h1
  | 2, hj => simp [flat2] at hj; subst hj; exact h2
  | 3, hj => simp [flat2] at hj; subst hj; exact h3

set_option maxHeartbeats 400000 in
theorem roles_2 (o n : Int) : GivesNew 190 (.agg #[.int .i64 o, .int .i64 n]) [(o, n)] := by
  intro w
  go_enter Try.func190, Try.ntmps190
  go_wp2
  go_ret
  exact ⟨_, rfl, news_1 (by simp) (by simp), by go_grown⟩

set_option maxHeartbeats 400000 in
theorem roles_3 (o n d : Int) : GivesNew 191 (.agg #[.int .i64 o, .int .i64 n, .int .i64 d]) [(o, n)] := by
  intro w
  go_enter Try.func191, Try.ntmps191
  go_wp2
  go_ret
  exact ⟨_, rfl, news_1 (by simp) (by simp), by go_grown⟩

set_option maxHeartbeats 400000 in
theorem roles_4 (o n p m : Int) : GivesNew 192 (.agg #[.int .i64 o, .int .i64 n, .int .i64 p, .int .i64 m]) [(o, n), (p, m)] := by
  intro w
  go_enter Try.func192, Try.ntmps192
  go_wp2
  try go_quiet (fail)
  go_wp2
  go_ret
  first
    | exact ⟨_, rfl, news_2 (by simp) (by simp) (by simp) (by simp), by go_grown⟩
    | exact ⟨_, rfl, news_2 (by simp [go_sem]) (by simp [go_sem]) (by simp [go_sem]) (by simp [go_sem]), bdN (by go_grown) _⟩

/-- What SortFunc does to a row of roles. -/
def Sorts : Prop := ∀ (g cap B : Nat) (xs : List RoI) (w : World), Owns2 w B (.slice (some ⟨g, 0, none⟩) xs.length cap) xs → xs.length ≤ 1000 → Calls Try.prog 77 #[.slice (some ⟨g, 0, none⟩) xs.length cap, .func (.func 70) #[] #[]] w fun e w' =>
  e = .returned (.tuple #[]) ∧ ∃ ys : List RoI, ys.length = xs.length ∧ SameM ys xs ∧ ys.Pairwise (fun a b => ltR b a = false) ∧ Owns2 w' B (.slice (some ⟨g, 0, none⟩) xs.length cap) ys ∧ Below B w w'

/-- What Compact does to a row of roles that does not fall. -/
def Compacts : Prop := ∀ (g cap B : Nat) (xs : List RoI) (w : World), Owns2 w B (.slice (some ⟨g, 0, none⟩) xs.length cap) xs → xs.length ≤ 1000 → xs.Pairwise (fun a b => ltR b a = false) → Calls Try.prog 78 #[.slice (some ⟨g, 0, none⟩) xs.length cap] w fun e w' =>
  ∃ ys : List RoI, e = .returned (.slice (some ⟨g, 0, none⟩) ys.length cap) ∧ SS ys ∧ SameM ys xs ∧ Owns2 w' B (.slice (some ⟨g, 0, none⟩) ys.length cap) ys ∧ Below B w w'

set_option maxRecDepth 20000 in
set_option maxHeartbeats 1000000 in
theorem implRoles_ok (a : Option Addr) (n cap : Nat) (zs : List RuleI) (w : World) (hcap : n ≤ cap) (hcm : cap ≤ maxLen) (h : RulesIn w a n zs) (hc : polCode zs = 0) (hp : 0 < n) (HSo : Hid Sorts) (HCo : Hid Compacts) :
    Calls Try.prog 26 #[.slice a n cap] w fun e w' => ∃ (ys : List RoI) (a' : Option Addr) (cap' : Nat), SS ys ∧ SameM ys (rawTo zs n) ∧ e = .returned (.agg #[.int .i64 0, .slice a' ys.length cap']) ∧ Owns2 w' w.heap.size (.slice a' ys.length cap') ys ∧ Below w.heap.size w w' := by
  have hn : n ≤ 16 := by
    have := h.1
    unfold polCode at hc
    split at hc
    · simp at hc
    · omega
  have HPT : Hid (polTo zs n = 0) := by
    have := h.1
    unfold polCode at hc
    rw [if_neg (by omega), this] at hc
    exact hc
  obtain ⟨i0, hi, hz0, hz1, hz2⟩ := info_parts Try.info35
  have H : Hid (RulesIn (w.alloc (.cells #[.int .i64 0, .slice none 0 0] 47)) a n zs) := h.below ((Below.refl _ _).alloc (Nat.le_refl _) _)
  have HC : Hid (polCode zs = 0) := hc
  clear h hc
  have hn' : (n : Int) ≤ 16 := by omega
  go_enter Try.func26, Try.ntmps26
  go_wp2_with fail
  refine (implPolicyFault_c a n cap zs _ (by omega) hcap hcm H.out).mono ?_
  rintro e w1 ⟨rfl, hb1⟩
  rw [HC.out]
  have HX : Hid (RulesIn w1 a n zs) := H.out.below hb1
  have B1 : Hid (Below (w.heap.size + 1) (w.alloc (.cells #[.int .i64 0, .slice none 0 0] 47)) w1) := by have h0 := hb1; simp only [World.size_alloc] at h0; exact h0
  have hz1' : w.heap.size + 1 ≤ w1.heap.size := by have := hb1.size; simp only [World.size_alloc] at this; exact this
  clear hb1 H
  go_wp2
  go_loopw [4, 15] (fun s i wr => ∃ (k : Nat) (v : Value), k ≤ n ∧ i = .int .i64 (k : Int) ∧ v = s ∧ Owns2 wr w1.heap.size v (rawTo zs k) ∧ Below w1.heap.size w1 wr) (fun _ i _ => n - (intOf i).toNat)
  case atStart => exact ⟨0, _, Nat.zero_le _, rfl, rfl, World.ownsRow_nil _ _ _ _, Below.refl _ _⟩
  case round =>
    obtain ⟨k, v, hk, rfl, rfl, hown, hnx⟩ := hrel
    have hlen := rawTo_len zs k
    by_cases hlt : k < n
    · obtain ⟨b, off, r, rfl, hs, hr⟩ := HX.out.at hlt
      have HN : Hid (rawTo zs (k + 1) = rawTo zs k ++ rawR r) := rawTo_succ hs
      have HK : Hid (r.k = 1 ∨ r.k = 2 ∨ r.k = 3 ∨ r.k = 4) := kinds_of HPT.out hlt hs
      have hr1 := hr.below hnx
      obtain ⟨h0, h1, h2, h3, h4, h5, h6, h7⟩ := hr1
      clear hs hr
      have hlt' : (k : Int) < (n : Int) := by omega
      have HO : Hid (wr.ownsRow w1.heap.size 35 2 v (rawTo zs k).length (flat2 (rawTo zs k))) := hown
      have HX2 : Hid (Below w1.heap.size w1 wr) := hnx
      have hzr := hnx.size
      clear hown hnx
      go_wp2_with (first
        | (at_builtin; refine wpList_append_own _ rfl _ _ 45 rfl w1.heap.size 35 i0 (.agg #[.int .i64 0, .int .i64 0]) 2 16 Try.underlying45 hi hz0 hz1 hz2 rfl (by decide) v (rawTo zs k).length (flat2 (rawTo zs k)) rfl ((HO.out.alloc _).alloc _) ⟨wr.heap.size + 1, 0, none⟩ 1 1 [.int .i64 r.ho, .int .i64 r.hn] rfl rfl (fun j u hj => by match j, hj with | 0, hj => simp at hj; subst hj; simp [Addr.add] | 1, hj => simp at hj; subst hj; simp [Addr.add]) (fun u hu => by simp at hu; rcases hu with rfl | rfl <;> rfl) (by unfold maxLen; omega) (by omega) (by simp; omega) ?_)
        | fail)
      intro v2 w2 hown2 hgrow2 hnil2
      have hzz : wr.heap.size + 1 + 1 ≤ w2.heap.size := by have := hgrow2.size; simp at this; omega
      have hvb : some wr.heap.size ≠ v.ownBlock := fun e => by have := (HO.out.lt _ e.symm).2; omega
      have RB : Hid (RuleAt w2 wr.heap.size 0 r) := by
        have hx : ∀ (o : Nat) (u : Value), ((wr.alloc (.cells #[.int .i64 r.k, .int .i64 r.ho, .int .i64 r.hn, .int .i64 r.w, .int .i64 r.oo, .int .i64 r.on, .int .i64 r.to, .int .i64 r.tn] 105)).alloc (.cells #[.int .i64 r.ho, .int .i64 r.hn] 35)).cell? ⟨wr.heap.size, o, none⟩ = some u → w2.cell? ⟨wr.heap.size, o, none⟩ = some u := fun o u e => hgrow2.cell e hvb
        exact ⟨hx _ _ (by simp), hx _ _ (by simp), hx _ _ (by simp), hx _ _ (by simp), hx _ _ (by simp), hx _ _ (by simp), hx _ _ (by simp), hx _ _ (by simp)⟩
      have BX : Hid (Below w1.heap.size w1 w2) := ((HX2.out.alloc (by omega) _).alloc (by simp; omega) _).grown hgrow2 (by simp; omega) (fun q e => (HO.out.lt q e).1)
      have O2 : Hid (w2.ownsRow w1.heap.size 35 2 v2 ((rawTo zs k).length + 1) (flat2 (rawTo zs k) ++ [.int .i64 r.ho, .int .i64 r.hn])) := hown2
      clear hown2 hgrow2 hnil2 HO HX2 h0 h1 h2 h3 h4 h5 h6 h7
      obtain ⟨h0, h1, h2, h3, h4, h5, h6, h7⟩ := RB.out
      simp only [Nat.zero_add] at h0 h1 h2 h3 h4 h5 h6 h7
      rcases HK.out with k1 | k2 | k3 | k4
      · have HE : Hid (rawR r = [(r.ho, r.hn)]) := by show rawR r = _; simp [rawR, bodyR, k1]
        have HB : Hid (∀ w : World, Calls Try.prog 76 #[.agg #[.int .i64 r.k, .int .i64 r.ho, .int .i64 r.hn, .int .i64 r.w, .int .i64 r.oo, .int .i64 r.on, .int .i64 r.to, .int .i64 r.tn]] w fun e w' => e = .returned (.iface 167 (.agg #[.int .i64 r.w])) ∧ Below w.heap.size w w') := bodyOf_1 r k1
        clear k1
        go_wp2_with fail
        refine (HB.out _).mono ?_
        rintro e w3 ⟨rfl, hb3⟩
        go_wp2_with fail
        refine (roles_1 _ _).mono ?_
        rintro e w4 ⟨rfl, hb4⟩
        have hb34 : Below w2.heap.size w2 w4 := hb3.trans (hb4.mono hb3.size)
        have O4 : Hid (w4.ownsRow w1.heap.size 35 2 v2 ((rawTo zs k).length + 1) (flat2 (rawTo zs k) ++ [.int .i64 r.ho, .int .i64 r.hn])) := O2.out.kept (row := none) ⟨hb34.os, hb34.tape, hb34.output, hb34.size, fun k hk _ => hb34.block k hk⟩ (by cases v2.ownBlock <;> simp)
        have B4 : Hid (Below w1.heap.size w1 w4) := BX.out.trans (hb34.mono BX.out.size)
        have O5 : Hid (Owns2 w4 w1.heap.size v2 (rawTo zs (k + 1))) := by
          show World.ownsRow _ _ _ _ _ _ _
          rw [HN.out, HE.out, flat2_append, List.length_append]
          simpa [flat2] using O4.out
        clear hb3 hb4 hb34 O2 BX RB h0 h1 h2 h3 h4 h5 h6 h7
        go_wp2_with (first
          | (at_builtin; refine wpList_append_own_none rfl _ _ 45 rfl w1.heap.size 35 i0 2 Try.underlying45 hi v2 ((rawTo zs k).length + 1) (flat2 (rawTo zs k) ++ [.int .i64 r.ho, .int .i64 r.hn]) rfl O4.out rfl ?_)
          | fail)
        all_goals clear O4
        all_goals go_wp2
        exact ⟨⟨k + 1, _, by omega, by go_num, rfl, O5.out, B4.out⟩, by simp [intOf]; omega⟩
      · have HE : Hid (rawR r = (r.ho, r.hn) :: [(r.oo, r.on)]) := by show rawR r = _; simp [rawR, bodyR, k2]
        have HB : Hid (∀ w : World, Calls Try.prog 76 #[.agg #[.int .i64 r.k, .int .i64 r.ho, .int .i64 r.hn, .int .i64 r.w, .int .i64 r.oo, .int .i64 r.on, .int .i64 r.to, .int .i64 r.tn]] w fun e w' => e = .returned (.iface 169 (.agg #[.int .i64 r.oo, .int .i64 r.on])) ∧ Below w.heap.size w w') := bodyOf_2 r k2
        clear k2
        go_wp2_with fail
        refine (HB.out _).mono ?_
        rintro e w3 ⟨rfl, hb3⟩
        go_wp2_with fail
        refine (roles_2 r.oo r.on _).mono ?_
        rintro e w4 ⟨g4, rfl, hnw, hb4⟩
        have hb34 : Below w2.heap.size w2 w4 := hb3.trans (hb4.mono hb3.size)
        have O4 : Hid (w4.ownsRow w1.heap.size 35 2 v2 ((rawTo zs k).length + 1) (flat2 (rawTo zs k) ++ [.int .i64 r.ho, .int .i64 r.hn])) := O2.out.kept (row := none) ⟨hb34.os, hb34.tape, hb34.output, hb34.size, fun k hk _ => hb34.block k hk⟩ (by cases v2.ownBlock <;> simp)
        have B4 : Hid (Below w1.heap.size w1 w4) := BX.out.trans (hb34.mono BX.out.size)
        have hz4 : w1.heap.size ≤ w4.heap.size := B4.out.size
        have HNW : Hid (∀ j u, (flat2 [(r.oo, r.on)])[j]? = some u → w4.cell? ((⟨g4, 0, none⟩ : Addr).add j) = some u) := hnw
        clear hb3 hb4 hb34 O2 hnw BX RB h0 h1 h2 h3 h4 h5 h6 h7
        go_wp2_with (first
          | (at_builtin; refine wpList_append_own _ rfl _ _ 45 rfl w1.heap.size 35 i0 (.agg #[.int .i64 0, .int .i64 0]) 2 16 Try.underlying45 hi hz0 hz1 hz2 rfl (by decide) v2 ((rawTo zs k).length + 1) (flat2 (rawTo zs k) ++ [.int .i64 r.ho, .int .i64 r.hn]) rfl O4.out ⟨g4, 0, none⟩ 1 1 (flat2 [(r.oo, r.on)]) rfl rfl HNW.out (flat2_one _) (by unfold maxLen; omega) (by omega) (by omega) ?_)
          | fail)
        intro v5 w5 hown5 hgrow5 hnil5
        have O5 : Hid (Owns2 w5 w1.heap.size v5 (rawTo zs (k + 1))) := by
          show World.ownsRow _ _ _ _ _ _ _
          rw [HN.out, HE.out, flat2_append, List.length_append]
          simpa [flat2, Nat.add_assoc] using hown5
        have B5 : Hid (Below w1.heap.size w1 w5) := B4.out.grown hgrow5 (by omega) (fun q e => (O4.out.lt q e).1)
        clear hown5 hgrow5 hnil5 O4 B4 HNW
        go_wp2
        exact ⟨⟨k + 1, _, by omega, by go_num, rfl, O5.out, B5.out⟩, by simp [intOf]; omega⟩
      · have HE : Hid (rawR r = (r.ho, r.hn) :: [(r.oo, r.on)]) := by show rawR r = _; simp [rawR, bodyR, k3]
        have HB : Hid (∀ w : World, Calls Try.prog 76 #[.agg #[.int .i64 r.k, .int .i64 r.ho, .int .i64 r.hn, .int .i64 r.w, .int .i64 r.oo, .int .i64 r.on, .int .i64 r.to, .int .i64 r.tn]] w fun e w' => e = .returned (.iface 171 (.agg #[.int .i64 r.oo, .int .i64 r.on, .int .i64 r.tn])) ∧ Below w.heap.size w w') := bodyOf_3 r k3
        clear k3
        go_wp2_with fail
        refine (HB.out _).mono ?_
        rintro e w3 ⟨rfl, hb3⟩
        go_wp2_with fail
        refine (roles_3 r.oo r.on r.tn _).mono ?_
        rintro e w4 ⟨g4, rfl, hnw, hb4⟩
        have hb34 : Below w2.heap.size w2 w4 := hb3.trans (hb4.mono hb3.size)
        have O4 : Hid (w4.ownsRow w1.heap.size 35 2 v2 ((rawTo zs k).length + 1) (flat2 (rawTo zs k) ++ [.int .i64 r.ho, .int .i64 r.hn])) := O2.out.kept (row := none) ⟨hb34.os, hb34.tape, hb34.output, hb34.size, fun k hk _ => hb34.block k hk⟩ (by cases v2.ownBlock <;> simp)
        have B4 : Hid (Below w1.heap.size w1 w4) := BX.out.trans (hb34.mono BX.out.size)
        have hz4 : w1.heap.size ≤ w4.heap.size := B4.out.size
        have HNW : Hid (∀ j u, (flat2 [(r.oo, r.on)])[j]? = some u → w4.cell? ((⟨g4, 0, none⟩ : Addr).add j) = some u) := hnw
        clear hb3 hb4 hb34 O2 hnw BX RB h0 h1 h2 h3 h4 h5 h6 h7
        go_wp2_with (first
          | (at_builtin; refine wpList_append_own _ rfl _ _ 45 rfl w1.heap.size 35 i0 (.agg #[.int .i64 0, .int .i64 0]) 2 16 Try.underlying45 hi hz0 hz1 hz2 rfl (by decide) v2 ((rawTo zs k).length + 1) (flat2 (rawTo zs k) ++ [.int .i64 r.ho, .int .i64 r.hn]) rfl O4.out ⟨g4, 0, none⟩ 1 1 (flat2 [(r.oo, r.on)]) rfl rfl HNW.out (flat2_one _) (by unfold maxLen; omega) (by omega) (by omega) ?_)
          | fail)
        intro v5 w5 hown5 hgrow5 hnil5
        have O5 : Hid (Owns2 w5 w1.heap.size v5 (rawTo zs (k + 1))) := by
          show World.ownsRow _ _ _ _ _ _ _
          rw [HN.out, HE.out, flat2_append, List.length_append]
          simpa [flat2, Nat.add_assoc] using hown5
        have B5 : Hid (Below w1.heap.size w1 w5) := B4.out.grown hgrow5 (by omega) (fun q e => (O4.out.lt q e).1)
        clear hown5 hgrow5 hnil5 O4 B4 HNW
        go_wp2
        exact ⟨⟨k + 1, _, by omega, by go_num, rfl, O5.out, B5.out⟩, by simp [intOf]; omega⟩
      · have HE : Hid (rawR r = (r.ho, r.hn) :: [(r.oo, r.on), (r.to, r.tn)]) := by show rawR r = _; simp [rawR, bodyR, k4]
        have HB : Hid (∀ w : World, Calls Try.prog 76 #[.agg #[.int .i64 r.k, .int .i64 r.ho, .int .i64 r.hn, .int .i64 r.w, .int .i64 r.oo, .int .i64 r.on, .int .i64 r.to, .int .i64 r.tn]] w fun e w' => e = .returned (.iface 173 (.agg #[.int .i64 r.oo, .int .i64 r.on, .int .i64 r.to, .int .i64 r.tn])) ∧ Below w.heap.size w w') := bodyOf_4 r k4
        clear k4
        go_wp2_with fail
        refine (HB.out _).mono ?_
        rintro e w3 ⟨rfl, hb3⟩
        go_wp2_with fail
        refine (roles_4 r.oo r.on r.to r.tn _).mono ?_
        rintro e w4 ⟨g4, rfl, hnw, hb4⟩
        have hb34 : Below w2.heap.size w2 w4 := hb3.trans (hb4.mono hb3.size)
        have O4 : Hid (w4.ownsRow w1.heap.size 35 2 v2 ((rawTo zs k).length + 1) (flat2 (rawTo zs k) ++ [.int .i64 r.ho, .int .i64 r.hn])) := O2.out.kept (row := none) ⟨hb34.os, hb34.tape, hb34.output, hb34.size, fun k hk _ => hb34.block k hk⟩ (by cases v2.ownBlock <;> simp)
        have B4 : Hid (Below w1.heap.size w1 w4) := BX.out.trans (hb34.mono BX.out.size)
        have hz4 : w1.heap.size ≤ w4.heap.size := B4.out.size
        have HNW : Hid (∀ j u, (flat2 [(r.oo, r.on), (r.to, r.tn)])[j]? = some u → w4.cell? ((⟨g4, 0, none⟩ : Addr).add j) = some u) := hnw
        clear hb3 hb4 hb34 O2 hnw BX RB h0 h1 h2 h3 h4 h5 h6 h7
        go_wp2_with (first
          | (at_builtin; refine wpList_append_own _ rfl _ _ 45 rfl w1.heap.size 35 i0 (.agg #[.int .i64 0, .int .i64 0]) 2 16 Try.underlying45 hi hz0 hz1 hz2 rfl (by decide) v2 ((rawTo zs k).length + 1) (flat2 (rawTo zs k) ++ [.int .i64 r.ho, .int .i64 r.hn]) rfl O4.out ⟨g4, 0, none⟩ 2 2 (flat2 [(r.oo, r.on), (r.to, r.tn)]) rfl rfl HNW.out (flat2_one _) (by unfold maxLen; omega) (by omega) (by omega) ?_)
          | fail)
        intro v5 w5 hown5 hgrow5 hnil5
        have O5 : Hid (Owns2 w5 w1.heap.size v5 (rawTo zs (k + 1))) := by
          show World.ownsRow _ _ _ _ _ _ _
          rw [HN.out, HE.out, flat2_append, List.length_append]
          simpa [flat2, Nat.add_assoc] using hown5
        have B5 : Hid (Below w1.heap.size w1 w5) := B4.out.grown hgrow5 (by omega) (fun q e => (O4.out.lt q e).1)
        clear hown5 hgrow5 hnil5 O4 B4 HNW
        go_wp2
        exact ⟨⟨k + 1, _, by omega, by go_num, rfl, O5.out, B5.out⟩, by simp [intOf]; omega⟩
    · have hkn : k = n := by omega
      subst hkn
      have hpos : 0 < (rawTo zs k).length := by
        obtain ⟨j, hj⟩ : ∃ j, k = j + 1 := ⟨k - 1, by omega⟩
        obtain ⟨b, off, r, _, hs, _⟩ := HX.out.at (show j < k by omega)
        rw [hj, rawTo_succ hs]
        simp [rawR]
        omega
      obtain ⟨g, cap2, rfl⟩ : ∃ g cap2, v = .slice (some ⟨g, 0, none⟩) (rawTo zs k).length cap2 := by
        rcases hown.shape with ⟨_, h2⟩ | ⟨g, cap2, h1, _⟩
        · rw [h2] at hpos; simp at hpos
        · exact ⟨g, cap2, h1⟩
      have HO : Hid (Owns2 wr w1.heap.size (.slice (some ⟨g, 0, none⟩) (rawTo zs k).length cap2) (rawTo zs k)) := hown
      have HX2 : Hid (Below w1.heap.size w1 wr) := hnx
      clear hown hnx
      have hln : (rawTo zs k).length ≤ 1000 := by omega
      obtain ⟨xs, hxs⟩ : ∃ xs, xs = rawTo zs k := ⟨_, rfl⟩
      have HXS : Hid (xs = rawTo zs k) := hxs
      rw [← hxs] at HO hln hpos ⊢
      clear hxs hlen
      go_wp2_with fail
      refine (HSo.out g cap2 w1.heap.size xs wr HO.out hln).mono ?_
      rintro e w3 ⟨rfl, ys, hyl, hym, hys, hyo, hb3⟩
      have HY : Hid (ys.length = xs.length ∧ SameM ys xs ∧ ys.Pairwise (fun a b => ltR b a = false) ∧ Owns2 w3 w1.heap.size (.slice (some ⟨g, 0, none⟩) ys.length cap2) ys ∧ Below w1.heap.size w1 w3) := ⟨hyl, hym, hys, by rw [hyl]; exact hyo, HX2.out.trans hb3⟩
      rw [← hyl] at hln ⊢
      clear hyl hym hys hyo hb3 HO HX2 hpos
      go_wp2_with fail
      refine (HCo.out g cap2 w1.heap.size ys w3 HY.out.2.2.2.1 hln HY.out.2.2.1).mono ?_
      rintro e w4 ⟨us, rfl, hss, hsm, huo, hb4⟩
      have B4 : Below w1.heap.size w1 w4 := HY.out.2.2.2.2.trans hb4
      have hz4 := B4.size
      have B0 : Below (w.heap.size + 1) (w.alloc (.cells #[.int .i64 0, .slice none 0 0] 47)) w4 := B1.out.trans (B4.mono hz1')
      have hBx : Below w.heap.size w w4 := ((Below.refl _ _).alloc (Nat.le_refl _) _).trans (B0.mono (by omega))
      have hw : w.heap.size < w4.heap.size := by omega
      have c0 : w4.cell? ⟨w.heap.size, 0, none⟩ = some (.int .i64 0) := (B0.cell (p := ⟨w.heap.size, 0, none⟩) (by simp)).trans (by simp)
      have c1 : w4.cell? ⟨w.heap.size, 1, none⟩ = some (.slice none 0 0) := (B0.cell (p := ⟨w.heap.size, 1, none⟩) (by simp)).trans (by simp)
      have f0 : w4.frozen? ⟨w.heap.size, 0, none⟩ = false := (B0.frozen (p := ⟨w.heap.size, 0, none⟩) (by simp)).trans (by simp [go_sem])
      have f1 : w4.frozen? ⟨w.heap.size, 1, none⟩ = false := (B0.frozen (p := ⟨w.heap.size, 1, none⟩) (by simp)).trans (by simp [go_sem])
      have HF : Hid (SS us ∧ SameM us ys ∧ Owns2 w4 w1.heap.size (.slice (some ⟨g, 0, none⟩) us.length cap2) us) := ⟨hss, hsm, huo⟩
      clear hss hsm huo hb4 B4 B0
      go_wp2
      refine bodyPost_ret (v := .agg #[.int .i64 0, .slice (some ⟨g, 0, none⟩) us.length cap2]) (by simp [results, Try.results26, go_sem, c0, c1, hw]) rfl ⟨us, some ⟨g, 0, none⟩, cap2, HF.out.1, fun x => ?_, rfl, ?_, ?_⟩
      · rw [HF.out.2.1 x, HY.out.2.1 x, HXS.out]
      · have h6 : Owns2 w4 (w.heap.size + 1) (.slice (some ⟨g, 0, none⟩) us.length cap2) us := owns_lower HF.out.2.2 (by omega)
        have h7 := ownsRow_setCell_below (ownsRow_setCell_below h6 (a := ⟨w.heap.size, 0, none⟩) (by simp) (.int .i64 0)) (a := ⟨w.heap.size, 1, none⟩) (by simp) (.slice (some ⟨g, 0, none⟩) us.length cap2)
        exact owns_lower h7 (by omega)
      · exact hBx |>.setCell (Nat.le_refl _) _ |>.setCell (Nat.le_refl _) _

end Go.Proofs.Ytnmidppiakdanaa
