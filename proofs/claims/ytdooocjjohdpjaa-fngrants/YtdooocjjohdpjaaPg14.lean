/-
  CONTRACT: impl.RolesIn, what it gathers.
  Conditions: each contract bears its own.
  CONTRACTS: slices.Index and slices.Contains over roles; impl.leansOn.
  Conditions: each contract bears its own.
  A QUEUE OF RULES in memory: its first rule, the rest, one more behind; slices.Clone of rules.
  Conditions: each contract bears its own.
  A SCOPE WITH SEVERAL LABELS: what holds at each jump, with a number that every pass from a label lowers. No Go text is walked here.
  Conditions: each fact bears its own.
-/
import Derived.Test.YtdooocjjohdpjaaPg12
import Derived.Test.YtdooocjjohdpjaaPg13
import Derived.Laws.AppendOwnNone
import Derived.Test.YtdooocjjohdpjaaPg07
import Derived.Deep.RegionWith
import Derived.Test.YtdooocjjohdpjaaPg02
import Derived.ArgAppend
import Derived.Lib.SliceRun
import Derived.Deep.AppendLies
import Derived.Scope
import Derived.ScopeJumps
import Derived.WalkMore
namespace Go.Proofs.Ytdooocjjohdpjaa
open Go.RowKit
set_option linter.unusedVariables false
set_option linter.unusedSimpArgs false

theorem polTo_zero {zs : List RuleI} {n : Nat} (h : polTo zs n = 0) : ∀ j r, j < n → zs[j]? = some r → ruleCode r = 0 := by
  induction n with
  | zero => intro j r hj; omega
  | succ n ih =>
    intro j r hj hr
    have h0 : polTo zs n = 0 := by
      by_cases q : polTo zs n = 0
      · exact q
      · have := polTo_stay zs n (n + 1) _ q rfl (by omega); rw [this] at h; exact absurd h q
    by_cases e : j = n
    · subst e
      by_cases q : ruleCode r = 0
      · exact q
      · have := polTo_bad zs j r hr h0 q; rw [this] at h; exact absurd h q
    · exact ih h0 j r (by omega) hr

theorem kinds_of {zs : List RuleI} {n : Nat} (h : polTo zs n = 0) {j : Nat} {r : RuleI} (hj : j < n) (hr : zs[j]? = some r) : r.k = 1 ∨ r.k = 2 ∨ r.k = 3 ∨ r.k = 4 := by
  have h0 := polTo_zero h j r hj hr
  unfold ruleCode at h0
  split at h0
  · simp at h0
  · rename_i q
    simp at q
    omega

/-- What a body's roles answers: a new slice that holds them. -/
def GivesNew (f : Nat) (v : Value) (xs : List RoI) : Prop := ∀ w : World, Calls Try.prog f #[v] w fun e w' => ∃ g : Nat, e = .returned (.slice (some ⟨g, 0, none⟩) xs.length xs.length) ∧ (∀ j u, (flat2 xs)[j]? = some u → w'.cell? ((⟨g, 0, none⟩ : Addr).add j) = some u) ∧ Below w.heap.size w w'

set_option maxHeartbeats 400000 in
theorem roles_1 (x : Int) (w : World) : Calls Try.prog 191 #[.agg #[.int .i64 x]] w fun e w' => e = .returned (.slice none 0 0) ∧ Below w.heap.size w w' := by
  go_enter Try.func191, Try.ntmps191
  go_wp2
  go_ret
  exact ⟨rfl, by go_grown⟩

theorem news_1 {w' : World} {g : Nat} {o n : Int} (h0 : w'.cell? ⟨g, 0, none⟩ = some (.int .i64 o)) (h1 : w'.cell? ⟨g, 1, none⟩ = some (.int .i64 n)) : ∀ j u, (flat2 [(o, n)])[j]? = some u → w'.cell? ((⟨g, 0, none⟩ : Addr).add j) = some u := by
  intro j u hj
  rw [Go.WideShapes.add_plain, Nat.zero_add]
  match j, hj with
  | 0, hj => simp [flat2] at hj; subst hj; exact h0
  | 1, hj => simp [flat2] at hj; subst hj; exact h1

theorem news_2 {w' : World} {g : Nat} {o n p m : Int} (h0 : w'.cell? ⟨g, 0, none⟩ = some (.int .i64 o)) (h1 : w'.cell? ⟨g, 1, none⟩ = some (.int .i64 n)) (h2 : w'.cell? ⟨g, 2, none⟩ = some (.int .i64 p)) (h3 : w'.cell? ⟨g, 3, none⟩ = some (.int .i64 m)) : ∀ j u, (flat2 [(o, n), (p, m)])[j]? = some u → w'.cell? ((⟨g, 0, none⟩ : Addr).add j) = some u := by
  intro j u hj
  rw [Go.WideShapes.add_plain, Nat.zero_add]
  match j, hj with
  | 0, hj => simp [flat2] at hj; subst hj; exact h0
  | 1, hj => simp [flat2] at hj; subst hj; exact h1
  | 2, hj => simp [flat2] at hj; subst hj; exact h2
  | 3, hj => simp [flat2] at hj; subst hj; exact h3

set_option maxHeartbeats 400000 in
theorem roles_2 (o n : Int) : GivesNew 192 (.agg #[.int .i64 o, .int .i64 n]) [(o, n)] := by
  intro w
  go_enter Try.func192, Try.ntmps192
  go_wp2
  go_ret
  exact ⟨_, rfl, news_1 (by simp) (by simp), by go_grown⟩

set_option maxHeartbeats 400000 in
theorem roles_3 (o n d : Int) : GivesNew 193 (.agg #[.int .i64 o, .int .i64 n, .int .i64 d]) [(o, n)] := by
  intro w
  go_enter Try.func193, Try.ntmps193
  go_wp2
  go_ret
  exact ⟨_, rfl, news_1 (by simp) (by simp), by go_grown⟩

set_option maxHeartbeats 400000 in
theorem roles_4 (o n p m : Int) : GivesNew 194 (.agg #[.int .i64 o, .int .i64 n, .int .i64 p, .int .i64 m]) [(o, n), (p, m)] := by
  intro w
  go_enter Try.func194, Try.ntmps194
  go_wp2
  try go_quiet (fail)
  go_wp2
  go_ret
  first
    | exact ⟨_, rfl, news_2 (by simp) (by simp) (by simp) (by simp), by go_grown⟩
    | exact ⟨_, rfl, news_2 (by simp [go_sem]) (by simp [go_sem]) (by simp [go_sem]) (by simp [go_sem]), bdN (by go_grown) _⟩

/-- What SortFunc does to a row of roles. -/
def Sorts : Prop := ∀ (g cap B : Nat) (xs : List RoI) (w : World), Owns2 w B (.slice (some ⟨g, 0, none⟩) xs.length cap) xs → xs.length ≤ 1000 → Calls Try.prog 72 #[.slice (some ⟨g, 0, none⟩) xs.length cap, .func (.func 65) #[] #[]] w fun e w' =>
  e = .returned (.tuple #[]) ∧ ∃ ys : List RoI, ys.length = xs.length ∧ SameM ys xs ∧ ys.Pairwise (fun a b => ltR b a = false) ∧ Owns2 w' B (.slice (some ⟨g, 0, none⟩) xs.length cap) ys ∧ Below B w w'

/-- What Compact does to a row of roles that does not fall. -/
def Compacts : Prop := ∀ (g cap B : Nat) (xs : List RoI) (w : World), Owns2 w B (.slice (some ⟨g, 0, none⟩) xs.length cap) xs → xs.length ≤ 1000 → xs.Pairwise (fun a b => ltR b a = false) → Calls Try.prog 73 #[.slice (some ⟨g, 0, none⟩) xs.length cap] w fun e w' =>
  ∃ ys : List RoI, e = .returned (.slice (some ⟨g, 0, none⟩) ys.length cap) ∧ SS ys ∧ SameM ys xs ∧ Owns2 w' B (.slice (some ⟨g, 0, none⟩) ys.length cap) ys ∧ Below B w w'

set_option maxRecDepth 20000 in
set_option maxHeartbeats 1000000 in
theorem implRoles_ok (a : Option Addr) (n cap : Nat) (zs : List RuleI) (w : World) (hcap : n ≤ cap) (hcm : cap ≤ maxLen) (h : RulesIn w a n zs) (hc : polCode zs = 0) (hp : 0 < n) (HSo : Hid Sorts) (HCo : Hid Compacts) :
    Calls Try.prog 25 #[.slice a n cap] w fun e w' => ∃ (ys : List RoI) (a' : Option Addr) (cap' : Nat), SS ys ∧ SameM ys (rawTo zs n) ∧ e = .returned (.agg #[.int .i64 0, .slice a' ys.length cap']) ∧ Owns2 w' w.heap.size (.slice a' ys.length cap') ys ∧ Below w.heap.size w w' := by
  have hn : n ≤ 16 := by
    have := h.1
    unfold polCode at hc
    split at hc
    · simp at hc
    · omega
  have HPT : Hid (polTo zs n = 0) := by
    have := h.1
    unfold polCode at hc
    rw [if_neg (by omega), this] at hc
    exact hc
  obtain ⟨i0, hi, hz0, hz1, hz2⟩ := info_parts Try.info35
  have H : Hid (RulesIn (w.alloc (.cells #[.int .i64 0, .slice none 0 0] 47)) a n zs) := h.below ((Below.refl _ _).alloc (Nat.le_refl _) _)
  have HC : Hid (polCode zs = 0) := hc
  clear h hc
  have hn' : (n : Int) ≤ 16 := by omega
  go_enter Try.func25, Try.ntmps25
  go_wp2_with fail
  refine (implPolicyFault_c a n cap zs _ (by omega) hcap hcm H.out).mono ?_
  rintro e w1 ⟨rfl, hb1⟩
  rw [HC.out]
  have HX : Hid (RulesIn w1 a n zs) := H.out.below hb1
  have B1 : Hid (Below (w.heap.size + 1) (w.alloc (.cells #[.int .i64 0, .slice none 0 0] 47)) w1) := by have h0 := hb1; simp only [World.size_alloc] at h0; exact h0
  have hz1' : w.heap.size + 1 ≤ w1.heap.size := by have := hb1.size; simp only [World.size_alloc] at this; exact this
  clear hb1 H
  go_wp2
  go_loopw [4, 15] (fun s i wr => ∃ (k : Nat) (v : Value), k ≤ n ∧ i = .int .i64 (k : Int) ∧ v = s ∧ Owns2 wr w1.heap.size v (rawTo zs k) ∧ Below w1.heap.size w1 wr) (fun _ i _ => n - (intOf i).toNat)
  case atStart => exact ⟨0, _, Nat.zero_le _, rfl, rfl, World.ownsRow_nil _ _ _ _, Below.refl _ _⟩
  case round =>
    obtain ⟨k, v, hk, rfl, rfl, hown, hnx⟩ := hrel
    have hlen := rawTo_len zs k
    by_cases hlt : k < n
    · obtain ⟨b, off, r, rfl, hs, hr⟩ := HX.out.at hlt
      have HN : Hid (rawTo zs (k + 1) = rawTo zs k ++ rawR r) := rawTo_succ hs
      have HK : Hid (r.k = 1 ∨ r.k = 2 ∨ r.k = 3 ∨ r.k = 4) := kinds_of HPT.out hlt hs
      have hr1 := hr.below hnx
      obtain ⟨h0, h1, h2, h3, h4, h5, h6, h7⟩ := hr1
      clear hs hr
      have hlt' : (k : Int) < (n : Int) := by omega
      have HO : Hid (wr.ownsRow w1.heap.size 35 2 v (rawTo zs k).length (flat2 (rawTo zs k))) := hown
      have HX2 : Hid (Below w1.heap.size w1 wr) := hnx
      have hzr := hnx.size
      clear hown hnx
      go_wp2_with (first
        | (at_builtin; refine wpList_append_own _ rfl _ _ 45 rfl w1.heap.size 35 i0 (.agg #[.int .i64 0, .int .i64 0]) 2 16 Try.underlying45 hi hz0 hz1 hz2 rfl (by decide) v (rawTo zs k).length (flat2 (rawTo zs k)) rfl ((HO.out.alloc _).alloc _) ⟨wr.heap.size + 1, 0, none⟩ 1 1 [.int .i64 r.ho, .int .i64 r.hn] rfl rfl (fun j u hj => by match j, hj with | 0, hj => simp at hj; subst hj; simp [Addr.add] | 1, hj => simp at hj; subst hj; simp [Addr.add]) (fun u hu => by simp at hu; rcases hu with rfl | rfl <;> rfl) (by unfold maxLen; omega) (by omega) (by simp; omega) ?_)
        | fail)
      intro v2 w2 hown2 hgrow2 hnil2
      have hzz : wr.heap.size + 1 + 1 ≤ w2.heap.size := by have := hgrow2.size; simp at this; omega
      have hvb : some wr.heap.size ≠ v.ownBlock := fun e => by have := (HO.out.lt _ e.symm).2; omega
      have RB : Hid (RuleAt w2 wr.heap.size 0 r) := by
        have hx : ∀ (o : Nat) (u : Value), ((wr.alloc (.cells #[.int .i64 r.k, .int .i64 r.ho, .int .i64 r.hn, .int .i64 r.w, .int .i64 r.oo, .int .i64 r.on, .int .i64 r.to, .int .i64 r.tn] 100)).alloc (.cells #[.int .i64 r.ho, .int .i64 r.hn] 35)).cell? ⟨wr.heap.size, o, none⟩ = some u → w2.cell? ⟨wr.heap.size, o, none⟩ = some u := fun o u e => hgrow2.cell e hvb
        exact ⟨hx _ _ (by simp), hx _ _ (by simp), hx _ _ (by simp), hx _ _ (by simp), hx _ _ (by simp), hx _ _ (by simp), hx _ _ (by simp), hx _ _ (by simp)⟩
      have BX : Hid (Below w1.heap.size w1 w2) := ((HX2.out.alloc (by omega) _).alloc (by simp; omega) _).grown hgrow2 (by simp; omega) (fun q e => (HO.out.lt q e).1)
      have O2 : Hid (w2.ownsRow w1.heap.size 35 2 v2 ((rawTo zs k).length + 1) (flat2 (rawTo zs k) ++ [.int .i64 r.ho, .int .i64 r.hn])) := hown2
      clear hown2 hgrow2 hnil2 HO HX2 h0 h1 h2 h3 h4 h5 h6 h7
      obtain ⟨h0, h1, h2, h3, h4, h5, h6, h7⟩ := RB.out
      simp only [Nat.zero_add] at h0 h1 h2 h3 h4 h5 h6 h7
      rcases HK.out with k1 | k2 | k3 | k4
      · have HE : Hid (rawR r = [(r.ho, r.hn)]) := by show rawR r = _; simp [rawR, bodyR, k1]
        have HB : Hid (∀ w : World, Calls Try.prog 71 #[.agg #[.int .i64 r.k, .int .i64 r.ho, .int .i64 r.hn, .int .i64 r.w, .int .i64 r.oo, .int .i64 r.on, .int .i64 r.to, .int .i64 r.tn]] w fun e w' => e = .returned (.iface 161 (.agg #[.int .i64 r.w])) ∧ Below w.heap.size w w') := bodyOf_1 r k1
        clear k1
        go_wp2_with fail
        refine (HB.out _).mono ?_
        rintro e w3 ⟨rfl, hb3⟩
        go_wp2_with fail
        refine (roles_1 _ _).mono ?_
        rintro e w4 ⟨rfl, hb4⟩
        have hb34 : Below w2.heap.size w2 w4 := hb3.trans (hb4.mono hb3.size)
        have O4 : Hid (w4.ownsRow w1.heap.size 35 2 v2 ((rawTo zs k).length + 1) (flat2 (rawTo zs k) ++ [.int .i64 r.ho, .int .i64 r.hn])) := O2.out.kept (row := none) ⟨hb34.os, hb34.tape, hb34.output, hb34.size, fun k hk _ => hb34.block k hk⟩ (by cases v2.ownBlock <;> simp)
        have B4 : Hid (Below w1.heap.size w1 w4) := BX.out.trans (hb34.mono BX.out.size)
        have O5 : Hid (Owns2 w4 w1.heap.size v2 (rawTo zs (k + 1))) := by
          show World.ownsRow _ _ _ _ _ _ _
          rw [HN.out, HE.out, flat2_append, List.length_append]
          simpa [flat2] using O4.out
        clear hb3 hb4 hb34 O2 BX RB h0 h1 h2 h3 h4 h5 h6 h7
        go_wp2_with (first
          | (at_builtin; refine wpList_append_own_none rfl _ _ 45 rfl w1.heap.size 35 i0 2 Try.underlying45 hi v2 ((rawTo zs k).length + 1) (flat2 (rawTo zs k) ++ [.int .i64 r.ho, .int .i64 r.hn]) rfl O4.out rfl ?_)
          | fail)
        all_goals clear O4
        all_goals go_wp2
        exact ⟨⟨k + 1, _, by omega, by go_num, rfl, O5.out, B4.out⟩, by simp [intOf]; omega⟩
      · have HE : Hid (rawR r = (r.ho, r.hn) :: [(r.oo, r.on)]) := by show rawR r = _; simp [rawR, bodyR, k2]
        have HB : Hid (∀ w : World, Calls Try.prog 71 #[.agg #[.int .i64 r.k, .int .i64 r.ho, .int .i64 r.hn, .int .i64 r.w, .int .i64 r.oo, .int .i64 r.on, .int .i64 r.to, .int .i64 r.tn]] w fun e w' => e = .returned (.iface 163 (.agg #[.int .i64 r.oo, .int .i64 r.on])) ∧ Below w.heap.size w w') := bodyOf_2 r k2
        clear k2
        go_wp2_with fail
        refine (HB.out _).mono ?_
        rintro e w3 ⟨rfl, hb3⟩
        go_wp2_with fail
        refine (roles_2 r.oo r.on _).mono ?_
        rintro e w4 ⟨g4, rfl, hnw, hb4⟩
        have hb34 : Below w2.heap.size w2 w4 := hb3.trans (hb4.mono hb3.size)
        have O4 : Hid (w4.ownsRow w1.heap.size 35 2 v2 ((rawTo zs k).length + 1) (flat2 (rawTo zs k) ++ [.int .i64 r.ho, .int .i64 r.hn])) := O2.out.kept (row := none) ⟨hb34.os, hb34.tape, hb34.output, hb34.size, fun k hk _ => hb34.block k hk⟩ (by cases v2.ownBlock <;> simp)
        have B4 : Hid (Below w1.heap.size w1 w4) := BX.out.trans (hb34.mono BX.out.size)
        have hz4 : w1.heap.size ≤ w4.heap.size := B4.out.size
        have HNW : Hid (∀ j u, (flat2 [(r.oo, r.on)])[j]? = some u → w4.cell? ((⟨g4, 0, none⟩ : Addr).add j) = some u) := hnw
        clear hb3 hb4 hb34 O2 hnw BX RB h0 h1 h2 h3 h4 h5 h6 h7
        go_wp2_with (first
          | (at_builtin; refine wpList_append_own _ rfl _ _ 45 rfl w1.heap.size 35 i0 (.agg #[.int .i64 0, .int .i64 0]) 2 16 Try.underlying45 hi hz0 hz1 hz2 rfl (by decide) v2 ((rawTo zs k).length + 1) (flat2 (rawTo zs k) ++ [.int .i64 r.ho, .int .i64 r.hn]) rfl O4.out ⟨g4, 0, none⟩ 1 1 (flat2 [(r.oo, r.on)]) rfl rfl HNW.out (flat2_one _) (by unfold maxLen; omega) (by omega) (by omega) ?_)
          | fail)
        intro v5 w5 hown5 hgrow5 hnil5
        have O5 : Hid (Owns2 w5 w1.heap.size v5 (rawTo zs (k + 1))) := by
          show World.ownsRow _ _ _ _ _ _ _
          rw [HN.out, HE.out, flat2_append, List.length_append]
          simpa [flat2, Nat.add_assoc] using hown5
        have B5 : Hid (Below w1.heap.size w1 w5) := B4.out.grown hgrow5 (by omega) (fun q e => (O4.out.lt q e).1)
        clear hown5 hgrow5 hnil5 O4 B4 HNW
        go_wp2
        exact ⟨⟨k + 1, _, by omega, by go_num, rfl, O5.out, B5.out⟩, by simp [intOf]; omega⟩
      · have HE : Hid (rawR r = (r.ho, r.hn) :: [(r.oo, r.on)]) := by show rawR r = _; simp [rawR, bodyR, k3]
        have HB : Hid (∀ w : World, Calls Try.prog 71 #[.agg #[.int .i64 r.k, .int .i64 r.ho, .int .i64 r.hn, .int .i64 r.w, .int .i64 r.oo, .int .i64 r.on, .int .i64 r.to, .int .i64 r.tn]] w fun e w' => e = .returned (.iface 165 (.agg #[.int .i64 r.oo, .int .i64 r.on, .int .i64 r.tn])) ∧ Below w.heap.size w w') := bodyOf_3 r k3
        clear k3
        go_wp2_with fail
        refine (HB.out _).mono ?_
        rintro e w3 ⟨rfl, hb3⟩
        go_wp2_with fail
        refine (roles_3 r.oo r.on r.tn _).mono ?_
        rintro e w4 ⟨g4, rfl, hnw, hb4⟩
        have hb34 : Below w2.heap.size w2 w4 := hb3.trans (hb4.mono hb3.size)
        have O4 : Hid (w4.ownsRow w1.heap.size 35 2 v2 ((rawTo zs k).length + 1) (flat2 (rawTo zs k) ++ [.int .i64 r.ho, .int .i64 r.hn])) := O2.out.kept (row := none) ⟨hb34.os, hb34.tape, hb34.output, hb34.size, fun k hk _ => hb34.block k hk⟩ (by cases v2.ownBlock <;> simp)
        have B4 : Hid (Below w1.heap.size w1 w4) := BX.out.trans (hb34.mono BX.out.size)
        have hz4 : w1.heap.size ≤ w4.heap.size := B4.out.size
        have HNW : Hid (∀ j u, (flat2 [(r.oo, r.on)])[j]? = some u → w4.cell? ((⟨g4, 0, none⟩ : Addr).add j) = some u) := hnw
        clear hb3 hb4 hb34 O2 hnw BX RB h0 h1 h2 h3 h4 h5 h6 h7
        go_wp2_with (first
          | (at_builtin; refine wpList_append_own _ rfl _ _ 45 rfl w1.heap.size 35 i0 (.agg #[.int .i64 0, .int .i64 0]) 2 16 Try.underlying45 hi hz0 hz1 hz2 rfl (by decide) v2 ((rawTo zs k).length + 1) (flat2 (rawTo zs k) ++ [.int .i64 r.ho, .int .i64 r.hn]) rfl O4.out ⟨g4, 0, none⟩ 1 1 (flat2 [(r.oo, r.on)]) rfl rfl HNW.out (flat2_one _) (by unfold maxLen; omega) (by omega) (by omega) ?_)
          | fail)
        intro v5 w5 hown5 hgrow5 hnil5
        have O5 : Hid (Owns2 w5 w1.heap.size v5 (rawTo zs (k + 1))) := by
          show World.ownsRow _ _ _ _ _ _ _
          rw [HN.out, HE.out, flat2_append, List.length_append]
          simpa [flat2, Nat.add_assoc] using hown5
        have B5 : Hid (Below w1.heap.size w1 w5) := B4.out.grown hgrow5 (by omega) (fun q e => (O4.out.lt q e).1)
        clear hown5 hgrow5 hnil5 O4 B4 HNW
        go_wp2
        exact ⟨⟨k + 1, _, by omega, by go_num, rfl, O5.out, B5.out⟩, by simp [intOf]; omega⟩
      · have HE : Hid (rawR r = (r.ho, r.hn) :: [(r.oo, r.on), (r.to, r.tn)]) := by show rawR r = _; simp [rawR, bodyR, k4]
        have HB : Hid (∀ w : World, Calls Try.prog 71 #[.agg #[.int .i64 r.k, .int .i64 r.ho, .int .i64 r.hn, .int .i64 r.w, .int .i64 r.oo, .int .i64 r.on, .int .i64 r.to, .int .i64 r.tn]] w fun e w' => e = .returned (.iface 167 (.agg #[.int .i64 r.oo, .int .i64 r.on, .int .i64 r.to, .int .i64 r.tn])) ∧ Below w.heap.size w w') := bodyOf_4 r k4
        clear k4
        go_wp2_with fail
        refine (HB.out _).mono ?_
        rintro e w3 ⟨rfl, hb3⟩
        go_wp2_with fail
        refine (roles_4 r.oo r.on r.to r.tn _).mono ?_
        rintro e w4 ⟨g4, rfl, hnw, hb4⟩
        have hb34 : Below w2.heap.size w2 w4 := hb3.trans (hb4.mono hb3.size)
        have O4 : Hid (w4.ownsRow w1.heap.size 35 2 v2 ((rawTo zs k).length + 1) (flat2 (rawTo zs k) ++ [.int .i64 r.ho, .int .i64 r.hn])) := O2.out.kept (row := none) ⟨hb34.os, hb34.tape, hb34.output, hb34.size, fun k hk _ => hb34.block k hk⟩ (by cases v2.ownBlock <;> simp)
        have B4 : Hid (Below w1.heap.size w1 w4) := BX.out.trans (hb34.mono BX.out.size)
        have hz4 : w1.heap.size ≤ w4.heap.size := B4.out.size
        have HNW : Hid (∀ j u, (flat2 [(r.oo, r.on), (r.to, r.tn)])[j]? = some u → w4.cell? ((⟨g4, 0, none⟩ : Addr).add j) = some u) := hnw
        clear hb3 hb4 hb34 O2 hnw BX RB h0 h1 h2 h3 h4 h5 h6 h7
        go_wp2_with (first
          | (at_builtin; refine wpList_append_own _ rfl _ _ 45 rfl w1.heap.size 35 i0 (.agg #[.int .i64 0, .int .i64 0]) 2 16 Try.underlying45 hi hz0 hz1 hz2 rfl (by decide) v2 ((rawTo zs k).length + 1) (flat2 (rawTo zs k) ++ [.int .i64 r.ho, .int .i64 r.hn]) rfl O4.out ⟨g4, 0, none⟩ 2 2 (flat2 [(r.oo, r.on), (r.to, r.tn)]) rfl rfl HNW.out (flat2_one _) (by unfold maxLen; omega) (by omega) (by omega) ?_)
          | fail)
        intro v5 w5 hown5 hgrow5 hnil5
        have O5 : Hid (Owns2 w5 w1.heap.size v5 (rawTo zs (k + 1))) := by
          show World.ownsRow _ _ _ _ _ _ _
          rw [HN.out, HE.out, flat2_append, List.length_append]
          simpa [flat2, Nat.add_assoc] using hown5
        have B5 : Hid (Below w1.heap.size w1 w5) := B4.out.grown hgrow5 (by omega) (fun q e => (O4.out.lt q e).1)
        clear hown5 hgrow5 hnil5 O4 B4 HNW
        go_wp2
        exact ⟨⟨k + 1, _, by omega, by go_num, rfl, O5.out, B5.out⟩, by simp [intOf]; omega⟩
    · have hkn : k = n := by omega
      subst hkn
      have hpos : 0 < (rawTo zs k).length := by
        obtain ⟨j, hj⟩ : ∃ j, k = j + 1 := ⟨k - 1, by omega⟩
        obtain ⟨b, off, r, _, hs, _⟩ := HX.out.at (show j < k by omega)
        rw [hj, rawTo_succ hs]
        simp [rawR]
        omega
      obtain ⟨g, cap2, rfl⟩ : ∃ g cap2, v = .slice (some ⟨g, 0, none⟩) (rawTo zs k).length cap2 := by
        rcases hown.shape with ⟨_, h2⟩ | ⟨g, cap2, h1, _⟩
        · rw [h2] at hpos; simp at hpos
        · exact ⟨g, cap2, h1⟩
      have HO : Hid (Owns2 wr w1.heap.size (.slice (some ⟨g, 0, none⟩) (rawTo zs k).length cap2) (rawTo zs k)) := hown
      have HX2 : Hid (Below w1.heap.size w1 wr) := hnx
      clear hown hnx
      have hln : (rawTo zs k).length ≤ 1000 := by omega
      obtain ⟨xs, hxs⟩ : ∃ xs, xs = rawTo zs k := ⟨_, rfl⟩
      have HXS : Hid (xs = rawTo zs k) := hxs
      rw [← hxs] at HO hln hpos ⊢
      clear hxs hlen
      go_wp2_with fail
      refine (HSo.out g cap2 w1.heap.size xs wr HO.out hln).mono ?_
      rintro e w3 ⟨rfl, ys, hyl, hym, hys, hyo, hb3⟩
      have HY : Hid (ys.length = xs.length ∧ SameM ys xs ∧ ys.Pairwise (fun a b => ltR b a = false) ∧ Owns2 w3 w1.heap.size (.slice (some ⟨g, 0, none⟩) ys.length cap2) ys ∧ Below w1.heap.size w1 w3) := ⟨hyl, hym, hys, by rw [hyl]; exact hyo, HX2.out.trans hb3⟩
      rw [← hyl] at hln ⊢
      clear hyl hym hys hyo hb3 HO HX2 hpos
      go_wp2_with fail
      refine (HCo.out g cap2 w1.heap.size ys w3 HY.out.2.2.2.1 hln HY.out.2.2.1).mono ?_
      rintro e w4 ⟨us, rfl, hss, hsm, huo, hb4⟩
      have B4 : Below w1.heap.size w1 w4 := HY.out.2.2.2.2.trans hb4
      have hz4 := B4.size
      have B0 : Below (w.heap.size + 1) (w.alloc (.cells #[.int .i64 0, .slice none 0 0] 47)) w4 := B1.out.trans (B4.mono hz1')
      have hBx : Below w.heap.size w w4 := ((Below.refl _ _).alloc (Nat.le_refl _) _).trans (B0.mono (by omega))
      have hw : w.heap.size < w4.heap.size := by omega
      have c0 : w4.cell? ⟨w.heap.size, 0, none⟩ = some (.int .i64 0) := (B0.cell (p := ⟨w.heap.size, 0, none⟩) (by simp)).trans (by simp)
      have c1 : w4.cell? ⟨w.heap.size, 1, none⟩ = some (.slice none 0 0) := (B0.cell (p := ⟨w.heap.size, 1, none⟩) (by simp)).trans (by simp)
      have f0 : w4.frozen? ⟨w.heap.size, 0, none⟩ = false := (B0.frozen (p := ⟨w.heap.size, 0, none⟩) (by simp)).trans (by simp [go_sem])
      have f1 : w4.frozen? ⟨w.heap.size, 1, none⟩ = false := (B0.frozen (p := ⟨w.heap.size, 1, none⟩) (by simp)).trans (by simp [go_sem])
      have HF : Hid (SS us ∧ SameM us ys ∧ Owns2 w4 w1.heap.size (.slice (some ⟨g, 0, none⟩) us.length cap2) us) := ⟨hss, hsm, huo⟩
      clear hss hsm huo hb4 B4 B0
      go_wp2
      refine bodyPost_ret (v := .agg #[.int .i64 0, .slice (some ⟨g, 0, none⟩) us.length cap2]) (by simp [results, Try.results25, go_sem, c0, c1, hw]) rfl ⟨us, some ⟨g, 0, none⟩, cap2, HF.out.1, fun x => ?_, rfl, ?_, ?_⟩
      · rw [HF.out.2.1 x, HY.out.2.1 x, HXS.out]
      · have h6 : Owns2 w4 (w.heap.size + 1) (.slice (some ⟨g, 0, none⟩) us.length cap2) us := owns_lower HF.out.2.2 (by omega)
        have h7 := ownsRow_setCell_below (ownsRow_setCell_below h6 (a := ⟨w.heap.size, 0, none⟩) (by simp) (.int .i64 0)) (a := ⟨w.heap.size, 1, none⟩) (by simp) (.slice (some ⟨g, 0, none⟩) us.length cap2)
        exact owns_lower h7 (by omega)
      · exact hBx |>.setCell (Nat.le_refl _) _ |>.setCell (Nat.le_refl _) _

end Go.Proofs.Ytdooocjjohdpjaa

namespace Go.Proofs.Ytdooocjjohdpjaa
open Go.RowKit
set_option linter.unusedVariables false
set_option linter.unusedSimpArgs false

/-- Roles in memory. -/
def RosIn (w : World) (a : Option Addr) (n : Nat) (xs : List RoI) : Prop := xs.length = n ∧ (0 < n → ∃ b off, a = some ⟨b, off, none⟩ ∧ ∀ k r, xs[k]? = some r → w.cell? ⟨b, off + k * 2, none⟩ = some (.int .i64 r.1) ∧ w.cell? ⟨b, off + k * 2 + 1, none⟩ = some (.int .i64 r.2))

theorem RosIn.below {w w' : World} {a : Option Addr} {n : Nat} {xs : List RoI} (h : RosIn w a n xs) (hb : Below w.heap.size w w') : RosIn w' a n xs := by
  refine ⟨h.1, fun hn => ?_⟩
  obtain ⟨b, off, e, k⟩ := h.2 hn
  refine ⟨b, off, e, fun j r hr => ?_⟩
  obtain ⟨h1, h2⟩ := k j r hr
  exact ⟨(hb.cell (p := ⟨b, off + j * 2, none⟩) (World.block_lt_of_cell? w ⟨b, off + j * 2, none⟩ h1)).trans h1, (hb.cell (p := ⟨b, off + j * 2 + 1, none⟩) (World.block_lt_of_cell? w ⟨b, off + j * 2 + 1, none⟩ h2)).trans h2⟩

theorem rosIn_of {w : World} {g : Nat} {xs : List RoI} (h : ∀ j u, (flat2 xs)[j]? = some u → w.cell? ((⟨g, 0, none⟩ : Addr).add j) = some u) : RosIn w (some ⟨g, 0, none⟩) xs.length xs := by
  refine ⟨rfl, fun _ => ⟨g, 0, rfl, fun k r hr => ?_⟩⟩
  have h1 := h _ _ (flat2_fst xs k r hr)
  have h2 := h _ _ (flat2_snd xs k r hr)
  rw [Go.WideShapes.add_plain] at h1 h2
  rw [Nat.zero_add] at h1 h2 ⊢
  exact ⟨h1, h2⟩

theorem mem_takeR (zs : List RoI) (k : Nat) (r : RoI) : r ∈ zs.take k ↔ ∃ j, j < k ∧ zs[j]? = some r := by
  rw [List.mem_iff_getElem?]
  constructor
  · rintro ⟨j, hj⟩
    rw [List.getElem?_take] at hj
    by_cases h : j < k
    · rw [if_pos h] at hj; exact ⟨j, h, hj⟩
    · rw [if_neg h] at hj; cases hj
  · rintro ⟨j, h, hj⟩
    exact ⟨j, by rw [List.getElem?_take, if_pos h]; exact hj⟩

attribute [local go_sem ↓] ro_eql

set_option maxHeartbeats 1000000 in
theorem slIndexR_c (a : Option Addr) (n cap : Nat) (zs : List RoI) (r : RoI) (w : World) (hn : n ≤ 1048576) (h : RosIn w a n zs) :
    Calls Try.prog 164 #[.slice a n cap, .agg #[.int .i64 r.1, .int .i64 r.2]] w fun e w' => (∃ i : Int, e = .returned (.int .i64 i) ∧ ((0 ≤ i ∧ r ∈ zs) ∨ (i = -1 ∧ ¬ r ∈ zs))) ∧ Below w.heap.size w w' := by
  have H : Hid (RosIn w a n zs) := h
  have hz : Hid (zs.length = n) := h.1
  clear h
  have hn' : (n : Int) ≤ 1048576 := by omega
  go_enter Try.func164, Try.ntmps164
  go_wp2
  go_loopw [8] (fun i wr => ∃ k : Nat, k ≤ n ∧ i = .int .i64 (k : Int) ∧ ¬ r ∈ zs.take k ∧ ∃ m, wr = (w.alloc (.cells #[.int .i64 r.1, .int .i64 r.2] 35)).drewN m) (fun i _ => n - (intOf i).toNat)
  case atStart => exact ⟨0, Nat.zero_le _, rfl, by simp, 0, rfl⟩
  case round =>
    obtain ⟨k, hk, rfl, hm, m, rfl⟩ := hrel
    have HM : Hid (¬ r ∈ zs.take k) := hm
    clear hm
    by_cases hlt : k < n
    · obtain ⟨b, off, rfl, hcells⟩ := H.out.2 (by omega)
      obtain ⟨s, hs⟩ : ∃ s, zs[k]? = some s := ⟨_, List.getElem?_eq_getElem (by rw [hz.out]; exact hlt)⟩
      obtain ⟨h0, h1⟩ := hcells k s hs
      have HS : Hid (zs[k]? = some s) := hs
      clear hs hcells
      have hb : b < w.heap.size := World.block_lt_of_cell? w ⟨b, off + k * 2, none⟩ h0
      have b0 : (w.alloc (.cells #[.int .i64 r.1, .int .i64 r.2] 35)).cell? ⟨w.heap.size, 0, none⟩ = some (.int .i64 r.1) := by simp
      have b1 : (w.alloc (.cells #[.int .i64 r.1, .int .i64 r.2] 35)).cell? ⟨w.heap.size, 1, none⟩ = some (.int .i64 r.2) := by simp
      have hlt' : (k : Int) < (n : Int) := by omega
      cases hsame : eqRo r s
      · have HN : Hid (¬ r ∈ zs.take (k + 1)) := by
          show ¬ r ∈ zs.take (k + 1)
          rw [mem_takeR]
          rintro ⟨j, hj, hjs⟩
          by_cases e : j = k
          · subst e
            rw [HS.out] at hjs
            have := (eqRo_iff r s).2 (Option.some.inj hjs).symm
            rw [hsame] at this; cases this
          · exact HM.out ((mem_takeR _ _ _).2 ⟨j, by omega, hjs⟩)
        go_wp2
        go_quiet (fail)
        go_wp2
        exact ⟨⟨k + 1, by omega, by go_num, HN.out, _, rfl⟩, by simp [intOf]; omega⟩
      · have HI : Hid (r ∈ zs) := by
          show r ∈ zs
          rw [(eqRo_iff r s).1 hsame]
          exact List.mem_of_getElem? HS.out
        go_wp2
        go_quiet (fail)
        go_wp2
        go_ret
        exact ⟨⟨_, rfl, Or.inl ⟨by omega, HI.out⟩⟩, by first | exact bdN ((Below.refl _ _).alloc (Nat.le_refl _) _) _ | exact bdN (bdN ((Below.refl _ _).alloc (Nat.le_refl _) _) _) _⟩
    · have hkn : k = n := by omega
      subst hkn
      have HN : Hid (¬ r ∈ zs) := by
        have := HM.out
        rw [List.take_of_length_le (by rw [hz.out]; exact Nat.le_refl _)] at this
        exact this
      go_wp2
      go_ret
      exact ⟨⟨_, rfl, Or.inr ⟨rfl, HN.out⟩⟩, bdN (by go_grown) _⟩

set_option maxHeartbeats 400000 in
theorem slContainsR_c (a : Option Addr) (n cap : Nat) (zs : List RoI) (r : RoI) (w : World) (hn : n ≤ 1048576) (h : RosIn w a n zs) :
    Calls Try.prog 143 #[.slice a n cap, .agg #[.int .i64 r.1, .int .i64 r.2]] w fun e w' => e = .returned (.bool (decide (r ∈ zs))) ∧ Below w.heap.size w w' := by
  have H : Hid (RosIn (w.alloc (.cells #[.int .i64 r.1, .int .i64 r.2] 35)) a n zs) := h.below ((Below.refl _ _).alloc (Nat.le_refl _) _)
  clear h
  go_enter Try.func143, Try.ntmps143
  go_wp2_with fail
  refine (slIndexR_c a n cap zs r _ hn H.out).mono ?_
  rintro e w1 ⟨⟨i, rfl, hi⟩, hb1⟩
  have HX : Hid (decide (0 ≤ i) = decide (r ∈ zs)) := by
    show decide (0 ≤ i) = decide (r ∈ zs)
    rcases hi with ⟨h1, h2⟩ | ⟨rfl, h2⟩
    · simp [h1, h2]
    · simp [h2]
  clear hi
  go_wp2
  go_ret
  exact ⟨by rw [HX.out]; rfl, below_new hb1⟩

attribute [local go_sem] ta11 ta12 ta13 ta14 ta21 ta22 ta23 ta24 ta31 ta32 ta33 ta34 ta41 ta42 ta43 ta44

/-- Two boxes ahead of a call that leaves them. -/
theorem boxes2 {w w1 : World} {o1 : Obj} {h0 h1 : Value} {t : TypeId} (hb : Below ((w.alloc o1).alloc (.cells #[h0, h1] t)).heap.size ((w.alloc o1).alloc (.cells #[h0, h1] t)) w1) :
    w1.cell? ⟨w.heap.size + 1, 0, none⟩ = some h0 ∧ w1.cell? ⟨w.heap.size + 1, 1, none⟩ = some h1 ∧ w.heap.size + 2 ≤ w1.heap.size ∧ Below w.heap.size w w1 := by
  have hz := hb.size
  simp only [World.size_alloc] at hz
  refine ⟨(hb.cell (p := ⟨w.heap.size + 1, 0, none⟩) (by simp)).trans (by simp), (hb.cell (p := ⟨w.heap.size + 1, 1, none⟩) (by simp)).trans (by simp), hz, below_new (below_new hb)⟩

theorem boxes3 {w w1 : World} {h0 h1 : Value} {b : Nat} (o : Obj) (c0 : w1.cell? ⟨b, 0, none⟩ = some h0) (c1 : w1.cell? ⟨b, 1, none⟩ = some h1) (hz : b < w1.heap.size) (hb : Below w.heap.size w w1) :
    ∃ W, w1.alloc o = W ∧ W.cell? ⟨b, 0, none⟩ = some h0 ∧ W.cell? ⟨b, 1, none⟩ = some h1 ∧ b < W.heap.size ∧ Below w.heap.size w W := by
  have hA : Below w1.heap.size w1 (w1.alloc o) := (Below.refl _ _).alloc (Nat.le_refl _) _
  exact ⟨_, rfl, (hA.cell (p := ⟨b, 0, none⟩) hz).trans c0, (hA.cell (p := ⟨b, 1, none⟩) hz).trans c1, Nat.lt_of_lt_of_le hz hA.size, hb.alloc hb.size _⟩

set_option maxRecDepth 100000 in
set_option maxHeartbeats 1000000 in
theorem leans_1 (r : RuleI) (h : RoI) (w : World) (e1 : r.k = 1) :
    Calls Try.prog 108 #[.agg #[.int .i64 r.k, .int .i64 r.ho, .int .i64 r.hn, .int .i64 r.w, .int .i64 r.oo, .int .i64 r.on, .int .i64 r.to, .int .i64 r.tn], .agg #[.int .i64 h.1, .int .i64 h.2]] w fun e w' => e = .returned (.bool (leansB r h)) ∧ Below w.heap.size w w' := by
  obtain ⟨t, ht⟩ : ∃ t, leansB r h = t := ⟨_, rfl⟩
  have HT : Hid (decide (h ∈ ([] : List RoI)) = t) := by rw [← ht]; show _ = leansB r h; simp [leansB, bodyR, e1]
  rw [ht]
  have E1 : Hid (r.k = 1) := e1
  clear e1 ht
  go_enter Try.func108, Try.ntmps108
  go_wp2_with (first | (go_at_call 71; refine (bodyOf_1 r E1.out _).mono ?_; rintro e w1 ⟨rfl, hb0⟩; obtain ⟨c0, c1, hz, hb⟩ := boxes2 hb0; clear hb0) | go_in)
  obtain ⟨W, hW, p0, p1, hzW, hbW⟩ := boxes3 (.cells #[.int .i64 0, .int .i64 0, .int .i64 0] 165) c0 c1 (by omega) hb
  rw [hW]
  clear hW c0 c1 hz hb
  go_region_with (first
    | (go_at_call 191; refine (roles_1 _ _).mono ?_; rintro e w2 ⟨rfl, hb2⟩; have q0 : w2.cell? ⟨w.heap.size + 1, 0, none⟩ = some (.int .i64 h.1) := (hb2.cell (p := ⟨w.heap.size + 1, 0, none⟩) hzW).trans p0; have q1 : w2.cell? ⟨w.heap.size + 1, 1, none⟩ = some (.int .i64 h.2) := (hb2.cell (p := ⟨w.heap.size + 1, 1, none⟩) hzW).trans p1)
    | (go_at_call 143; refine (slContainsR_c none 0 0 [] h _ (by omega) ⟨rfl, fun q => by omega⟩).mono ?_; rintro e w3 ⟨he3, hb3⟩; rw [HT.out] at he3; subst he3))
  all_goals go_wp2
  all_goals go_ret
  all_goals exact ⟨rfl, (hbW.drew.trans (hb2.mono hbW.size)).trans (hb3.mono (Nat.le_trans hbW.size hb2.size))⟩

set_option maxRecDepth 100000 in
set_option maxHeartbeats 1000000 in
theorem leans_2 (r : RuleI) (h : RoI) (w : World) (e1 : r.k = 2) :
    Calls Try.prog 108 #[.agg #[.int .i64 r.k, .int .i64 r.ho, .int .i64 r.hn, .int .i64 r.w, .int .i64 r.oo, .int .i64 r.on, .int .i64 r.to, .int .i64 r.tn], .agg #[.int .i64 h.1, .int .i64 h.2]] w fun e w' => e = .returned (.bool (leansB r h)) ∧ Below w.heap.size w w' := by
  obtain ⟨t, ht⟩ : ∃ t, leansB r h = t := ⟨_, rfl⟩
  have HT : Hid (decide (h ∈ [(r.oo, r.on)]) = t) := by rw [← ht]; show _ = leansB r h; simp [leansB, bodyR, e1]
  rw [ht]
  have E1 : Hid (r.k = 2) := e1
  clear e1 ht
  go_enter Try.func108, Try.ntmps108
  go_wp2_with (first | (go_at_call 71; refine (bodyOf_2 r E1.out _).mono ?_; rintro e w1 ⟨rfl, hb0⟩; obtain ⟨c0, c1, hz, hb⟩ := boxes2 hb0; clear hb0) | go_in)
  obtain ⟨W, hW, p0, p1, hzW, hbW⟩ := boxes3 (.cells #[.int .i64 0, .int .i64 0, .int .i64 0] 165) c0 c1 (by omega) hb
  rw [hW]
  clear hW c0 c1 hz hb
  go_region_with (first
    | (go_at_call 192; refine (roles_2 _ _ _).mono ?_; rintro e w2 ⟨g, rfl, hc2, hb2⟩; have HC2 : Hid (RosIn w2 (some ⟨g, 0, none⟩) ([(r.oo, r.on)]).length ([(r.oo, r.on)])) := rosIn_of hc2; clear hc2; have q0 : w2.cell? ⟨w.heap.size + 1, 0, none⟩ = some (.int .i64 h.1) := (hb2.cell (p := ⟨w.heap.size + 1, 0, none⟩) hzW).trans p0; have q1 : w2.cell? ⟨w.heap.size + 1, 1, none⟩ = some (.int .i64 h.2) := (hb2.cell (p := ⟨w.heap.size + 1, 1, none⟩) hzW).trans p1)
    | (go_at_call 143; refine (slContainsR_c _ _ _ [(r.oo, r.on)] h _ (by simp) HC2.out).mono ?_; rintro e w3 ⟨he3, hb3⟩; rw [HT.out] at he3; subst he3))
  all_goals go_wp2
  all_goals go_ret
  all_goals exact ⟨rfl, (hbW.drew.trans (hb2.mono hbW.size)).trans (hb3.mono (Nat.le_trans hbW.size hb2.size))⟩

set_option maxRecDepth 100000 in
set_option maxHeartbeats 1000000 in
theorem leans_3 (r : RuleI) (h : RoI) (w : World) (e1 : r.k = 3) (e3 : r.tn ≠ h.2) :
    Calls Try.prog 108 #[.agg #[.int .i64 r.k, .int .i64 r.ho, .int .i64 r.hn, .int .i64 r.w, .int .i64 r.oo, .int .i64 r.on, .int .i64 r.to, .int .i64 r.tn], .agg #[.int .i64 h.1, .int .i64 h.2]] w fun e w' => e = .returned (.bool (leansB r h)) ∧ Below w.heap.size w w' := by
  obtain ⟨t, ht⟩ : ∃ t, leansB r h = t := ⟨_, rfl⟩
  have HT : Hid (decide (h ∈ [(r.oo, r.on)]) = t) := by rw [← ht]; show _ = leansB r h; simp [leansB, bodyR, e1, e3]
  rw [ht]
  have b3 : (r.tn == h.2) = false := by simp [e3]
  have E1 : Hid (r.k = 3) := e1
  clear e1 ht e3
  go_enter Try.func108, Try.ntmps108
  go_wp2_with (first | (go_at_call 71; refine (bodyOf_3 r E1.out _).mono ?_; rintro e w1 ⟨rfl, hb0⟩; obtain ⟨c0, c1, hz, hb⟩ := boxes2 hb0; clear hb0; have hlt1 : w.heap.size + 1 < w1.heap.size := by omega) | go_in)
  obtain ⟨W, hW, p0, p1, hzW, hbW⟩ := boxes3 (.cells #[.int .i64 r.oo, .int .i64 r.on, .int .i64 r.tn] 165) c0 c1 (by omega) hb
  rw [hW]
  clear hW c0 c1 hz hb hlt1
  go_region_with (first
    | (go_at_call 193; refine (roles_3 _ _ _ _).mono ?_; rintro e w2 ⟨g, rfl, hc2, hb2⟩; have HC2 : Hid (RosIn w2 (some ⟨g, 0, none⟩) ([(r.oo, r.on)]).length ([(r.oo, r.on)])) := rosIn_of hc2; clear hc2; have q0 : w2.cell? ⟨w.heap.size + 1, 0, none⟩ = some (.int .i64 h.1) := (hb2.cell (p := ⟨w.heap.size + 1, 0, none⟩) hzW).trans p0; have q1 : w2.cell? ⟨w.heap.size + 1, 1, none⟩ = some (.int .i64 h.2) := (hb2.cell (p := ⟨w.heap.size + 1, 1, none⟩) hzW).trans p1)
    | (go_at_call 143; refine (slContainsR_c _ _ _ [(r.oo, r.on)] h _ (by simp) HC2.out).mono ?_; rintro e w3 ⟨he3, hb3⟩; rw [HT.out] at he3; subst he3))
  all_goals go_wp2
  all_goals go_ret
  all_goals exact ⟨rfl, (hbW.drew.trans (hb2.mono hbW.size)).trans (hb3.mono (Nat.le_trans hbW.size hb2.size))⟩

set_option maxRecDepth 100000 in
set_option maxHeartbeats 1000000 in
theorem leans_4 (r : RuleI) (h : RoI) (w : World) (e1 : r.k = 4) :
    Calls Try.prog 108 #[.agg #[.int .i64 r.k, .int .i64 r.ho, .int .i64 r.hn, .int .i64 r.w, .int .i64 r.oo, .int .i64 r.on, .int .i64 r.to, .int .i64 r.tn], .agg #[.int .i64 h.1, .int .i64 h.2]] w fun e w' => e = .returned (.bool (leansB r h)) ∧ Below w.heap.size w w' := by
  obtain ⟨t, ht⟩ : ∃ t, leansB r h = t := ⟨_, rfl⟩
  have HT : Hid (decide (h ∈ [(r.oo, r.on), (r.to, r.tn)]) = t) := by rw [← ht]; show _ = leansB r h; simp [leansB, bodyR, e1]
  rw [ht]
  have E1 : Hid (r.k = 4) := e1
  clear e1 ht
  go_enter Try.func108, Try.ntmps108
  go_wp2_with (first | (go_at_call 71; refine (bodyOf_4 r E1.out _).mono ?_; rintro e w1 ⟨rfl, hb0⟩; obtain ⟨c0, c1, hz, hb⟩ := boxes2 hb0; clear hb0) | go_in)
  obtain ⟨W, hW, p0, p1, hzW, hbW⟩ := boxes3 (.cells #[.int .i64 0, .int .i64 0, .int .i64 0] 165) c0 c1 (by omega) hb
  rw [hW]
  clear hW c0 c1 hz hb
  go_region_with (first
    | (go_at_call 194; refine (roles_4 _ _ _ _ _).mono ?_; rintro e w2 ⟨g, rfl, hc2, hb2⟩; have HC2 : Hid (RosIn w2 (some ⟨g, 0, none⟩) ([(r.oo, r.on), (r.to, r.tn)]).length ([(r.oo, r.on), (r.to, r.tn)])) := rosIn_of hc2; clear hc2; have q0 : w2.cell? ⟨w.heap.size + 1, 0, none⟩ = some (.int .i64 h.1) := (hb2.cell (p := ⟨w.heap.size + 1, 0, none⟩) hzW).trans p0; have q1 : w2.cell? ⟨w.heap.size + 1, 1, none⟩ = some (.int .i64 h.2) := (hb2.cell (p := ⟨w.heap.size + 1, 1, none⟩) hzW).trans p1)
    | (go_at_call 143; refine (slContainsR_c _ _ _ [(r.oo, r.on), (r.to, r.tn)] h _ (by simp) HC2.out).mono ?_; rintro e w3 ⟨he3, hb3⟩; rw [HT.out] at he3; subst he3))
  all_goals go_wp2
  all_goals go_ret
  all_goals exact ⟨rfl, (hbW.drew.trans (hb2.mono hbW.size)).trans (hb3.mono (Nat.le_trans hbW.size hb2.size))⟩

set_option maxRecDepth 100000 in
set_option maxHeartbeats 1000000 in
theorem leans_3t (r : RuleI) (h : RoI) (w : World) (e1 : r.k = 3) (e3 : r.tn = h.2) :
    Calls Try.prog 108 #[.agg #[.int .i64 r.k, .int .i64 r.ho, .int .i64 r.hn, .int .i64 r.w, .int .i64 r.oo, .int .i64 r.on, .int .i64 r.to, .int .i64 r.tn], .agg #[.int .i64 h.1, .int .i64 h.2]] w fun e w' => e = .returned (.bool (leansB r h)) ∧ Below w.heap.size w w' := by
  have E : leansB r h = true := by simp [leansB, e1, e3]
  rw [E]
  have b3 : (r.tn == h.2) = true := by simp [e3]
  have E1 : Hid (r.k = 3) := e1
  clear e1 E e3
  go_enter Try.func108, Try.ntmps108
  go_wp2_with (first | (go_at_call 71; refine (bodyOf_3 r E1.out _).mono ?_; rintro e w1 ⟨rfl, hb0⟩; obtain ⟨c0, c1, hz, hb⟩ := boxes2 hb0; clear hb0; have hlt1 : w.heap.size + 1 < w1.heap.size := by omega) | go_in)
  go_ret
  exact ⟨rfl, hb.alloc hb.size _⟩

theorem leansOn_c (r : RuleI) (h : RoI) (w : World) (hk : 1 ≤ r.k ∧ r.k ≤ 4) :
    Calls Try.prog 108 #[.agg #[.int .i64 r.k, .int .i64 r.ho, .int .i64 r.hn, .int .i64 r.w, .int .i64 r.oo, .int .i64 r.on, .int .i64 r.to, .int .i64 r.tn], .agg #[.int .i64 h.1, .int .i64 h.2]] w fun e w' => e = .returned (.bool (leansB r h)) ∧ Below w.heap.size w w' := by
  have h4 : r.k = 1 ∨ r.k = 2 ∨ r.k = 3 ∨ r.k = 4 := by omega
  rcases h4 with e | e | e | e
  · exact leans_1 r h w e
  · exact leans_2 r h w e
  · by_cases q : r.tn = h.2
    · exact leans_3t r h w e q
    · exact leans_3 r h w e q
  · exact leans_4 r h w e

end Go.Proofs.Ytdooocjjohdpjaa

namespace Go.Proofs.Ytdooocjjohdpjaa
open Go.RowKit
set_option linter.unusedVariables false
set_option linter.unusedSimpArgs false

theorem Try.under24 : Try.prog.underlying 24 = some (.slice 100) := by kernel_rfl

def ruC8 (r : RuleI) : List Value := [.int .i64 r.k, .int .i64 r.ho, .int .i64 r.hn, .int .i64 r.w, .int .i64 r.oo, .int .i64 r.on, .int .i64 r.to, .int .i64 r.tn]

def flat8 : List RuleI → List Value
  | [] => []
  | r :: rs => ruC8 r ++ flat8 rs

theorem flat8_len : ∀ zs : List RuleI, (flat8 zs).length = zs.length * 8
  | [] => rfl
  | r :: rs => by simp [flat8, ruC8, flat8_len rs]; omega

theorem flat8_one : ∀ zs : List RuleI, ∀ u ∈ flat8 zs, u.oneCell' = true
  | [], u, h => by simp [flat8] at h
  | r :: rs, u, h => by
    rcases List.mem_append.1 h with q | q
    · simp [ruC8] at q
      rcases q with rfl | rfl | rfl | rfl | rfl | rfl | rfl | rfl <;> rfl
    · exact flat8_one rs u q

theorem flat8_at : ∀ (zs : List RuleI) (k : Nat) (r : RuleI), zs[k]? = some r → ∀ i, i < 8 → (flat8 zs)[k * 8 + i]? = (ruC8 r)[i]?
  | [], k, r, h, i, hi => by simp at h
  | z :: zs, 0, r, h, i, hi => by
    simp at h
    subst h
    rw [flat8, List.getElem?_append_left (by simp [ruC8]; omega)]
    simp
  | z :: zs, k + 1, r, h, i, hi => by
    have := flat8_at zs k r (by simpa using h) i hi
    rw [flat8, List.getElem?_append_right (by simp [ruC8]; omega), show (k + 1) * 8 + i - (ruC8 z).length = k * 8 + i by simp [ruC8]; omega]
    exact this

/-- The cells of rules, from a block's offset on. -/
theorem rulesAt_of {w : World} {g off : Nat} {zs : List RuleI} (h : ∀ j u, (flat8 zs)[j]? = some u → w.cell? ⟨g, off + j, none⟩ = some u) : RulesAt w g off zs := by
  intro k r hr
  have q : ∀ i, i < 8 → ∀ u, (ruC8 r)[i]? = some u → w.cell? ⟨g, off + k * 8 + i, none⟩ = some u := fun i hi u hu => by
    have := h (k * 8 + i) u ((flat8_at zs k r hr i hi).trans hu)
    rwa [← Nat.add_assoc] at this
  exact ⟨q 0 (by omega) _ rfl, q 1 (by omega) _ rfl, q 2 (by omega) _ rfl, q 3 (by omega) _ rfl, q 4 (by omega) _ rfl, q 5 (by omega) _ rfl, q 6 (by omega) _ rfl, q 7 (by omega) _ rfl⟩

theorem rule_cells {w : World} {g o : Nat} {r : RuleI} (h : RuleAt w g o r) : ∀ j u, (ruC8 r)[j]? = some u → w.cell? ⟨g, o + j, none⟩ = some u := by
  obtain ⟨h0, h1, h2, h3, h4, h5, h6, h7⟩ := h
  intro j u hu
  match j, hu with
  | 0, hu => simp [ruC8] at hu; subst hu; exact h0
  | 1, hu => simp [ruC8] at hu; subst hu; exact h1
  | 2, hu => simp [ruC8] at hu; subst hu; exact h2
  | 3, hu => simp [ruC8] at hu; subst hu; exact h3
  | 4, hu => simp [ruC8] at hu; subst hu; exact h4
  | 5, hu => simp [ruC8] at hu; subst hu; exact h5
  | 6, hu => simp [ruC8] at hu; subst hu; exact h6
  | 7, hu => simp [ruC8] at hu; subst hu; exact h7
  | j + 8, hu => simp [ruC8] at hu

theorem rules_cells {w : World} {g off : Nat} {zs : List RuleI} (h : RulesAt w g off zs) : ∀ j u, (flat8 zs)[j]? = some u → w.cell? ⟨g, off + j, none⟩ = some u := by
  intro j u hu
  have hj : j < zs.length * 8 := by
    rw [← flat8_len]
    by_cases q : j < (flat8 zs).length
    · exact q
    · rw [List.getElem?_eq_none (by omega)] at hu; cases hu
  have hk : j / 8 < zs.length := by omega
  have hr := List.getElem?_eq_getElem hk
  have e := flat8_at zs (j / 8) _ hr (j % 8) (by omega)
  rw [show j / 8 * 8 + j % 8 = j by omega] at e
  have := rule_cells (h (j / 8) _ hr) (j % 8) u (e.symm.trans hu)
  rwa [show off + j / 8 * 8 + j % 8 = off + j by omega] at this

/-- A queue that may be written: its rules, and the room behind them. -/
structure QAt (w : World) (B g off cap : Nat) (ws : List RuleI) : Prop where
  old : B ≤ g
  lt : g < w.heap.size
  at' : RulesAt w g off ws
  le : ws.length ≤ cap
  room : ∀ j, j < cap * 8 → (w.cell? ⟨g, off + j, none⟩).isSome = true ∧ w.frozen? ⟨g, off + j, none⟩ = false

def Q1 (w : World) (B : Nat) (v : Value) (ws : List RuleI) : Prop := ∃ g off cap, v = .slice (some ⟨g, off, none⟩) ws.length cap ∧ QAt w B g off cap ws

/-- What is kept where the queue's block is not touched. -/
theorem QAt.kept {w w' : World} {B g off cap : Nat} {ws : List RuleI} (h : QAt w B g off cap ws) (hs : w.heap.size ≤ w'.heap.size) (hb : w'.heap[g]? = w.heap[g]?) : QAt w' B g off cap ws := by
  have hc : ∀ o, w'.cell? ⟨g, o, none⟩ = w.cell? ⟨g, o, none⟩ := fun o => World.cell?_of_block hb
  have hf : ∀ o, w'.frozen? ⟨g, o, none⟩ = w.frozen? ⟨g, o, none⟩ := fun o => by simp [World.frozen?, hb]
  refine ⟨h.old, Nat.lt_of_lt_of_le h.lt hs, fun k r hr => ?_, h.le, fun j hj => ?_⟩
  · obtain ⟨h0, h1, h2, h3, h4, h5, h6, h7⟩ := h.at' k r hr
    exact ⟨(hc _).trans h0, (hc _).trans h1, (hc _).trans h2, (hc _).trans h3, (hc _).trans h4, (hc _).trans h5, (hc _).trans h6, (hc _).trans h7⟩
  · rw [hc, hf]
    exact h.room j hj

theorem QAt.below {w w' : World} {B g off cap : Nat} {ws : List RuleI} (h : QAt w B g off cap ws) {K : Nat} (hK : g < K) (hb : Below K w w') : QAt w' B g off cap ws := h.kept hb.size (hb.block g hK)

/-- Without its first rule. -/
theorem QAt.pop {w : World} {B g off cap : Nat} {z : RuleI} {ws : List RuleI} (h : QAt w B g off cap (z :: ws)) : QAt w B g (off + 8) (cap - 1) ws := by
  have hl := h.le
  simp only [List.length_cons] at hl
  refine ⟨h.old, h.lt, fun k r hr => ?_, by omega, fun j hj => ?_⟩
  · have := h.at' (k + 1) r (by simpa using hr)
    rwa [show off + (k + 1) * 8 = off + 8 + k * 8 by omega] at this
  · have := h.room (8 + j) (by omega)
    rwa [← Nat.add_assoc] at this

theorem QAt.empty {w : World} {B g off off' : Nat} (h : QAt w B g off 0 []) : QAt w B g off' 0 [] :=
  ⟨h.old, h.lt, fun k r hr => by simp at hr, Nat.le_refl _, fun j hj => by omega⟩

/-- A row that is owned is a queue. -/
theorem q_of_row {w : World} {B : Nat} {v : Value} {ws : List RuleI} (h : w.ownsRow B 100 8 v ws.length (flat8 ws)) (hn : v ≠ .slice none 0 0) : Q1 w B v ws := by
  rcases h.2 with ⟨q, _⟩ | ⟨g, cap, cur, rfl, hB, hg, hnc, hcm, hsz, htk⟩
  · exact absurd q hn
  · refine ⟨g, 0, cap, rfl, hB, (h.lt g rfl).2, rulesAt_of (fun j u hu => ?_), hnc, fun j hj => ?_⟩
    · rw [Nat.zero_add]
      have hj : j < ws.length * 8 := by
        rw [← flat8_len]
        by_cases q : j < (flat8 ws).length
        · exact q
        · rw [List.getElem?_eq_none (by omega)] at hu; cases hu
      exact (h.cellAt j hj).trans hu
    · rw [Nat.zero_add]
      refine ⟨?_, by simp [World.frozen?, hg]⟩
      simp [World.cell?, hg]
      omega

set_option maxRecDepth 100000 in
set_option maxHeartbeats 1000000 in
theorem cloneR_c (a : Option Addr) (n cap : Nat) (zs : List RuleI) (w : World) (hn : n ≤ 1000) (h : RulesIn w a n zs) :
    Calls Try.prog 105 #[.slice a n cap] w fun e w' => ∃ v, e = .returned v ∧ (n = 0 → ∃ a' c', v = .slice a' 0 c') ∧ (0 < n → Q1 w' w.heap.size v zs) ∧ Below w.heap.size w w' := by
  obtain ⟨i0, hi, hz0, hz1, hz2⟩ := info_parts Try.info100
  have HZ : Hid (zs.length = n) := h.1
  cases a with
  | none =>
    have hn0 : n = 0 := by
      by_cases q : 0 < n
      · obtain ⟨_, _, e, _⟩ := h.2 q; cases e
      · omega
    subst hn0
    clear h
    have hq := fun w => Go.Lib.run_eql_slice_nil (P := Try.prog) w 24 _ (none : Option Addr) 0 cap 0 0 Try.under24
    go_enter Try.func105, Try.ntmps105
    go_wp2
    go_ret
    exact ⟨_, rfl, fun _ => ⟨_, _, rfl⟩, fun q => by omega, Below.refl _ _⟩
  | some ad =>
    have HC : Hid (∀ j u, (flat8 zs)[j]? = some u → (w.alloc (.cells #[] 100)).cell? (ad.add j) = some u) := by
      intro j u hu
      have hj : j < zs.length * 8 := by
        rw [← flat8_len]
        by_cases q : j < (flat8 zs).length
        · exact q
        · rw [List.getElem?_eq_none (by omega)] at hu; cases hu
      have hz := h.1
      obtain ⟨b, off, e, hat⟩ := h.2 (by omega)
      cases e
      rw [Go.WideShapes.add_plain]
      have h1 := rules_cells hat j u hu
      exact (((Below.refl _ w).alloc (Nat.le_refl _) _).cell (p := ⟨b, off + j, none⟩) (World.block_lt_of_cell? w ⟨b, off + j, none⟩ h1)).trans h1
    clear h
    have hq := fun w => Go.Lib.run_eql_slice_nil (P := Try.prog) w 24 _ (some ad) n cap 0 0 Try.under24
    go_enter Try.func105, Try.ntmps105
    go_wp2_with (first | (at_builtin; refine wpList_append_own _ rfl _ _ 24 rfl w.heap.size 100 i0 (.agg #[.int .i64 0, .int .i64 0, .int .i64 0, .int .i64 0, .int .i64 0, .int .i64 0, .int .i64 0, .int .i64 0]) 8 64 Try.under24 hi hz0 hz1 hz2 rfl (by decide) (.slice (some ⟨w.heap.size, 0, none⟩) 0 0) 0 [] rfl ?c0 ad n cap (flat8 zs) rfl ?cl ?c1 ?c2 ?c3 ?c4 ?c5 ?_))
    case c0 => exact World.ownsRow_lit w #[] 0 (Nat.le_refl _) (Nat.zero_le _) rfl
    case cl => rw [flat8_len, HZ.out]
    case c1 => exact HC.out
    case c2 => exact flat8_one zs
    case c3 => unfold maxLen; omega
    case c4 => omega
    case c5 => simp
    · intro v1 w1 hown hgrow hnil
      have hnn : v1 ≠ .slice none 0 0 := by first | exact hnil | simpa using hnil
      have R1 : w1.ownsRow w.heap.size 100 8 v1 zs.length (flat8 zs) := by
        rw [HZ.out]
        simpa using hown
      have R2 : Below w.heap.size w w1 := ((Below.refl _ _).alloc (Nat.le_refl _) _).grown hgrow (by simp) (fun j hj => by simp [Value.ownBlock] at hj; omega)
      have hq := q_of_row R1 hnn
      have HQ : Hid (Q1 w1 w.heap.size v1 zs) := hq
      clear R1 hown hgrow hnil hnn hq
      go_wp2
      go_ret
      refine ⟨v1, rfl, fun q => ?_, fun _ => HQ.out, R2⟩
      obtain ⟨g, off, c, e, _⟩ := HQ.out
      rw [HZ.out, q] at e
      exact ⟨_, _, e⟩

end Go.Proofs.Ytdooocjjohdpjaa

namespace Go.Proofs.Ytdooocjjohdpjaa
open Go

/-- As Q; by a goto: what is to hold at that label. -/
def jumpsTo (J : Nat → Act → World → Prop) (Q : Exit → Act → World → Prop) : Exit → Act → World → Prop
  | .goto l, a, w => J l a w
  | e, a, w => Q e a w

theorem wp_weaken {P : Program} {c : Code} {Q Q' : Exit → Act → World → Prop} {a : Act} {w : World} (h : c.wp P Q a w) (hq : ∀ e a w, Q e a w → Q' e a w) : c.wp P Q' a w := by
  intro b k cs
  obtain ⟨e, a', w', h1, h2⟩ := h b k cs
  exact ⟨e, a', w', hq e a' w' h1, h2⟩

theorem wp_scope_labels {P : Program} {c : Code} {Q : Exit → Act → World → Prop} {a : Act} {w : World} (rest : Nat → Code) (J : Nat → Nat → Act → World → Prop) (hf : ∀ l m a w, J l m a w → findLabel c l = some (rest l))
    (first : c.wp P (jumpsTo (fun l a' w' => ∃ m, J l m a' w') Q) a w)
    (pass : ∀ l m a w, J l m a w → (rest l).wp P (jumpsTo (fun l' a' w' => ∃ m', m' < m ∧ J l' m' a' w') Q) a w) : (Code.scope c).wp P Q a w := by
  intro b k cs
  have again : ∀ m l a w, J l m a w → ∃ e a' w', Q e a' w' ∧ Arrives P (lone (b.at a (.code (rest l) :: .inScope c :: k)) cs w) b k cs e a' w' := by
    intro m
    induction m using Nat.strongRecOn with
    | _ m ih =>
      intro l a w hJ
      obtain ⟨e, a1, w1, hq, har⟩ := pass l m a w hJ b (.inScope c :: k) cs
      cases e with
      | goto l' =>
        obtain ⟨m', hlt, hJ'⟩ := hq
        obtain ⟨e2, a2, w2, hq2, har2⟩ := ih m' hlt l' a1 w1 hJ'
        have hg : gotoIn l' (.inScope c :: k) = some (.code (rest l') :: .inScope c :: k) := by simp [gotoIn, hf l' m' a1 w1 hJ']
        exact ⟨e2, a2, w2, hq2, .of_steps (har _ hg) har2⟩
      | normal => exact ⟨.normal, a1, w1, hq, Steps.trans har (.one step_inScope)⟩
      | exit id => exact ⟨.exit id, a1, w1, hq, fun k' hk => har k' (by simp [exitTo, hk])⟩
      | ret => exact ⟨_, a1, w1, hq, har⟩
      | panic ch => exact ⟨_, a1, w1, hq, har⟩
      | outgrown => exact ⟨_, a1, w1, hq, har⟩
  obtain ⟨e, a1, w1, hq, har⟩ := first b (.inScope c :: k) cs
  cases e with
  | goto l =>
    obtain ⟨m, hJ⟩ := hq
    obtain ⟨e2, a2, w2, hq2, har2⟩ := again m l a1 w1 hJ
    have hg : gotoIn l (.inScope c :: k) = some (.code (rest l) :: .inScope c :: k) := by simp [gotoIn, hf l m a1 w1 hJ]
    exact ⟨e2, a2, w2, hq2, .of_steps (.head step_scope (har _ hg)) har2⟩
  | normal => exact ⟨.normal, a1, w1, hq, .head step_scope (Steps.trans har (.one step_inScope))⟩
  | exit id => exact ⟨.exit id, a1, w1, hq, fun k' hk => .head step_scope (har k' (by simp [exitTo, hk]))⟩
  | ret => exact ⟨_, a1, w1, hq, .of_steps (.one step_scope) har⟩
  | panic ch => exact ⟨_, a1, w1, hq, .of_steps (.one step_scope) har⟩
  | outgrown => exact ⟨_, a1, w1, hq, .of_steps (.one step_scope) har⟩

/-- .. the first pass may lean on what is shown of the others. -/
theorem wp_scope_labels2 {P : Program} {c : Code} {Q : Exit → Act → World → Prop} {a : Act} {w : World} (rest : Nat → Code) (J : Nat → Nat → Act → World → Prop) (hf : ∀ l m a w, J l m a w → findLabel c l = some (rest l))
    (first : (∀ l m a w, J l m a w → (rest l).wp P (jumpsTo (fun l' a' w' => ∃ m', m' < m ∧ J l' m' a' w') Q) a w) → c.wp P (jumpsTo (fun l a' w' => ∃ m, J l m a' w') Q) a w)
    (pass : ∀ l m a w, J l m a w → (rest l).wp P (jumpsTo (fun l' a' w' => ∃ m', m' < m ∧ J l' m' a' w') Q) a w) : (Code.scope c).wp P Q a w :=
  wp_scope_labels rest J hf (first pass) pass

theorem jumps_weaken {J : Nat → Act → World → Prop} {J' : Nat → Act → World → Prop} {Q : Exit → Act → World → Prop} (h : ∀ l a w, J l a w → J' l a w) : ∀ e a w, jumpsTo J Q e a w → jumpsTo J' Q e a w
  | .goto l, a, w, q => h l a w q
  | .normal, _, _, q => q
  | .exit _, _, _, q => q
  | .ret, _, _, q => q
  | .panic _, _, _, q => q
  | .outgrown, _, _, q => q

def two (x y : Code) : Nat → Code
  | 0 => x
  | _ => y

/-- Two labels, the code behind each; the first pass may lean on what is shown of the first label. -/
theorem wp_scope_two {P : Program} {c r0 r1 : Code} {Q : Exit → Act → World → Prop} {a : Act} {w : World} (J : Nat → Nat → Act → World → Prop) (hf0 : findLabel c 0 = some (Code.seq .skip r0)) (hf1 : findLabel c 1 = some (Code.seq .skip r1)) (hJ : ∀ l m a w, J l m a w → l = 0 ∨ l = 1)
    (first : (∀ m a w, J 0 m a w → r0.wp P (jumpsTo (fun l' a' w' => ∃ m', m' < m ∧ J l' m' a' w') Q) a w) → c.wp P (jumpsTo (fun l a' w' => ∃ m, J l m a' w') Q) a w)
    (core0 : ∀ m a w, J 0 m a w → r0.wp P (jumpsTo (fun l' a' w' => ∃ m', m' < m ∧ J l' m' a' w') Q) a w)
    (core1 : ∀ m a w, J 1 m a w → r1.wp P (jumpsTo (fun l' a' w' => ∃ m', m' < m ∧ J l' m' a' w') Q) a w) : (Code.scope c).wp P Q a w := by
  refine wp_scope_labels (two (Code.seq .skip r0) (Code.seq .skip r1)) J ?_ (first core0) ?_
  · intro l m a w h
    rcases hJ l m a w h with rfl | rfl
    · exact hf0
    · exact hf1
  · intro l m a w h
    rcases hJ l m a w h with rfl | rfl
    · exact wp_seq (wp_skip (core0 m a w h))
    · exact wp_seq (wp_skip (core1 m a w h))

end Go.Proofs.Ytdooocjjohdpjaa
