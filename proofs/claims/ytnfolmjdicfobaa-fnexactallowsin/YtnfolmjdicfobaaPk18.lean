/-
  CONTRACT: (impl.grantMap).told: whom a rule gives its head, by what is in the map.
  Conditions: each contract bears its own.
  CONTRACTS: spec.l2Put, a role put into its place.
  Conditions: each contract bears its own.
  CONTRACTS: spec.l2Roles, spec.RolesIn.
  Conditions: each contract bears its own.
-/
import Derived.Test.YtnfolmjdicfobaaPk15
import Derived.Test.YtnfolmjdicfobaaPk08
import Derived.Deep.RegionHeld3
import Derived.Deep.RegionWith
import Derived.Test.YtnfolmjdicfobaaPk04
import Derived.Test.YtnfolmjdicfobaaPk02
import Derived.BigQuiet
import Derived.Deep.QuietTactic
import Derived.Deep.AppendLies
import Derived.Deep.DeepCutAuto
import Derived.Deep.CutBlock
import Derived.Test.YtnfolmjdicfobaaPk07
namespace Go.Proofs.Ytnfolmjdicfobaa
open Go.RowKit Go.Maps
set_option linter.unusedVariables false
set_option linter.unusedSimpArgs false

attribute [local go_sem] ta11 ta12 ta13 ta14 ta21 ta22 ta23 ta24 ta31 ta32 ta33 ta34 ta41 ta42 ta43 ta44

theorem look_gm (w : World) {ops : Array Oper} {rest : List Oper} {o : Oper} {a : Act} {Q : Exit → Act → World → Prop} (hg : o.guard = none) (m x : Operand) (hop : o.op = Op.lookup 116 m x false)
    (b : Nat) (f : RoI → Int) (r : RoI) (hm : a.eval m = .map (some b)) (hx : a.eval x = .agg #[.int .i64 r.1, .int .i64 r.2]) {w1 : World} (hG : GM w1 b f) (hB : Below w1.heap.size w1 w) (hr : roW r)
    (hK : wpList Try.prog ops Q rest (a.put o.dst (.int .u8 (f r))) w) : wpList Try.prog ops Q (o :: rest) a w := by
  refine wpList_plain hg fun K' hK' => ?_
  have hrun := gm_look (hG.below hG.lt hB) hr
  unfold Oper.wp
  simp only [roV] at hrun
  simp [execOp, hop, hm, hx, hrun, Result.andThen]
  exact hK' _ _ hK

theorem bn_new {w w1 : World} {o : Obj} (h : Below (w.alloc o).heap.size (w.alloc o) w1) : Below w.heap.size w w1 := ((Below.refl _ _).alloc (Nat.le_refl _) _).trans (h.mono (by simp))

theorem rule_has {r : RuleI} (h : ruleCode r = 0) : 1 ≤ r.k ∧ r.k ≤ 4 ∧ roleB r.ho r.hn = true ∧ hasB r = true := by
  unfold ruleCode at h
  split at h
  · cases h
  · rename_i h1
    split at h
    · cases h
    · rename_i h2
      split at h
      · cases h
      · split at h
        · cases h
        · rename_i h4
          exact ⟨by omega, by omega, by simpa using h2, by simpa using h4⟩


set_option maxRecDepth 100000 in
set_option maxHeartbeats 400000 in
theorem told_1 (b : Nat) (f : RoI → Int) (r : RuleI) (w : World) (h : GM w b f) (hc : ruleCode r = 0) (e1 : r.k = 1) :
    Calls Try.prog 101 #[.map (some b), .agg #[.int .i64 r.k, .int .i64 r.ho, .int .i64 r.hn, .int .i64 r.w, .int .i64 r.oo, .int .i64 r.on, .int .i64 r.to, .int .i64 r.tn]] w fun e w' => e = .returned (.int .u8 (byF f r)) ∧ Below w.heap.size w w' := by
  have hh := (rule_has hc).2.2.2
  have hp : 1 ≤ r.w ∧ r.w ≤ 8 := by simpa [hasB, e1, prinB] using hh
  have eb : byF f r = bitI r.w := by simp [byF, e1]
  rw [eb]
  have E1 : Hid _ := e1
  clear hh eb hc e1
  go_enter Try.func101, Try.ntmps101
  go_wp2_with (first | (go_at_call 89; refine (bodyOf_1 r E1.out _).mono ?_; rintro e w1 ⟨rfl, hb0⟩; have hb := bn_new hb0; clear hb0) | (go_at_call 104; refine (bitOf_c r.w hp.1 hp.2 _).mono ?_; rintro e w2 ⟨rfl, rfl⟩) | go_in)
  go_ret
  exact ⟨rfl, hb.alloc hb.size _⟩

set_option maxRecDepth 100000 in
set_option maxHeartbeats 400000 in
theorem told_2 (b : Nat) (f : RoI → Int) (r : RuleI) (w : World) (h : GM w b f) (hc : ruleCode r = 0) (e1 : r.k = 2) :
    Calls Try.prog 101 #[.map (some b), .agg #[.int .i64 r.k, .int .i64 r.ho, .int .i64 r.hn, .int .i64 r.w, .int .i64 r.oo, .int .i64 r.on, .int .i64 r.to, .int .i64 r.tn]] w fun e w' => e = .returned (.int .u8 (byF f r)) ∧ Below w.heap.size w w' := by
  have hh := (rule_has hc).2.2.2
  have hp : roleB r.oo r.on = true := by simpa [hasB, e1] using hh
  have eb : byF f r = f (r.oo, r.on) := by simp [byF, e1]
  rw [eb]
  have E1 : Hid _ := e1
  clear hh eb hc e1
  go_enter Try.func101, Try.ntmps101
  go_wp2_with (first | (go_at_call 89; refine (bodyOf_2 r E1.out _).mono ?_; rintro e w1 ⟨rfl, hb0⟩; have hb := bn_new hb0; clear hb0) | (at_lookup; refine look_gm _ rfl _ _ rfl b f (r.oo, r.on) rfl rfl h (hb.alloc hb.size _) (roW_of hp) ?_) | go_in)
  go_ret
  exact ⟨rfl, hb.alloc hb.size _⟩


set_option maxRecDepth 100000 in
set_option maxHeartbeats 400000 in
theorem told_3 (b : Nat) (f : RoI → Int) (r : RuleI) (w : World) (h : GM w b f) (hc : ruleCode r = 0) (e1 : r.k = 3) :
    Calls Try.prog 101 #[.map (some b), .agg #[.int .i64 r.k, .int .i64 r.ho, .int .i64 r.hn, .int .i64 r.w, .int .i64 r.oo, .int .i64 r.on, .int .i64 r.to, .int .i64 r.tn]] w fun e w' => e = .returned (.int .u8 (byF f r)) ∧ Below w.heap.size w w' := by
  have hh := (rule_has hc).2.2.2
  have hp : roleB r.oo r.on = true ∧ 1 ≤ r.tn ∧ r.tn ≤ 5 := by simpa [hasB, e1, nameB] using hh
  have eb : byF f r = linkTo f r.tn (listTo (f (r.oo, r.on)) 8) (listTo (f (r.oo, r.on)) 8).length := by simp [byF, e1]
  rw [eb]
  have E1 : Hid _ := e1
  clear hh eb hc e1
  go_enter Try.func101, Try.ntmps101
  go_wp2_with (first | (go_at_call 89; refine (bodyOf_3 r E1.out _).mono ?_; rintro e w1 ⟨rfl, hb0⟩; have hb := bn_new hb0; clear hb0) | go_in)
  have hB1 := hb.alloc hb.size (.cells #[.int .i64 r.oo, .int .i64 r.on, .int .i64 r.tn] 155)
  have hG1 := h.below h.lt hB1
  have hl := gm_look (w := (w1.alloc (.cells #[.int .i64 r.oo, .int .i64 r.on, .int .i64 r.tn] 155)).drew) (gm_heap hG1 rfl) (roW_of (r := (r.oo, r.on)) hp.1)
  simp only [roV] at hl
  have HG : Hid (GM (w1.alloc (.cells #[.int .i64 r.oo, .int .i64 r.on, .int .i64 r.tn] 155)).drew b f) := gm_heap hG1 rfl
  have HB : Hid (Below w.heap.size w (w1.alloc (.cells #[.int .i64 r.oo, .int .i64 r.on, .int .i64 r.tn] 155)).drew) := hB1.drew
  have HS : Hid (setB (f (r.oo, r.on))) := h.fn.st _
  clear hB1 hG1 h hb
  go_region_with (first | (go_at_call 111; refine (linked_c b f (f (r.oo, r.on)) r.tn _ HG.out HS.out hp.2.1 hp.2.2).mono ?_; rintro e w2 ⟨rfl, hb2⟩))
  all_goals go_wp2
  all_goals go_ret
  all_goals exact ⟨rfl, HB.out.trans (hb2.mono HB.out.size)⟩

set_option maxRecDepth 100000 in
set_option maxHeartbeats 400000 in
theorem told_4 (b : Nat) (f : RoI → Int) (r : RuleI) (w : World) (h : GM w b f) (hc : ruleCode r = 0) (e1 : r.k = 4) :
    Calls Try.prog 101 #[.map (some b), .agg #[.int .i64 r.k, .int .i64 r.ho, .int .i64 r.hn, .int .i64 r.w, .int .i64 r.oo, .int .i64 r.on, .int .i64 r.to, .int .i64 r.tn]] w fun e w' => e = .returned (.int .u8 (byF f r)) ∧ Below w.heap.size w w' := by
  have hh := (rule_has hc).2.2.2
  have hp : roleB r.oo r.on = true ∧ roleB r.to r.tn = true := by simpa [hasB, e1] using hh
  have eb : byF f r = bits .and .u8 (f (r.oo, r.on)) (f (r.to, r.tn)) := by simp [byF, e1, u8_and _ _ (h.fn.st _) (h.fn.st _)]
  rw [eb]
  have E1 : Hid _ := e1
  clear hh eb hc e1
  go_enter Try.func101, Try.ntmps101
  go_wp2_with (first | (go_at_call 89; refine (bodyOf_4 r E1.out _).mono ?_; rintro e w1 ⟨rfl, hb0⟩; have hb := bn_new hb0; clear hb0) | go_in)
  have hB1 := hb.alloc hb.size (.cells #[.int .i64 r.oo, .int .i64 r.on, .int .i64 r.to, .int .i64 r.tn] 157)
  have hG1 := h.below h.lt hB1
  have hl1 := fun m => gm_look (w := (w1.alloc (.cells #[.int .i64 r.oo, .int .i64 r.on, .int .i64 r.to, .int .i64 r.tn] 157)).drewN m) (gm_heap hG1 rfl) (roW_of (r := (r.oo, r.on)) hp.1)
  have hl2 := fun m => gm_look (w := (w1.alloc (.cells #[.int .i64 r.oo, .int .i64 r.on, .int .i64 r.to, .int .i64 r.tn] 157)).drewN m) (gm_heap hG1 rfl) (roW_of (r := (r.to, r.tn)) hp.2)
  simp only [roV] at hl1 hl2
  have HB : Hid (Below w.heap.size w (w1.alloc (.cells #[.int .i64 r.oo, .int .i64 r.on, .int .i64 r.to, .int .i64 r.tn] 157))) := hB1
  clear hB1 hG1 h hb
  go_quiet (fail)
  go_wp2
  go_ret
  exact ⟨rfl, bdN HB.out _⟩

end Go.Proofs.Ytnfolmjdicfobaa

namespace Go.Proofs.Ytnfolmjdicfobaa
open Go.RowKit
set_option linter.unusedVariables false
set_option linter.unusedSimpArgs false

theorem Try.info76 : (Try.prog.info? 76).map (fun i => (i.zero, i.size, i.bytes)) = some (some (.agg #[.int .i64 0, .int .i64 0]), 2, 16) := by kernel_rfl

theorem drewN2 (W : World) (a b : Nat) : (W.drewN a).drewN b = W.drewN (a + b) := by simp [World.drewN, Nat.add_assoc]

def sameR (p q : RoI) : Bool := p.1 == q.1 && p.2 == q.2
theorem sameR_iff (p q : RoI) : sameR p q = true ↔ p = q := by
  obtain ⟨a, b⟩ := p
  obtain ⟨c, d⟩ := q
  simp [sameR]

set_option maxHeartbeats 400000 in
theorem role_eql (p q : RoI) (w : World) : (binOp .eql 76 (.agg #[.int .i64 p.1, .int .i64 p.2]) (.agg #[.int .i64 q.1, .int .i64 q.2])).run Try.prog w = .ok (.bool (sameR p q)) w := by
  obtain ⟨a0, a1⟩ := p
  obtain ⟨b0, b1⟩ := q
  simp only [sameR]
  cases e0 : (a0 == b0)
  · simp [go_sem, e0]
  cases e1 : (a1 == b1)
  · simp [go_sem, e0, e1]
  · simp [go_sem, e0, e1]

attribute [local go_sem ↓] role_eql

/-- An append at a step of a region that draws its order. -/
theorem step_append_own2 {P : Program} {w : World} {ops : Array Oper} {o : Oper} {a : Act} {K : Act → World → Prop} {Q : Exit → Act → World → Prop} {E : Prop} (hgd : o.guard = none) (s x : Operand) (t : TypeId)
    (ho : o.op = .call { callee := .builtin .append, args := #[s, x], argTypes := #[t, t] })
    (base : Nat) (e : TypeId) (i : TypeInfo) (z : Value) (size bytes : Nat) (ht : P.underlying t = some (.slice e)) (hi : P.info? e = some i) (hz : i.zero = some z)
    (hsize : i.size = size) (hby : i.bytes = bytes) (hzs : z.cells.size = size) (hsz : 0 < size)
    (v : Value) (n : Nat) (xs : List Value) (hs : a.eval s = v) (hown : w.ownsRow base e size v n xs)
    (ad : Addr) (m c : Nat) (news : List Value) (hx : a.eval x = .slice (some ad) m c) (hl : news.length = m * size) (hnews : ∀ j u, news[j]? = some u → w.cell? (ad.add j) = some u) (h1 : ∀ u ∈ news, u.oneCell' = true)
    (h63 : n + m ≤ maxLen) (hbytes : (n + m) * bytes ≤ 140737488355328) (hbase : base ≤ w.heap.size)
    (h : ∀ v' w', w'.ownsRow base e size v' (n + m) (xs ++ news) → w.grownBy w' v.ownBlock → (v' = .slice none 0 0 ↔ v = .slice none 0 0 ∧ m = 0) → K (a.put o.dst v') w') :
    if Region.wanted o (yielded ops a.tmps) = true then Oper.wp P o a w K Q else E := by
  have hw : Region.wanted o (yielded ops a.tmps) = true := by simp [Region.wanted, hgd]
  rw [if_pos hw]
  exact wp_append_own w s x t ho base e i z size bytes ht hi hz hsize hby hzs hsz v n xs hs hown ad m c news hx hl hnews h1 h63 hbytes hbase h

theorem kpB {Bd : Nat} {W w' : World} (hb : Below Bd W w') : (∀ b o, b < Bd → w'.cell? ⟨b, o, none⟩ = W.cell? ⟨b, o, none⟩) ∧ Below Bd W w' :=
  ⟨fun b o h => hb.cell (p := ⟨b, o, none⟩) h, hb⟩

theorem news_take {w w' : World} {B Bd g n cap k : Nat} {zs : List RoI} (hz : n = zs.length) (h : Owns2 w B (.slice (some ⟨g, 0, none⟩) n cap) zs) (hg : g < Bd) (hb : Below Bd w w') (hk : k ≤ n) : ∀ j u, (flat2 (zs.take k))[j]? = some u → w'.cell? ((⟨g, 0, none⟩ : Addr).add j) = some u := by
  intro j u hj
  subst hz
  have h0 : w.ownsRow B 76 2 (.slice (some ⟨g, 0, none⟩) zs.length cap) zs.length (flat2 zs) := h
  have hjl : j < k * 2 := by
    by_cases q : j < k * 2
    · exact q
    · rw [List.getElem?_eq_none (by rw [flat2_len, List.length_take]; omega)] at hj; cases hj
  rw [Go.WideShapes.add_plain, Nat.zero_add, hb.cell (p := ⟨g, j, none⟩) hg, h0.cellAt j (by omega)]
  rw [flat2_take, List.getElem?_take, if_pos hjl] at hj
  exact hj

theorem news_drop {w w' : World} {B Bd g n cap k : Nat} {zs : List RoI} (hz : n = zs.length) (h : Owns2 w B (.slice (some ⟨g, 0, none⟩) n cap) zs) (hg : g < Bd) (hb : Below Bd w w') (hk : k ≤ n) : ∀ j u, (flat2 (zs.drop k))[j]? = some u → w'.cell? ((⟨g, k * 2, none⟩ : Addr).add j) = some u := by
  intro j u hj
  subst hz
  have h0 : w.ownsRow B 76 2 (.slice (some ⟨g, 0, none⟩) zs.length cap) zs.length (flat2 zs) := h
  have hjl : j < (zs.length - k) * 2 := by
    by_cases q : j < (zs.length - k) * 2
    · exact q
    · rw [List.getElem?_eq_none (by rw [flat2_len, List.length_drop]; omega)] at hj; cases hj
  rw [Go.WideShapes.add_plain, hb.cell (p := ⟨g, k * 2 + j, none⟩) hg, h0.cellAt (k * 2 + j) (by omega)]
  rw [flat2_drop, List.getElem?_drop] at hj
  exact hj

theorem owns_lower {w : World} {B B' : Nat} {v : Value} {n : Nat} {xs : List Value} (h : w.ownsRow B 76 2 v n xs) (hb : B' ≤ B) : w.ownsRow B' 76 2 v n xs := by
  refine ⟨h.1, ?_⟩
  rcases h.2 with h' | ⟨g, cap, cur, e, hg, rest⟩
  · exact .inl h'
  · exact .inr ⟨g, cap, cur, e, Nat.le_trans hb hg, rest⟩

theorem owns2_shape {w : World} {b : Nat} {v : Value} {n : Nat} {xs : List Value} (h : w.ownsRow b 76 2 v n xs) (hv : v ≠ .slice none 0 0) : ∃ g cap, v = .slice (some ⟨g, 0, none⟩) n cap := by
  rcases h.2 with ⟨h', _⟩ | ⟨g, cap, cur, h', _⟩
  · exact absurd h' hv
  · exact ⟨g, cap, h'⟩

end Go.Proofs.Ytnfolmjdicfobaa

namespace Go.Proofs.Ytnfolmjdicfobaa
open Go.RowKit
set_option linter.unusedVariables false
set_option linter.unusedSimpArgs false

/-- The same members. -/
def SameM (ys : List RoI) (xs : List RoI) : Prop := ∀ x, x ∈ ys ↔ x ∈ xs

theorem SameM.put {ys zs xs : List RoI} {r : RoI} (h : SameM zs xs) (k : ∀ x, x ∈ ys ↔ x = r ∨ x ∈ zs) : SameM ys (xs ++ [r]) := fun x => by
  rw [k x, h x, List.mem_append]
  simp
  constructor
  · rintro (h | h)
    · exact .inr h
    · exact .inl h
  · rintro (h | h)
    · exact .inr h
    · exact .inl h

/-- What stands while the roles are gathered. -/
structure PutS (w wr : World) (v : Value) (xs : List RoI) : Prop where
  ex : ∃ (g m cap : Nat) (ys : List RoI), v = .slice (some ⟨g, 0, none⟩) m cap ∧ m = ys.length ∧ m ≤ xs.length ∧ Owns2 wr w.heap.size (.slice (some ⟨g, 0, none⟩) m cap) ys ∧ SS ys ∧ SameM ys xs
  bel : Below w.heap.size w wr

/-- What a call of RolesIn gives: a code, or the roles, strictly rising, in memory of their own. -/
def GivesR (f : Nat) (a : Option Addr) (n cap : Nat) (c : Int) (ys : List RoI) (w : World) : Prop := Calls Try.prog f #[.slice a n cap] w fun e w' => ∃ (a' : Option Addr) (cap' : Nat), e = .returned (.agg #[.int .i64 c, .slice a' ys.length cap']) ∧ Owns2 w' w.heap.size (.slice a' ys.length cap') ys ∧ Below w.heap.size w w'

end Go.Proofs.Ytnfolmjdicfobaa
