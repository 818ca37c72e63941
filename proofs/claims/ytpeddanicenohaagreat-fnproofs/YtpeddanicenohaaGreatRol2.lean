/-
  CONTRACTS: spec.l2Put, a role put into its place.
  Conditions: each contract bears its own.
-/
import Derived.Test.YtpeddanicenohaaGreatRol1
import Derived.Test.YtpeddanicenohaaGreatPol1
import Derived.BigQuiet
import Derived.Deep.QuietTactic
import Derived.Deep.RegionHeld3
import Derived.Deep.AppendLies
import Derived.Deep.DeepCutAuto
import Derived.Deep.CutBlock
namespace Go.Proofs.YtpeddanicenohaaGreat
open Go.RowKit
set_option linter.unusedVariables false
set_option linter.unusedSimpArgs false

theorem Tryz.info26 : (Tryz.prog.info? 26).map (fun i => (i.zero, i.size, i.bytes)) = some (some (.agg #[.int .i64 0, .int .i64 0]), 2, 16) := by kernel_rfl

theorem drewN2 (W : World) (a b : Nat) : (W.drewN a).drewN b = W.drewN (a + b) := by simp [World.drewN, Nat.add_assoc]

def sameR (p q : RoI) : Bool := p.1 == q.1 && p.2 == q.2
theorem sameR_iff (p q : RoI) : sameR p q = true ↔ p = q := by
  obtain ⟨a, b⟩ := p
  obtain ⟨c, d⟩ := q
  simp [sameR]

set_option maxHeartbeats 400000 in
theorem role_eql (p q : RoI) (w : World) : (binOp .eql 26 (.agg #[.int .i64 p.1, .int .i64 p.2]) (.agg #[.int .i64 q.1, .int .i64 q.2])).run Tryz.prog w = .ok (.bool (sameR p q)) w := by
  obtain ⟨a0, a1⟩ := p
  obtain ⟨b0, b1⟩ := q
  simp only [sameR]
  cases e0 : (a0 == b0)
  · simp [go_sem, e0]
  cases e1 : (a1 == b1)
  · simp [go_sem, e0, e1]
  · simp [go_sem, e0, e1]

attribute [local go_sem ↓] role_eql

/-- An append at a step of a region that draws its order. -/
theorem step_append_own2 {P : Program} {w : World} {ops : Array Oper} {o : Oper} {a : Act} {K : Act → World → Prop} {Q : Exit → Act → World → Prop} {E : Prop} (hgd : o.guard = none) (s x : Operand) (t : TypeId)
    (ho : o.op = .call { callee := .builtin .append, args := #[s, x], argTypes := #[t, t] })
    (base : Nat) (e : TypeId) (i : TypeInfo) (z : Value) (size bytes : Nat) (ht : P.underlying t = some (.slice e)) (hi : P.info? e = some i) (hz : i.zero = some z)
    (hsize : i.size = size) (hby : i.bytes = bytes) (hzs : z.cells.size = size) (hsz : 0 < size)
    (v : Value) (n : Nat) (xs : List Value) (hs : a.eval s = v) (hown : w.ownsRow base e size v n xs)
    (ad : Addr) (m c : Nat) (news : List Value) (hx : a.eval x = .slice (some ad) m c) (hl : news.length = m * size) (hnews : ∀ j u, news[j]? = some u → w.cell? (ad.add j) = some u) (h1 : ∀ u ∈ news, u.oneCell' = true)
    (h63 : n + m ≤ maxLen) (hbytes : (n + m) * bytes ≤ 140737488355328) (hbase : base ≤ w.heap.size)
    (h : ∀ v' w', w'.ownsRow base e size v' (n + m) (xs ++ news) → w.grownBy w' v.ownBlock → (v' = .slice none 0 0 ↔ v = .slice none 0 0 ∧ m = 0) → K (a.put o.dst v') w') :
    if Region.wanted o (yielded ops a.tmps) = true then Oper.wp P o a w K Q else E := by
  have hw : Region.wanted o (yielded ops a.tmps) = true := by simp [Region.wanted, hgd]
  rw [if_pos hw]
  exact wp_append_own w s x t ho base e i z size bytes ht hi hz hsize hby hzs hsz v n xs hs hown ad m c news hx hl hnews h1 h63 hbytes hbase h

theorem kpB {Bd : Nat} {W w' : World} (hb : Below Bd W w') : (∀ b o, b < Bd → w'.cell? ⟨b, o, none⟩ = W.cell? ⟨b, o, none⟩) ∧ Below Bd W w' :=
  ⟨fun b o h => hb.cell (p := ⟨b, o, none⟩) h, hb⟩

theorem news_take {w w' : World} {B Bd g n cap k : Nat} {zs : List RoI} (hz : n = zs.length) (h : Owns2 w B (.slice (some ⟨g, 0, none⟩) n cap) zs) (hg : g < Bd) (hb : Below Bd w w') (hk : k ≤ n) : ∀ j u, (flat2 (zs.take k))[j]? = some u → w'.cell? ((⟨g, 0, none⟩ : Addr).add j) = some u := by
  intro j u hj
  subst hz
  have h0 : w.ownsRow B 26 2 (.slice (some ⟨g, 0, none⟩) zs.length cap) zs.length (flat2 zs) := h
  have hjl : j < k * 2 := by
    by_cases q : j < k * 2
    · exact q
    · rw [List.getElem?_eq_none (by rw [flat2_len, List.length_take]; omega)] at hj; cases hj
  rw [Go.WideShapes.add_plain, Nat.zero_add, hb.cell (p := ⟨g, j, none⟩) hg, h0.cellAt j (by omega)]
  rw [flat2_take, List.getElem?_take, if_pos hjl] at hj
  exact hj

theorem news_drop {w w' : World} {B Bd g n cap k : Nat} {zs : List RoI} (hz : n = zs.length) (h : Owns2 w B (.slice (some ⟨g, 0, none⟩) n cap) zs) (hg : g < Bd) (hb : Below Bd w w') (hk : k ≤ n) : ∀ j u, (flat2 (zs.drop k))[j]? = some u → w'.cell? ((⟨g, k * 2, none⟩ : Addr).add j) = some u := by
  intro j u hj
  subst hz
  have h0 : w.ownsRow B 26 2 (.slice (some ⟨g, 0, none⟩) zs.length cap) zs.length (flat2 zs) := h
  have hjl : j < (zs.length - k) * 2 := by
    by_cases q : j < (zs.length - k) * 2
    · exact q
    · rw [List.getElem?_eq_none (by rw [flat2_len, List.length_drop]; omega)] at hj; cases hj
  rw [Go.WideShapes.add_plain, hb.cell (p := ⟨g, k * 2 + j, none⟩) hg, h0.cellAt (k * 2 + j) (by omega)]
  rw [flat2_drop, List.getElem?_drop] at hj
  exact hj

theorem owns_lower {w : World} {B B' : Nat} {v : Value} {n : Nat} {xs : List Value} (h : w.ownsRow B 26 2 v n xs) (hb : B' ≤ B) : w.ownsRow B' 26 2 v n xs := by
  refine ⟨h.1, ?_⟩
  rcases h.2 with h' | ⟨g, cap, cur, e, hg, rest⟩
  · exact .inl h'
  · exact .inr ⟨g, cap, cur, e, Nat.le_trans hb hg, rest⟩

theorem owns2_shape {w : World} {b : Nat} {v : Value} {n : Nat} {xs : List Value} (h : w.ownsRow b 26 2 v n xs) (hv : v ≠ .slice none 0 0) : ∃ g cap, v = .slice (some ⟨g, 0, none⟩) n cap := by
  rcases h.2 with ⟨h', _⟩ | ⟨g, cap, cur, h', _⟩
  · exact absurd h' hv
  · exact ⟨g, cap, h'⟩

end Go.Proofs.YtpeddanicenohaaGreat
