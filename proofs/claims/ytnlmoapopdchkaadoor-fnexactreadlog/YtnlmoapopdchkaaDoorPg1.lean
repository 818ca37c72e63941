/-
  CONTRACTS: chapter 11: the words of a page; PackLog of both programs.
  Conditions: each contract bears its own.
-/
import Derived.Test.YtnlmoapopdchkaaDoorPg0
import Derived.Deep.CutBlock
namespace Go.Proofs.YtnlmoapopdchkaaDoor
open Go.RowKit
set_option linter.unusedVariables false
set_option linter.unusedSimpArgs false

theorem Tryd.infoP2 : (Tryd.prog.info? 2).map (fun i => (i.zero, i.size, i.bytes)) = some (some (.int .i64 0), 1, 8) := by kernel_rfl

theorem step_appendP {P : Program} {w : World} {ops : Array Oper} {o : Oper} {a : Act} {K : Act → World → Prop} {Q : Exit → Act → World → Prop} {E : Prop} (hgd : o.guard = none) (s x : Operand) (t : TypeId)
    (ho : o.op = .call { callee := .builtin .append, args := #[s, x], argTypes := #[t, t] })
    (base : Nat) (e : TypeId) (i : TypeInfo) (z : Value) (size bytes : Nat) (ht : P.underlying t = some (.slice e)) (hi : P.info? e = some i) (hz : i.zero = some z)
    (hsize : i.size = size) (hby : i.bytes = bytes) (hzs : z.cells.size = size) (hsz : 0 < size)
    (v : Value) (n : Nat) (xs : List Value) (hs : a.eval s = v) (hown : w.ownsRow base e size v n xs)
    (ad : Addr) (m c : Nat) (news : List Value) (hx : a.eval x = .slice (some ad) m c) (hl : news.length = m * size) (hnews : ∀ j u, news[j]? = some u → w.cell? (ad.add j) = some u) (h1 : ∀ u ∈ news, u.oneCell' = true)
    (h63 : n + m ≤ maxLen) (hbytes : (n + m) * bytes ≤ 140737488355328) (hbase : base ≤ w.heap.size)
    (h : ∀ v' w', w'.ownsRow base e size v' (n + m) (xs ++ news) → w.grownBy w' v.ownBlock → (v' = .slice none 0 0 ↔ v = .slice none 0 0 ∧ m = 0) → K (a.put o.dst v') w') :
    if Region.wanted o (yielded ops a.tmps) = true then Oper.wp P o a w K Q else E := by
  have hw : Region.wanted o (yielded ops a.tmps) = true := by simp [Region.wanted, hgd]
  rw [if_pos hw]
  exact wp_append_own w s x t ho base e i z size bytes ht hi hz hsize hby hzs hsz v n xs hs hown ad m c news hx hl hnews h1 h63 hbytes hbase h

theorem owns_isSlice {w : World} {B : Nat} {e : TypeId} {size : Nat} {v : Value} {n : Nat} {xs : List Value} (h : w.ownsRow B e size v n xs) : ∃ a c, v = .slice a n c := by
  rcases h.2 with ⟨h', h0⟩ | ⟨g, cap, cur, h', _⟩
  · exact ⟨none, 0, by rw [h', h0]⟩
  · exact ⟨_, _, h'⟩

/-- The words of the first statements. -/
def packTo (xs : List StI) (k : Nat) : List Int := (xs.take k).flatMap packL

theorem packL_len (x : StI) : (packL x).length = 6 := rfl

theorem packTo_next {xs : List StI} {k : Nat} {x : StI} (h : xs[k]? = some x) : packTo xs (k + 1) = packTo xs k ++ packL x := by
  unfold packTo
  rw [List.take_add_one, h]
  simp

theorem packTo_len {xs : List StI} {k : Nat} (h : k ≤ xs.length) : (packTo xs k).length = k * 6 := by
  induction k with
  | zero => rfl
  | succ k ih =>
    obtain ⟨x, hx⟩ : ∃ x, xs[k]? = some x := ⟨_, List.getElem?_eq_getElem (by omega)⟩
    rw [packTo_next hx, List.length_append, ih (by omega), packL_len]
    omega

/-- The first code of the first statements. -/
def fcTo (xs : List StI) : Nat → Int
  | 0 => 0
  | k + 1 => if fcTo xs k = 0 then (match xs[k]? with | none => 0 | some x => stCode x) else fcTo xs k

def plCode (xs : List StI) : Int := if 40 < xs.length then 2 else fcTo xs xs.length
def plL (xs : List StI) : List Int := if plCode xs = 0 then packTo xs xs.length else []

theorem fc_next {xs : List StI} {k : Nat} {x : StI} (h : fcTo xs k = 0) (hx : xs[k]? = some x) : fcTo xs (k + 1) = stCode x := by
  simp [fcTo, h, hx]

theorem fc_stay {xs : List StI} {k m : Nat} (h : fcTo xs k ≠ 0) (hm : k ≤ m) : fcTo xs m = fcTo xs k := by
  induction m with
  | zero => obtain rfl : k = 0 := by omega
            rfl
  | succ m ih =>
    by_cases e : k = m + 1
    · subst e; rfl
    · have q := ih (by omega)
      simp only [fcTo]
      rw [q, if_neg h]

theorem boxW_keep {b : Nat} {vs : List Value} {W W' : World} (h : BoxW b vs W) (hk : W'.heap[b]? = W.heap[b]?) : BoxW b vs W' :=
  ⟨fun j v e => (World.cell?_of_block (w := W) (w' := W') (a := ⟨b, j, none⟩) hk).trans (h.1 j v e), fun j => (World.frozen?_of_block (w := W) (w' := W') (a := ⟨b, j, none⟩) hk).trans (h.2 j)⟩

/-- What stands in the loop of the model's PackLog. -/
structure PLS (w : World) (xs : List StI) (k : Nat) (v : Value) (wr : World) : Prop where
  rs : BoxW w.heap.size [.int .i64 0, .slice none 0 0] wr
  ot : BoxW (w.heap.size + 1) [.int .i64 0, v] wr
  ow : wr.ownsRow (w.heap.size + 2) 2 1 v (k * 6) (vI (packTo xs k))
  bl : Below w.heap.size w wr
  le : w.heap.size + 2 ≤ wr.heap.size

theorem PLS.step {w : World} {xs : List StI} {k : Nat} {v : Value} {wr : World} (h : PLS w xs k v wr) {x : StI} (hx : xs[k]? = some x) {w6 : World} {v6 : Value} (hb : Below (w.heap.size + 2) wr w6) (how : w6.ownsRow (w.heap.size + 2) 2 1 v6 (k * 6 + 6) (vI (packTo xs k) ++ vI (packL x))) : PLS w xs (k + 1) v6 (w6.setCell ⟨w.heap.size + 1, 1, none⟩ v6) := by
  refine ⟨(boxW_keep h.rs (hb.block _ (by omega))).other (by show w.heap.size + 1 ≠ w.heap.size; omega) _, ?_, ?_, ?_, ?_⟩
  · have q := (boxW_keep h.ot (hb.block _ (by omega))).put 1 (by simp) v6
    exact q
  · rw [packTo_next hx, show (k + 1) * 6 = k * 6 + 6 by omega]
    refine ownsE_set ?_ (by show w.heap.size + 1 < w.heap.size + 2; omega) _
    have e : vI (packTo xs k ++ packL x) = vI (packTo xs k) ++ vI (packL x) := by simp [vI]
    rw [e]
    exact how
  · exact (h.bl.trans (hb.mono (by omega))).setCell (by show w.heap.size ≤ w.heap.size + 1; omega) _
  · simp only [World.size_setCell]
    exact Nat.le_trans h.le hb.size

/-- What a call of PackLog gives. -/
def GivesPl (f : Nat) (a : Option Addr) (n cap : Nat) (c : Int) (ys : List Int) (w : World) : Prop := Calls Tryd.prog f #[.slice a n cap] w fun e w' => ∃ a cap, e = .returned (.agg #[.int .i64 c, .slice a ys.length cap]) ∧ w'.ownsRow w.heap.size 2 1 (.slice a ys.length cap) ys.length (ys.map (Value.int .i64)) ∧ Below w.heap.size w w'

end Go.Proofs.YtnlmoapopdchkaaDoor
