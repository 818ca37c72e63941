/-
  CONTRACTS: spec.l5DrawClasses: classes drawn from a source.
  Conditions: each contract bears its own.
-/
import Derived.Test.YteknjkifgnfjgaaDraw3
namespace Go.Proofs.Yteknjkifgnfjgaa
open Go.RowKit
set_option linter.unusedVariables false
set_option linter.unusedSimpArgs false

theorem Try.infoI : (Try.prog.info? 2).map (fun i => (i.zero, i.size, i.bytes)) = some (some (.int .i64 0), 1, 8) := by kernel_rfl

/-- Numbers being drawn: the row so far, the source. -/
structure LI (w wr : World) (B : Nat) (a : Option Addr) (len cap kk : Nat) (ys : List Int) (g n c : Nat) (zs : List Int) : Prop where
  ow : wr.ownsRow w.heap.size 2 1 (.slice (some ⟨g, 0, none⟩) n c) n (zs.map (Value.int .i64))
  ds : DS w wr B a len cap kk ys
  gw : w.heap.size ≤ g
  gl : g < wr.heap.size

theorem LI.draw {w wr wr' : World} {B : Nat} {a : Option Addr} {len cap kk k' : Nat} {ys : List Int} {g n c : Nat} {zs : List Int} (h : LI w wr B a len cap kk ys g n c zs) (hB : B < w.heap.size) (hs : SrcAt wr' B a len cap k' ys) (hg : wr.grownBy wr' (some B)) : LI w wr' B a len cap k' ys g n c zs :=
  ⟨World.ownsRow.kept (row := some B) h.ow hg (.inr (by have := h.gw; simp [Value.ownBlock]; omega)), h.ds.draw hs hg, h.gw, Nat.lt_of_lt_of_le h.gl hg.size⟩

theorem LI.alloc {w wr : World} {B : Nat} {a : Option Addr} {len cap kk : Nat} {ys : List Int} {g n c : Nat} {zs : List Int} (h : LI w wr B a len cap kk ys g n c zs) (o : Obj) : LI w (wr.alloc o) B a len cap kk ys g n c zs :=
  ⟨h.ow.alloc o, h.ds.alloc o, h.gw, by have := h.gl; simp; omega⟩

theorem LI.size {w wr : World} {B : Nat} {a : Option Addr} {len cap kk : Nat} {ys : List Int} {g n c : Nat} {zs : List Int} (h : LI w wr B a len cap kk ys g n c zs) : w.heap.size ≤ wr.heap.size := Nat.le_of_lt (Nat.lt_of_le_of_lt h.gw h.gl)

/-- Another row of one's own is written: the source goes on as it was. -/
theorem DS.row {w wx wy : World} {B : Nat} {a : Option Addr} {len cap k : Nat} {ys : List Int} {row : Option Nat} (h : DS w wx B a len cap k ys) (hg : wx.grownBy wy row) (hr : ∀ q, row = some q → w.heap.size ≤ q) (hB : B < w.heap.size) (ha : ∀ b off, a = some ⟨b, off, none⟩ → len = 0 ∨ b < w.heap.size) : DS w wy B a len cap k ys := by
  have hB' : some B ≠ row := fun e => by have := hr B e.symm; omega
  refine ⟨h.src.kept hg hB' (fun b off e => (ha b off e).imp id (fun hl q => by have := hr b q.symm; omega)), ⟨hg.os.trans h.gr.os, hg.tape.trans h.gr.tape, hg.output.trans h.gr.output, Nat.le_trans h.gr.size hg.size, fun i hi hne => ?_⟩⟩
  rw [hg.block i (Nat.lt_of_lt_of_le hi h.gr.size) (fun e => by have := hr i e.symm; omega)]
  exact h.gr.block i hi hne

theorem LI.next {w wr wr' : World} {B : Nat} {a : Option Addr} {len cap kk : Nat} {ys : List Int} {g n c : Nat} {zs : List Int} {x : Int} {v' : Value} (h : LI w wr B a len cap kk ys g n c zs) (ha : ∀ b off, a = some ⟨b, off, none⟩ → len = 0 ∨ b < w.heap.size) (hB : B < w.heap.size)
    (ho : wr'.ownsRow w.heap.size 2 1 v' (n + 1) (zs.map (Value.int .i64) ++ [.int .i64 x])) (hg : wr.grownBy wr' (some g)) : ∃ g' c', v' = .slice (some ⟨g', 0, none⟩) (n + 1) c' ∧ LI w wr' B a len cap kk ys g' (n + 1) c' (zs ++ [x]) := by
  rcases ho.2 with ⟨_, e⟩ | ⟨g', c', cur, e, hb, hh, _⟩
  · omega
  · subst e
    refine ⟨g', c', rfl, ⟨?_, h.ds.row hg (fun q e => by cases e; exact h.gw) hB ha, hb, (Array.getElem?_eq_some_iff.1 hh).1⟩⟩
    rw [List.map_append]
    exact ho

theorem cell_one (W : World) (x : Int) (T : TypeId) : ∀ j u, [Value.int .i64 x][j]? = some u → (W.alloc (.cells #[.int .i64 x] T)).cell? ((⟨W.heap.size, 0, none⟩ : Addr).add j) = some u := by
  intro j u hj
  match j with
  | 0 => simp at hj; subst hj; simp [Addr.add]
  | k + 1 => simp at hj

end Go.Proofs.Yteknjkifgnfjgaa
