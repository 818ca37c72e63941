/-
  CONTRACTS: nodes of a broadcast in memory: measured, copied (laws.toNodeS), compared (two that are alike).
  Conditions: each contract bears its own.
-/
import Derived.Test.YtbebhiglnfmjcaaMsM
import Derived.Test.YtbebhiglnfmjcaaIn0
import Derived.Test.YtbebhiglnfmjcaaEx0
namespace Go.Proofs.Ytbebhiglnfmjcaa
open Go.RowKit
set_option linter.unusedVariables false
set_option linter.unusedSimpArgs false

theorem hidP {p : Prop} (h : p) : Hid p := h

/-- A node, wherever what it heard lies. -/
structure NdP where
  e : Int
  r : Int
  t : Int
  hs : List MsI
deriving DecidableEq, Inhabited

/-- A node: its numbers, where what it heard lies, and what that is. -/
structure NodeI where
  e : Int
  r : Int
  t : Int
  a : Option Addr
  n : Nat
  cap : Nat
  hs : List MsI
deriving Inhabited

def NodeI.p (x : NodeI) : NdP := ⟨x.e, x.r, x.t, x.hs⟩
def ndsP (ns : List NodeI) : List NdP := ns.map NodeI.p

theorem MsIn.keep {w w' : World} {a : Option Addr} {n : Nat} {zs : List MsI} (h : MsIn w a n zs) (hk : ∀ b off, a = some ⟨b, off, none⟩ → w'.heap[b]? = w.heap[b]?) : MsIn w' a n zs := by
  refine ⟨h.1, fun hp => ?_⟩
  obtain ⟨b, off, e, hr⟩ := h.2 hp
  refine ⟨b, off, e, fun k x hx => ?_⟩
  have key : ∀ (q : Nat) (u : Value), w.cell? ⟨b, q, none⟩ = some u → w'.cell? ⟨b, q, none⟩ = some u := fun q u hu => (World.cell?_of_block (a := ⟨b, q, none⟩) (hk b off e)).trans hu
  obtain ⟨h0, h1, h2, h3⟩ := hr k x hx
  exact ⟨key _ _ h0, key _ _ h1, key _ _ h2, key _ _ h3⟩

theorem MsRoom.keep {w w' : World} {g n : Nat} (h : MsRoom w g n) (hk : w'.heap[g]? = w.heap[g]?) : MsRoom w' g n :=
  ⟨fun j hj => by obtain ⟨v, e⟩ := h.1 j hj; exact ⟨v, (World.cell?_of_block (a := ⟨g, j, none⟩) hk).trans e⟩, fun j => (World.frozen?_of_block (a := ⟨g, j, none⟩) hk).trans (h.2 j)⟩

/-- A node in memory. -/
def NdAt (w : World) (g off : Nat) (x : NodeI) : Prop := (w.cell? ⟨g, off, none⟩ = some (.int .i64 x.e) ∧ w.cell? ⟨g, off + 1, none⟩ = some (.int .i64 x.r) ∧ w.cell? ⟨g, off + 2, none⟩ = some (.int .i64 x.t) ∧ w.cell? ⟨g, off + 3, none⟩ = some (.slice x.a x.n x.cap)) ∧ MsIn w x.a x.n x.hs

theorem NdAt.lt {w : World} {g off : Nat} {x : NodeI} (h : NdAt w g off x) : g < w.heap.size := World.block_lt_of_cell? w ⟨g, off, none⟩ h.1.1

theorem NdAt.below {w w' : World} {g off : Nat} {x : NodeI} (h : NdAt w g off x) (hb : Below w.heap.size w w') : NdAt w' g off x := by
  have key : ∀ (q : Nat) (u : Value), w.cell? ⟨g, q, none⟩ = some u → w'.cell? ⟨g, q, none⟩ = some u := fun q u hu => (hb.cell (p := ⟨g, q, none⟩) h.lt).trans hu
  exact ⟨⟨key _ _ h.1.1, key _ _ h.1.2.1, key _ _ h.1.2.2.1, key _ _ h.1.2.2.2⟩, h.2.below hb⟩

theorem NdAt.keep {w w' : World} {g off : Nat} {x : NodeI} (h : NdAt w g off x) (hg : w'.heap[g]? = w.heap[g]?) (hk : ∀ b o, x.a = some ⟨b, o, none⟩ → w'.heap[b]? = w.heap[b]?) : NdAt w' g off x := by
  have key : ∀ (q : Nat) (u : Value), w.cell? ⟨g, q, none⟩ = some u → w'.cell? ⟨g, q, none⟩ = some u := fun q u hu => (World.cell?_of_block (a := ⟨g, q, none⟩) hg).trans hu
  exact ⟨⟨key _ _ h.1.1, key _ _ h.1.2.1, key _ _ h.1.2.2.1, key _ _ h.1.2.2.2⟩, h.2.keep hk⟩

def NdsAt (w : World) (g off : Nat) (ns : List NodeI) : Prop := ∀ (k : Nat) (x : NodeI), ns[k]? = some x → NdAt w g (off + k * 4) x

theorem NdsAt.below {w w' : World} {g off : Nat} {ns : List NodeI} (h : NdsAt w g off ns) (hb : Below w.heap.size w w') : NdsAt w' g off ns := fun k x e => (h k x e).below hb

/-- A slice of nodes. -/
def NdsIn (w : World) (a : Option Addr) (n : Nat) (ns : List NodeI) : Prop := ns.length = n ∧ (0 < n → ∃ b off, a = some ⟨b, off, none⟩ ∧ NdsAt w b off ns)

theorem NdsIn.below {w w' : World} {a : Option Addr} {n : Nat} {ns : List NodeI} (h : NdsIn w a n ns) (hb : Below w.heap.size w w') : NdsIn w' a n ns := by
  refine ⟨h.1, fun hl => ?_⟩
  obtain ⟨b, off, e, hr⟩ := h.2 hl
  exact ⟨b, off, e, hr.below hb⟩

theorem NdsIn.at {w : World} {a : Option Addr} {n : Nat} {ns : List NodeI} (h : NdsIn w a n ns) {k : Nat} (hk : k < n) :
    ∃ b off x, a = some ⟨b, off, none⟩ ∧ ns[k]? = some x ∧ NdAt w b (off + k * 4) x := by
  obtain ⟨b, off, e, hr⟩ := h.2 (by omega)
  have hl := h.1
  exact ⟨b, off, ns[k]'(by omega), e, List.getElem?_eq_getElem (by omega), hr k _ (List.getElem?_eq_getElem (by omega))⟩

theorem NdsIn.of {w : World} {g n : Nat} {ns : List NodeI} (hl : ns.length = n) (h : NdsAt w g 0 ns) : NdsIn w (some ⟨g, 0, none⟩) n ns :=
  ⟨hl, fun _ => ⟨g, 0, rfl, h⟩⟩

/-- Every node heard at most so many. -/
def NdsLe (m : Nat) (ns : List NodeI) : Prop := ∀ (k : Nat) (x : NodeI), ns[k]? = some x → x.n ≤ m

/-- A node whose list lies in a block of its own, L to H, that may be written. -/
def NodeNew (w : World) (L H : Nat) (x : NodeI) : Prop := x.cap = x.n ∧ ∃ g, x.a = some ⟨g, 0, none⟩ ∧ L ≤ g ∧ g < H ∧ MsRoom w g x.n

theorem NodeNew.keep {w w' : World} {L H : Nat} {x : NodeI} (h : NodeNew w L H x) (hk : ∀ b, L ≤ b → b < H → w'.heap[b]? = w.heap[b]?) : NodeNew w' L H x := by
  obtain ⟨h0, g, h1, h2, h3, h4⟩ := h
  exact ⟨h0, g, h1, h2, h3, h4.keep (hk g h2 h3)⟩

theorem NodeNew.wide {w : World} {L H L' H' : Nat} {x : NodeI} (h : NodeNew w L H x) (hL : L' ≤ L) (hH : H ≤ H') : NodeNew w L' H' x := by
  obtain ⟨h0, g, h1, h2, h3, h4⟩ := h
  exact ⟨h0, g, h1, by omega, by omega, h4⟩

theorem NodeNew.below {w w' : World} {L H : Nat} {x : NodeI} (h : NodeNew w L H x) (hH : H ≤ w.heap.size) (hb : Below w.heap.size w w') : NodeNew w' L H x := h.keep (fun b _ h2 => hb.block b (by omega))

def NdsNew (w : World) (L H : Nat) (ns : List NodeI) : Prop := ∀ (k : Nat) (x : NodeI), ns[k]? = some x → NodeNew w L H x

theorem Try.info45 : (Try.prog.info? 45).map (fun i => (i.zero, i.size, i.bytes)) = some (some (.agg #[.int .i64 0, .int .i64 0, .int .i64 0, .slice none 0 0]), 4, 48) := by kernel_rfl

set_option maxHeartbeats 400000 in
theorem toNode_c (x : NodeI) (w : World) (hn : x.n ≤ 1048576) (h : MsIn w x.a x.n x.hs) :
    Calls Try.prog 105 #[.agg #[.int .i64 x.e, .int .i64 x.r, .int .i64 x.t, .slice x.a x.n x.cap]] w fun e w' => ∃ y : NodeI, e = .returned (.agg #[.int .i64 y.e, .int .i64 y.r, .int .i64 y.t, .slice y.a y.n y.cap]) ∧ y.p = x.p ∧ y.n = x.n ∧ MsIn w' y.a y.n y.hs ∧ NodeNew w' w.heap.size w'.heap.size y ∧ Below w.heap.size w w' := by
  have HP : Hid (MsIn w x.a x.n x.hs) := h
  clear h
  obtain ⟨W, hW⟩ : ∃ W, W = ((w.alloc (.cells #[.int .i64 x.e, .int .i64 x.r, .int .i64 x.t, .slice x.a x.n x.cap] 124)).alloc (.cells #[.int .i64 0, .int .i64 0, .int .i64 0, .slice none 0 0] 45)).alloc (.cells #[.int .i64 x.e, .int .i64 x.r, .int .i64 x.t, .slice none 0 0] 45) := ⟨_, rfl⟩
  have hs : W.heap.size = w.heap.size + 3 := by rw [hW]; simp
  have B0 : Below w.heap.size w W := by rw [hW]; exact (((Below.refl _ _).alloc (Nat.le_refl _) _).alloc (by simp) _).alloc (by simp; omega) _
  have X1 : BoxW (w.heap.size + 1) [.int .i64 0, .int .i64 0, .int .i64 0, .slice none 0 0] W := by
    have q := boxW_new (w.alloc (.cells #[.int .i64 x.e, .int .i64 x.r, .int .i64 x.t, .slice x.a x.n x.cap] 124)) #[.int .i64 0, .int .i64 0, .int .i64 0, .slice none 0 0] 45
    simp only [World.size_alloc] at q
    rw [hW]
    exact q.below (by simp) ((Below.refl _ _).alloc (Nat.le_refl _) _)
  have X2 : BoxW (w.heap.size + 2) [.int .i64 x.e, .int .i64 x.r, .int .i64 x.t, .slice none 0 0] W := by
    have q := boxW_new ((w.alloc (.cells #[.int .i64 x.e, .int .i64 x.r, .int .i64 x.t, .slice x.a x.n x.cap] 124)).alloc (.cells #[.int .i64 0, .int .i64 0, .int .i64 0, .slice none 0 0] 45)) #[.int .i64 x.e, .int .i64 x.r, .int .i64 x.t, .slice none 0 0] 45
    simp only [World.size_alloc] at q
    rw [hW]
    exact q
  go_enter Try.func105, Try.ntmps105
  go_wp2_with fail
  rw [← hW]
  clear hW
  refine (toMsgs_room x.a x.n x.cap x.hs W hn (HP.out.below B0)).mono ?_
  rintro e w1 ⟨rfl, hat, hlt, hb, hroom⟩
  have HQ : Hid (MssAt w1 W.heap.size x.hs ∧ MsRoom w1 W.heap.size x.n ∧ Below w.heap.size w w1) := ⟨hat, hroom, B0.trans (hb.mono (by omega))⟩
  have Y1 := X1.below (by omega) hb
  have Y2 := X2.below (by omega) hb
  have d0 := Y1.1 0 _ rfl
  have d1 := Y1.1 1 _ rfl
  have d2 := Y1.1 2 _ rfl
  have d3 := Y1.1 3 _ rfl
  have k0 := Y2.1 0 _ rfl
  have k1 := Y2.1 1 _ rfl
  have k2 := Y2.1 2 _ rfl
  have k3 := Y2.1 3 _ rfl
  have f0 := Y1.2 0
  have f1 := Y1.2 1
  have f2 := Y1.2 2
  have f3 := Y1.2 3
  have g3 := Y2.2 3
  have hw : w.heap.size + 2 < w1.heap.size := by omega
  have HS : Hid (W.heap.size = w.heap.size + 3) := hs
  clear hat hroom hb B0 hs X1 X2 Y1 Y2
  go_wp2
  obtain ⟨Z, hZ⟩ : ∃ Z, Z = ((((w1.setCell ⟨w.heap.size + 2, 3, none⟩ (.slice (some ⟨W.heap.size, 0, none⟩) x.n x.n)).setCell ⟨w.heap.size + 1, 0, none⟩ (.int .i64 x.e)).setCell ⟨w.heap.size + 1, 1, none⟩ (.int .i64 x.r)).setCell ⟨w.heap.size + 1, 2, none⟩ (.int .i64 x.t)).setCell ⟨w.heap.size + 1, 3, none⟩ (.slice (some ⟨W.heap.size, 0, none⟩) x.n x.n) := ⟨_, rfl⟩
  have KZ : ∀ b, b ≠ w.heap.size + 1 → b ≠ w.heap.size + 2 → Z.heap[b]? = w1.heap[b]? := fun b h1 h2 => by
    rw [hZ]
    rw [Below.heap_setCell _ _ _ _ h1, Below.heap_setCell _ _ _ _ h1, Below.heap_setCell _ _ _ _ h1, Below.heap_setCell _ _ _ _ h1, Below.heap_setCell _ _ _ _ h2]
  have BZ : Below w.heap.size w Z := by
    rw [hZ]
    exact ((((HQ.out.2.2.setCell (by show w.heap.size ≤ w.heap.size + 2; omega) _).setCell (by show w.heap.size ≤ w.heap.size + 1; omega) _).setCell (by show w.heap.size ≤ w.heap.size + 1; omega) _).setCell (by show w.heap.size ≤ w.heap.size + 1; omega) _).setCell (by show w.heap.size ≤ w.heap.size + 1; omega) _
  have SZ : Z.heap.size = w1.heap.size := by rw [hZ]; simp
  have hs3 := HS.out
  refine bodyPost_ret (v := .agg #[.int .i64 x.e, .int .i64 x.r, .int .i64 x.t, .slice (some ⟨W.heap.size, 0, none⟩) x.n x.n]) (by simp [results, Try.results105, go_sem, d0, d1, d2, d3, hw]) rfl ?_
  rw [← hZ]
  refine ⟨⟨x.e, x.r, x.t, some ⟨W.heap.size, 0, none⟩, x.n, x.n, x.hs⟩, rfl, rfl, rfl, ?_, ⟨rfl, _, rfl, by omega, by omega, HQ.out.2.1.keep (KZ _ (by omega) (by omega))⟩, BZ⟩
  exact (MsIn.of HP.out.1 HQ.out.1).keep (fun b off e => by cases e; exact KZ _ (by omega) (by omega))

abbrev NdPut (w : World) (g o : Nat) (y : NodeI) : World := ((((w.setCell ⟨g, o, none⟩ (.int .i64 y.e)).setCell ⟨g, o + 1, none⟩ (.int .i64 y.r)).setCell ⟨g, o + 2, none⟩ (.int .i64 y.t)).setCell ⟨g, o + 3, none⟩ (.slice y.a y.n y.cap))

theorem ndPut_blk (w : World) (g o : Nat) (y : NodeI) {b : Nat} (h : b ≠ g) : (NdPut w g o y).heap[b]? = w.heap[b]? := by
  rw [Below.heap_setCell _ _ _ _ h, Below.heap_setCell _ _ _ _ h, Below.heap_setCell _ _ _ _ h, Below.heap_setCell _ _ _ _ h]

theorem ndPut_other (w : World) (g o : Nat) (y : NodeI) (q : Nat) (h : q < o ∨ o + 4 ≤ q) : (NdPut w g o y).cell? ⟨g, q, none⟩ = w.cell? ⟨g, q, none⟩ := by
  rw [World.cell?_setCell_other (h := fun e => by have := congrArg Addr.off e; simp at this; omega), World.cell?_setCell_other (h := fun e => by have := congrArg Addr.off e; simp at this; omega), World.cell?_setCell_other (h := fun e => by have := congrArg Addr.off e; simp at this; omega), World.cell?_setCell_other (h := fun e => by have := congrArg Addr.off e; simp at this; omega)]

/-- One more node is stored in the table. -/
theorem nds_put {w : World} {B k n H : Nat} {ys : List NodeI} {y : NodeI} (hroom : IntRoom w B (n * 4)) (hk : k < n) (hl : ys.length = k) (hat : NdsAt w B 0 ys) (hnew : NdsNew w (B + 1) H ys) (hp : MsIn w y.a y.n y.hs) (hy : NodeNew w (B + 1) H y) :
    IntRoom (NdPut w B (k * 4) y) B (n * 4) ∧ NdsAt (NdPut w B (k * 4) y) B 0 (ys ++ [y]) ∧ NdsNew (NdPut w B (k * 4) y) (B + 1) H (ys ++ [y]) := by
  have hne : ∀ z : NodeI, NodeNew w (B + 1) H z → ∀ b off, z.a = some ⟨b, off, none⟩ → (NdPut w B (k * 4) y).heap[b]? = w.heap[b]? := fun z hz b off e => by
    obtain ⟨_, g, e', hg, _⟩ := hz
    rw [e] at e'
    cases e'
    exact ndPut_blk _ _ _ _ (by omega)
  have hns : ∀ z : NodeI, NodeNew w (B + 1) H z → NodeNew (NdPut w B (k * 4) y) (B + 1) H z := fun z hz => hz.keep (fun b h1 _ => ndPut_blk _ _ _ _ (by omega))
  refine ⟨(((hroom.set _ _).set _ _).set _ _).set _ _, fun j x e => ?_, fun j x e => ?_⟩
  · by_cases hj : j < k
    · rw [List.getElem?_append_left (by omega)] at e
      obtain ⟨⟨h0, h1, h2, h3⟩, h4⟩ := hat j x e
      refine ⟨⟨?_, ?_, ?_, ?_⟩, h4.keep (hne x (hnew j x e))⟩
      · rw [ndPut_other _ _ _ _ _ (by omega)]; exact h0
      · rw [ndPut_other _ _ _ _ _ (by omega)]; exact h1
      · rw [ndPut_other _ _ _ _ _ (by omega)]; exact h2
      · rw [ndPut_other _ _ _ _ _ (by omega)]; exact h3
    · have hjk : j = k := by
        by_cases q : j < (ys ++ [y]).length
        · simp at q; omega
        · rw [List.getElem?_eq_none (by omega)] at e; cases e
      subst hjk
      rw [← hl, List.getElem?_append_right (Nat.le_refl _), Nat.sub_self] at e
      simp at e
      subst e
      obtain ⟨u0, e0⟩ := hroom.1 (j * 4) (by omega)
      obtain ⟨u1, e1⟩ := hroom.1 (j * 4 + 1) (by omega)
      obtain ⟨u2, e2⟩ := hroom.1 (j * 4 + 2) (by omega)
      obtain ⟨u3, e3⟩ := hroom.1 (j * 4 + 3) (by omega)
      refine ⟨?_, hp.keep (hne y hy)⟩
      rw [Nat.zero_add]
      refine ⟨?_, ?_, ?_, ?_⟩ <;> simp [go_sem, e0, e1, e2, e3]
  · rcases List.mem_append.1 (List.mem_of_getElem? e) with h | h
    · obtain ⟨i, hi⟩ := List.mem_iff_getElem?.1 h
      exact hns x (hnew i x hi)
    · rw [List.mem_singleton.1 h]
      exact hns y hy

/-- What a copy of nodes is: as many, of the same numbers and messages, in a table of its own. -/
structure NdsTo (w0 w : World) (n : Nat) (ns ys : List NodeI) : Prop where
  ln : ys.length = n
  ps : ndsP ys = ndsP ns
  at' : NdsAt w w0.heap.size 0 ys
  nw : NdsNew w (w0.heap.size + 1) w.heap.size ys
  rm : IntRoom w w0.heap.size (n * 4)
  lt : w0.heap.size < w.heap.size
  bl : Below w0.heap.size w0 w

set_option maxHeartbeats 1000000 in
theorem toNodes_c (a : Option Addr) (n cap : Nat) (ns : List NodeI) (w : World) (hn : n ≤ 1048576) (hle : NdsLe 1048576 ns) (h : NdsIn w a n ns) :
    Calls Try.prog 81 #[.slice a n cap] w fun e w' => e = .returned (.slice (some ⟨w.heap.size, 0, none⟩) n n) ∧ ∃ ys, NdsTo w w' n ns ys := by
  obtain ⟨i0, hi, hz0, hz1, hz2⟩ := info_parts Try.info45
  obtain ⟨wm, hmk, hownm, hgrm⟩ := run_make_full (P := Try.prog) (w := w) w.heap.size 25 45 i0 (.agg #[.int .i64 0, .int .i64 0, .int .i64 0, .slice none 0 0]) 4 Try.underlying25 hi hz0 hz1 .i64 .i64 n (by rw [hz2]; omega) (by unfold maxLen; omega) (Nat.le_refl _)
  have H : Hid (NdsIn w a n ns) := h
  have HLE : Hid (NdsLe 1048576 ns) := hle
  have hz : Hid (ns.length = n) := h.1
  clear h hle
  have HM : Hid (IntRoom wm w.heap.size (n * 4) ∧ w.heap.size < wm.heap.size) := by
    refine ⟨⟨fun j hj => ?_, fun j => hownm.frozenAt j⟩, (hownm.lt _ rfl).2⟩
    have hl := hownm.1
    exact ⟨_, (hownm.cellAt j (by omega)).trans (List.getElem?_eq_getElem (by omega))⟩
  clear hownm
  have HG : Hid (w.grownBy wm none) := hgrm
  clear hgrm
  have hn' : (n : Int) ≤ 1048576 := by omega
  go_enter Try.func81, Try.ntmps81
  go_wp2
  go_loopw [4] (fun i wr => ∃ (k : Nat) (ys : List NodeI), k ≤ n ∧ i = .int .i64 (k : Int) ∧ ys.length = k ∧ ndsP ys = ndsP (ns.take k) ∧ IntRoom wr w.heap.size (n * 4) ∧ NdsAt wr w.heap.size 0 ys ∧ NdsNew wr (w.heap.size + 1) wr.heap.size ys ∧ w.heap.size < wr.heap.size ∧ Below w.heap.size w wr)
    (fun i _ => n - (intOf i).toNat)
  case atStart => exact ⟨0, [], Nat.zero_le _, rfl, rfl, rfl, HM.out.1, fun k r e => by simp at e, fun k r e => by simp at e, HM.out.2, (Below.refl _ _).grown HG.out (Nat.le_refl _) (fun k e => by cases e)⟩
  case round =>
    obtain ⟨k, ys, hk, rfl, hyl, hyp, hroom, hat, hnew, hlt0, hnx⟩ := hrel
    have HY : Hid (ys.length = k ∧ ndsP ys = ndsP (ns.take k)) := ⟨hyl, hyp⟩
    clear hyl hyp
    by_cases hlt : k < n
    · obtain ⟨b, off, x, rfl, hs, hr⟩ := H.out.at hlt
      have HS : Hid (ns[k]? = some x) := hs
      have hb : b < w.heap.size := hr.lt
      have hx : x.n ≤ 1048576 := HLE.out k x hs
      clear hs
      have hr2 := hr.below hnx
      obtain ⟨h0, h1, h2, h3⟩ := hr2.1
      have HX : Hid (MsIn wr x.a x.n x.hs) := hr2.2
      have HD : Hid (IntRoom wr w.heap.size (n * 4) ∧ NdsAt wr w.heap.size 0 ys ∧ NdsNew wr (w.heap.size + 1) wr.heap.size ys ∧ Below w.heap.size w wr) := ⟨hroom, hat, hnew, hnx⟩
      clear hroom hat hnew hr hr2 hnx
      have hlt' : (k : Int) < (n : Int) := by omega
      go_wp2_with fail
      refine (toNode_c x _ hx HX.out).mono ?_
      rintro e w1 ⟨y, rfl, hyps, hyn, hyP, hyN, hb1⟩
      have hz1 := hb1.size
      have hyN' : NodeNew w1 (w.heap.size + 1) w1.heap.size y := hyN.wide (by omega) (Nat.le_refl _)
      have hnw : NdsNew w1 (w.heap.size + 1) w1.heap.size ys := fun j z e => ((HD.out.2.2.1 j z e).below (Nat.le_refl _) hb1).wide (Nat.le_refl _) hz1
      have hrm : IntRoom w1 w.heap.size (n * 4) := HD.out.1.below hlt0 hb1
      obtain ⟨P1, P2, P3⟩ := nds_put hrm hlt HY.out.1 (HD.out.2.1.below hb1) hnw hyP hyN'
      have BP : Below w.heap.size w (NdPut w1 w.heap.size (k * 4) y) := ((((HD.out.2.2.2.trans (hb1.mono HD.out.2.2.2.size)).setCell (Nat.le_refl _) _).setCell (Nat.le_refl _) _).setCell (Nat.le_refl _) _).setCell (Nat.le_refl _) _
      have RM : Hid (IntRoom (NdPut w1 w.heap.size (k * 4) y) w.heap.size (n * 4) ∧ NdsAt (NdPut w1 w.heap.size (k * 4) y) w.heap.size 0 (ys ++ [y]) ∧ NdsNew (NdPut w1 w.heap.size (k * 4) y) (w.heap.size + 1) (NdPut w1 w.heap.size (k * 4) y).heap.size (ys ++ [y]) ∧ Below w.heap.size w (NdPut w1 w.heap.size (k * 4) y)) := ⟨P1, P2, fun j z e => (P3 j z e).wide (Nat.le_refl _) (by simp), BP⟩
      have HP : Hid (ndsP (ys ++ [y]) = ndsP (ns.take (k + 1))) := by
        show ndsP (ys ++ [y]) = ndsP (ns.take (k + 1))
        have h1 := HY.out.2
        unfold ndsP at h1 ⊢
        rw [List.map_append, h1, List.take_add_one, HS.out]
        simp [hyps]
      obtain ⟨u0, c0⟩ := hrm.1 (k * 4) (by omega)
      obtain ⟨u1, c1⟩ := hrm.1 (k * 4 + 1) (by omega)
      obtain ⟨u2, c2⟩ := hrm.1 (k * 4 + 2) (by omega)
      obtain ⟨u3, c3⟩ := hrm.1 (k * 4 + 3) (by omega)
      have f0 := hrm.2 (k * 4)
      have f1 := hrm.2 (k * 4 + 1)
      have f2 := hrm.2 (k * 4 + 2)
      have f3 := hrm.2 (k * 4 + 3)
      clear P1 P2 P3 hyps hyn hyP hyN hyN' hb1 h0 h1 h2 h3 hrm hnw BP
      go_wp2
      exact ⟨⟨k + 1, ys ++ [y], by omega, by go_num, by simp [HY.out.1], HP.out, RM.out.1, RM.out.2.1, RM.out.2.2.1, by simp only [World.size_setCell]; omega, RM.out.2.2.2⟩, by simp [intOf]; omega⟩
    · have hkn : k = n := by omega
      subst hkn
      have HQ : Hid (NdsTo w wr k ns ys) := by
        refine ⟨HY.out.1, ?_, hat, hnew, hroom, hlt0, hnx⟩
        have := HY.out.2
        rw [List.take_of_length_le (by rw [hz.out]; exact Nat.le_refl _)] at this
        exact this
      go_wp2
      go_ret
      exact ⟨rfl, ys, HQ.out⟩

set_option maxHeartbeats 400000 in
theorem eqNode_same (x y : NodeI) (w : World) (hn : x.n ≤ 1048576) (hp : y.p = x.p) (ha : MsIn w x.a x.n x.hs) (hb : MsIn w y.a y.n y.hs) :
    Calls Try.prog 106 #[.agg #[.int .i64 x.e, .int .i64 x.r, .int .i64 x.t, .slice x.a x.n x.cap], .agg #[.int .i64 y.e, .int .i64 y.r, .int .i64 y.t, .slice y.a y.n y.cap]] w fun e w' => e = .returned (.bool true) ∧ Below w.heap.size w w' := by
  obtain ⟨ye, yr, yt, ya, yn, yc, yh⟩ := y
  simp only [NodeI.p, NdP.mk.injEq] at hp
  obtain ⟨rfl, rfl, rfl, rfl⟩ := hp
  have hyn : yn = x.n := by have h1 := ha.1; have h2 := hb.1; simp only at h2; omega
  simp only at hb
  subst hyn
  have HA : Hid (MsIn w x.a x.n x.hs) := ha
  have HB : Hid (MsIn w ya x.n x.hs) := hb
  clear ha hb
  obtain ⟨W, hW⟩ : ∃ W, W = (w.alloc (.cells #[.int .i64 x.e, .int .i64 x.r, .int .i64 x.t, .slice x.a x.n x.cap] 45)).alloc (.cells #[.int .i64 x.e, .int .i64 x.r, .int .i64 x.t, .slice ya x.n yc] 45) := ⟨_, rfl⟩
  have B0 : Below w.heap.size w W := by rw [hW]; exact ((Below.refl _ _).alloc (Nat.le_refl _) _).alloc (by simp) _
  go_enter Try.func106, Try.ntmps106
  go_wp2_with fail
  rw [← hW]
  clear hW
  refine (eqMsgs_same x.a ya x.n x.cap yc x.hs W hn (HA.out.below B0) (HB.out.below B0)).mono ?_
  rintro e w1 ⟨rfl, hb1⟩
  have hbb : Below w.heap.size w w1 := B0.trans (hb1.mono B0.size)
  clear B0 hb1
  go_wp2
  go_ret
  exact ⟨rfl, hbb⟩

theorem nds_at {ns ys : List NodeI} (hp : ndsP ys = ndsP ns) {k : Nat} {x y : NodeI} (hx : ns[k]? = some x) (hy : ys[k]? = some y) : y.p = x.p := by
  have h1 : (ndsP ys)[k]? = some y.p := by unfold ndsP; rw [List.getElem?_map, hy]; rfl
  have h2 : (ndsP ns)[k]? = some x.p := by unfold ndsP; rw [List.getElem?_map, hx]; rfl
  rw [hp, h2] at h1
  exact (Option.some.inj h1).symm

set_option maxHeartbeats 1000000 in
theorem eqNodes_same (a b : Option Addr) (n c d : Nat) (ns ys : List NodeI) (w : World) (hn : n ≤ 1048576) (hle : NdsLe 1048576 ns) (hp : ndsP ys = ndsP ns) (ha : NdsIn w a n ns) (hb : NdsIn w b n ys) :
    Calls Try.prog 83 #[.slice a n c, .slice b n d] w fun e w' => e = .returned (.bool true) ∧ Below w.heap.size w w' := by
  have HA : Hid (NdsIn w a n ns) := ha
  have HB : Hid (NdsIn w b n ys) := hb
  have HLE : Hid (NdsLe 1048576 ns) := hle
  have HP : Hid (ndsP ys = ndsP ns) := hp
  clear ha hb hle hp
  have hn' : (n : Int) ≤ 1048576 := by omega
  go_enter Try.func83, Try.ntmps83
  go_wp2
  go_loopw [5] (fun i wr => ∃ k : Nat, k ≤ n ∧ i = .int .i64 (k : Int) ∧ Below w.heap.size w wr) (fun i _ => n - (intOf i).toNat)
  case atStart => exact ⟨0, Nat.zero_le _, rfl, Below.refl _ _⟩
  case round =>
    obtain ⟨k, hk, rfl, hnx⟩ := hrel
    by_cases hlt : k < n
    · obtain ⟨b1, o1, x, e1, hs, hr⟩ := HA.out.at hlt
      obtain ⟨b2, o2, y, e2, hs2, hr2⟩ := HB.out.at hlt
      have hxn := HLE.out k x hs
      have hxy := nds_at HP.out hs hs2
      subst e1 e2
      clear hs hs2
      obtain ⟨h0, h1, h2, h3⟩ := (hr.below hnx).1
      obtain ⟨g0, g1, g2, g3⟩ := (hr2.below hnx).1
      have HX : Hid (MsIn wr x.a x.n x.hs ∧ MsIn wr y.a y.n y.hs ∧ y.p = x.p) := ⟨(hr.below hnx).2, (hr2.below hnx).2, hxy⟩
      clear hr hr2 hxy
      have hlt' : (k : Int) < (n : Int) := by omega
      have hb1 : b1 < wr.heap.size := World.block_lt_of_cell? wr ⟨b1, o1 + k * 4, none⟩ h0
      have hb2 : b2 < wr.heap.size := World.block_lt_of_cell? wr ⟨b2, o2 + k * 4, none⟩ g0
      have HC : Hid (∀ w' : World, ((∀ b o, b < wr.heap.size → w'.cell? ⟨b, o, none⟩ = wr.cell? ⟨b, o, none⟩) ∧ Below wr.heap.size wr w') → Calls Try.prog 106 #[.agg #[.int .i64 x.e, .int .i64 x.r, .int .i64 x.t, .slice x.a x.n x.cap], .agg #[.int .i64 y.e, .int .i64 y.r, .int .i64 y.t, .slice y.a y.n y.cap]] w' fun e w'' => e = .returned (.bool true) ∧ Below w'.heap.size w' w'') := fun w' q => eqNode_same x y w' hxn HX.out.2.2 (HX.out.1.below q.2) (HX.out.2.1.below q.2)
      go_wp2
      go_region_held3 (fun w' => (∀ b o, b < wr.heap.size → w'.cell? ⟨b, o, none⟩ = wr.cell? ⟨b, o, none⟩) ∧ Below wr.heap.size wr w') (first | exact hS | exact kp_drew _)
        (first | (go_at_call 106; refine (HC.out _ (by assumption)).mono ?_; rintro e w' ⟨rfl, hb1⟩; have hS := kp_step (by assumption) hb1))
      go_wp2
      exact ⟨⟨k + 1, by omega, by go_num, hnx.trans (hS.2.mono hnx.size)⟩, by simp [intOf]; omega⟩
    · have hkn : k = n := by omega
      subst hkn
      go_wp2
      go_ret
      exact ⟨rfl, hnx⟩

set_option maxHeartbeats 400000 in
theorem szNode_c (x : NodeI) (l : Int) (w : World) (hx : x.n ≤ maxLen) (h0 : 0 ≤ l) (h1 : l ≤ 1048576) :
    Calls Try.prog 104 #[.agg #[.int .i64 x.e, .int .i64 x.r, .int .i64 x.t, .slice x.a x.n x.cap], .int .i64 l] w fun e w' => (∃ r : Int, e = .returned (.int .i64 r) ∧ r ≤ l ∧ (0 ≤ r → (x.n : Int) ≤ l)) ∧ Below w.heap.size w w' := by
  unfold maxLen at hx
  have hx' : (x.n : Int) ≤ 9223372036854775807 := by omega
  by_cases hlt : (x.n : Int) ≤ l
  · go_enter Try.func104, Try.ntmps104
    go_wp2
    go_ret
    exact ⟨⟨_, rfl, by omega, fun _ => hlt⟩, by go_grown⟩
  · have hlt' : l < (x.n : Int) := by omega
    go_enter Try.func104, Try.ntmps104
    go_wp2
    go_ret
    exact ⟨⟨_, rfl, by omega, fun q => by omega⟩, by go_grown⟩

set_option maxHeartbeats 400000 in
theorem szNodes_c (a : Option Addr) (n cap : Nat) (ns : List NodeI) (l : Int) (w : World) (hn : n ≤ maxLen) (hle : NdsLe maxLen ns) (h0 : 0 ≤ l) (h1 : l ≤ 1048576) (h : NdsIn w a n ns) :
    Calls Try.prog 77 #[.slice a n cap, .int .i64 l] w fun e w' => (∃ r : Int, e = .returned (.int .i64 r) ∧ r ≤ l ∧ (0 ≤ r → (n : Int) ≤ l ∧ NdsLe l.toNat ns)) ∧ Below w.heap.size w w' := by
  have H : Hid (NdsIn w a n ns) := h
  have HZ : Hid (ns.length = n) := h.1
  have HLE : Hid (NdsLe maxLen ns) := hle
  have hn' : (n : Int) ≤ 9223372036854775807 := by unfold maxLen at hn; omega
  clear h hle hn
  by_cases hlt : (n : Int) ≤ l
  · go_enter Try.func77, Try.ntmps77
    go_wp2
    go_loopw [1, 5] (fun q i wr => ∃ (k : Nat) (r : Int), k ≤ n ∧ i = .int .i64 (k : Int) ∧ q = .int .i64 r ∧ 0 ≤ r ∧ r ≤ l ∧ (∀ j x, j < k → ns[j]? = some x → x.n ≤ l.toNat) ∧ Below w.heap.size w wr)
      (fun _ i _ => n - (intOf i).toNat)
    case atStart => exact ⟨0, _, Nat.zero_le _, rfl, rfl, by omega, by omega, fun j x hj => by omega, Below.refl _ _⟩
    case round =>
      obtain ⟨k, r, hk, rfl, rfl, hr0, hr1, hok, hnx⟩ := hrel
      have HOK : Hid (∀ j x, j < k → ns[j]? = some x → x.n ≤ l.toNat) := hok
      clear hok
      by_cases hkn : k < n
      · obtain ⟨b, off, x, rfl, hs, hr⟩ := H.out.at hkn
        have HS : Hid (ns[k]? = some x) := hs
        have hx : x.n ≤ maxLen := HLE.out k x hs
        have hb : b < w.heap.size := hr.lt
        obtain ⟨c0, c1, c2, c3⟩ := (hr.below hnx).1
        clear hs hr
        have hkn' : (k : Int) < (n : Int) := by omega
        go_wp2_with fail
        refine (szNode_c x r _ hx hr0 (by omega)).mono ?_
        rintro e w1 ⟨⟨r', rfl, hr'1, hr'2⟩, hb1⟩
        have hb01 : Below w.heap.size w w1 := hnx.trans (hb1.mono hnx.size)
        by_cases hneg : r' < 0
        · clear c0 c1 c2 c3
          go_wp2
          go_ret
          exact ⟨⟨_, rfl, by omega, fun q => by omega⟩, hb01⟩
        · have HN : Hid (∀ j y, j < k + 1 → ns[j]? = some y → y.n ≤ l.toNat) := fun j y hj hy => by
            by_cases e : j = k
            · subst e
              rw [HS.out] at hy
              cases hy
              have := hr'2 (by omega)
              omega
            · exact HOK.out j y (by omega) hy
          have hge : 0 ≤ r' := by omega
          clear c0 c1 c2 c3 hr'2
          go_wp2
          exact ⟨⟨k + 1, r', by omega, by go_num, rfl, hge, by omega, HN.out, hb01⟩, by simp [intOf]; omega⟩
      · have hkn' : k = n := by omega
        subst hkn'
        have HQ : Hid (NdsLe l.toNat ns) := fun j x hj => by
          have : j < k := by
            by_cases q : j < k
            · exact q
            · rw [List.getElem?_eq_none (by rw [HZ.out]; omega)] at hj; cases hj
          exact HOK.out j x this hj
        go_wp2
        go_ret
        exact ⟨⟨r, rfl, hr1, fun _ => ⟨hlt, HQ.out⟩⟩, hnx⟩
  · have hlt' : l < (n : Int) := by omega
    go_enter Try.func77, Try.ntmps77
    go_wp2
    go_ret
    exact ⟨⟨_, rfl, by omega, fun q => by omega⟩, by go_grown⟩

end Go.Proofs.Ytbebhiglnfmjcaa
