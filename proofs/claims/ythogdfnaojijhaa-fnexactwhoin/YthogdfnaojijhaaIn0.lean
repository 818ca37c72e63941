/-
  CONTRACTS: slices of numbers in memory: copied, compared, marked.
  Conditions: each contract bears its own.
-/
import Derived.Test.YthogdfnaojijhaaSlices1
import Derived.Test.YthogdfnaojijhaaRol1
namespace Go.Proofs.Ythogdfnaojijhaa
open Go.RowKit
set_option linter.unusedVariables false
set_option linter.unusedSimpArgs false

/-- Numbers in memory. -/
def IntIn (w : World) (a : Option Addr) (n : Nat) (zs : List Int) : Prop := zs.length = n ∧ (0 < n → ∃ b off, a = some ⟨b, off, none⟩ ∧ ∀ k x, zs[k]? = some x → w.cell? ⟨b, off + k, none⟩ = some (.int .i64 x))

theorem IntIn.below {w w' : World} {a : Option Addr} {n : Nat} {zs : List Int} (h : IntIn w a n zs) (hb : Below w.heap.size w w') : IntIn w' a n zs := by
  refine ⟨h.1, fun hn => ?_⟩
  obtain ⟨b, off, e, k⟩ := h.2 hn
  exact ⟨b, off, e, fun j x hx => (hb.cell (p := ⟨b, off + j, none⟩) (World.block_lt_of_cell? w ⟨b, off + j, none⟩ (k j x hx))).trans (k j x hx)⟩

theorem IntIn.at {w : World} {a : Option Addr} {n : Nat} {zs : List Int} (h : IntIn w a n zs) {k : Nat} (hk : k < n) : ∃ b off x, a = some ⟨b, off, none⟩ ∧ zs[k]? = some x ∧ w.cell? ⟨b, off + k, none⟩ = some (.int .i64 x) ∧ b < w.heap.size := by
  obtain ⟨b, off, e, q⟩ := h.2 (by omega)
  have hx := List.getElem?_eq_getElem (l := zs) (i := k) (by rw [h.1]; exact hk)
  exact ⟨b, off, _, e, hx, q k _ hx, World.block_lt_of_cell? w ⟨b, off + k, none⟩ (q k _ hx)⟩

theorem IntIn.row {w : World} {a : Option Addr} {n : Nat} {zs : List Int} (h : IntIn w a n zs) : RowIn w a n zs := by
  refine ⟨by rw [h.1]; exact Nat.le_refl _, fun k hk => ?_⟩
  obtain ⟨b, off, x, e, hx, hc, _⟩ := h.at hk
  exact ⟨b, off, e, by rw [hx]; exact hc⟩

theorem RowIn.ints {w : World} {a : Option Addr} {n : Nat} {zs : List Int} (h : RowIn w a n zs) : IntIn w a n (zs.take n) := by
  have hl := h.1
  refine ⟨by simp; omega, fun hp => ?_⟩
  obtain ⟨b, off, e, _⟩ := h.2 0 hp
  refine ⟨b, off, e, fun k x hx => ?_⟩
  have hk : k < n := by
    by_cases q : k < n
    · exact q
    · rw [List.getElem?_eq_none (by simp; omega)] at hx; cases hx
  obtain ⟨b', off', e', hc⟩ := h.2 k hk
  rw [e] at e'
  cases e'
  rw [List.getElem?_take, if_pos hk] at hx
  rw [hx] at hc
  exact hc

/-- Numbers in a block, from its beginning. -/
def IntsAt (w : World) (g : Nat) (zs : List Int) : Prop := ∀ k x, zs[k]? = some x → w.cell? ⟨g, k, none⟩ = some (.int .i64 x)

theorem IntsAt.below {w w' : World} {g : Nat} {zs : List Int} (h : IntsAt w g zs) (hb : Below w.heap.size w w') : IntsAt w' g zs := fun k x e =>
  (hb.cell (p := ⟨g, k, none⟩) (World.block_lt_of_cell? w ⟨g, k, none⟩ (h k x e))).trans (h k x e)

theorem IntIn.of {w : World} {g n : Nat} {zs : List Int} (hl : zs.length = n) (h : IntsAt w g zs) : IntIn w (some ⟨g, 0, none⟩) n zs :=
  ⟨hl, fun _ => ⟨g, 0, rfl, fun k x e => by rw [Nat.zero_add]; exact h k x e⟩⟩

/-- A block of n numbers that may be written. -/
def IntRoom (w : World) (g n : Nat) : Prop := (∀ j, j < n → ∃ v, w.cell? ⟨g, j, none⟩ = some v) ∧ ∀ j, w.frozen? ⟨g, j, none⟩ = false

theorem IntRoom.below {w w' : World} {g n : Nat} (h : IntRoom w g n) (hg : g < w.heap.size) (hb : Below w.heap.size w w') : IntRoom w' g n :=
  ⟨fun j hj => by obtain ⟨v, e⟩ := h.1 j hj; exact ⟨v, (hb.cell (p := ⟨g, j, none⟩) hg).trans e⟩, fun j => (hb.frozen (p := ⟨g, j, none⟩) hg).trans (h.2 j)⟩

theorem IntRoom.grown {w w' : World} {g n : Nat} {row : Option Nat} (h : IntRoom w g n) (hg : g < w.heap.size) (hr : w.grownBy w' row) (hne : some g ≠ row) : IntRoom w' g n :=
  ⟨fun j hj => by obtain ⟨v, e⟩ := h.1 j hj; exact ⟨v, hr.cell e hne⟩, fun j => by
    have := h.2 j
    unfold World.frozen? at this ⊢
    simp only at this ⊢
    rw [hr.block g hg hne]
    exact this⟩

theorem IntRoom.set {w : World} {g n : Nat} (h : IntRoom w g n) (o : Nat) (v : Value) : IntRoom (w.setCell ⟨g, o, none⟩ v) g n := by
  refine ⟨fun j hj => ?_, fun j => by simp only [World.frozen?_setCell]; exact h.2 j⟩
  obtain ⟨u, e⟩ := h.1 j hj
  by_cases q : j = o
  · subst q
    exact ⟨v, by simp [go_sem, e]⟩
  · exact ⟨u, by rw [World.cell?_setCell_other (h := fun e => q (by have := congrArg Addr.off e; simp at this; omega))]; exact e⟩

theorem intIn_kept {w w' : World} {a : Option Addr} {n L : Nat} {zs : List Int} {row : Option Nat} (h : IntIn w a n zs) (hg : w.grownBy w' row) (hL : ∀ b off, a = some ⟨b, off, none⟩ → n = 0 ∨ b < L) (hne : ∀ q, row = some q → L ≤ q) : IntIn w' a n zs := by
  refine ⟨h.1, fun hp => ?_⟩
  obtain ⟨b, off, e, hr⟩ := h.2 hp
  have hb : b < L := by
    rcases hL b off e with h0 | h0
    · omega
    · exact h0
  exact ⟨b, off, e, fun k r hk => hg.cell (hr k r hk) (fun q => by have := hne b q.symm; omega)⟩

theorem int_lt {w : World} {a : Option Addr} {n : Nat} {zs : List Int} (h : IntIn w a n zs) : ∀ b off, a = some ⟨b, off, none⟩ → n = 0 ∨ b < w.heap.size := by
  intro b off e
  by_cases h0 : n = 0
  · exact .inl h0
  · obtain ⟨b', off', r, e', _, _, hb⟩ := h.at (show 0 < n by omega)
    rw [e] at e'
    cases e'
    exact .inr hb

theorem toInts_room (a : Option Addr) (n cap : Nat) (zs : List Int) (w : World) (hn : n ≤ 1048576) (h : IntIn w a n zs) :
    Calls Try.prog 58 #[.slice a n cap] w fun e w' => e = .returned (.slice (some ⟨w.heap.size, 0, none⟩) n n) ∧ IntsAt w' w.heap.size zs ∧ w.heap.size < w'.heap.size ∧ Below w.heap.size w w' ∧ IntRoom w' w.heap.size n := by
  refine (toS_c a n cap zs w hn h.row).mono ?_
  rintro e w' ⟨rfl, hown, hb⟩
  have hz : zs.length = n := h.1
  have hl := hown.1
  refine ⟨rfl, fun k x hx => ?_, owned_lt hown, hb, fun j hj => ⟨_, (hown.cellAt j (by omega)).trans (List.getElem?_eq_getElem (by omega))⟩, fun j => hown.frozenAt j⟩
  have hk : k < n := by
    by_cases q : k < n
    · exact q
    · rw [List.getElem?_eq_none (by omega)] at hx; cases hx
  have := owned_cells hown (by omega) k hk
  rw [hx] at this
  exact this

theorem toInts_c (a : Option Addr) (n cap : Nat) (zs : List Int) (w : World) (hn : n ≤ 1048576) (h : IntIn w a n zs) :
    Calls Try.prog 58 #[.slice a n cap] w fun e w' => e = .returned (.slice (some ⟨w.heap.size, 0, none⟩) n n) ∧ IntsAt w' w.heap.size zs ∧ w.heap.size < w'.heap.size ∧ Below w.heap.size w w' :=
  (toInts_room a n cap zs w hn h).mono fun e w' hh => ⟨hh.1, hh.2.1, hh.2.2.1, hh.2.2.2.1⟩

theorem eqIntsS_same (a b : Option Addr) (n c d : Nat) (zs : List Int) (w : World) (hn : n ≤ 1048576) (ha : IntIn w a n zs) (hb : IntIn w b n zs) :
    Calls Try.prog 47 #[.slice a n c, .slice b n d] w fun e w' => e = .returned (.bool true) ∧ Below w.heap.size w w' :=
  eqS_same a b n c d zs w hn ha.row.2 hb.row.2

set_option maxHeartbeats 2000000 in
theorem markIntRow_c (g n cap : Nat) (k0 : Int) (w : World) (hn : n ≤ 1048576) (h0 : 0 ≤ k0) (h1 : k0 ≤ 100000000) (h : IntRoom w g n) :
    Calls Try.prog 50 #[.slice (some ⟨g, 0, none⟩) n cap, .int .i64 k0] w fun e w' => e = .returned (.int .i64 (k0 + (n : Int))) ∧ w.grownBy w' (some g) := by
  have HO : Hid (IntRoom w g n) := h
  clear h
  have hn' : (n : Int) ≤ 1048576 := by omega
  go_enter Try.func50, Try.ntmps50
  go_wp2
  go_loopw [1, 5] (fun q i wr => ∃ (j : Nat), j ≤ n ∧ i = .int .i64 (j : Int) ∧ q = .int .i64 (k0 + (j : Int)) ∧ IntRoom wr g n ∧ w.grownBy wr (some g))
    (fun _ i _ => n - (intOf i).toNat)
  case atStart => exact ⟨0, Nat.zero_le _, rfl, by simp, HO.out, grown_refl _ _⟩
  case round =>
    obtain ⟨j, hj, rfl, rfl, hroom, hgr⟩ := hrel
    have HG : Hid (IntRoom wr g n ∧ w.grownBy wr (some g)) := ⟨hroom, hgr⟩
    by_cases hlt : j < n
    · have hlt' : (j : Int) < (n : Int) := by omega
      obtain ⟨v0, c0⟩ := hroom.1 j hlt
      have f0 := hroom.2 j
      clear hroom hgr
      go_wp2
      refine ⟨⟨j + 1, by omega, by go_num, ?_, ?_, ?_⟩, by simp [intOf]; omega⟩
      · congr 1; omega
      · exact HG.out.1.set _ _
      · exact grown_tr HG.out.2 (grown_set _ _ _ _)
    · have hjn : j = n := by omega
      subst hjn
      go_wp2
      go_ret
      exact ⟨rfl, hgr⟩

end Go.Proofs.Ythogdfnaojijhaa
